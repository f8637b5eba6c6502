/- What Find and Child return, the program's and the document's own; no statement of the seat is proved here. -/
import Derived.Test.YtbpcekhfjkodcaaBa
import Derived.Test.YtbpcekhfjkodcaaKk
namespace Go.Proofs.Ytbpcekhfjkodcaa
open Go.RowKit

def notBelow (key : Int) (a : C) : Bool := decide (key ≤ a.k)
/-- The first place whose key is not below key. -/
def fN (key : Int) (cs : List C) : Nat := firstN (notBelow key) cs
def fB (key : Int) (cs : List C) : Bool := if fN key cs < cs.length then (cs.getD (fN key cs) default).k == key else false
def chN (r : Int) (key : Int) (cs : List C) : Int := if fN key cs < cs.length then (cs.getD (fN key cs) default).c else r

set_option maxHeartbeats 400000 in
theorem find1_any (q : Nat) (key : Int) (a : C) (W : World) (hq : W.cell? ⟨q, 0, none⟩ = some (.int .i64 key)) :
    Calls Try.prog 48 #[.agg #[.int .i64 (a).k, .int .i64 (a).c, .int .i64 (a).l, .slice (a).o (a).n (a).m, .int .i64 (a).x], .pointer (some ⟨q, 0, none⟩)] W fun e w' => e = .returned (.bool (notBelow key a)) ∧ Below W.heap.size W w' := by
  have hlt := lt_cell hq
  simp only at hlt
  unfold notBelow
  by_cases h : key ≤ a.k
  · rw [show decide (key ≤ a.k) = true by simpa using h]
    go_enter Try.func48, Try.ntmps48
    go_wp2
    go_ret
    exact ⟨rfl, ext1 _⟩
  · rw [show decide (key ≤ a.k) = false by simpa using h]
    have h2 : a.k < key := by omega
    clear h
    go_enter Try.func48, Try.ntmps48
    go_wp2
    go_ret
    exact ⟨by simp <;> omega, ext1 _⟩

/-- What the last lines of Find ask of the memory. -/
abbrev SF (q q2 b o n m op : Nat) (key k : Int) (W : World) : Prop :=
  W.cell? ⟨q, 2, none⟩ = some (.slice (some ⟨b, o, none⟩) n m) ∧ W.cell? ⟨q2, 0, none⟩ = some (.int .i64 key) ∧ W.cell? ⟨b, op, none⟩ = some (.int .i64 k)

set_option maxHeartbeats 2000000 in
theorem find_any (leaf : Bool) (r : Int) (co : Option Addr) (cn cc : Nat) (cs : List C) (key : Int) (w : World) (h : Cs w co cn cc cs) (hcn : cn ≤ 100000) :
    Calls Try.prog 20 #[.agg #[.bool leaf, .int .i64 r, .slice co cn cc], .int .i64 key] w fun e w' => e = .returned (.tuple #[.int .i64 (fN key cs : Nat), .bool (fB key cs)]) ∧ Below w.heap.size w w' := by
  obtain ⟨w2, hw2⟩ : ∃ w2, w2 = (w.alloc (.cells #[.bool leaf, .int .i64 r, .slice co cn cc] 24)).alloc (.cells #[.int .i64 key] 3) := ⟨_, rfl⟩
  have B2 : Below w.heap.size w w2 := by rw [hw2]; exact gt (ext1 _) (ext1 _)
  have N2 : NB 24 w2 w.heap.size leaf r co cn cc := by rw [hw2]; exact (NB.new 24 w leaf r co cn cc).keep (ext1 _)
  have K2 : w2.cell? ⟨w.heap.size + 1, 0, none⟩ = some (.int .i64 key) := by
    rw [hw2]
    simp
  have ci := hid (index_48 (notBelow key) (w.heap.size + 1) co cn cc cs w2 (h.keep B2) hcn (fun W a hb _ => find1_any _ key a W (keep_old hb K2)))
  have hle := firstN_le (notBelow key) cs
  have hl := h.len
  have h' := hid h
  have B2' := hid B2; have N2' := hid N2; have K2' := hid K2; have hw2' := hid hw2.symm
  obtain ⟨u0, u1, u2⟩ := N2.cells
  obtain ⟨F, hF⟩ : ∃ F, F = fN key cs := ⟨_, rfl⟩
  obtain ⟨V, hV⟩ : ∃ V, V = fB key cs := ⟨_, rfl⟩
  rw [← hF, ← hV]
  unfold fB at hV
  rw [← hF] at hV
  unfold ixN at ci
  have hF2 : firstN (notBelow key) cs = F := hF.symm
  rw [hF2] at ci hle
  clear h B2 N2 hw2 hF hF2 K2
  by_cases hlt : F < cs.length
  · rw [if_pos hlt] at ci hV
    have hFn : F < cn := by omega
    obtain ⟨b, off, rfl, hc⟩ := h'.out.at_ (by omega)
    have x0 := (hc F hFn).1
    generalize cs.getD F default = a at *
    have X0 := hid x0
    replace hV := hid hV
    clear hc x0 hle hl hlt
    go_enter Try.func20, Try.ntmps20
    go_upto_region 4 with (go_at_call 47; rw [hw2'.out]; refine ci.out.mono ?_; rintro e w3 ⟨rfl, hb⟩; have B3 := hid hb; clear hb u0 u1 u2)
    have g1 : SF w.heap.size (w.heap.size + 1) b off cn cc (off + F * 5) key a.k w3.drew := ⟨(N2'.out.keep B3.out).cells.2.2, keep_old B3.out K2'.out, keep_old (gt B2'.out B3.out) X0.out⟩
    refine wp_region_K (S := SF w.heap.size (w.heap.size + 1) b off cn cc (off + F * 5) key a.k) (fun _ => false) (by kernel_rfl) (g1) (fun hHeld => ?_)
    refine gkp 0 ?_
    refine gkp 1 ?_
    refine gkt 2 ?_ (h := by intro W hSw; obtain ⟨y0, y1, y2⟩ := hSw; go_simp; first | done | with_reducible rfl)
    refine gkp 3 ?_
    refine gkp 4 ?_
    refine gkp 5 ?_
    refine gkt 6 ?_ (h := by intro W hSw; obtain ⟨y0, y1, y2⟩ := hSw; go_simp; first | done | with_reducible rfl)
    refine gkt 7 ?_ (h := by intro W hSw; obtain ⟨y0, y1, y2⟩ := hSw; go_simp; first | done | with_reducible rfl)
    refine gkp 8 ?_
    refine gkp 9 ?_
    refine gkp 10 ?_
    refine wpAnyK_done (by kernel_rfl) ?_ _
    go_wp2
    go_ret2
    exact ⟨by rw [hV.out]; rfl, (gt B2'.out B3.out).drew⟩
  · rw [if_neg hlt] at ci hV
    obtain rfl : F = cn := by omega
    subst hV
    clear hle hl hlt
    go_enter Try.func20, Try.ntmps20
    go_wp2_with (go_at_call 47; rw [hw2'.out]; refine ci.out.mono ?_; rintro e w3 ⟨rfl, hb⟩; have B3 := hid hb; clear u0 u1 u2; obtain ⟨u0, u1, u2⟩ := (N2'.out.keep hb).cells; clear hb)
    go_ret2
    exact ⟨rfl, gt B2'.out B3.out⟩

/-- What the last lines of Child ask of the memory. -/
abbrev SC (q b o n m op : Nat) (k : Int) (W : World) : Prop :=
  W.cell? ⟨q, 2, none⟩ = some (.slice (some ⟨b, o, none⟩) n m) ∧ W.cell? ⟨b, op, none⟩ = some (.int .i64 k)
abbrev SR (q : Nat) (r : Int) (W : World) : Prop := W.cell? ⟨q, 1, none⟩ = some (.int .i64 r)

set_option maxHeartbeats 2000000 in
theorem child_any (leaf : Bool) (r : Int) (co : Option Addr) (cn cc : Nat) (cs : List C) (key : Int) (w : World) (h : Cs w co cn cc cs) (hcn : cn ≤ 100000) :
    Calls Try.prog 22 #[.agg #[.bool leaf, .int .i64 r, .slice co cn cc], .int .i64 key] w fun e w' => e = .returned (.tuple #[.int .i64 (fN key cs : Nat), .int .i64 (chN r key cs)]) ∧ Below w.heap.size w w' := by
  have B0 : Hid (Below w.heap.size w (w.alloc (.cells #[.bool leaf, .int .i64 r, .slice co cn cc] 24))) := hid (ext1 _)
  have N0 := hid (NB.new 24 w leaf r co cn cc)
  have cf := hid (find_any leaf r co cn cc cs key _ (h.keep B0.out) hcn)
  have hle := firstN_le (notBelow key) cs
  have hl := h.len
  have h' := hid h
  obtain ⟨F, hF⟩ : ∃ F, F = fN key cs := ⟨_, rfl⟩
  obtain ⟨V, hV⟩ : ∃ V, V = chN r key cs := ⟨_, rfl⟩
  rw [← hF, ← hV]
  unfold chN at hV
  rw [← hF] at hV cf
  rw [show firstN (notBelow key) cs = F from hF.symm] at hle
  generalize fB key cs = FB at *
  clear h hF
  by_cases hlt : F < cs.length
  · rw [if_pos hlt] at hV
    have hFn : F < cn := by omega
    have hne : ((F : Int) == (cn : Int)) = false := by simp; omega
    obtain ⟨b, off, rfl, hc⟩ := h'.out.at_ (by omega)
    have x1 := (hc F hFn).2.1
    generalize cs.getD F default = a at *
    have X1 := hid x1
    subst hV
    clear hc x1 hle hl hlt
    go_enter Try.func22, Try.ntmps22
    go_upto_region 4 with (go_at_call 20; refine cf.out.mono ?_; rintro e w3 ⟨rfl, hb⟩; have B3 := hid hb; obtain ⟨u0, u1, u2⟩ := (N0.out.keep hb).cells; clear hb)
    have g1 : SC w.heap.size b off cn cc (off + F * 5 + 1) a.c w3.drew := ⟨(N0.out.keep B3.out).cells.2.2, keep_old (gt B0.out B3.out) X1.out⟩
    refine wp_region_K (S := SC w.heap.size b off cn cc (off + F * 5 + 1) a.c) (fun _ => false) (by kernel_rfl) (g1) (fun hHeld => ?_)
    refine gkp 0 ?_
    refine gkp 1 ?_
    refine gkt 2 ?_ (h := by intro W hSw; obtain ⟨y0, y1⟩ := hSw; go_simp; first | done | with_reducible rfl)
    refine gkp 3 ?_
    refine gkp 4 ?_
    refine gkp 5 ?_
    refine gkt 6 ?_ (h := by intro W hSw; obtain ⟨y0, y1⟩ := hSw; go_simp; first | done | with_reducible rfl)
    refine gkp 7 ?_
    refine gkp 8 ?_
    refine wpAnyK_done (by kernel_rfl) ?_ _
    go_wp2
    go_ret2
    exact ⟨rfl, (gt B0.out B3.out).drew⟩
  · rw [if_neg hlt] at hV
    obtain rfl : F = cn := by omega
    subst hV
    clear hle hl hlt
    go_enter Try.func22, Try.ntmps22
    go_upto_region 3 with (go_at_call 20; refine cf.out.mono ?_; rintro e w3 ⟨rfl, hb⟩; have B3 := hid hb; obtain ⟨u0, u1, u2⟩ := (N0.out.keep hb).cells; clear hb)
    have g1 : SR w.heap.size V w3.drew := (N0.out.keep B3.out).cells.2.1
    refine wp_region_K (S := SR w.heap.size V) (fun _ => false) (by kernel_rfl) (g1) (fun hHeld => ?_)
    refine gkp 0 ?_
    refine gkp 1 ?_
    refine gkt 2 ?_ (h := by intro W hSw; have y0 := hSw; go_simp; first | done | with_reducible rfl)
    refine gkp 3 ?_
    refine gkp 4 ?_
    refine wpAnyK_done (by kernel_rfl) ?_ _
    go_wp2
    go_ret2
    exact ⟨rfl, (gt B0.out B3.out).drew⟩

/-- What the last lines of the document's own Find ask of the memory. -/
abbrev SK (q : Nat) (k : Int) (W : World) : Prop := W.cell? ⟨q, 0, none⟩ = some (.int .i64 k)

set_option maxHeartbeats 2000000 in
theorem rfind_any (leaf : Bool) (r : Int) (co : Option Addr) (cn cc : Nat) (cs : List C) (key : Int) (w : World) (h : Cs w co cn cc cs) (hcn : cn ≤ 100000) :
    Calls Try.prog 21 #[.agg #[.bool leaf, .int .i64 r, .slice co cn cc], .int .i64 key] w fun e w' => e = .returned (.tuple #[.int .i64 (fN key cs : Nat), .bool (fB key cs)]) ∧ Below w.heap.size w w' := by
  have h' := hid h
  have hl' := hid h.len
  obtain ⟨F, hF⟩ : ∃ F, F = fN key cs := ⟨_, rfl⟩
  obtain ⟨V, hV⟩ : ∃ V, V = fB key cs := ⟨_, rfl⟩
  rw [← hF, ← hV]
  unfold fB at hV
  rw [← hF] at hV
  have hV' := hid hV
  have hF' := hid hF
  have hle := hid (firstN_le (notBelow key) cs)
  have q0 := hid (NB.new 33 w leaf r co cn cc)
  have b0 : Hid (Below w.heap.size w (w.alloc (.cells #[.bool leaf, .int .i64 r, .slice co cn cc] 33))) := hid (ext1 _)
  clear h hF hV
  go_enter Try.func21, Try.ntmps21
  go_wp2
  generalize w.alloc (.cells #[.bool leaf, .int .i64 r, .slice co cn cc] 33) = w0 at *
  go_loopw [11] (fun c W => ∃ (i : Nat), i ≤ cn ∧ c = .int .i64 (i : Int) ∧ i + firstN (notBelow key) (cs.drop i) = F ∧ NB 33 W w.heap.size leaf r co cn cc ∧ Below w.heap.size w W) (fun c _ => cn - (intOf c).toNat)
  case atStart => exact ⟨0, by omega, rfl, by rw [hF'.out]; simp [fN], q0.out, b0.out⟩
  case round =>
    obtain ⟨i, hi, rfl, he, hq, hb⟩ := hrel
    have he' := hid he
    have hq' := hid hq
    have hb' := hid hb
    obtain ⟨u0, u1, u2⟩ := hq.cells
    have hlt := hq.lt
    clear he hq hb
    by_cases hik : i < cn
    · obtain ⟨b, off, rfl, hc⟩ := h'.out.at_ (by omega)
      obtain ⟨x0, x1, x2, x3, x4⟩ := (hc i hik).keep hb'.out
      have hd := dropC cs i (by have := hl'.out; omega)
      obtain ⟨a, haE⟩ : ∃ a, a = cs.getD i default := ⟨_, rfl⟩
      rw [← haE] at x0 x1 x2 x3 x4 hd
      rw [hd] at he'
      have hE := he'.out
      simp only [firstN] at hE
      clear hd he' hc
      by_cases hk : key ≤ a.k
      · have hEi : i = F := by rw [← hE]; simp [notBelow, hk]
        have hV2 : V = (a.k == key) := by have h1 := hV'.out; have h2 := hl'.out; rw [if_pos (by omega), ← hEi, ← haE] at h1; exact h1
        replace hV2 := hid hV2
        subst hEi
        have g1 : SK wr.heap.size a.k (wr.alloc (.cells #[.int .i64 a.k, .int .i64 a.c, .int .i64 a.l, .slice a.o a.n a.m, .int .i64 a.x] 69)).drew := (S5.new 69 wr a).1
        clear hE haE hF'
        go_upto_region 5 with fail
        refine wp_region_K (S := SK wr.heap.size a.k) (fun _ => false) (by kernel_rfl) (g1) (fun hHeld => ?_)
        refine gkp 0 ?_
        refine gkp 1 ?_
        refine gkt 2 ?_ (h := by intro W hSw; have y0 := hSw; go_simp; first | done | with_reducible rfl)
        refine gkp 3 ?_
        refine gkp 4 ?_
        refine gkp 5 ?_
        refine gkp 6 ?_
        refine wpAnyK_done (by kernel_rfl) ?_ _
        go_wp2
        go_ret2
        exact ⟨by rw [hV2.out]; rfl, (gt hb'.out (ext1 _)).drew⟩
      · have hE2 : i + 1 + firstN (notBelow key) (cs.drop (i + 1)) = F := by rw [← hE]; simp [notBelow, hk]; omega
        have hE' := hid hE2
        have hk2 : a.k < key := by omega
        clear hE hE2 hk haE
        go_wp2
        refine ⟨⟨i + 1, by omega, by go_num, hE'.out, hq'.out.keep (ext1 _), gt hb'.out (ext1 _)⟩, by simp [intOf]; omega⟩
    · obtain rfl : i = cn := by omega
      have hE := he'.out
      rw [List.drop_of_length_le (by have := hl'.out; omega)] at hE
      simp only [firstN, Nat.add_zero] at hE
      have hV2 : V = false := by have h1 := hV'.out; have h2 := hl'.out; rw [if_neg (by omega)] at h1; exact h1
      subst hE hV2
      clear he' hF' hV'
      go_wp2
      go_ret2
      exact ⟨rfl, hb'.out⟩

set_option maxHeartbeats 2000000 in
theorem rchild_any (leaf : Bool) (r : Int) (co : Option Addr) (cn cc : Nat) (cs : List C) (key : Int) (w : World) (h : Cs w co cn cc cs) (hcn : cn ≤ 100000) :
    Calls Try.prog 23 #[.agg #[.bool leaf, .int .i64 r, .slice co cn cc], .int .i64 key] w fun e w' => e = .returned (.tuple #[.int .i64 (fN key cs : Nat), .int .i64 (chN r key cs)]) ∧ Below w.heap.size w w' := by
  have B0 : Hid (Below w.heap.size w (w.alloc (.cells #[.bool leaf, .int .i64 r, .slice co cn cc] 33))) := hid (ext1 _)
  have N0 := hid (NB.new 33 w leaf r co cn cc)
  have cf := hid (rfind_any leaf r co cn cc cs key _ (h.keep B0.out) hcn)
  have hle := firstN_le (notBelow key) cs
  have hl := h.len
  have h' := hid h
  obtain ⟨F, hF⟩ : ∃ F, F = fN key cs := ⟨_, rfl⟩
  obtain ⟨V, hV⟩ : ∃ V, V = chN r key cs := ⟨_, rfl⟩
  rw [← hF, ← hV]
  unfold chN at hV
  rw [← hF] at hV cf
  rw [show firstN (notBelow key) cs = F from hF.symm] at hle
  generalize fB key cs = FB at *
  clear h hF
  by_cases hlt : F < cs.length
  · rw [if_pos hlt] at hV
    have hFn : F < cn := by omega
    have hne : ((F : Int) == (cn : Int)) = false := by simp; omega
    obtain ⟨b, off, rfl, hc⟩ := h'.out.at_ (by omega)
    have x1 := (hc F hFn).2.1
    generalize cs.getD F default = a at *
    have X1 := hid x1
    subst hV
    clear hc x1 hle hl hlt
    go_enter Try.func23, Try.ntmps23
    go_upto_region 3 with (go_at_call 21; refine cf.out.mono ?_; rintro e w3 ⟨rfl, hb⟩; have B3 := hid hb; obtain ⟨u0, u1, u2⟩ := (N0.out.keep hb).cells; clear hb)
    have g1 : SC w.heap.size b off cn cc (off + F * 5 + 1) a.c w3.drew := ⟨(N0.out.keep B3.out).cells.2.2, keep_old (gt B0.out B3.out) X1.out⟩
    refine wp_region_K (S := SC w.heap.size b off cn cc (off + F * 5 + 1) a.c) (fun _ => false) (by kernel_rfl) (g1) (fun hHeld => ?_)
    refine gkp 0 ?_
    refine gkp 1 ?_
    refine gkt 2 ?_ (h := by intro W hSw; obtain ⟨y0, y1⟩ := hSw; go_simp; first | done | with_reducible rfl)
    refine gkp 3 ?_
    refine gkp 4 ?_
    refine gkp 5 ?_
    refine gkt 6 ?_ (h := by intro W hSw; obtain ⟨y0, y1⟩ := hSw; go_simp; first | done | with_reducible rfl)
    refine gkp 7 ?_
    refine gkp 8 ?_
    refine wpAnyK_done (by kernel_rfl) ?_ _
    go_wp2
    go_ret2
    exact ⟨rfl, (gt B0.out B3.out).drew⟩
  · rw [if_neg hlt] at hV
    obtain rfl : F = cn := by omega
    subst hV
    clear hle hl hlt
    go_enter Try.func23, Try.ntmps23
    go_upto_region 4 with (go_at_call 21; refine cf.out.mono ?_; rintro e w3 ⟨rfl, hb⟩; have B3 := hid hb; obtain ⟨u0, u1, u2⟩ := (N0.out.keep hb).cells; clear hb)
    have g1 : SR w.heap.size V w3.drew := (N0.out.keep B3.out).cells.2.1
    refine wp_region_K (S := SR w.heap.size V) (fun _ => false) (by kernel_rfl) (g1) (fun hHeld => ?_)
    refine gkp 0 ?_
    refine gkp 1 ?_
    refine gkt 2 ?_ (h := by intro W hSw; have y0 := hSw; go_simp; first | done | with_reducible rfl)
    refine gkp 3 ?_
    refine gkp 4 ?_
    refine wpAnyK_done (by kernel_rfl) ?_ _
    go_wp2
    go_ret2
    exact ⟨rfl, (gt B0.out B3.out).drew⟩

end Go.Proofs.Ytbpcekhfjkodcaa
