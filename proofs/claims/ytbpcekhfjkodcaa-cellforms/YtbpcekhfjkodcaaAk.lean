/- What written and Bytes return; no statement of the seat is proved here. -/
import Derived.Test.YtbpcekhfjkodcaaAj
namespace Go.Proofs.Ytbpcekhfjkodcaa
open Go.RowKit

def hd7 (leaf : Bool) (n : Nat) (r : Int) : List Nat := putN (uN (if leaf then 1 else 2)) 1 false ++ putN (uN (n : Int)) 2 false ++ putN (uN r) 4 false
theorem hd7_length (leaf : Bool) (n : Nat) (r : Int) : (hd7 leaf n r).length = 7 := by simp [hd7, putN_length]
/-- The page of a node. -/
def pageN (leaf : Bool) (r : Int) (cs : List C) : List Nat := padN (hd7 leaf cs.length r ++ allN leaf cs)
def hasN (leaf : Bool) (r : Int) (cs : List C) : Bool := goodN leaf r cs && decide (sizeN leaf cs ≤ 512)
theorem raw_length (leaf : Bool) (r : Int) (cs : List C) : (hd7 leaf cs.length r ++ allN leaf cs).length = sizeN leaf cs := by
  rw [List.length_append, hd7_length, sumN_all]; rfl
theorem pageN_length (leaf : Bool) (r : Int) (cs : List C) (h : sizeN leaf cs ≤ 512) : (pageN leaf r cs).length = 512 := padN_length _ (by rw [raw_length]; exact h)

theorem Cs.apart {w : World} {co : Option Addr} {cn cc : Nat} {cs : List C} (h : Cs w co cn cc cs) {i : Nat} (hi : i < cn) {q : Nat} (hq : w.heap.size ≤ q) : 0 < (cs.getD i default).n → ∀ g o, (cs.getD i default).o = some ⟨g, o, none⟩ → g ≠ q := by
  intro hn g o e
  obtain ⟨b, off, e2, hc⟩ := (h.ok_at hi).rd.2.2.2 hn
  rw [e] at e2
  simp only [Option.some.injEq, Addr.mk.injEq, and_true] at e2
  have := lt_cell (hc 0 hn)
  simp only at this
  omega

set_option maxHeartbeats 1000000 in
theorem written_no (leaf : Bool) (r : Int) (co : Option Addr) (cn cc : Nat) (cs : List C) (w : World) (h : Cs w co cn cc cs) (hf : Few cs) (hno : hasN leaf r cs = false) :
    Calls Try.prog 31 #[.agg #[.bool leaf, .int .i64 r, .slice co cn cc]] w fun e w' => e = .returned (.tuple #[pgV (zs 512), .bool false]) ∧ Below w.heap.size w w' := by
  have hcn : cn ≤ 100000 := by have := h.len; have := hf.1; omega
  obtain ⟨w0, hw0⟩ : ∃ w0, w0 = w.alloc (.cells #[.bool leaf, .int .i64 r, .slice co cn cc] 24) := ⟨_, rfl⟩
  have hB0 : Below w.heap.size w w0 := by rw [hw0]; exact ext1 _
  obtain ⟨w1, hw1⟩ : ∃ w1, w1 = w0.alloc (.cells (bs (zs 512)).toArray 60) := ⟨_, rfl⟩
  have hB1 : Below w.heap.size w w1 := by rw [hw1]; exact gt hB0 (ext1 _)
  have N0 : NB 24 w1 w.heap.size leaf r co cn cc := by
    have := NB.new 24 w leaf r co cn cc
    rw [← hw0] at this
    rw [hw1]; exact this.keep (ext1 _)
  have P0 : PB w1 w0.heap.size (zs 512) := by rw [hw1]; exact PB.new w0
  have hsz : w0.heap.size = w.heap.size + 1 := by rw [hw0]; simp
  rw [hsz] at P0
  have cg := hid (good_any leaf r co cn cc cs w1 (h.keep hB1) hcn)
  have cf := hid (fun W (hb : Below w1.heap.size w1 W) => fits_any leaf r co cn cc cs W ((h.keep hB1).keep hb) hf)
  have hno' := hid hno
  unfold hasN at hno'
  generalize goodN leaf r cs = G at *
  generalize decide (sizeN leaf cs ≤ 512) = F at *
  have N1 := hid N0
  have P1 := hid P0
  have B1 := hid hB1
  have al := hid alloc60
  have bu := hid build60
  replace hw0 := hid hw0.symm
  replace hw1 := hid hw1.symm
  replace hsz := hid hsz
  have PS : Hid (∀ W, PB W (w.heap.size + 1) (zs 512) → (storeVar 60 ⟨w.heap.size + 1, 0, none⟩ (pgV (zs 512))).run Try.prog W = .ok () (W.setRow (w.heap.size + 1) (bs (zs 512)).toArray) ∧ PB (W.setRow (w.heap.size + 1) (bs (zs 512)).toArray) (w.heap.size + 1) (zs 512)) := hid (fun W hp => hp.store (zs_length _))
  obtain ⟨Z, hZ⟩ : ∃ Z, Z = zs 512 := ⟨_, rfl⟩
  rw [← hZ] at PS P0 P1 al bu hw1 ⊢
  replace hZ := hid hZ
  obtain ⟨u0, u1, u2⟩ := N0.cells
  clear h hf hno N0 P0 hB0 hB1
  cases G with
  | false =>
    go_enter Try.func31, Try.ntmps31
    go_wp2_with (first
      | ((with_reducible refine here_op 2 ?_); rw [hw0.out]; refine wpList_alloc_run rfl 60 rfl _ _ (al.out _) ?_; rw [hw1.out, hsz.out])
      | (go_at_call 12; refine cg.out.mono ?_; rintro e w2 ⟨rfl, hb⟩; have B2 := hid (gt B1.out hb); have P2 := hid (PS.out _ (P1.out.keep hb)); clear hb u0 u1 u2)
      | ((with_reducible refine here_op 17 ?_); refine wpList_build_run rfl 60 rfl _ (bu.out _) ?_)
      | ((with_reducible refine here_store 60 ?_); refine wpList_store_run rfl 60 (.tmp 2) (.tmp 17) rfl ⟨w.heap.size + 1, 0, none⟩ rfl _ rfl _ P2.out.1 ?_))
    (try simp only [Exit.inBlock, Exit.then])
    refine bodyPost_ret (ret_page rfl rfl P2.out.2) rfl ?_
    exact ⟨rfl, below_row B2.out (by omega) _⟩
  | true =>
    have hF : F = false := by simpa using hno'.out
    subst hF
    go_enter Try.func31, Try.ntmps31
    go_wp2_with (first
      | ((with_reducible refine here_op 2 ?_); rw [hw0.out]; refine wpList_alloc_run rfl 60 rfl _ _ (al.out _) ?_; rw [hw1.out, hsz.out])
      | (go_at_call 12; refine cg.out.mono ?_; rintro e w2 ⟨rfl, hb⟩; have B2 := hid hb; have N2 := hid (N1.out.keep hb); clear hb u0 u1 u2; obtain ⟨u0, u1, u2⟩ := N2.out.cells)
      | (go_at_call 16; refine (cf.out _ B2.out).mono ?_; rintro e w3 ⟨rfl, hb⟩; have B3 := hid (gt B1.out (gt B2.out hb)); have P3 := hid (PS.out _ (P1.out.keep (gt B2.out hb))); clear hb u0 u1 u2)
      | ((with_reducible refine here_op 17 ?_); refine wpList_build_run rfl 60 rfl _ (bu.out _) ?_)
      | ((with_reducible refine here_store 60 ?_); refine wpList_store_run rfl 60 (.tmp 2) (.tmp 17) rfl ⟨w.heap.size + 1, 0, none⟩ rfl _ rfl _ P3.out.1 ?_))
    (try simp only [Exit.inBlock, Exit.then])
    refine bodyPost_ret (ret_page rfl rfl P3.out.2) rfl ?_
    exact ⟨rfl, below_row B3.out (by omega) _⟩

set_option maxHeartbeats 2000000 in
theorem written_true (r : Int) (co : Option Addr) (cn cc : Nat) (cs : List C) (w : World) (h : Cs w co cn cc cs) (hf : Few cs) (hyes : hasN true r cs = true) :
    Calls Try.prog 31 #[.agg #[.bool true, .int .i64 r, .slice co cn cc]] w fun e w' => e = .returned (.tuple #[pgV (pageN true r cs), .bool true]) ∧ Below w.heap.size w w' := by
  have hcn : cn ≤ 100000 := by have := h.len; have := hf.1; omega
  obtain ⟨w0, hw0⟩ : ∃ w0, w0 = w.alloc (.cells #[.bool true, .int .i64 r, .slice co cn cc] 24) := ⟨_, rfl⟩
  have hB0 : Below w.heap.size w w0 := by rw [hw0]; exact ext1 _
  obtain ⟨w1, hw1⟩ : ∃ w1, w1 = w0.alloc (.cells (bs (zs 512)).toArray 60) := ⟨_, rfl⟩
  have hB1 : Below w.heap.size w w1 := by rw [hw1]; exact gt hB0 (ext1 _)
  have N0 : NB 24 w1 w.heap.size true r co cn cc := by
    have := NB.new 24 w true r co cn cc
    rw [← hw0] at this
    rw [hw1]; exact this.keep (ext1 _)
  have P0 : PB w1 w0.heap.size (zs 512) := by rw [hw1]; exact PB.new w0
  have hsz : w0.heap.size = w.heap.size + 1 := by rw [hw0]; simp
  rw [hsz] at P0
  have cg := hid (good_any true r co cn cc cs w1 (h.keep hB1) hcn)
  have cf := hid (fun W (hb : Below w1.heap.size w1 W) => fits_any true r co cn cc cs W ((h.keep hB1).keep hb) hf)
  have hG : goodN true r cs = true ∧ sizeN true cs ≤ 512 := by simpa [hasN] using hyes
  rw [hG.1] at cg
  rw [show decide (sizeN true cs ≤ 512) = true by simpa using hG.2] at cf
  have N1 := hid N0
  have P1 := hid P0
  have B1 := hid hB1
  have h' := hid h
  have hl' := hid h.len
  have al := hid alloc60
  have b89 := hid build89
  have x89 := hid box89
  replace hw0 := hid hw0.symm
  replace hw1 := hid hw1.symm
  replace hsz := hid hsz
  obtain ⟨Z, hZ⟩ : ∃ Z, Z = zs 512 := ⟨_, rfl⟩
  rw [← hZ] at P0 P1 al hw1
  replace hZ := hid hZ
  have hT5 := hid hG.2
  obtain ⟨T, hT⟩ : ∃ T, T = hd7 true cn r ++ allN true cs := ⟨_, rfl⟩
  have hTl : T.length = sizeN true cs := by rw [hT, ← h.len]; exact raw_length _ _ _
  have hTp : pageN true r cs = padN T := by rw [hT, ← h.len]; rfl
  rw [hTp]
  replace hT := hid hT
  replace hTl := hid hTl
  obtain ⟨M, hM⟩ : ∃ M : List Nat, M = putN (uN 1) 1 false := ⟨_, rfl⟩
  have hMl : Hid (M.length = 1) := hid (by rw [hM]; exact putN_length _ _ _)
  have hd7e : Hid (hd7 true cn r = M ++ putN (uN (cn : Int)) 2 false ++ putN (uN r) 4 false) := hid (by rw [hM]; rfl)
  have n1 : Hid (∀ q W, WB W q [] → Calls Try.prog 61 #[.pointer (some ⟨q, 0, none⟩), .int .i64 1, .int .i64 1] W fun e w' => e = .returned (.tuple #[]) ∧ WB w' q M ∧ W.grownBy w' (some q)) := hid (fun q W hw => by rw [hM]; exact wnum1 q [] 1 W hw (by simp))
  have n2 : Hid (∀ q W, WB W q M → Calls Try.prog 61 #[.pointer (some ⟨q, 0, none⟩), .int .i64 (cn : Int), .int .i64 2] W fun e w' => e = .returned (.tuple #[]) ∧ WB w' q (M ++ putN (uN (cn : Int)) 2 false) ∧ W.grownBy w' (some q)) := hid (fun q W hw => wnum2 q M _ W hw (by rw [hMl.out]; omega))
  have n4 : Hid (∀ q W, WB W q (M ++ putN (uN (cn : Int)) 2 false) → Calls Try.prog 61 #[.pointer (some ⟨q, 0, none⟩), .int .i64 r, .int .i64 4] W fun e w' => e = .returned (.tuple #[]) ∧ WB w' q (hd7 true cn r) ∧ W.grownBy w' (some q)) := hid (fun q W hw => by rw [hd7e.out]; exact wnum4 q _ r W hw (by rw [List.length_append, hMl.out, putN_length]; omega))
  obtain ⟨u0, u1, u2⟩ := N0.cells
  have t1 : Hid True := hid trivial
  have t2 : Hid True := hid trivial
  have t3 : Hid True := hid trivial
  clear h hf hyes N0 P0 hB0 hB1 hG hM hTp
  go_enter Try.func31, Try.ntmps31
  go_wp2_with (first
    | ((with_reducible refine here_op 2 ?_); rw [hw0.out]; refine wpList_alloc_run rfl 60 rfl _ _ (al.out _) ?_; rw [hw1.out, hsz.out])
    | (go_at_call 12; refine cg.out.mono ?_; rintro e w2 ⟨rfl, hb⟩; have B2 := hid hb; have N2 := hid (N1.out.keep hb); clear hb u0 u1 u2; obtain ⟨u0, u1, u2⟩ := N2.out.cells)
    | (go_at_call 16; refine (cf.out _ B2.out).mono ?_; rintro e wq ⟨rfl, hb⟩; have B3 := hid (gt B1.out (gt B2.out hb)); have N3 := hid (N1.out.keep (gt B2.out hb)); have P3 := hid (P1.out.keep (gt B2.out hb)); have hwq := hid (show w.heap.size + 1 < wq.heap.size from lt_of_block P3.out.2); clear hb u0 u1 u2)
    | ((with_reducible refine here_op 18 ?_); refine wpList_build_run rfl 89 rfl _ (b89.out _) ?_)
    | ((with_reducible refine here_op 19 ?_); refine wpList_box_run rfl 89 (.tmp 18) rfl _ _ rfl _ (x89.out _) ?_; obtain ⟨q, hq⟩ : ∃ q, q = wq.heap.size := ⟨_, rfl⟩; have W4 := hid (wb_new wq); have E4 := hid (show Below wq.heap.size wq (wq.alloc (.cells (wrow [] 0).toArray 89)) from ext1 _); rw [← hq] at W4 ⊢; generalize wq.alloc (.cells (wrow [] 0).toArray 89) = w4 at *; replace hq := hid hq; obtain ⟨u0, u1, u2⟩ := (N3.out.keep E4.out).cells)
    | (go_at_call 61; clear t1; refine (n1.out q _ W4.out).mono ?_; rintro e w5 ⟨rfl, hw, hg⟩; have W5 := hid hw; have E5 := hid (below_grown E4.out hg (by rw [hq.out]; exact Nat.le_refl _) (Nat.le_refl _)); clear hw hg u0 u1 u2; obtain ⟨u0, u1, u2⟩ := (N3.out.keep E5.out).cells)
    | (go_at_call 61; clear t2; refine (n2.out q _ W5.out).mono ?_; rintro e w6 ⟨rfl, hw, hg⟩; have W6 := hid hw; have E6 := hid (below_grown E5.out hg (by rw [hq.out]; exact Nat.le_refl _) (Nat.le_refl _)); clear hw hg u0 u1 u2; obtain ⟨u0, u1, u2⟩ := (N3.out.keep E6.out).cells)
    | (go_at_call 61; clear t3; refine (n4.out q _ W6.out).mono ?_; rintro e w7 ⟨rfl, hw, hg⟩; have W7 := hid hw; have E7 := hid (below_grown E6.out hg (by rw [hq.out]; exact Nat.le_refl _) (Nat.le_refl _)); clear hw hg u0 u1 u2; obtain ⟨u0, u1, u2⟩ := (N3.out.keep E7.out).cells))
  clear cg cf n1 n2 n4 al b89 x89 hw0 hw1
  go_loopw [41] (fun c W => ∃ (i : Nat) (ys : List Nat), i ≤ cn ∧ c = .int .i64 (i : Int) ∧ ys ++ allN true (cs.drop i) = T ∧ WB W q ys ∧ Below wq.heap.size wq W) (fun c _ => cn - (intOf c).toNat)
  case atStart => exact ⟨0, hd7 true cn r, by omega, rfl, hT.out.symm, W7.out, E7.out⟩
  case round =>
    obtain ⟨i, ys, hi, rfl, he, hW, hb⟩ := hrel
    have he' := hid he
    have hW' := hid hW
    have hb' := hid hb
    clear he hW hb u0 u1 u2
    by_cases hik : i < cn
    · have B5 := hid (gt B3.out hb'.out)
      obtain ⟨b, off, rfl, hc⟩ := h'.out.at_ (by omega)
      have ha := hid ((h'.out.keep B5.out).ok_at hik)
      have hap := hid (h'.out.apart hik (q := q) (by rw [hq.out]; exact B3.out.size))
      obtain ⟨x0, x1, x2, x3, x4⟩ := (hc i hik).keep B5.out
      have hd := dropC cs i (by have := hl'.out; omega)
      generalize cs.getD i default = a at *
      rw [hd] at he'
      have hE : ys ++ oneN true a ++ allN true (cs.drop (i + 1)) = T := by rw [List.append_assoc]; exact he'.out
      have hfit : Hid (ys.length + (oneN true a).length ≤ 512) := hid (by have h1 := congrArg List.length hE; have h2 := hTl.out; have h3 := hT5.out; simp only [List.length_append] at h1; omega)
      have hE' := hid hE
      clear hd he' hc hE
      go_wp2_with (go_at_call 60; refine (winleaf_any q ys a _ (hW'.out.keep (ext1 _)) (ha.out.keep (ext1 _)) hap.out hfit.out).mono ?_; rintro e w1 ⟨rfl, hw, hg⟩; have W1 := hid hw; have G1 := hid hg; clear hw hg)
      refine ⟨⟨i + 1, _, by omega, by go_num, hE'.out, W1.out, ?_⟩, by simp [intOf]; omega⟩
      exact below_grown (gt hb'.out (ext1 _)) G1.out (by rw [hq.out]; exact Nat.le_refl _) (Nat.le_refl _)
    · obtain rfl : i = cn := by omega
      have hE := he'.out
      rw [List.drop_of_length_le (by have := hl'.out; omega)] at hE
      simp only [allN, List.flatMap_nil, List.append_nil] at hE
      subst hE
      have ld := hid hW'.out.load
      have hpl := hid (padN_length ys hW'.out.1)
      have P5 := hid ((P3.out.under hb'.out hwq.out).store (y := padN ys) hpl.out)
      go_wp2_with (first
        | ((with_reducible refine here_op 52 ?_); refine wpList_load_run rfl 60 (.tmp 51) rfl ⟨q, 0, none⟩ rfl _ ld.out ?_)
        | ((with_reducible refine here_store 60 ?_); refine wpList_store_run rfl 60 (.tmp 2) (.tmp 52) rfl ⟨w.heap.size + 1, 0, none⟩ rfl _ rfl _ P5.out.1 ?_))
      (try simp only [Exit.inBlock, Exit.then])
      refine bodyPost_ret (ret_page rfl rfl P5.out.2) rfl ?_
      exact ⟨rfl, below_row (gt B3.out hb'.out) (by omega) _⟩

set_option maxHeartbeats 2000000 in
theorem written_false (r : Int) (co : Option Addr) (cn cc : Nat) (cs : List C) (w : World) (h : Cs w co cn cc cs) (hf : Few cs) (hyes : hasN false r cs = true) :
    Calls Try.prog 31 #[.agg #[.bool false, .int .i64 r, .slice co cn cc]] w fun e w' => e = .returned (.tuple #[pgV (pageN false r cs), .bool true]) ∧ Below w.heap.size w w' := by
  have hcn : cn ≤ 100000 := by have := h.len; have := hf.1; omega
  obtain ⟨w0, hw0⟩ : ∃ w0, w0 = w.alloc (.cells #[.bool false, .int .i64 r, .slice co cn cc] 24) := ⟨_, rfl⟩
  have hB0 : Below w.heap.size w w0 := by rw [hw0]; exact ext1 _
  obtain ⟨w1, hw1⟩ : ∃ w1, w1 = w0.alloc (.cells (bs (zs 512)).toArray 60) := ⟨_, rfl⟩
  have hB1 : Below w.heap.size w w1 := by rw [hw1]; exact gt hB0 (ext1 _)
  have N0 : NB 24 w1 w.heap.size false r co cn cc := by
    have := NB.new 24 w false r co cn cc
    rw [← hw0] at this
    rw [hw1]; exact this.keep (ext1 _)
  have P0 : PB w1 w0.heap.size (zs 512) := by rw [hw1]; exact PB.new w0
  have hsz : w0.heap.size = w.heap.size + 1 := by rw [hw0]; simp
  rw [hsz] at P0
  have cg := hid (good_any false r co cn cc cs w1 (h.keep hB1) hcn)
  have cf := hid (fun W (hb : Below w1.heap.size w1 W) => fits_any false r co cn cc cs W ((h.keep hB1).keep hb) hf)
  have hG : goodN false r cs = true ∧ sizeN false cs ≤ 512 := by simpa [hasN] using hyes
  rw [hG.1] at cg
  rw [show decide (sizeN false cs ≤ 512) = true by simpa using hG.2] at cf
  have N1 := hid N0
  have P1 := hid P0
  have B1 := hid hB1
  have h' := hid h
  have hl' := hid h.len
  have al := hid alloc60
  have b89 := hid build89
  have x89 := hid box89
  replace hw0 := hid hw0.symm
  replace hw1 := hid hw1.symm
  replace hsz := hid hsz
  obtain ⟨Z, hZ⟩ : ∃ Z, Z = zs 512 := ⟨_, rfl⟩
  rw [← hZ] at P0 P1 al hw1
  replace hZ := hid hZ
  have hT5 := hid hG.2
  obtain ⟨T, hT⟩ : ∃ T, T = hd7 false cn r ++ allN false cs := ⟨_, rfl⟩
  have hTl : T.length = sizeN false cs := by rw [hT, ← h.len]; exact raw_length _ _ _
  have hTp : pageN false r cs = padN T := by rw [hT, ← h.len]; rfl
  rw [hTp]
  replace hT := hid hT
  replace hTl := hid hTl
  obtain ⟨M, hM⟩ : ∃ M : List Nat, M = putN (uN 2) 1 false := ⟨_, rfl⟩
  have hMl : Hid (M.length = 1) := hid (by rw [hM]; exact putN_length _ _ _)
  have hd7e : Hid (hd7 false cn r = M ++ putN (uN (cn : Int)) 2 false ++ putN (uN r) 4 false) := hid (by rw [hM]; rfl)
  have n1 : Hid (∀ q W, WB W q [] → Calls Try.prog 61 #[.pointer (some ⟨q, 0, none⟩), .int .i64 2, .int .i64 1] W fun e w' => e = .returned (.tuple #[]) ∧ WB w' q M ∧ W.grownBy w' (some q)) := hid (fun q W hw => by rw [hM]; exact wnum1 q [] 2 W hw (by simp))
  have n2 : Hid (∀ q W, WB W q M → Calls Try.prog 61 #[.pointer (some ⟨q, 0, none⟩), .int .i64 (cn : Int), .int .i64 2] W fun e w' => e = .returned (.tuple #[]) ∧ WB w' q (M ++ putN (uN (cn : Int)) 2 false) ∧ W.grownBy w' (some q)) := hid (fun q W hw => wnum2 q M _ W hw (by rw [hMl.out]; omega))
  have n4 : Hid (∀ q W, WB W q (M ++ putN (uN (cn : Int)) 2 false) → Calls Try.prog 61 #[.pointer (some ⟨q, 0, none⟩), .int .i64 r, .int .i64 4] W fun e w' => e = .returned (.tuple #[]) ∧ WB w' q (hd7 false cn r) ∧ W.grownBy w' (some q)) := hid (fun q W hw => by rw [hd7e.out]; exact wnum4 q _ r W hw (by rw [List.length_append, hMl.out, putN_length]; omega))
  obtain ⟨u0, u1, u2⟩ := N0.cells
  have t1 : Hid True := hid trivial
  have t2 : Hid True := hid trivial
  have t3 : Hid True := hid trivial
  clear h hf hyes N0 P0 hB0 hB1 hG hM hTp
  go_enter Try.func31, Try.ntmps31
  go_wp2_with (first
    | ((with_reducible refine here_op 2 ?_); rw [hw0.out]; refine wpList_alloc_run rfl 60 rfl _ _ (al.out _) ?_; rw [hw1.out, hsz.out])
    | (go_at_call 12; refine cg.out.mono ?_; rintro e w2 ⟨rfl, hb⟩; have B2 := hid hb; have N2 := hid (N1.out.keep hb); clear hb u0 u1 u2; obtain ⟨u0, u1, u2⟩ := N2.out.cells)
    | (go_at_call 16; refine (cf.out _ B2.out).mono ?_; rintro e wq ⟨rfl, hb⟩; have B3 := hid (gt B1.out (gt B2.out hb)); have N3 := hid (N1.out.keep (gt B2.out hb)); have P3 := hid (P1.out.keep (gt B2.out hb)); have hwq := hid (show w.heap.size + 1 < wq.heap.size from lt_of_block P3.out.2); clear hb u0 u1 u2)
    | ((with_reducible refine here_op 18 ?_); refine wpList_build_run rfl 89 rfl _ (b89.out _) ?_)
    | ((with_reducible refine here_op 19 ?_); refine wpList_box_run rfl 89 (.tmp 18) rfl _ _ rfl _ (x89.out _) ?_; obtain ⟨q, hq⟩ : ∃ q, q = wq.heap.size := ⟨_, rfl⟩; have W4 := hid (wb_new wq); have E4 := hid (show Below wq.heap.size wq (wq.alloc (.cells (wrow [] 0).toArray 89)) from ext1 _); rw [← hq] at W4 ⊢; generalize wq.alloc (.cells (wrow [] 0).toArray 89) = w4 at *; replace hq := hid hq; obtain ⟨u0, u1, u2⟩ := (N3.out.keep E4.out).cells)
    | (go_at_call 61; clear t1; refine (n1.out q _ W4.out).mono ?_; rintro e w5 ⟨rfl, hw, hg⟩; have W5 := hid hw; have E5 := hid (below_grown E4.out hg (by rw [hq.out]; exact Nat.le_refl _) (Nat.le_refl _)); clear hw hg u0 u1 u2; obtain ⟨u0, u1, u2⟩ := (N3.out.keep E5.out).cells)
    | (go_at_call 61; clear t2; refine (n2.out q _ W5.out).mono ?_; rintro e w6 ⟨rfl, hw, hg⟩; have W6 := hid hw; have E6 := hid (below_grown E5.out hg (by rw [hq.out]; exact Nat.le_refl _) (Nat.le_refl _)); clear hw hg u0 u1 u2; obtain ⟨u0, u1, u2⟩ := (N3.out.keep E6.out).cells)
    | (go_at_call 61; clear t3; refine (n4.out q _ W6.out).mono ?_; rintro e w7 ⟨rfl, hw, hg⟩; have W7 := hid hw; have E7 := hid (below_grown E6.out hg (by rw [hq.out]; exact Nat.le_refl _) (Nat.le_refl _)); clear hw hg u0 u1 u2; obtain ⟨u0, u1, u2⟩ := (N3.out.keep E7.out).cells))
  clear cg cf n1 n2 n4 al b89 x89 hw0 hw1
  go_loopw [41] (fun c W => ∃ (i : Nat) (ys : List Nat), i ≤ cn ∧ c = .int .i64 (i : Int) ∧ ys ++ allN false (cs.drop i) = T ∧ WB W q ys ∧ Below wq.heap.size wq W) (fun c _ => cn - (intOf c).toNat)
  case atStart => exact ⟨0, hd7 false cn r, by omega, rfl, hT.out.symm, W7.out, E7.out⟩
  case round =>
    obtain ⟨i, ys, hi, rfl, he, hW, hb⟩ := hrel
    have he' := hid he
    have hW' := hid hW
    have hb' := hid hb
    clear he hW hb u0 u1 u2
    by_cases hik : i < cn
    · have B5 := hid (gt B3.out hb'.out)
      obtain ⟨b, off, rfl, hc⟩ := h'.out.at_ (by omega)
      have ha := hid ((h'.out.keep B5.out).ok_at hik)
      have hap := hid (h'.out.apart hik (q := q) (by rw [hq.out]; exact B3.out.size))
      obtain ⟨x0, x1, x2, x3, x4⟩ := (hc i hik).keep B5.out
      have hd := dropC cs i (by have := hl'.out; omega)
      generalize cs.getD i default = a at *
      rw [hd] at he'
      have hE : ys ++ oneN false a ++ allN false (cs.drop (i + 1)) = T := by rw [List.append_assoc]; exact he'.out
      have hfit : Hid (ys.length + (oneN false a).length ≤ 512) := hid (by have h1 := congrArg List.length hE; have h2 := hTl.out; have h3 := hT5.out; simp only [List.length_append] at h1; omega)
      have hE' := hid hE
      clear hd he' hc hE
      go_wp2_with (go_at_call 59; refine (wabove_any q ys a _ (hW'.out.keep (ext1 _)) ha.out.kI hfit.out).mono ?_; rintro e w1 ⟨rfl, hw, hg⟩; have W1 := hid hw; have G1 := hid hg; clear hw hg)
      refine ⟨⟨i + 1, _, by omega, by go_num, hE'.out, W1.out, ?_⟩, by simp [intOf]; omega⟩
      exact below_grown (gt hb'.out (ext1 _)) G1.out (by rw [hq.out]; exact Nat.le_refl _) (Nat.le_refl _)
    · obtain rfl : i = cn := by omega
      have hE := he'.out
      rw [List.drop_of_length_le (by have := hl'.out; omega)] at hE
      simp only [allN, List.flatMap_nil, List.append_nil] at hE
      subst hE
      have ld := hid hW'.out.load
      have hpl := hid (padN_length ys hW'.out.1)
      have P5 := hid ((P3.out.under hb'.out hwq.out).store (y := padN ys) hpl.out)
      go_wp2_with (first
        | ((with_reducible refine here_op 52 ?_); refine wpList_load_run rfl 60 (.tmp 51) rfl ⟨q, 0, none⟩ rfl _ ld.out ?_)
        | ((with_reducible refine here_store 60 ?_); refine wpList_store_run rfl 60 (.tmp 2) (.tmp 52) rfl ⟨w.heap.size + 1, 0, none⟩ rfl _ rfl _ P5.out.1 ?_))
      (try simp only [Exit.inBlock, Exit.then])
      refine bodyPost_ret (ret_page rfl rfl P5.out.2) rfl ?_
      exact ⟨rfl, below_row (gt B3.out hb'.out) (by omega) _⟩

end Go.Proofs.Ytbpcekhfjkodcaa
