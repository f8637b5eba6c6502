/- What rises returns; no statement of the seat is proved here. -/
import Derived.Test.YtbpcekhfjkodcaaAd
import Derived.Test.YtbpcekhfjkodcaaKk
namespace Go.Proofs.Ytbpcekhfjkodcaa
open Go.RowKit

/-- Does each key stand above the one ahead? -/
def riseB : List C → Bool
  | [] => true
  | [_] => true
  | a :: b :: r => decide (a.k < b.k) && riseB (b :: r)
theorem rise_cons (a b : C) (r : List C) : riseB (a :: b :: r) = (decide (a.k < b.k) && riseB (b :: r)) := rfl

theorem dropC2 (cs : List C) (i : Nat) (h : i + 1 < cs.length) : cs.drop i = cs.getD i default :: cs.getD (i + 1) default :: cs.drop (i + 2) := by
  rw [dropC cs i (by omega), dropC cs (i + 1) h]
theorem rise_end (cs : List C) (i : Nat) (h : cs.length ≤ i + 1) : riseB (cs.drop i) = true := by
  rcases Nat.lt_or_ge i cs.length with h1 | h1
  · rw [dropC cs i h1, List.drop_of_length_le (by omega)]; rfl
  · rw [List.drop_of_length_le h1]; rfl

/-- What a walk over two neighbours asks of the memory. -/
abbrev S2 (q : Nat) (b o : Nat) (n m : Nat) (o1 o2 : Nat) (k1 k2 : Int) (W : World) : Prop :=
  W.cell? ⟨q, 2, none⟩ = some (.slice (some ⟨b, o, none⟩) n m) ∧ W.cell? ⟨b, o1, none⟩ = some (.int .i64 k1) ∧ W.cell? ⟨b, o2, none⟩ = some (.int .i64 k2)

set_option maxHeartbeats 1000000 in
theorem rises_any (leaf : Bool) (r : Int) (co : Option Addr) (cn cc : Nat) (cs : List C) (w : World) (h : Cs w co cn cc cs) (hcn : cn ≤ 100000) :
    Calls Try.prog 37 #[.agg #[.bool leaf, .int .i64 r, .slice co cn cc]] w fun e w' => e = .returned (.bool (riseB cs)) ∧ Below w.heap.size w w' := by
  have h' := hid h
  have hl' := hid h.len
  obtain ⟨V, hV⟩ : ∃ V, V = riseB cs := ⟨_, rfl⟩
  have hV' := hid hV
  rw [← hV]
  clear h hV
  have q0 := hid (NB.new 24 w leaf r co cn cc)
  have b0 : Hid (Below w.heap.size w (w.alloc (.cells #[.bool leaf, .int .i64 r, .slice co cn cc] 24))) := hid (ext1 _)
  go_enter Try.func37, Try.ntmps37
  go_wp2
  generalize w.alloc (.cells #[.bool leaf, .int .i64 r, .slice co cn cc] 24) = w0 at *
  go_loopw [3] (fun c W => ∃ (i : Nat), i ≤ cn ∧ c = .int .i64 ((i + 1 : Nat) : Int) ∧ riseB (cs.drop i) = V ∧ NB 24 W w.heap.size leaf r co cn cc ∧ Below w.heap.size w W) (fun c _ => cn + 1 - (intOf c).toNat)
  case atStart => exact ⟨0, by omega, rfl, hV'.out.symm, q0.out, b0.out⟩
  case round =>
    obtain ⟨i, hi, rfl, he, hq, hb⟩ := hrel
    have he' := hid he
    have hq' := hid hq
    have hb' := hid hb
    obtain ⟨u0, u1, u2⟩ := hq.cells
    have hlt := hq.lt
    clear he hq hb
    by_cases hik : i + 1 < cn
    · obtain ⟨b, off, rfl, hc⟩ := h'.out.at_ (by omega)
      have x0 := ((hc i (by omega)).keep hb'.out).1
      have x1 := ((hc (i + 1) hik).keep hb'.out).1
      have hd := dropC2 cs i (by have := hl'.out; omega)
      have hd1 := dropC cs (i + 1) (by have := hl'.out; omega)
      have e1 : ((i + 1 : Nat) : Int) - 1 = (i : Int) := by omega
      generalize cs.getD i default = a1 at *
      generalize cs.getD (i + 1) default = a2 at *
      have hE := he'.out
      rw [hd, rise_cons, ← hd1] at hE
      clear hd hd1 he' hc
      have g1 : S2 w.heap.size b off cn cc (off + (i + 1) * 5) (off + i * 5) a2.k a1.k wr.drew := ⟨u2, x1, x0⟩
      obtain ⟨I, hI⟩ : ∃ I, I = i + 1 := ⟨_, rfl⟩
      rw [← hI] at g1 e1 ⊢
      have e2 : Hid (I = i + 1) := hid hI
      have e3 : IntKind.i64.wrap ((I : Int) - 1) = (i : Int) := by rw [IntKind.wrap_i64]; omega
      have hI2 : I < cn := by omega
      have hI3 : i < cn := by omega
      clear u0 u1 x0 x1 hI
      by_cases hk : a1.k < a2.k
      · rw [show decide (a1.k < a2.k) = true by simpa using hk, Bool.true_and] at hE
        have hE' := hid hE
        have hk' : Hid (a1.k < a2.k) := hid (by omega)
        clear hE hk
        go_upto_region 4 with fail
        refine wp_region_K (S := S2 w.heap.size b off cn cc (off + I * 5) (off + i * 5) a2.k a1.k) (fun _ => false) (by kernel_rfl) (g1) (fun hHeld => ?_)
        refine gkp 0 ?_
        refine gkt 1 ?_ (h := by intro W hSw; obtain ⟨y0, y1, y2⟩ := hSw; go_simp; first | done | with_reducible rfl)
        refine gkp 2 ?_
        refine gkp 3 ?_
        refine gkp 4 ?_
        refine gkt 5 ?_ (h := by intro W hSw; obtain ⟨y0, y1, y2⟩ := hSw; go_simp; first | done | with_reducible rfl)
        refine gkp 6 ?_
        refine gkt 7 ?_ (h := by intro W hSw; obtain ⟨y0, y1, y2⟩ := hSw; go_simp; first | done | with_reducible rfl)
        refine gkp 8 ?_
        refine gkp 9 ?_ (v := .int .i64 (i : Int)) (h := by intro W hSw; go_simp <;> (rw [IntKind.wrap_i64]; omega))
        refine gkp 10 ?_
        refine gkp 11 ?_
        refine gkt 12 ?_ (h := by intro W hSw; obtain ⟨y0, y1, y2⟩ := hSw; go_simp; first | done | with_reducible rfl)
        refine gkp 13 ?_ (v := .bool false) (h := by intro W hSw; go_simp <;> simp [hk'.out])
        refine wpAnyK_done (by kernel_rfl) ?_ _
        go_wp2
        refine ⟨⟨i + 1, by omega, by have := e2.out; subst this; go_num, hE'.out, ?_, ?_⟩, by have := e2.out; simp [intOf]; omega⟩
        · exact hq'.out.keep (Below.refl _ _).drew
        · exact hb'.out.drew
      · rw [show decide (a1.k < a2.k) = false by simpa using hk, Bool.false_and] at hE
        subst hE
        have hk' : Hid (a2.k ≤ a1.k) := hid (by omega)
        clear hk
        go_upto_region 4 with fail
        refine wp_region_K (S := S2 w.heap.size b off cn cc (off + I * 5) (off + i * 5) a2.k a1.k) (fun _ => false) (by kernel_rfl) (g1) (fun hHeld => ?_)
        refine gkp 0 ?_
        refine gkt 1 ?_ (h := by intro W hSw; obtain ⟨y0, y1, y2⟩ := hSw; go_simp; first | done | with_reducible rfl)
        refine gkp 2 ?_
        refine gkp 3 ?_
        refine gkp 4 ?_
        refine gkt 5 ?_ (h := by intro W hSw; obtain ⟨y0, y1, y2⟩ := hSw; go_simp; first | done | with_reducible rfl)
        refine gkp 6 ?_
        refine gkt 7 ?_ (h := by intro W hSw; obtain ⟨y0, y1, y2⟩ := hSw; go_simp; first | done | with_reducible rfl)
        refine gkp 8 ?_
        refine gkp 9 ?_ (v := .int .i64 (i : Int)) (h := by intro W hSw; go_simp <;> (rw [IntKind.wrap_i64]; omega))
        refine gkp 10 ?_
        refine gkp 11 ?_
        refine gkt 12 ?_ (h := by intro W hSw; obtain ⟨y0, y1, y2⟩ := hSw; go_simp; first | done | with_reducible rfl)
        refine gkp 13 ?_ (v := .bool true) (h := by intro W hSw; go_simp <;> simp [hk'.out])
        refine wpAnyK_done (by kernel_rfl) ?_ _
        go_wp2
        go_ret
        exact ⟨rfl, hb'.out.drew⟩
    · have hE := he'.out
      rw [rise_end cs i (by have := hl'.out; omega)] at hE
      subst hE
      clear he'
      go_wp2
      go_ret
      exact ⟨rfl, hb'.out⟩

end Go.Proofs.Ytbpcekhfjkodcaa
