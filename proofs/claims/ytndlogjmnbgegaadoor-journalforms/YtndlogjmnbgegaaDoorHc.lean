/- What plain and Same return; no statement of the seat is proved here. -/
import Derived.Test.YtndlogjmnbgegaaDoorFa
import Derived.Test.YtndlogjmnbgegaaDoorCc
namespace Go.Proofs.YtndlogjmnbgegaaDoor
open Go.RowKit

/-- Records' cells. -/
def rv : List (Int × Option Addr × Nat × Nat) → List Value
  | [] => []
  | r :: l => .int .i64 r.1 :: .slice r.2.1 r.2.2.1 r.2.2.2 :: rv l

theorem rv_length (l : List (Int × Option Addr × Nat × Nat)) : (rv l).length = l.length * 2 := by
  induction l with
  | nil => rfl
  | cons r l ih => simp [rv, ih]; omega

theorem rv_append (l m : List (Int × Option Addr × Nat × Nat)) : rv (l ++ m) = rv l ++ rv m := by
  induction l with
  | nil => rfl
  | cons r l ih => simp [rv, ih]

/-- These cells are those of the records from i on. -/
def Dat (W : World) (P : Nat → Int) (D : Nat → List Nat) : Nat → List (Int × Option Addr × Nat × Nat) → Prop
  | _, [] => True
  | i, r :: l => (r.1 = P i ∧ Rd W r.2.1 r.2.2.1 r.2.2.2 (D i)) ∧ Dat W P D (i + 1) l

theorem Dat.keep {W W' : World} {P : Nat → Int} {D : Nat → List Nat} {l : List (Int × Option Addr × Nat × Nat)} (hb : Below W.heap.size W W') : ∀ {i}, Dat W P D i l → Dat W' P D i l := by
  induction l with
  | nil => intro i _; trivial
  | cons r l ih =>
    intro i h
    exact ⟨⟨h.1.1, h.1.2.keep hb⟩, ih h.2⟩

theorem Dat.snoc {W : World} {P : Nat → Int} {D : Nat → List Nat} {l : List (Int × Option Addr × Nat × Nat)} {r : Int × Option Addr × Nat × Nat} : ∀ {i}, Dat W P D i l → (r.1 = P (i + l.length) ∧ Rd W r.2.1 r.2.2.1 r.2.2.2 (D (i + l.length))) → Dat W P D i (l ++ [r]) := by
  induction l with
  | nil => intro i _ h; exact ⟨h, trivial⟩
  | cons a l ih =>
    intro i h hr
    refine ⟨h.1, ih h.2 ?_⟩
    rw [show i + 1 + l.length = i + (a :: l).length by simp; omega]
    exact hr

theorem Dat.get {W : World} {P : Nat → Int} {D : Nat → List Nat} {l : List (Int × Option Addr × Nat × Nat)} : ∀ {i}, Dat W P D i l → ∀ j, j < l.length → ∃ a n c, (rv l)[j * 2]? = some (.int .i64 (P (i + j))) ∧ (rv l)[j * 2 + 1]? = some (.slice a n c) ∧ Rd W a n c (D (i + j)) := by
  induction l with
  | nil => intro i _ j h; simp at h
  | cons a l ih =>
    intro i h j hj
    cases j with
    | zero => exact ⟨_, _, _, by simp [rv, h.1.1], by simp [rv], h.1.2⟩
    | succ j =>
      obtain ⟨b, n, c, h1, h2, h3⟩ := ih h.2 j (by simpa using hj)
      rw [show i + 1 + j = i + (j + 1) by omega] at h1 h3
      refine ⟨b, n, c, ?_, ?_, h3⟩
      · rw [show (j + 1) * 2 = j * 2 + 1 + 1 by omega]; simpa [rv] using h1
      · rw [show (j + 1) * 2 + 1 = j * 2 + 1 + 1 + 1 by omega]; simpa [rv] using h2

theorem recs_rv {W : World} {B : Nat} {ao : Option Addr} {cap L : Nat} {P : Nat → Int} {D : Nat → List Nat} {t : TypeId} {l : List (Int × Option Addr × Nat × Nat)} (hl : l.length = L) (h : W.ownsRow B t 2 (.slice ao L cap) L (rv l)) (hd : Dat W P D 0 l) : Recs W ao L P D := by
  intro hL
  rcases h.2 with ⟨h', h0⟩ | ⟨g, cap', cur, h', hb, hg, hnc, hm, hs, ht⟩
  · omega
  · simp only [Value.slice.injEq, true_and] at h'
    obtain ⟨rfl, rfl⟩ := h'
    refine ⟨g, 0, rfl, fun i hi => ?_⟩
    obtain ⟨a, n, c, h1, h2, h3⟩ := hd.get i (by omega)
    rw [Nat.zero_add] at h1 h3
    refine ⟨a, n, c, ?_, ?_, h3⟩
    · rw [Nat.zero_add, h.cellAt (i * 2) (by omega), h1]
    · rw [Nat.zero_add, h.cellAt (i * 2 + 1) (by omega), h2]

theorem two_cells2 (w : World) (o : Obj) (a b : Value) (t : TypeId) : ∀ j u, [a, b][j]? = some u → ((w.alloc o).alloc (.cells #[a, b] t)).cell? ((⟨w.heap.size + 1, 0, none⟩ : Addr).add j) = some u := by
  have := two_cells (w.alloc o) a b t
  simpa using this

set_option maxHeartbeats 2000000 in
theorem plain_any (ao : Option Addr) (L cap : Nat) (P : Nat → Int) (D : Nat → List Nat) (w : World) (h : Recs w ao L P D) (hL : L ≤ 100000) :
    Calls Tryd.prog 12 #[.slice ao L cap] w fun e w' => ∃ ao' cap', e = .returned (.slice ao' L cap') ∧ Recs w' ao' L P D ∧ Below w.heap.size w w' := by
  have h' := hid h
  obtain ⟨i35, hi35, hz0, hz1, hz2⟩ := info_parts Tryd.info35
  have HI := hid hi35; have HZ0 := hid hz0; have HZ1 := hid hz1; have HZ2 := hid hz2
  clear h hi35 hz0 hz1 hz2
  go_enter Tryd.func12, Tryd.ntmps12
  go_wp2
  go_loopw [3, 8] (fun o cc W => ∃ (i : Nat) (l : List (Int × Option Addr × Nat × Nat)) (ao' : Option Addr) (cap' : Nat), i ≤ L ∧ cc = .int .i64 (i : Int) ∧ o = .slice ao' i cap' ∧ l.length = i ∧ Hid (W.ownsRow w.heap.size 35 2 (.slice ao' i cap') i (rv l)) ∧ Hid (Dat w P D 0 l) ∧ Hid (Below w.heap.size w W)) (fun _ cc _ => L - (intOf cc).toNat)
  case atStart => exact ⟨0, [], none, 0, by omega, rfl, rfl, rfl, hid (World.ownsRow_nil _ _ _ _), hid trivial, hid (Below.refl _ _)⟩
  case round =>
    obtain ⟨i, l, ao', cap', hi, rfl, rfl, hll, O, DA, B⟩ := hrel
    by_cases hiL : i < L
    · obtain ⟨b0, off, rfl, hc⟩ := h'.out (by omega)
      obtain ⟨a, n, c1, k0, k1, rd⟩ := hc i hiL
      have k0' := keep_old B.out k0
      have k1' := keep_old B.out k1
      obtain ⟨p, hp⟩ : ∃ p, p = P i := ⟨_, rfl⟩
      rw [← hp] at k0'
      have hp' := hid hp
      have rd' := hid rd
      have hBs := B.out.size
      clear k0 k1 rd hc hp
      go_wp2_with ((with_reducible refine here_op 15 ?_); refine wpList_append_own _ rfl (.tmp 12) (.tmp 14) 36 rfl w.heap.size 35 i35 (.agg #[.int .i64 0, .slice none 0 0]) 2 32 Tryd.underlying36 HI.out HZ0.out HZ1.out HZ2.out rfl (by decide) (.slice ao' i cap') i (rv l) rfl ((O.out.alloc _).alloc _) ⟨wr.heap.size + 1, 0, none⟩ 1 1 [.int .i64 p, .slice a n c1] rfl rfl (two_cells2 wr _ _ _ 35) (by intro u hu; simp at hu; rcases hu with rfl | rfl <;> rfl) (by unfold maxLen; omega) (by omega) (by simp; omega) ?_; intro v5 w5 ho5 hg5 hnil5; obtain ⟨ao5, cap5, rfl⟩ := row_form ho5)
      refine ⟨⟨i + 1, l ++ [(p, a, n, c1)], ao5, cap5, by omega, by go_num, rfl, by simp [hll], hid ?_, hid (DA.out.snoc ?_), hid ?_⟩, by simp [intOf]; omega⟩
      · rw [rv_append]
        exact ho5
      · rw [hll, Nat.zero_add]
        exact ⟨hp'.out, rd'.out⟩
      · exact (Below.alloc (Below.alloc B.out hBs _) (by simp; omega) _).trans (below_grown ((O.out.alloc _).alloc _) hg5 (Nat.le_refl _) (by simp; omega))
    · obtain rfl : i = L := by omega
      go_wp2
      go_ret
      exact ⟨ao', cap', rfl, recs_rv hll O.out (DA.out.keep B.out), B.out⟩

end Go.Proofs.YtndlogjmnbgegaaDoor
