/- What the document's own Parse returns; no statement of the seat is proved here. -/
import Derived.Test.YtndlogjmnbgegaaDoorJd
import Derived.Test.YtndlogjmnbgegaaDoorJe
import Derived.Test.YtndlogjmnbgegaaDoorHe
namespace Go.Proofs.YtndlogjmnbgegaaDoor
open Go.RowKit

theorem typ_grown {w w' : World} {base : Nat} {e t : TypeId} (he : e ≠ t) {size : Nat} {v : Value} {n : Nat} {xs : List Value} (h : w.ownsRow base e size v n xs) (hg : w.grownBy w' v.ownBlock) {g : Nat} {C : Array Value} {m : Nat × Nat} (hc : w.heap[g]? = some (Obj.cells C t m)) : w'.heap[g]? = some (Obj.cells C t m) := by
  rw [hg.block g (lt_of_block hc) ?_]
  · exact hc
  · intro hv
    obtain ⟨hl, ⟨rfl, rfl⟩ | ⟨g', cap, cur, rfl, hb', hg', rest⟩⟩ := h
    · simp [Value.ownBlock] at hv
    · simp [Value.ownBlock] at hv
      subst hv
      rw [hc] at hg'
      simp only [Option.some.injEq, Obj.cells.injEq] at hg'
      exact he hg'.2.1.symm

/-- These cells are those of the records from i on, and each has its data in blocks of bytes. -/
def Dt (W : World) (P : Nat → Int) (D : Nat → List Nat) : Nat → List (Int × Option Addr × Nat × Nat) → Prop
  | _, [] => True
  | i, r :: l => (r.1 = P i ∧ Rd W r.2.1 r.2.2.1 r.2.2.2 (D i) ∧ T5 W r.2.1) ∧ Dt W P D (i + 1) l

theorem Dt.five {W W' : World} {P : Nat → Int} {D : Nat → List Nat} {l : List (Int × Option Addr × Nat × Nat)} (k : Five W W') : ∀ {i}, Dt W P D i l → Dt W' P D i l := by
  induction l with
  | nil => intro i _; trivial
  | cons r l ih =>
    intro i h
    exact ⟨⟨h.1.1, h.1.2.1.five h.1.2.2 k, h.1.2.2.five k⟩, ih h.2⟩

theorem Dt.snoc {W : World} {P : Nat → Int} {D : Nat → List Nat} {l : List (Int × Option Addr × Nat × Nat)} {r : Int × Option Addr × Nat × Nat} : ∀ {i}, Dt W P D i l → (r.1 = P (i + l.length) ∧ Rd W r.2.1 r.2.2.1 r.2.2.2 (D (i + l.length)) ∧ T5 W r.2.1) → Dt W P D i (l ++ [r]) := by
  induction l with
  | nil => intro i _ h; exact ⟨h, trivial⟩
  | cons a l ih =>
    intro i h hr
    refine ⟨h.1, ih h.2 ?_⟩
    rw [show i + 1 + l.length = i + (a :: l).length by simp; omega]
    exact hr

theorem Dt.dat {W : World} {P : Nat → Int} {D : Nat → List Nat} {l : List (Int × Option Addr × Nat × Nat)} : ∀ {i}, Dt W P D i l → Dat W P D i l := by
  induction l with
  | nil => intro i _; trivial
  | cons r l ih => intro i h; exact ⟨⟨h.1.1, h.1.2.1⟩, ih h.2⟩

set_option maxHeartbeats 1000000 in
theorem rparse_err (ao : Option Addr) (n cap : Nat) (xs : List Nat) (w : World) (h : Rd w ao n cap xs) (hx : ∀ x ∈ xs, x < 256) (hn2 : n ≤ 140737488355328) (he : (rdH xs).2 ≠ 0) :
    Calls Tryd.prog 27 #[.slice ao n cap] w (JIs xs w) := by
  have eJ : rdJ xs = ((0, 0, 0), 0, (rdH xs).2) := by unfold rdJ; rw [if_pos he]
  unfold JIs
  rw [eJ]
  have A0 : Below w.heap.size w (w.alloc (.cells #[.int .i64 0, .int .i64 0, .int .u64 0] 29)) := Below.alloc (Below.refl _ _) (Nat.le_refl _) _
  have c := hid (rrhead_all ao n cap xs _ (h.keep A0) hx hn2)
  have z0 := hid (HB.new 29 w 0 0 0)
  generalize rdH xs = r at *
  obtain ⟨⟨c1, p1, n1⟩, er⟩ := r
  simp only at c he ⊢
  have hne : (er != 0) = true := by simp [he]
  have hne2 : (er == 0) = false := by simp [he]
  have A0' := hid A0
  clear he h hx A0 eJ
  go_enter Tryd.func27, Tryd.ntmps27
  go_wp2_with (go_at_call 22; refine c.out.mono ?_; rintro e w1 ⟨rfl, hb1⟩; have z1 := hid (z0.out.keep hb1); have B1 := hid (gt A0'.out hb1); clear hb1; obtain ⟨q0, q1, q2, f0, f1, f2⟩ := z1.out.cells; have hlt := z1.out.lt; have hne1 : ¬ w.heap.size = w1.heap.size := (by omega))
  (try simp only [Exit.inBlock, Exit.then])
  refine bodyPost_ret (ret_head3 rfl agg29 size29 rfl ((HB.set z1.out 0 0 0).keep (Below.alloc (Below.refl _ _) (Nat.le_refl _) _))) rfl ?_
  exact ⟨none, 0, rfl, recs_none _ _ _, Below.alloc (box_set B1.out) (by simp; exact B1.out.size) _⟩

set_option maxHeartbeats 1000000 in
theorem rparse_short (ao : Option Addr) (n cap : Nat) (xs : List Nat) (w : World) (h : Rd w ao n cap xs) (hx : ∀ x ∈ xs, x < 256) (hn2 : n ≤ 140737488355328) (he : (rdH xs).2 = 0) (hc4 : hC xs ≤ 4000) (hl : xs.length < (1 + hC xs * 5) * 128) :
    Calls Tryd.prog 27 #[.slice ao n cap] w (JIs xs w) := by
  have eJ : rdJ xs = ((0, 0, 0), 0, 9) := by unfold rdJ; rw [if_neg (by simp [he]), if_pos hl]
  have eH : rdH xs = ((hC xs, hP xs, hN xs), 0) := by
    have hh := (rdH_err xs).1 he
    unfold hotN at hh
    simp only [Bool.and_eq_true, decide_eq_true_eq] at hh
    unfold rdH
    rw [if_neg (by omega), if_pos hh.2]
  unfold JIs
  rw [eJ]
  have A0 : Below w.heap.size w (w.alloc (.cells #[.int .i64 0, .int .i64 0, .int .u64 0] 29)) := Below.alloc (Below.refl _ _) (Nat.le_refl _) _
  have c := hid (rrhead_all ao n cap xs _ (h.keep A0) hx hn2)
  rw [eH] at c
  simp only at c
  have hn := h.1
  generalize hC xs = C at *
  generalize hP xs = P at *
  generalize hN xs = M at *
  have z0 := hid (HB.new 29 w 0 0 0)
  have A0' := hid A0
  have cs := hid (rsectors_any (C : Int))
  obtain ⟨K, hK⟩ : ∃ K : Nat, secN (C : Int) = (K : Int) ∧ K = 1 + C * 5 := ⟨1 + C * 5, by unfold secN; omega, rfl⟩
  rw [hK.1] at cs
  have hKb : K ≤ 20001 := by omega
  have hlt : (n : Int) < 128 * (K : Int) := by omega
  clear h hx A0 eJ eH hK hl he
  go_enter Tryd.func27, Tryd.ntmps27
  go_wp2_with (first
    | (go_at_call 22; refine c.out.mono ?_; rintro e w1 ⟨rfl, hb1⟩; have z1 := hid (z0.out.keep hb1); have B1 := hid (gt A0'.out hb1); clear hb1; obtain ⟨q0, q1, q2, f0, f1, f2⟩ := z1.out.cells; have hlt := z1.out.lt; have hne1 : ¬ w.heap.size = w1.heap.size := (by omega))
    | (go_at_call 20; refine (cs.out _).mono ?_; rintro e w2 ⟨rfl, hw2⟩; obtain rfl := hw2.symm))
  (try simp only [Exit.inBlock, Exit.then])
  refine bodyPost_ret (ret_head3 rfl agg29 size29 rfl ((HB.set z1.out 0 0 0).keep (Below.alloc (Below.refl _ _) (Nat.le_refl _) _))) rfl ?_
  exact ⟨none, 0, rfl, recs_none _ _ _, Below.alloc (box_set B1.out) (by simp; exact B1.out.size) _⟩

end Go.Proofs.YtndlogjmnbgegaaDoor
