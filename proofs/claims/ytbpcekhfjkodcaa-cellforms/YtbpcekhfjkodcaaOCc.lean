/- What Read, Num, Var, End and Left do with a source that is in order; no statement of the seat is proved here. -/
import Derived.Test.YtbpcekhfjkodcaaOCb
namespace Go.Proofs.Ytbpcekhfjkodcaa
open Go.RowKit

set_option maxHeartbeats 1000000 in
theorem num_ok (p : Nat) (xs : List Nat) (l : Bool) (W : World) (h : SrcAt W p xs) (hx : ∀ x ∈ xs, x < 256) (h8 : 8 ≤ xs.length) :
    Calls Try.prog 51 #[.pointer (some ⟨p, 0, none⟩), .int .i64 8, .bool l] W fun e w' => e = .returned (.int .u64 (psum xs 8 l 8 : Nat)) ∧ SrcAt w' p (xs.drop 8) ∧ W.grownBy w' (some p) := by
  have c26 := hid (err_ok p xs W h)
  have c27 := hid (sized_any 8)
  rw [show (decide ((1 : Int) ≤ 8) && decide ((8 : Int) ≤ 8)) = true by decide] at c27
  have c28 := hid (gather_src p xs hx 8 l h8 (by omega) (On W p xs) (fun k W' hS hk => on_more W p xs k W' hS hk) W ⟨by simpa using h, World.grownBy.refl _ _⟩)
  obtain ⟨b, off, n, cap, hp, hr, hn, h5⟩ := h
  obtain ⟨s0, s1, s2, f1, f2⟩ := src_cells hp
  have hl := hr.1
  have hn8 : ¬ (n : Int) < 8 := by omega
  generalize psum xs 8 l 8 = R at *
  clear hp hr h5 hx hl h8
  go_enter Try.func51, Try.ntmps51
  go_wp2_with (first | (go_at_call 58; refine c26.out.mono ?_; rintro e w1 ⟨rfl, rfl⟩) | (go_at_call 72; refine (c27.out _).mono ?_; rintro e w2 ⟨rfl, hw2⟩; obtain rfl := hw2.symm) | (go_at_call 73; refine c28.out.mono ?_; rintro e w3 ⟨rfl, hS⟩; replace hS := hid hS))
  go_ret
  exact ⟨rfl, hS.out.1, hS.out.2⟩

set_option maxHeartbeats 1000000 in
theorem var_ok (p : Nat) (xs : List Nat) (v most : Nat) (W : World) (h : SrcAt W p xs) (hx : ∀ x ∈ xs, x < 256) (hv : asm 0 8 xs = (v, szN v)) (hm : v ≤ most) :
    Calls Try.prog 52 #[.pointer (some ⟨p, 0, none⟩), .int .u64 (most : Int)] W fun e w' => e = .returned (.int .u64 (v : Int)) ∧ SrcAt w' p (xs.drop (szN v)) ∧ W.grownBy w' (some p) := by
  have c26 := hid (err_ok p xs W h)
  have c30 := hid (asm_src p xs hx (On W p xs) (fun k W' hS hk => on_more W p xs k W' hS hk) (fun W' hS => on_end W p xs W' hS) W ⟨by simpa using h, World.grownBy.refl _ _⟩)
  have hb := (asm_bound 8 0 xs hx (by omega) (by simp)).1
  rw [hv] at c30 hb
  simp only at c30 hb
  have c16 := hid (size_any v hb)
  have hz := (szN_le v).1
  generalize szN v = z at *
  have hz0 : ((z : Int) == 0) = false := by simp; omega
  have hm' : ¬ (most : Int) < (v : Int) := by omega
  have hz1 : z ≠ 0 := by omega
  have hz2 := hid hz1
  clear hv hx h hb hz1
  go_enter Try.func52, Try.ntmps52
  go_wp2_with (first | (go_at_call 58; refine c26.out.mono ?_; rintro e w1 ⟨rfl, rfl⟩) | (go_at_call 75; refine c30.out.mono ?_; rintro e w2 ⟨rfl, k, hS, hk⟩; replace hS := hid hS; replace hk := hid hk) | (go_at_call 68; refine (c16.out _).mono ?_; rintro e w3 ⟨rfl, hw3⟩; obtain rfl := hw3.symm))
  go_ret
  rw [hk.out hz2.out] at hS
  exact ⟨rfl, hS.out.1, hS.out.2⟩

theorem own_t5 {w : World} {B g n cap m : Nat} {xs : List Value} (h : w.ownsRow B 5 1 (.slice (some ⟨g, 0, none⟩) n cap) m xs) : T5 w g := by
  rcases h.2 with ⟨h', _⟩ | ⟨g', cap', cur, h', _, hg, _⟩
  · cases h'
  · simp only [Value.slice.injEq, Option.some.injEq, Addr.mk.injEq, and_true] at h'
    obtain ⟨rfl, _⟩ := h'
    exact ⟨cur, _, hg⟩

set_option maxHeartbeats 400000 in
theorem read_ok (ao : Option Addr) (n cap : Nat) (xs : List Nat) (w : World) (h : Rd w ao n cap xs) (hn : n ≤ 140737488355328) :
    Calls Try.prog 50 #[.slice ao n cap] w fun e w' => ∃ p, e = .returned (.pointer (some ⟨p, 0, none⟩)) ∧ w.heap.size ≤ p ∧ SrcAt w' p xs ∧ Below w.heap.size w w' := by
  have cw : Hid (Calls Try.prog 70 #[.slice ao n cap, .int .i64 0] w fun e w' => e = .returned (.slice (some ⟨w.heap.size, 0, none⟩) n n) ∧
      w'.ownsRow w.heap.size 5 1 (.slice (some ⟨w.heap.size, 0, none⟩) n n) n (bs xs) ∧ Below w.heap.size w w') := hid (by simpa using widened_any ao n cap 0 xs w h (by omega))
  clear h
  go_enter Try.func50, Try.ntmps50
  go_wp2_with (go_at_call 70; refine cw.out.mono ?_; rintro e w1 ⟨rfl, ho1, hb1⟩)
  go_ret
  exact ⟨w1.heap.size, rfl, hb1.size, ⟨_, _, _, _, heap_alloc_new w1 _, (rd_own ho1).keep (Below.alloc (Below.refl _ _) (Nat.le_refl _) _), by omega, (own_t5 ho1).keep (Below.alloc (Below.refl _ _) (Nat.le_refl _) _)⟩, Below.alloc hb1 hb1.size _⟩

end Go.Proofs.Ytbpcekhfjkodcaa
