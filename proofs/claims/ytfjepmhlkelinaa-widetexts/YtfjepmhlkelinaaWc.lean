/- What Cmp, Sub and Bits do, as contracts over numbers below 2^192; no statement of the seat is proved here. -/
import Derived.Test.YtfjepmhlkelinaaWb
import Derived.Deep.DeepMust
namespace Go.Proofs.Ytfjepmhlkelinaa
open Go.RowKit

theorem quiet_plus {f : FuncId} {args : Array Value} {v : Value} {w : World} {a n : Nat} (h : Calls Try.prog f args (w.drewN (a + n)) fun e w' => e = .returned v ∧ w' = w.drewN (a + n)) :
    Calls Try.prog f args (w.drewN (a + n)) fun e w' => e = .returned v ∧ ∃ m, w' = w.drewN (a + m) :=
  h.mono fun _ _ ⟨he, hm⟩ => ⟨he, n, hm⟩

set_option maxHeartbeats 1000000 in
theorem cmp_same (a0 a1 a2 : Int) (w : World) :
    Calls Try.prog 13 #[.agg #[.int .u64 a0, .int .u64 a1, .int .u64 a2], .agg #[.int .u64 a0, .int .u64 a1, .int .u64 a2]] w fun e w' => e = .returned (.int .i64 0) ∧ Below w.heap.size w w' := by
  have heq := eqU 24 Try.underlying24 a0 a1 a2 a0 a1 a2
  rw [show (a0 == a0 && a1 == a1 && a2 == a2) = true by simp] at heq
  go_enter Try.func13, Try.ntmps13
  go_wp2
  go_ret
  exact ⟨rfl, (by repeat (first | with_reducible exact Below.refl _ _ | with_reducible assumption | with_reducible refine Below.drew ?_ | with_reducible refine below_drewN ?_ _ | with_reducible refine Below.alloc ?_ (by simp <;> omega) _ | with_reducible refine Below.setCell ?_ (by simp <;> omega) _))⟩

set_option maxHeartbeats 1000000 in
theorem cmp_2 (a0 a1 a2 b0 b1 b2 r : Int) (w : World) (hn : (a2 == b2) = false) (hr : Hid ((a2 < b2 ∧ r = -1) ∨ (a2 = b2 ∧ r = 0) ∨ (b2 < a2 ∧ r = 1))) :
    Calls Try.prog 13 #[.agg #[.int .u64 a0, .int .u64 a1, .int .u64 a2], .agg #[.int .u64 b0, .int .u64 b1, .int .u64 b2]] w fun e w' => e = .returned (.int .i64 r) ∧ Below w.heap.size w w' := by
  have heq := eqU 24 Try.underlying24 a0 a1 a2 b0 b1 b2
  rw [show (a0 == b0 && a1 == b1 && a2 == b2) = false by simp [hn]] at heq
  go_enter Try.func13, Try.ntmps13
  go_wp2
  refine wp_loop_rounds 1 ?_
  rw [rounds_succ]
  go_wp2
  go_quiet (fail)
  go_wp2
  go_quiet ((go_at_call 31; exact quiet_plus (compare_any a2 b2 r _ hr)))
  go_wp2
  go_ret
  exact ⟨rfl, (by repeat (first | with_reducible exact Below.refl _ _ | with_reducible assumption | with_reducible refine Below.drew ?_ | with_reducible refine below_drewN ?_ _ | with_reducible refine Below.alloc ?_ (by simp <;> omega) _ | with_reducible refine Below.setCell ?_ (by simp <;> omega) _))⟩

set_option maxHeartbeats 1000000 in
theorem cmp_1 (a0 a1 a2 b0 b1 r : Int) (w : World) (hn : (a1 == b1) = false) (hr : Hid ((a1 < b1 ∧ r = -1) ∨ (a1 = b1 ∧ r = 0) ∨ (b1 < a1 ∧ r = 1))) :
    Calls Try.prog 13 #[.agg #[.int .u64 a0, .int .u64 a1, .int .u64 a2], .agg #[.int .u64 b0, .int .u64 b1, .int .u64 a2]] w fun e w' => e = .returned (.int .i64 r) ∧ Below w.heap.size w w' := by
  have heq := eqU 24 Try.underlying24 a0 a1 a2 b0 b1 a2
  rw [show (a0 == b0 && a1 == b1 && a2 == a2) = false by simp [hn]] at heq
  go_enter Try.func13, Try.ntmps13
  go_wp2
  refine wp_loop_rounds 2 ?_
  rw [rounds_succ]
  go_wp2
  go_quiet (fail)
  go_wp2
  rw [rounds_succ]
  go_wp2
  go_quiet (fail)
  go_wp2
  go_quiet ((go_at_call 31; exact quiet_plus (compare_any a1 b1 r _ hr)))
  go_wp2
  go_ret
  exact ⟨rfl, (by repeat (first | with_reducible exact Below.refl _ _ | with_reducible assumption | with_reducible refine Below.drew ?_ | with_reducible refine below_drewN ?_ _ | with_reducible refine Below.alloc ?_ (by simp <;> omega) _ | with_reducible refine Below.setCell ?_ (by simp <;> omega) _))⟩

set_option maxHeartbeats 1000000 in
theorem cmp_0 (a0 a1 a2 b0 r : Int) (w : World) (hn : (a0 == b0) = false) (hr : Hid ((a0 < b0 ∧ r = -1) ∨ (a0 = b0 ∧ r = 0) ∨ (b0 < a0 ∧ r = 1))) :
    Calls Try.prog 13 #[.agg #[.int .u64 a0, .int .u64 a1, .int .u64 a2], .agg #[.int .u64 b0, .int .u64 a1, .int .u64 a2]] w fun e w' => e = .returned (.int .i64 r) ∧ Below w.heap.size w w' := by
  have heq := eqU 24 Try.underlying24 a0 a1 a2 b0 a1 a2
  rw [show (a0 == b0 && a1 == a1 && a2 == a2) = false by simp [hn]] at heq
  go_enter Try.func13, Try.ntmps13
  go_wp2
  refine wp_loop_rounds 3 ?_
  rw [rounds_succ]
  go_wp2
  go_quiet (fail)
  go_wp2
  rw [rounds_succ]
  go_wp2
  go_quiet (fail)
  go_wp2
  rw [rounds_succ]
  go_wp2
  go_quiet (fail)
  go_wp2
  go_quiet ((go_at_call 31; exact quiet_plus (compare_any a0 b0 r _ hr)))
  go_wp2
  go_ret
  exact ⟨rfl, (by repeat (first | with_reducible exact Below.refl _ _ | with_reducible assumption | with_reducible refine Below.drew ?_ | with_reducible refine below_drewN ?_ _ | with_reducible refine Below.alloc ?_ (by simp <;> omega) _ | with_reducible refine Below.setCell ?_ (by simp <;> omega) _))⟩

theorem cmp_any (m n : Nat) (hm : m < 6277101735386680763835789423207666416102355444464034512896) (hn : n < 6277101735386680763835789423207666416102355444464034512896) (w : World) :
    Calls Try.prog 13 #[.agg #[.int .u64 (W0 (m)), .int .u64 (W1 (m)), .int .u64 (W2 (m))], .agg #[.int .u64 (W0 (n)), .int .u64 (W1 (n)), .int .u64 (W2 (n))]] w fun e w' => e = .returned (.int .i64 (cmpN m n)) ∧ Below w.heap.size w w' := by
  have em := W_val m hm; have en := W_val n hn
  have := W0_bd m; have := W1_bd m; have := W0_bd n; have := W1_bd n
  by_cases h2 : W2 m = W2 n
  · by_cases h1 : W1 m = W1 n
    · by_cases h0 : W0 m = W0 n
      · obtain rfl := W_inj m n hm hn h0 h1 h2
        rw [show cmpN m m = 0 by simp [cmpN]]
        exact cmp_same _ _ _ w
      · rw [← h1, ← h2]
        refine cmp_0 _ _ _ _ _ w (by simp [h0]) ?_
        unfold Hid cmpN; split <;> (try split) <;> omega
    · rw [← h2]
      refine cmp_1 _ _ _ _ _ _ w (by simp [h1]) ?_
      unfold Hid cmpN; split <;> (try split) <;> omega
  · refine cmp_2 _ _ _ _ _ _ _ w (by simp [h2]) ?_
    unfold Hid cmpN; split <;> (try split) <;> omega

end Go.Proofs.Ytfjepmhlkelinaa
