/- The law WideTimes returns true and turns nothing that was there, whatever it is called with; the walk alone. -/
import Derived.Test.YtfjepmhlkelinaaRc
namespace Go.Proofs.Ytfjepmhlkelinaa
open Go.RowKit

set_option maxHeartbeats 1000000 in
theorem times_law (a b : Nat) (x y : Int) (w : World) (ha : a < 18446744073709551616) (hb : b < 18446744073709551616) (hx : -9223372036854775808 ≤ x) (hx' : x ≤ 9223372036854775807) (hy : -9223372036854775808 ≤ y) (hy' : y ≤ 9223372036854775807) :
    Calls Try.prog 4 #[.agg #[.int .u64 a, .int .u64 b], .int .i64 x, .int .i64 y] w fun e w' => e = .returned (.bool true) ∧ Below w.heap.size w w' := by
  have t1 := hid (fun w => times_any a b ha hb w)
  have t2 := hid (fun w => rtimes_any a b ha hb w)
  have u1 := hid (fun w => u_any (W0 (a * b)) (W1 (a * b)) (W2 (a * b)) w)
  have s1 := hid (fun w => span_any x y w hx hx' hy hy')
  have s2 := hid (fun w => rspan_any x y w hx hx' hy hy')
  have o0 := fun w => of_any a ha w
  obtain ⟨e0, e1, e2⟩ := W_small a ha
  rw [e0, e1, e2] at o0
  have o1 := hid o0
  generalize a * b = M at *
  generalize spanN x y = S at *
  have q1 := eqU 23 Try.underlying23 (W0 M) (W1 M) (W2 M) (W0 M) (W1 M) (W2 M)
  rw [show (W0 M == W0 M && W1 M == W1 M && W2 M == W2 M) = true by simp] at q1
  have q2 := eqU 24 Try.underlying24 a 0 0 a 0 0
  rw [show ((a : Int) == a && (0 : Int) == 0 && (0 : Int) == 0) = true by simp] at q2
  clear o0 e0 e1 e2 ha hb hx hx' hy hy'
  go_enter Try.func4, Try.ntmps4
  go_wp2
  go_quiet (fail)
  go_wp2_with fail
  refine (t1.out _).mono ?_; rintro e w1 ⟨rfl, hb1⟩
  go_wp2_with fail
  refine (u1.out _).mono ?_; rintro e w2 ⟨rfl, hb2⟩
  go_wp2_with fail
  refine (t2.out _).mono ?_; rintro e w3 ⟨rfl, hb3⟩
  go_wp2_with fail
  refine (s1.out _).mono ?_; rintro e w' ⟨rfl, rfl⟩
  go_wp2_with fail
  refine (s2.out _).mono ?_; rintro e w' ⟨rfl, rfl⟩
  go_wp2_with fail
  refine (o1.out _).mono ?_; rintro e w4 ⟨rfl, hb4⟩
  go_wp2_with fail
  refine (lives_any _).mono ?_; rintro e w5 ⟨rfl, hb5⟩
  go_wp2
  go_ret
  exact ⟨rfl, gt (gt (gt (gt (gt (below_drewN ((Below.refl _ w).alloc (Nat.le_refl _) _) _) hb1) hb2) hb3) hb4) hb5⟩
end Go.Proofs.Ytfjepmhlkelinaa
