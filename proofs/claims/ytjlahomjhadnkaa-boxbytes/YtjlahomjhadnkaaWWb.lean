/- What the functions Sub, Cmp, Bits, Div64 by ten and cutDigit do, as contracts over numbers below 2^192; no statement of the seat is proved here. -/
import Derived.Test.YtjlahomjhadnkaaWWa
import Derived.Test.YtjlahomjhadnkaaWLen
import Derived.BigQuiet
import Derived.Deep.QuietTactic
namespace Go.Proofs.Ytjlahomjhadnkaa
namespace Wid
open Go.RowKit

set_option maxRecDepth 100000 in
theorem eqU (t : TypeId) (ht : Try.prog.underlying t = some (.array 3 26)) (a0 a1 a2 b0 b1 b2 : Int) (w : World) :
    (Op.equalIn 10000 t (.agg #[.int .u64 a0, .int .u64 a1, .int .u64 a2]) (.agg #[.int .u64 b0, .int .u64 b1, .int .u64 b2])).run Try.prog w = .ok (a0 == b0 && a1 == b1 && a2 == b2) w := by
  have hsz : ∀ w, (sizeOf 26).run Try.prog w = .ok 1 w := fun w => by kernel_rfl
  have p0 : ∀ (x y z : Int) (w : World), (part 26 #[.int .u64 x, .int .u64 y, .int .u64 z] 0).run Try.prog w = .ok (.int .u64 x) w := fun x y z w => by kernel_rfl
  have p1 : ∀ (x y z : Int) (w : World), (part 26 #[.int .u64 x, .int .u64 y, .int .u64 z] 1).run Try.prog w = .ok (.int .u64 y) w := fun x y z w => by kernel_rfl
  have p2 : ∀ (x y z : Int) (w : World), (part 26 #[.int .u64 x, .int .u64 y, .int .u64 z] 2).run Try.prog w = .ok (.int .u64 z) w := fun x y z w => by kernel_rfl
  have pe : ∀ (x y : Int) (w : World), (Op.equalIn 9999 26 (.int .u64 x) (.int .u64 y)).run Try.prog w = .ok (x == y) w := fun x y w => run_equalIn_int w 9998 26 .u64 .u64 x y Try.underlying26
  rw [show (10000 : Nat) = 9999 + 1 from rfl, Op.equalIn]
  simp only [Sem.run_bind, run_underlying ht, Result.andThen_ok, hsz, Std.Legacy.Range.forIn_eq_forIn_range', Std.Legacy.Range.size, Nat.sub_zero, Nat.add_sub_cancel, Nat.div_one, List.range', List.forIn_cons, Nat.zero_mul, Nat.zero_add, Nat.reduceAdd, Nat.reduceMul, p0, pe]
  cases h0 : (a0 == b0) <;> cases h1 : (a1 == b1) <;> cases h2 : (a2 == b2) <;> simp [p1, p2, pe, h1, h2]

set_option maxRecDepth 100000 in
theorem ret2 {k k' : IntKind} {a b a' b' : Int} (h : a = a') (h' : b = b') : Ending.returned (.tuple #[.int k a, .int k' b]) = Ending.returned (.tuple #[.int k a', .int k' b']) := by rw [h, h']

set_option maxRecDepth 100000 in
set_option maxHeartbeats 400000 in
theorem lead10 (w : World) : Calls Try.prog 92 #[.int .u64 10] w fun e w' => e = .returned (.int .i64 60) ∧ w' = w := by
  go_enter Try.func92, Try.ntmps92
  go_wp2_with (go_at_call 95; refine (len64_any 10 _ (by omega) (by omega)).mono ?_; rw [show Lib.bitLen (10 : Int).toNat = 4 by decide]; rintro e w' ⟨rfl, rfl⟩)
  go_ret
  exact ⟨rfl, rfl⟩

set_option maxRecDepth 100000 in
set_option maxHeartbeats 1000000 in
theorem div10_small (lo : Nat) (w : World) (hl : lo < 18446744073709551616) :
    Calls Try.prog 79 #[.int .u64 0, .int .u64 lo, .int .u64 10] w fun e w' => e = .returned (.tuple #[.int .u64 ((lo / 10 : Nat) : Int), .int .u64 ((lo % 10 : Nat) : Int)]) ∧ w' = w.drew := by
  go_enter Try.func79, Try.ntmps79
  go_wp2
  go_region
  go_wp2
  go_ret2
  exact ⟨rfl, rfl⟩

set_option maxRecDepth 100000 in
theorem or_hi (hi lo : Nat) (hh : hi < 10) (hl : lo < 18446744073709551616) : bits .or .u64 ((hi : Int) * 1152921504606846976) ((lo : Int) / 16) = (hi : Int) * 1152921504606846976 + (lo : Int) / 16 := by
  have h := bits_or_u64_nat (hi * 1152921504606846976) (lo / 16) (by omega) (by omega)
  rw [show hi * 1152921504606846976 ||| lo / 16 = hi * 1152921504606846976 + lo / 16 from by
    have e := Nat.two_pow_add_eq_or_of_lt (i := 60) (b := lo / 16) (by omega) hi
    rw [show (2 : Nat) ^ 60 = 1152921504606846976 from rfl] at e
    rw [Nat.mul_comm]; exact e.symm] at h
  rw [show ((hi : Int) * 1152921504606846976) = ((hi * 1152921504606846976 : Nat) : Int) by omega, show ((lo : Int) / 16) = ((lo / 16 : Nat) : Int) by omega, h]
  omega
set_option maxRecDepth 100000 in
theorem and_zero (k : Nat) (hk : k < 16) : bits .and .u64 ((k : Int) * 1152921504606846976) 4294967295 = 0 := by
  have h := mask32 (k * 1152921504606846976) (by omega)
  rw [show ((k : Int) * 1152921504606846976) = ((k * 1152921504606846976 : Nat) : Int) by omega, h]
  omega

set_option maxRecDepth 100000 in
set_option maxHeartbeats 1000000 in
theorem div10_any (hi lo : Nat) (w : World) (h0 : 0 < hi) (hh : hi < 10) (hl : lo < 18446744073709551616) :
    Calls Try.prog 79 #[.int .u64 hi, .int .u64 lo, .int .u64 10] w fun e w' => e = .returned (.tuple #[.int .u64 (((hi * 18446744073709551616 + lo) / 10 : Nat) : Int), .int .u64 (((hi * 18446744073709551616 + lo) % 10 : Nat) : Int)]) ∧ w' = w := by
  have e1 : bits .and .u64 11529215046068469760 4294967295 = 0 := and_zero 10 (by omega)
  obtain ⟨v, hv, ev⟩ : ∃ v : Int, v = (hi : Int) * 1152921504606846976 + (lo : Int) / 16 ∧ bits .or .u64 ((hi : Int) * 1152921504606846976) ((lo : Int) / 16) = v := ⟨_, rfl, or_hi hi lo hh hl⟩
  obtain ⟨t, ht, et⟩ : ∃ t : Int, t = ((lo % 16 : Nat) : Int) * 1152921504606846976 ∧ IntKind.u64.wrap ((lo : Int) * 1152921504606846976) = t := ⟨_, rfl, by rw [u64w]; omega⟩
  have e3 : bits .and .u64 t 4294967295 = 0 := by rw [ht]; exact and_zero (lo % 16) (by omega)
  obtain ⟨q, hq⟩ : ∃ q : Int, q = v / 2684354560 := ⟨_, rfl⟩
  obtain ⟨u, hu⟩ : ∃ u : Int, u = (v - q * 2684354560) * 4294967296 + t / 4294967296 := ⟨_, rfl⟩
  obtain ⟨z, hz⟩ : ∃ z : Int, z = u / 2684354560 := ⟨_, rfl⟩
  have f1 : IntKind.u64.wrap (v.tdiv 2684354560) = q := by rw [u64w, Int.tdiv_eq_ediv_of_nonneg (by omega)]; omega
  have f2 : IntKind.u64.wrap (q * 2684354560) = q * 2684354560 := by rw [u64w]; omega
  have f3 : IntKind.u64.wrap (v - q * 2684354560) = v - q * 2684354560 := by rw [u64w]; omega
  have g1 : decide (IntKind.u64.wrap (IntKind.u64.wrap (4294967296 * (v - q * 2684354560)) + t / 4294967296) < 0) = false := by simp only [u64w, decide_eq_false_iff_not]; omega
  have f4 : IntKind.u64.wrap (IntKind.u64.wrap (IntKind.u64.wrap (v * 4294967296) + t / 4294967296) - IntKind.u64.wrap (q * 11529215046068469760)) = u := by simp only [u64w]; omega
  have f5 : IntKind.u64.wrap (u.tdiv 2684354560) = z := by rw [u64w, Int.tdiv_eq_ediv_of_nonneg (by omega)]; omega
  have f6 : IntKind.u64.wrap (z * 2684354560) = z * 2684354560 := by rw [u64w]; omega
  have f7 : IntKind.u64.wrap (u - z * 2684354560) = u - z * 2684354560 := by rw [u64w]; omega
  have g3 : decide (IntKind.u64.wrap (4294967296 * (u - z * 2684354560)) < 0) = false := by simp only [u64w, decide_eq_false_iff_not]; omega
  have g4 : decide (IntKind.u64.wrap (IntKind.u64.wrap (4294967296 * (u - z * 2684354560))) < 0) = false := by simp only [u64w, decide_eq_false_iff_not]; omega
  have HV : Hid (v = (hi : Int) * 1152921504606846976 + (lo : Int) / 16) := hv
  have HT : Hid (t = ((lo % 16 : Nat) : Int) * 1152921504606846976) := ht
  have HQ : Hid (q = v / 2684354560) := hq
  have HU : Hid (u = (v - q * 2684354560) * 4294967296 + t / 4294967296) := hu
  have HZ : Hid (z = u / 2684354560) := hz
  have q0 : 0 ≤ q := by omega
  have q1 : q < 4294967296 := by omega
  have z0 : 0 ≤ z := by omega
  have z1 : z < 4294967296 := by omega
  have hhi : ¬ (10 : Int) ≤ hi := by omega
  have gq : decide (4294967296 ≤ q) = false := by simpa using q1
  have gz : decide (4294967296 ≤ z) = false := by simpa using z1
  clear hv ht hq hu hz
  go_enter Try.func79, Try.ntmps79
  go_wp2_with (go_at_call 92; refine (lead10 _).mono ?_; rintro e w' ⟨rfl, rfl⟩)
  refine wp_loop_rounds 1 ?_
  rw [rounds_succ]
  go_wp2
  refine wp_loop_rounds 1 ?_
  rw [rounds_succ]
  go_wp2
  go_ret2
  refine ⟨ret2 ?_ ?_, rfl⟩
  · have := HV.out; have := HT.out; have := HQ.out; have := HU.out; have := HZ.out
    omega
  · have := HV.out; have := HT.out; have := HQ.out; have := HU.out; have := HZ.out
    simp only [u64w]
    omega

set_option maxRecDepth 100000 in
theorem div10 (hi lo : Nat) (w : World) (hh : hi < 10) (hl : lo < 18446744073709551616) :
    Calls Try.prog 79 #[.int .u64 hi, .int .u64 lo, .int .u64 10] w fun e w' => e = .returned (.tuple #[.int .u64 (((hi * 18446744073709551616 + lo) / 10 : Nat) : Int), .int .u64 (((hi * 18446744073709551616 + lo) % 10 : Nat) : Int)]) ∧ ∃ n, w' = w.drewN n := by
  by_cases h : hi = 0
  · subst h
    refine (div10_small lo w hl).mono ?_
    rintro e w' ⟨rfl, rfl⟩
    exact ⟨by simp, 1, rfl⟩
  · refine (div10_any hi lo w (by omega) hh hl).mono ?_
    rintro e w' ⟨rfl, rfl⟩
    exact ⟨rfl, 0, rfl⟩

set_option maxRecDepth 100000 in
theorem div10_v (hi lo : Int) (hh : 0 ≤ hi ∧ hi ≤ 9) (hl : 0 ≤ lo ∧ lo < 18446744073709551616) :
    ∃ q r : Int, (∀ w, Calls Try.prog 79 #[.int .u64 hi, .int .u64 lo, .int .u64 10] w fun e w' => e = .returned (.tuple #[.int .u64 q, .int .u64 r]) ∧ ∃ n, w' = w.drewN n) ∧
      (0 ≤ q ∧ q < 18446744073709551616) ∧ (0 ≤ r ∧ r ≤ 9) ∧ q * 10 + r = hi * 18446744073709551616 + lo := by
  obtain ⟨x, rfl⟩ := Int.eq_ofNat_of_zero_le hh.1
  obtain ⟨y, rfl⟩ := Int.eq_ofNat_of_zero_le hl.1
  exact ⟨_, _, fun w => div10 x y w (by omega) (by omega), by omega, by omega, by omega⟩

set_option maxRecDepth 100000 in
set_option maxHeartbeats 1000000 in
theorem cut_any (n : Nat) (hn : n < 6277101735386680763835789423207666416102355444464034512896) (w : World) :
    Calls Try.prog 70 #[.agg #[.int .u64 (W0 (n)), .int .u64 (W1 (n)), .int .u64 (W2 (n))]] w fun e w' => e = .returned (.tuple #[.agg #[.int .u64 (W0 (n / 10)), .int .u64 (W1 (n / 10)), .int .u64 (W2 (n / 10))], .int .u64 ((n % 10 : Nat) : Int)]) ∧ Below w.heap.size w w' := by
  have h0 := W0_bd n; have h1 := W1_bd n; have h2 := W2_bd n; have hv := W_val n hn
  generalize W0 n = a at *
  generalize W1 n = b at *
  generalize W2 n = c at *
  obtain ⟨q2, r2, c2, b2, d2, i2⟩ := div10_v 0 c (by omega) h2
  obtain ⟨q1, r1, c1, b1, d1, i1⟩ := div10_v r2 b d2 h1
  obtain ⟨q0, r0, c0, b0, d0, i0⟩ := div10_v r1 a d1 h0
  obtain ⟨e0, e1, e2⟩ := W_of (n / 10) q0 q1 q2 b0.1 b0.2 b1.1 b1.2 b2.1 b2.2 (by omega)
  rw [← e0, ← e1, ← e2, show ((n % 10 : Nat) : Int) = r0 by omega]
  have C2 : Hid _ := c2; have C1 : Hid _ := c1; have C0 : Hid _ := c0
  clear e0 e1 e2 hv c0 c1 c2 i0 i1 i2
  go_enter Try.func70, Try.ntmps70
  go_wp2
  refine wp_loop_rounds 4 ?_
  rw [rounds_succ]
  go_wp2_with (go_at_call 79; refine (C2.out _).mono ?_; rintro e w' ⟨rfl, k1, rfl⟩)
  rw [rounds_succ]
  go_wp2_with (go_at_call 79; refine (C1.out _).mono ?_; rintro e w' ⟨rfl, k2, rfl⟩)
  rw [rounds_succ]
  go_wp2_with (go_at_call 79; refine (C0.out _).mono ?_; rintro e w' ⟨rfl, k3, rfl⟩)
  rw [rounds_succ]
  go_wp2
  exact bodyPost_ret (v := .tuple #[.agg #[.int .u64 q0, .int .u64 q1, .int .u64 q2], .int .u64 r0]) (by simp [results, Try.results70, go_sem]) rfl ⟨rfl, (by repeat (first | with_reducible exact Below.refl _ _ | with_reducible assumption | with_reducible refine Below.drew ?_ | with_reducible refine below_drewN ?_ _ | with_reducible refine Below.alloc ?_ (by simp <;> omega) _ | with_reducible refine Below.setCell ?_ (by simp <;> omega) _))⟩

end Wid
end Go.Proofs.Ytjlahomjhadnkaa
