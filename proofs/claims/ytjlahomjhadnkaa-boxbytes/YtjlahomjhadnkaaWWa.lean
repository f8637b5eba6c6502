/- What the small functions of package wide do (Span, Of, u, Mul64, Times, Add, Sub), as contracts over numbers below 2^192; no statement of the seat is proved here. -/
import Derived.Test.YtjlahomjhadnkaaProg
import Derived.Test.YtjlahomjhadnkaaWNum
import Derived.WalkKit
import Derived.WalkSpells
import Derived.WalkLawsBesides
import Derived.Laws.Externs
import Derived.Laws.Bits64b
import Derived.Lib.Mul64
import Derived.Deep.RegionWith
import Derived.BigRegion
namespace Go.Proofs.Ytjlahomjhadnkaa
namespace Wid
open Go.RowKit

set_option maxRecDepth 100000 in
theorem u64w (a : Int) : IntKind.u64.wrap a = a % 18446744073709551616 := by rw [IntKind.wrap_u64]

set_option maxRecDepth 100000 in
set_option maxHeartbeats 400000 in
theorem span_any (a b : Int) (w : World) (ha : -9223372036854775808 ≤ a) (ha' : a ≤ 9223372036854775807) (hb : -9223372036854775808 ≤ b) (hb' : b ≤ 9223372036854775807) :
    Calls Try.prog 50 #[.int .i64 a, .int .i64 b] w fun e w' => e = .returned (.int .u64 (spanN a b : Nat)) ∧ w' = w := by
  by_cases h : b < a
  · go_enter Try.func50, Try.ntmps50
    go_wp2
    go_ret
    refine ⟨?_, rfl⟩
    show Ending.returned (Value.int .u64 0) = _
    rw [show ((spanN a b : Nat) : Int) = 0 by unfold spanN; omega]
  · go_enter Try.func50, Try.ntmps50
    go_wp2
    go_ret
    refine ⟨?_, rfl⟩
    show Ending.returned (Value.int .u64 (IntKind.u64.wrap (IntKind.u64.wrap b - IntKind.u64.wrap a))) = _
    rw [show IntKind.u64.wrap (IntKind.u64.wrap b - IntKind.u64.wrap a) = ((spanN a b : Nat) : Int) by simp only [u64w]; unfold spanN; omega]

set_option maxRecDepth 100000 in
set_option maxHeartbeats 400000 in
theorem rspan_any (a b : Int) (w : World) (ha : -9223372036854775808 ≤ a) (ha' : a ≤ 9223372036854775807) (hb : -9223372036854775808 ≤ b) (hb' : b ≤ 9223372036854775807) :
    Calls Try.prog 52 #[.int .i64 a, .int .i64 b] w fun e w' => e = .returned (.int .u64 (spanN a b : Nat)) ∧ w' = w := by
  by_cases h : b < a
  · go_enter Try.func52, Try.ntmps52
    go_wp2
    go_ret
    refine ⟨?_, rfl⟩
    show Ending.returned (Value.int .u64 0) = _
    rw [show ((spanN a b : Nat) : Int) = 0 by unfold spanN; omega]
  · go_enter Try.func52, Try.ntmps52
    go_wp2
    go_ret
    refine ⟨?_, rfl⟩
    show Ending.returned (Value.int .u64 (IntKind.u64.wrap (IntKind.u64.wrap b - IntKind.u64.wrap a))) = _
    rw [show IntKind.u64.wrap (IntKind.u64.wrap b - IntKind.u64.wrap a) = ((spanN a b : Nat) : Int) by simp only [u64w]; unfold spanN; omega]

set_option maxRecDepth 100000 in
theorem mask32 (a : Nat) (ha : a < 18446744073709551616) : bits .and .u64 (a : Int) 4294967295 = ((a % 4294967296 : Nat) : Int) := by
  have h := bits_and_u64_nat a 4294967295 ha (by omega)
  rw [show a &&& 4294967295 = a % 4294967296 from Nat.and_two_pow_sub_one_eq_mod a 32] at h
  exact h
set_option maxRecDepth 100000 in
theorem wrapNat (a : Nat) (ha : a < 18446744073709551616) : IntKind.u64.wrap (a : Int) = (a : Int) := by rw [u64w]; omega
set_option maxRecDepth 100000 in
theorem wrapMod (a : Nat) : IntKind.u64.wrap (a : Int) = ((a % 18446744073709551616 : Nat) : Int) := by rw [u64w]; omega
set_option maxRecDepth 100000 in
theorem div32 (a : Nat) : (a : Int) / 4294967296 = ((a / 4294967296 : Nat) : Int) := by omega

set_option maxRecDepth 100000 in
set_option maxHeartbeats 1000000 in
theorem mul64_any (x y : Nat) (hx : x < 18446744073709551616) (hy : y < 18446744073709551616) (w : World) :
    Calls Try.prog 69 #[.int .u64 x, .int .u64 y] w fun e w' => e = .returned (.tuple #[.int .u64 ((x * y / 18446744073709551616 : Nat) : Int), .int .u64 ((x * y % 18446744073709551616 : Nat) : Int)]) ∧ w' = w := by
  obtain ⟨bd, bt, bw, hhi⟩ := Lib.mul64_hi x y hx hy
  have ba := Lib.half_mul_le (a := x / 4294967296) (b := y / 4294967296) (by omega) (by omega)
  have bb := Lib.half_mul_le (a := x / 4294967296) (b := y % 4294967296) (by omega) (by omega)
  have bc := Lib.half_mul_le (a := x % 4294967296) (b := y / 4294967296) (by omega) (by omega)
  have ba' : x / 4294967296 * (y / 4294967296) < 18446744073709551616 := by omega
  have bb' : x / 4294967296 * (y % 4294967296) < 18446744073709551616 := by omega
  have bc' : x % 4294967296 * (y / 4294967296) < 18446744073709551616 := by omega
  have bs : x / 4294967296 * (y / 4294967296) + (x / 4294967296 * (y % 4294967296) + x % 4294967296 * (y % 4294967296) / 4294967296) / 4294967296 < 18446744073709551616 := by omega
  have bh : x / 4294967296 * (y / 4294967296) + (x / 4294967296 * (y % 4294967296) + x % 4294967296 * (y % 4294967296) / 4294967296) / 4294967296 + ((x / 4294967296 * (y % 4294967296) + x % 4294967296 * (y % 4294967296) / 4294967296) % 4294967296 + x % 4294967296 * (y / 4294967296)) / 4294967296 < 18446744073709551616 := by omega
  have HH : Hid _ := hhi
  clear hhi
  go_enter Try.func69, Try.ntmps69
  go_wp2
  simp only [mask32 x hx, mask32 y hy, div32, ← Int.natCast_mul, ← Int.natCast_add, wrapNat _ bd, wrapNat _ bb', wrapNat _ bt, mask32 _ bt, wrapNat _ bc', wrapNat _ bw, wrapNat _ ba', wrapNat _ bs, wrapNat _ bh, wrapMod (x * y)]
  rw [HH.out]
  go_ret2
  exact ⟨rfl, rfl⟩

set_option maxRecDepth 100000 in
set_option maxHeartbeats 400000 in
theorem times_any (x y : Nat) (hx : x < 18446744073709551616) (hy : y < 18446744073709551616) (w : World) :
    Calls Try.prog 49 #[.int .u64 x, .int .u64 y] w fun e w' => e = .returned (.agg #[.int .u64 (W0 (x * y)), .int .u64 (W1 (x * y)), .int .u64 (W2 (x * y))]) ∧ Below w.heap.size w w' := by
  obtain ⟨e0, e1, e2⟩ := W_two (x * y) (mul_lt x y hx hy)
  rw [e0, e1, e2]
  clear e0 e1 e2
  go_enter Try.func49, Try.ntmps49
  go_wp2_with (go_at_call 69; refine (mul64_any x y hx hy _).mono ?_; rintro e w' ⟨rfl, rfl⟩)
  exact bodyPost_ret (v := .agg #[.int .u64 ((x * y % 18446744073709551616 : Nat) : Int), .int .u64 ((x * y / 18446744073709551616 : Nat) : Int), .int .u64 0]) (by simp [results, Try.results49, go_sem]) rfl ⟨rfl, (by repeat (first | with_reducible exact Below.refl _ _ | with_reducible assumption | with_reducible refine Below.drew ?_ | with_reducible refine below_drewN ?_ _ | with_reducible refine Below.alloc ?_ (by simp <;> omega) _ | with_reducible refine Below.setCell ?_ (by simp <;> omega) _))⟩

set_option maxRecDepth 100000 in
theorem add64 (x y c : Int) (hx : 0 ≤ x ∧ x < 18446744073709551616) (hy : 0 ≤ y ∧ y < 18446744073709551616) (hc : c = 0 ∨ c = 1) :
    ∃ s k : Int, (∀ w, (callFunc 65 #[.int .u64 x, .int .u64 y, .int .u64 c]).run Try.prog w = .ok (.value (.tuple #[.int .u64 s, .int .u64 k])) w) ∧
      (0 ≤ s ∧ s < 18446744073709551616) ∧ (k = 0 ∨ k = 1) ∧ Hid (s + k * 18446744073709551616 = x + y + c) := by
  refine ⟨(x + y + c) % 18446744073709551616, (x + y + c) / 18446744073709551616, fun w => ?_, by omega, by omega, (by unfold Hid; omega)⟩
  rw [run_callFunc_extern Try.func65 (by kernel_rfl) (by kernel_rfl) (by kernel_rfl) (e := add64Entry) (by kernel_rfl), run_add64 x y c (by omega) (by omega) (by omega) (by omega)]
  rfl

set_option maxRecDepth 100000 in
set_option maxHeartbeats 400000 in
theorem add_words (a0 a1 a2 b0 b1 b2 : Int) (w : World) (ha0 : 0 ≤ a0 ∧ a0 < 18446744073709551616) (ha1 : 0 ≤ a1 ∧ a1 < 18446744073709551616) (ha2 : 0 ≤ a2 ∧ a2 < 18446744073709551616)
    (hb0 : 0 ≤ b0 ∧ b0 < 18446744073709551616) (hb1 : 0 ≤ b1 ∧ b1 < 18446744073709551616) (hb2 : 0 ≤ b2 ∧ b2 < 18446744073709551616) :
    ∃ s0 s1 s2 k : Int, (0 ≤ s0 ∧ s0 < 18446744073709551616) ∧ (0 ≤ s1 ∧ s1 < 18446744073709551616) ∧ (0 ≤ s2 ∧ s2 < 18446744073709551616) ∧ (k = 0 ∨ k = 1) ∧
      s0 + s1 * 18446744073709551616 + s2 * 340282366920938463463374607431768211456 + k * 6277101735386680763835789423207666416102355444464034512896 =
        (a0 + a1 * 18446744073709551616 + a2 * 340282366920938463463374607431768211456) + (b0 + b1 * 18446744073709551616 + b2 * 340282366920938463463374607431768211456) ∧
      Calls Try.prog 37 #[.agg #[.int .u64 a0, .int .u64 a1, .int .u64 a2], .agg #[.int .u64 b0, .int .u64 b1, .int .u64 b2]] w fun e w' =>
        e = .returned (if k = 0 then .tuple #[.agg #[.int .u64 s0, .int .u64 s1, .int .u64 s2], .bool true] else .tuple #[.agg #[.int .u64 0, .int .u64 0, .int .u64 0], .bool false]) ∧ Below w.heap.size w w' := by
  obtain ⟨s0, c1, k0, h0, hc1, H0⟩ := add64 a0 b0 0 ha0 hb0 (Or.inl rfl)
  obtain ⟨s1, c2, k1, h1, hc2, H1⟩ := add64 a1 b1 c1 ha1 hb1 hc1
  obtain ⟨s2, c3, k2, h2, hc3, H2⟩ := add64 a2 b2 c2 ha2 hb2 hc2
  refine ⟨s0, s1, s2, c3, h0, h1, h2, hc3, by have := H0.out; have := H1.out; have := H2.out; omega, ?_⟩
  clear hc1 hc2 H0 H1 H2 h0 h1 h2 ha0 ha1 ha2 hb0 hb1 hb2
  go_enter Try.func37, Try.ntmps37
  go_wp2
  refine wp_loop_rounds 4 ?_
  rw [rounds_succ]
  go_wp2
  go_region
  go_wp2
  rw [rounds_succ]
  go_wp2
  go_region
  go_wp2
  rw [rounds_succ]
  go_wp2
  go_region
  go_wp2
  rw [rounds_succ]
  rcases hc3 with rfl | rfl
  · go_wp2
    exact bodyPost_ret (v := .tuple #[.agg #[.int .u64 s0, .int .u64 s1, .int .u64 s2], .bool true]) (by simp [results, Try.results37, go_sem]) rfl ⟨rfl, (by repeat (first | with_reducible exact Below.refl _ _ | with_reducible assumption | with_reducible refine Below.drew ?_ | with_reducible refine below_drewN ?_ _ | with_reducible refine Below.alloc ?_ (by simp <;> omega) _ | with_reducible refine Below.setCell ?_ (by simp <;> omega) _))⟩
  · go_wp2
    exact bodyPost_ret (v := .tuple #[.agg #[.int .u64 0, .int .u64 0, .int .u64 0], .bool false]) (by simp [results, Try.results37, go_sem]) rfl ⟨rfl, (by repeat (first | with_reducible exact Below.refl _ _ | with_reducible assumption | with_reducible refine Below.drew ?_ | with_reducible refine below_drewN ?_ _ | with_reducible refine Below.alloc ?_ (by simp <;> omega) _ | with_reducible refine Below.setCell ?_ (by simp <;> omega) _))⟩

set_option maxRecDepth 100000 in
theorem add_any (m n : Nat) (hm : m < 6277101735386680763835789423207666416102355444464034512896) (hn : n < 6277101735386680763835789423207666416102355444464034512896) (w : World)
    (h : m + n < 6277101735386680763835789423207666416102355444464034512896) :
    Calls Try.prog 37 #[.agg #[.int .u64 (W0 (m)), .int .u64 (W1 (m)), .int .u64 (W2 (m))], .agg #[.int .u64 (W0 (n)), .int .u64 (W1 (n)), .int .u64 (W2 (n))]] w fun e w' => e = .returned (.tuple #[.agg #[.int .u64 (W0 (m + n)), .int .u64 (W1 (m + n)), .int .u64 (W2 (m + n))], .bool true]) ∧ Below w.heap.size w w' := by
  obtain ⟨s0, s1, s2, k, h0, h1, h2, hk, e, hc⟩ := add_words (W0 m) (W1 m) (W2 m) (W0 n) (W1 n) (W2 n) w (W0_bd m) (W1_bd m) (W2_bd m) (W0_bd n) (W1_bd n) (W2_bd n)
  have em := W_val m hm
  have en := W_val n hn
  obtain rfl : k = 0 := by omega
  obtain ⟨e0, e1, e2⟩ := W_of (m + n) s0 s1 s2 h0.1 h0.2 h1.1 h1.2 h2.1 h2.2 (by omega)
  rw [← e0, ← e1, ← e2]
  simpa using hc

set_option maxRecDepth 100000 in
theorem add_over (m n : Nat) (hm : m < 6277101735386680763835789423207666416102355444464034512896) (hn : n < 6277101735386680763835789423207666416102355444464034512896) (w : World)
    (h : ¬ m + n < 6277101735386680763835789423207666416102355444464034512896) :
    Calls Try.prog 37 #[.agg #[.int .u64 (W0 (m)), .int .u64 (W1 (m)), .int .u64 (W2 (m))], .agg #[.int .u64 (W0 (n)), .int .u64 (W1 (n)), .int .u64 (W2 (n))]] w fun e w' => e = .returned (.tuple #[.agg #[.int .u64 0, .int .u64 0, .int .u64 0], .bool false]) ∧ Below w.heap.size w w' := by
  obtain ⟨s0, s1, s2, k, h0, h1, h2, hk, e, hc⟩ := add_words (W0 m) (W1 m) (W2 m) (W0 n) (W1 n) (W2 n) w (W0_bd m) (W1_bd m) (W2_bd m) (W0_bd n) (W1_bd n) (W2_bd n)
  have em := W_val m hm
  have en := W_val n hn
  obtain rfl : k = 1 := by omega
  simpa using hc

end Wid
end Go.Proofs.Ytjlahomjhadnkaa
