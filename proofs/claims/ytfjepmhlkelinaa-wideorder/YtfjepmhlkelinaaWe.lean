/- The law WideOrder returns true and turns nothing that was there, whatever three ints it is called with; the walk alone. -/
import Derived.Test.YtfjepmhlkelinaaWd
import Derived.Deep.RegionHeld3
namespace Go.Proofs.Ytfjepmhlkelinaa
open Go.RowKit

set_option maxHeartbeats 400000 in
theorem order_not1 (a b c : Int) (w : World) (h : b < a) :
    Calls Try.prog 7 #[.int .i64 a, .int .i64 b, .int .i64 c] w fun e w' => e = .returned (.bool true) ∧ Below w.heap.size w w' := by
  go_enter Try.func7, Try.ntmps7
  go_wp2_with (go_at_call 17; refine (lives_any _).mono ?_; rintro e w1 ⟨rfl, hb1⟩)
  go_ret
  exact ⟨rfl, hb1⟩

set_option maxHeartbeats 400000 in
theorem order_not2 (a b c : Int) (w : World) (h0 : ¬ b < a) (h : c < b) :
    Calls Try.prog 7 #[.int .i64 a, .int .i64 b, .int .i64 c] w fun e w' => e = .returned (.bool true) ∧ Below w.heap.size w w' := by
  go_enter Try.func7, Try.ntmps7
  go_wp2_with (go_at_call 17; refine (lives_any _).mono ?_; rintro e w1 ⟨rfl, hb1⟩)
  go_ret
  exact ⟨rfl, hb1⟩

theorem gt {w a b : World} (h : Below w.heap.size w a) (k : Below a.heap.size a b) : Below w.heap.size w b := h.trans (k.mono h.size)

theorem cmpN_le (m n : Nat) (h : m ≤ n) : cmpN m n ≤ 0 := by unfold cmpN; split <;> (try split) <;> omega

set_option maxHeartbeats 1000000 in
theorem order_yes (a b c : Int) (w : World) (ha : -9223372036854775808 ≤ a) (hc : c ≤ 9223372036854775807) (h1 : a ≤ b) (h2 : b ≤ c) :
    Calls Try.prog 7 #[.int .i64 a, .int .i64 b, .int .i64 c] w fun e w' => e = .returned (.bool true) ∧ Below w.heap.size w w' := by
  have s1 := fun w => span_any a b w (by omega) (by omega) (by omega) (by omega)
  have s2 := fun w => span_any b c w (by omega) (by omega) (by omega) (by omega)
  have s3 := fun w => span_any a c w (by omega) (by omega) (by omega) (by omega)
  have hz : spanN a b + spanN b c = spanN a c := by unfold spanN; omega
  have l1 := spanN_lt a b (by omega) (by omega)
  have l2 := spanN_lt b c (by omega) (by omega)
  have l3 := spanN_lt a c (by omega) (by omega)
  generalize spanN a b = X at *
  generalize spanN b c = Y at *
  generalize spanN a c = Z at *
  have o1 := fun w => of_any X l1 w
  have o2 := fun w => of_any Y l2 w
  have o3 := fun w => of_any Z l3 w
  have ad := fun w => add_any X Y (by omega) (by omega) w (by omega)
  rw [hz] at ad
  have t1 := fun w => times_any X Z l1 l3 w
  have t2 := fun w => times_any Z Z l3 l3 w
  have m1 := mul_lt X Z l1 l3
  have m2 := mul_lt Z Z l3 l3
  have m3 : X * Z ≤ Z * Z := Nat.mul_le_mul_right Z (by omega)
  have cm := fun w => cmp_any (X * Z) (Z * Z) (by omega) (by omega) w
  have cl := cmpN_le _ _ m3
  generalize cmpN (X * Z) (Z * Z) = R at *
  generalize X * Z = M1 at *
  generalize Z * Z = M2 at *
  have eq := eqU 24 Try.underlying24 (W0 Z) (W1 Z) (W2 Z) (W0 Z) (W1 Z) (W2 Z)
  rw [show (W0 Z == W0 Z && W1 Z == W1 Z && W2 Z == W2 Z) = true by simp] at eq
  have S1 : Hid _ := s1; have S2 : Hid _ := s2; have S3 : Hid _ := s3; have O1 : Hid _ := o1; have O2 : Hid _ := o2; have O3 : Hid _ := o3; have AD : Hid _ := ad; have T1 : Hid _ := t1; have T2 : Hid _ := t2; have CM : Hid _ := cm
  have g1 : ¬ b < a := by omega
  have g2 : ¬ c < b := by omega
  clear s1 s2 s3 o1 o2 o3 ad t1 t2 cm hz l1 l2 l3 m1 m2 m3
  go_enter Try.func7, Try.ntmps7
  go_wp2_with fail
  refine (S1.out _).mono ?_; rintro e w' ⟨rfl, rfl⟩
  go_wp2_with fail
  refine (S2.out _).mono ?_; rintro e w' ⟨rfl, rfl⟩
  go_wp2_with fail
  refine (O1.out _).mono ?_; rintro e w1 ⟨rfl, hb1⟩
  go_wp2_with fail
  refine (O2.out _).mono ?_; rintro e w2 ⟨rfl, hb2⟩
  go_wp2_with fail
  refine (AD.out _).mono ?_; rintro e w3 ⟨rfl, hb3⟩
  go_wp2_with fail
  refine (S3.out _).mono ?_; rintro e w' ⟨rfl, rfl⟩
  go_wp2_with fail
  go_region_held3 (fun W => W.cell? ⟨w3.heap.size, 0, none⟩ = some (.int .u64 (W0 Z)) ∧ W.cell? ⟨w3.heap.size, 1, none⟩ = some (.int .u64 (W1 Z)) ∧ W.cell? ⟨w3.heap.size, 2, none⟩ = some (.int .u64 (W2 Z))) (go_keep) (first | (go_at_call 22; refine (O3.out _).mono ?_; rintro e w4 ⟨rfl, hb4⟩; obtain ⟨bc4, bf4⟩ := bcell hb4; have hz4 : w3.heap.size < w4.heap.size := by have := hb4.size; (try simp at this); omega) | (go_at_call_of 18 X; refine (T1.out _).mono ?_; rintro e w5 ⟨rfl, hb5⟩; obtain ⟨bc5, bf5⟩ := bcell hb5; have hz5 : w3.heap.size < w5.heap.size := by have := hb5.size; (try simp at this); omega) | (go_at_call 18; refine (T2.out _).mono ?_; rintro e w6 ⟨rfl, hb6⟩; obtain ⟨bc6, bf6⟩ := bcell hb6; have hz6 : w3.heap.size < w6.heap.size := by have := hb6.size; (try simp at this); omega) | (go_at_call 13; refine (CM.out _).mono ?_; rintro e w7 ⟨rfl, hb7⟩; obtain ⟨bc7, bf7⟩ := bcell hb7; have hz7 : w3.heap.size < w7.heap.size := by have := hb7.size; (try simp at this); omega) | (go_at_call 17; refine (lives_any _).mono ?_; rintro e w8 ⟨rfl, hb8⟩; obtain ⟨bc8, bf8⟩ := bcell hb8; have hz8 : w3.heap.size < w8.heap.size := by have := hb8.size; (try simp at this); omega))
  go_wp2
  go_ret
  exact ⟨rfl, gt (gt (gt (gt (gt (((gt (gt hb1 hb2) hb3).alloc (gt (gt hb1 hb2) hb3).size _).drew) hb4) hb5) hb6) hb7) hb8⟩

theorem order_any (a b c : Int) (w : World) (ha : -9223372036854775808 ≤ a) (hc : c ≤ 9223372036854775807) :
    Calls Try.prog 7 #[.int .i64 a, .int .i64 b, .int .i64 c] w fun e w' => e = .returned (.bool true) ∧ Below w.heap.size w w' := by
  by_cases h1 : b < a
  · exact order_not1 a b c w h1
  · by_cases h2 : c < b
    · exact order_not2 a b c w h1 h2
    · exact order_yes a b c w ha hc (by omega) (by omega)

end Go.Proofs.Ytfjepmhlkelinaa
