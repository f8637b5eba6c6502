/- What the document's own function Text returns: the digits of any number below 2^192; no statement of the seat is proved here. -/
import Derived.Test.YtfjepmhlkelinaaRj
import Derived.Test.YtfjepmhlkelinaaNum3
import Derived.Test.YtfjepmhlkelinaaWh
namespace Go.Proofs.Ytfjepmhlkelinaa
open Go.RowKit

theorem dgs_snoc (n : Nat) : ∀ k, dgs n (k + 1) = dgs (n / 10) k ++ [((48 + n % 10 : Nat) : Int)]
  | 0 => by simp [dgs]
  | k + 1 => by
    rw [dgs, dgs_snoc n k, dgs, List.cons_append]
    congr 2
    rw [Nat.pow_succ, Nat.mul_comm, ← Nat.div_div_eq_div_mul]

theorem ndigF_more : ∀ f n, n < 10 ^ f → ndigF (f + 1) n = ndigF f n
  | 0, n, h => by simp at h; simp [ndigF, h]
  | f + 1, n, h => by
    have ih := ndigF_more f (n / 10) (by rw [Nat.pow_succ] at h; omega)
    rw [ndigF, ih, ndigF]

theorem text_small (n : Nat) (h : n < 10) : textN n = ⟨#[UInt8.ofNat (48 + n)]⟩ := by
  have : ∀ i : Fin 10, textN i.val = ⟨#[UInt8.ofNat (48 + i.val)]⟩ := by decide +kernel
  exact this ⟨n, h⟩

theorem text_more (n : Nat) (hn : n < 6277101735386680763835789423207666416102355444464034512896) (h : 10 ≤ n) : textN n = textN (n / 10) ++ ⟨#[UInt8.ofNat (48 + n % 10)]⟩ := by
  rw [textN, textN, if_neg (by omega), if_neg (by omega), ndigF, if_neg (by omega), dgs_snoc, ndigF_more 57 (n / 10) (by have : n < 10 ^ 58 := Nat.lt_of_lt_of_le hn (by decide); rw [Nat.pow_succ] at this; omega)]
  apply ByteArray.ext
  rw [ByteArray.data_append]
  simp only [strOfNums, List.map_append, List.map_cons, List.map_nil, Int.toNat_natCast]
  simp

theorem dig_ex (n : Nat) (h : n < 10) : (⟨#[48, 49, 50, 51, 52, 53, 54, 55, 56, 57]⟩ : ByteArray).extract n (n + 1) = ⟨#[UInt8.ofNat (48 + n)]⟩ := by
  have : ∀ i : Fin 10, (⟨#[48, 49, 50, 51, 52, 53, 54, 55, 56, 57]⟩ : ByteArray).extract i.val (i.val + 1) = ⟨#[UInt8.ofNat (48 + i.val)]⟩ := by decide +kernel
  exact this ⟨n, h⟩

theorem text_size (n : Nat) : (textN n).size ≤ 58 := by
  unfold textN
  split
  · decide
  · rw [strOfNums_size, dgs_length]; exact ndigF_le _ _

set_option maxHeartbeats 1000000 in
theorem rtext_small (n : Nat) (h : n < 10) (w : World) :
    Calls Try.prog 26 #[.agg #[.int .u64 (W0 (n)), .int .u64 (W1 (n)), .int .u64 (W2 (n))]] w fun e w' => e = .returned (.string (textN n)) ∧ Below w.heap.size w w' := by
  have c36 := fun w => tenth_any n (by omega) w
  rw [Nat.div_eq_of_lt h, Nat.mod_eq_of_lt h] at c36
  have C36 := hid c36
  have q0 := eqU 23 Try.underlying23 (W0 0) (W1 0) (W2 0) 0 0 0
  rw [show (W0 0 == 0 && W1 0 == 0 && W2 0 == 0) = true from rfl] at q0
  have hn : (n : Int) ≤ 9 := by omega
  clear c36
  go_enter Try.func26, Try.ntmps26
  go_wp2_with (go_at_call 36; refine (C36.out _).mono ?_; rintro e w1 ⟨rfl, hb1⟩)
  go_ret
  refine ⟨?_, grownAlloc (gt ((Below.refl _ w).alloc (Nat.le_refl _) _) hb1) _⟩
  exact congrArg Ending.returned (congrArg Value.string ((dig_ex n h).trans (text_small n h).symm))

set_option maxHeartbeats 1000000 in
theorem rtext_more (n : Nat) (hn : n < 6277101735386680763835789423207666416102355444464034512896) (h : 10 ≤ n)
    (ih : ∀ w, Calls Try.prog 26 #[.agg #[.int .u64 (W0 (n / 10)), .int .u64 (W1 (n / 10)), .int .u64 (W2 (n / 10))]] w fun e w' => e = .returned (.string (textN (n / 10))) ∧ Below w.heap.size w w') (w : World) :
    Calls Try.prog 26 #[.agg #[.int .u64 (W0 (n)), .int .u64 (W1 (n)), .int .u64 (W2 (n))]] w fun e w' => e = .returned (.string (textN n)) ∧ Below w.heap.size w w' := by
  have C36 := hid (fun w => tenth_any n hn w)
  have IH := hid ih
  have q0 := eqU 23 Try.underlying23 (W0 (n / 10)) (W1 (n / 10)) (W2 (n / 10)) 0 0 0
  rw [ne_zero (n / 10) (by omega) (by omega)] at q0
  have ht := hid (text_more n hn h)
  have hdx := hid (dig_ex (n % 10) (by omega))
  have hsz : ¬ 9223372036854775807 < (textN (n / 10)).size + 1 := by have := text_size (n / 10); omega
  have r9 : n % 10 ≤ 9 := by omega
  generalize n % 10 = r at *
  generalize n / 10 = q at *
  have hr : (r : Int) ≤ 9 := by omega
  clear ih hn h
  go_enter Try.func26, Try.ntmps26
  go_wp2_with (first | (go_at_call 36; refine (C36.out _).mono ?_; rintro e w1 ⟨rfl, hb1⟩) | (go_at_call 26; refine (IH.out _).mono ?_; rintro e w2 ⟨rfl, hb2⟩))
  go_ret
  refine ⟨?_, gt (grownAlloc (gt ((Below.refl _ w).alloc (Nat.le_refl _) _) hb1) _) hb2⟩
  refine congrArg Ending.returned (congrArg Value.string ?_)
  rw [ht.out, ← hdx.out]

theorem rtext_any (n : Nat) : n < 6277101735386680763835789423207666416102355444464034512896 → ∀ w : World,
    Calls Try.prog 26 #[.agg #[.int .u64 (W0 (n)), .int .u64 (W1 (n)), .int .u64 (W2 (n))]] w fun e w' => e = .returned (.string (textN n)) ∧ Below w.heap.size w w' := by
  induction n using Nat.strongRecOn with
  | ind n ih =>
    intro hn w
    by_cases h : n < 10
    · exact rtext_small n h w
    · exact rtext_more n hn (by omega) (ih (n / 10) (by omega) (by omega)) w

end Go.Proofs.Ytfjepmhlkelinaa
