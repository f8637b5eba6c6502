/- Plain facts on digits and bits: a number comes back from its digits; a product has as many bits as its factors together, or one less; no statement of the seat is proved here. -/
import Derived.Test.YtfjepmhlkelinaaWd
import Derived.Test.YtfjepmhlkelinaaRi
import Derived.Test.YtfjepmhlkelinaaRg
namespace Go.Proofs.Ytfjepmhlkelinaa
open Go.RowKit

theorem byte_of (d : Nat) (hd : d < 10) : (UInt8.ofNat (((48 + d : Nat) : Int).toNat)).toNat = 48 + d := by
  rw [Int.toNat_natCast, UInt8.toNat_ofNat']
  omega

theorem pf_dgs (n : Nat) : ∀ (k m : Nat), m * 10 ^ k + n % 10 ^ k < 6277101735386680763835789423207666416102355444464034512896 →
    pf ((dgs n k).map fun z => UInt8.ofNat z.toNat) m = some (m * 10 ^ k + n % 10 ^ k)
  | 0, m, _ => by simp [dgs, pf, Nat.mod_one]
  | k + 1, m, h => by
    have hd : n / 10 ^ k % 10 < 10 := Nat.mod_lt _ (by omega)
    have hp : 0 < 10 ^ k := Nat.pow_pos (by omega)
    have e : n % 10 ^ (k + 1) = n % 10 ^ k + 10 ^ k * (n / 10 ^ k % 10) := by rw [Nat.pow_succ, Nat.mod_mul]
    have e2 : (m * 10 + n / 10 ^ k % 10) * 10 ^ k + n % 10 ^ k = m * 10 ^ (k + 1) + n % 10 ^ (k + 1) := by
      rw [e, Nat.pow_succ, Nat.add_mul, Nat.mul_comm (n / 10 ^ k % 10), Nat.mul_assoc m, Nat.mul_comm 10 (10 ^ k)]; omega
    have hb : m * 10 + n / 10 ^ k % 10 < 6277101735386680763835789423207666416102355444464034512896 := by
      refine Nat.lt_of_le_of_lt ?_ h
      rw [← e2]
      have := Nat.le_mul_of_pos_right (m * 10 + n / 10 ^ k % 10) hp
      omega
    rw [dgs, List.map_cons, pf, byte_of _ hd, if_neg (by omega), if_pos (by omega)]
    rw [show m * 10 + (48 + n / 10 ^ k % 10 - 48) = m * 10 + n / 10 ^ k % 10 by omega]
    rw [pf_dgs n k (m * 10 + n / 10 ^ k % 10) (by rw [e2]; exact h), e2]

theorem parse_text (n : Nat) (hn : n < 6277101735386680763835789423207666416102355444464034512896) : parseL (textN n).data.toList = some n := by
  by_cases h0 : n = 0
  · subst h0; rfl
  · rw [textN, if_neg h0, strOfNums_data]
    have hz := ndigF_zero 58 n (Nat.lt_of_lt_of_le hn (by decide))
    have hp := ndigF_pos 58 n
    generalize ndigF 58 n = K at *
    cases K with
    | zero => simp at hz; omega
    | succ K =>
      have hK := hp K (by omega)
      have hd : n / 10 ^ K % 10 < 10 := Nat.mod_lt _ (by omega)
      have hd0 : n / 10 ^ K % 10 ≠ 0 := by
        have : n / 10 ^ K / 10 = 0 := by rw [Nat.div_div_eq_div_mul, ← Nat.pow_succ]; exact hz
        omega
      have hlt : n < 10 ^ (K + 1) := by
        rcases Nat.lt_or_ge n (10 ^ (K + 1)) with k | k
        · exact k
        · have := Nat.div_pos k (Nat.pow_pos (n := K + 1) (by omega)); omega
      have hpf := pf_dgs n (K + 1) 0 (by rw [Nat.zero_mul, Nat.zero_add, Nat.mod_eq_of_lt hlt]; exact hn)
      rw [Nat.zero_mul, Nat.zero_add, Nat.mod_eq_of_lt hlt] at hpf
      rw [dgs, List.map_cons] at hpf ⊢
      rw [parseL, if_neg ?_]
      · exact hpf
      · intro hc
        have := congrArg UInt8.toNat hc
        rw [byte_of _ hd] at this
        simp at this
        omega

theorem blen_bd (n : Nat) (h : n ≠ 0) : ∃ j, blen n = j + 1 ∧ 2 ^ j ≤ n ∧ n < 2 ^ (j + 1) := by
  obtain ⟨h1, h2⟩ := (Nat.log2_eq_iff h).1 (rfl : n.log2 = n.log2)
  exact ⟨n.log2, by rw [blen, if_neg h], h1, h2⟩

theorem blen_mul (a b : Nat) (ha : a ≠ 0) (hb : b ≠ 0) : blen (a * b) = blen a + blen b ∨ blen (a * b) + 1 = blen a + blen b := by
  obtain ⟨i, ei, l1, u1⟩ := blen_bd a ha
  obtain ⟨j, ej, l2, u2⟩ := blen_bd b hb
  have lo := Nat.mul_le_mul l1 l2
  rw [← Nat.pow_add] at lo
  have up : a * b < 2 ^ (i + 1) * 2 ^ (j + 1) := by
    calc a * b ≤ a * 2 ^ (j + 1) := Nat.mul_le_mul_left a (Nat.le_of_lt u2)
      _ < 2 ^ (i + 1) * 2 ^ (j + 1) := Nat.mul_lt_mul_of_pos_right u1 (Nat.two_pow_pos _)
  rw [← Nat.pow_add] at up
  rw [ei, ej]
  by_cases h : a * b < 2 ^ (i + j + 1)
  · right; rw [blen_of (a * b) (i + j) lo h]; omega
  · left; rw [blen_of (a * b) (i + j + 1) (by omega) (by rw [show i + j + 1 + 1 = i + 1 + (j + 1) by omega]; exact up)]; omega

theorem blen_le (n : Nat) (h : n < 340282366920938463463374607431768211456) : blen n ≤ 128 := by
  by_cases h0 : n = 0
  · subst h0; decide
  · obtain ⟨j, e, l, _⟩ := blen_bd n h0
    rw [e]
    rcases Nat.lt_or_ge j 128 with k | k
    · omega
    · have := Nat.pow_le_pow_right (n := 2) (by omega) k
      rw [show (2 : Nat) ^ 128 = 340282366920938463463374607431768211456 from rfl] at this
      omega

end Go.Proofs.Ytfjepmhlkelinaa
