/- The arithmetic of Vars: what is taken is what was put, and Vars stand in the order of their numbers; no statement of the seat is proved here. -/
import Derived.Test.YtbpcekhfjkodcaaOBf
import Derived.Test.YtbpcekhfjkodcaaOBj
namespace Go.Proofs.Ytbpcekhfjkodcaa
open Go.RowKit

theorem asm_back (m : Nat) : ∀ (acc : Nat) (xs : List Nat) (n k : Nat), (∀ x ∈ xs, x < 256) → m ≤ 8 → asm acc m xs = (n, k) → k ≠ 0 →
    (k ≤ 8 ∧ ∃ j, 1 ≤ j ∧ j ≤ m ∧ k = 8 - m + j ∧ j ≤ xs.length ∧ n / 2 ^ (7 * j) = acc ∧ xs.take j = hd (n / 128) (j - 1) ++ [n % 128]) ∨
    (k = 9 ∧ m + 1 ≤ xs.length ∧ n / 256 / 2 ^ (7 * m) = acc ∧ xs.take (m + 1) = hd (n / 256) m ++ [n % 256]) := by
  induction m with
  | zero =>
    intro acc xs n k hx _ h hk
    cases xs with
    | nil => simp [asm] at h; omega
    | cons c r =>
      have hc := hx c (by simp)
      simp only [asm, Prod.mk.injEq] at h
      obtain ⟨rfl, rfl⟩ := h
      refine Or.inr ⟨rfl, by simp, ?_, ?_⟩
      · simp; omega
      · simp [hd]; omega
  | succ m ih =>
    intro acc xs n k hx hm h hk
    cases xs with
    | nil => simp [asm] at h; omega
    | cons c r =>
      have hc := hx c (by simp)
      simp only [asm] at h
      split at h
      · simp only [Prod.mk.injEq] at h
        obtain ⟨rfl, rfl⟩ := h
        refine Or.inl ⟨by omega, 1, by omega, by omega, by omega, by simp, ?_, ?_⟩
        · simp; omega
        · simp [hd]; omega
      · rename_i hc2
        rcases ih _ r n k (fun x h => hx x (by simp [h])) (by omega) h hk with ⟨h8, j, h1, h2, h3, h4, h5, h6⟩ | ⟨h9, h4, h5, h6⟩
        · refine Or.inl ⟨h8, j + 1, by omega, by omega, by omega, by simp; omega, ?_, ?_⟩
          · rw [show 7 * (j + 1) = 7 * j + 7 by omega, Nat.pow_add, ← Nat.div_div_eq_div_mul, h5]
            omega
          · obtain ⟨i, rfl⟩ : ∃ i, j = i + 1 := ⟨j - 1, by omega⟩
            rw [List.take_succ_cons, h6, Nat.add_sub_cancel, Nat.add_sub_cancel]
            simp only [hd, List.cons_append]
            congr 1
            rw [Nat.div_div_eq_div_mul, show 128 * 2 ^ (7 * i) = 2 ^ (7 * (i + 1)) by rw [show 7 * (i + 1) = 7 + 7 * i by omega, Nat.pow_add], h5]
            omega
        · refine Or.inr ⟨h9, by simp; omega, ?_, ?_⟩
          · rw [show 7 * (m + 1) = 7 * m + 7 by omega, Nat.pow_add, ← Nat.div_div_eq_div_mul, h5]
            omega
          · rw [List.take_succ_cons, h6]
            simp only [hd, List.cons_append]
            congr 1
            rw [h5]
            omega

theorem take_cases {xs : List Nat} (hx : ∀ x ∈ xs, x < 256) {r1 r2 : Nat} (h : takeN xs = (r1, r2)) : r2 = 0 ∨ (r2 ≠ 0 ∧ r2 ≤ xs.length ∧ varN r1 = xs.take r2) := by
  by_cases h0 : r2 = 0
  · exact Or.inl h0
  refine Or.inr ⟨h0, ?_⟩
  unfold takeN at h
  split at h
  · rename_i hs
    rw [h] at hs
    simp only at hs
    rcases asm_back 8 0 xs r1 r2 hx (by omega) h h0 with ⟨h8, j, h1, h2, h3, h4, _, h6⟩ | ⟨h9, h4, _, h6⟩
    · obtain rfl : r2 = j := by omega
      refine ⟨h4, ?_⟩
      rw [h6]
      have hl : lastBits r1 = 7 := by unfold lastBits; rw [if_neg (by omega)]
      simp [varN, hl, ← hs]
    · subst h9
      refine ⟨h4, ?_⟩
      rw [h6]
      have hl : lastBits r1 = 8 := by unfold lastBits; rw [if_pos (by omega)]
      simp [varN, hl, ← hs]
  · simp at h; omega

/-- Bytes in order. -/
def lessN : List Nat → List Nat → Bool
  | _, [] => false
  | [], _ :: _ => true
  | a :: x, b :: y => decide (a < b) || (a == b && lessN x y)

theorem less_eq : ∀ (x y : List Nat), (∀ a ∈ x, a < 256) → (∀ a ∈ y, a < 256) → Op.bytesLess (x.map UInt8.ofNat) (y.map UInt8.ofNat) = lessN x y
  | [], [], _, _ => rfl
  | _ :: _, [], _, _ => rfl
  | [], _ :: _, _, _ => rfl
  | a :: x, b :: y, hx, hy => by
    have ha := hx a (by simp)
    have hb := hy b (by simp)
    have e1 : (UInt8.ofNat a).toNat = a := by simp; omega
    have e2 : (UInt8.ofNat b).toNat = b := by simp; omega
    simp only [List.map_cons, Op.bytesLess, lessN]
    rw [less_eq x y (fun c h => hx c (by simp [h])) (fun c h => hy c (by simp [h]))]
    congr 1
    · apply decide_eq_decide.2
      rw [UInt8.lt_iff_toNat_lt, e1, e2]
    · congr 1
      by_cases hab : a = b
      · subst hab; simp
      · have h1 : ¬ UInt8.ofNat a = UInt8.ofNat b := fun h => hab (by rw [← e1, ← e2, h])
        rw [beq_eq_false_iff_ne.2 h1, beq_eq_false_iff_ne.2 hab]

theorem digit_mod (A m k : Nat) (h : k < m) : A % 2 ^ (7 * m) / 2 ^ (7 * k) % 128 = A / 2 ^ (7 * k) % 128 := by
  rw [show 7 * m = 7 * k + 7 * (m - k) by omega, Nat.pow_add, Nat.mod_mul_right_div_self]
  apply Nat.mod_mod_of_dvd
  rw [show 7 * (m - k) = 7 + 7 * (m - k - 1) by omega, Nat.pow_add]
  exact Nat.dvd_mul_right _ _

theorem hd_mod_le (A m : Nat) : ∀ k, k ≤ m → hd (A % 2 ^ (7 * m)) k = hd A k := by
  intro k
  induction k with
  | zero => intro _; rfl
  | succ k ih =>
    intro hk
    simp only [hd]
    rw [digit_mod A m k (by omega), ih (by omega)]

theorem hd_mod (A m : Nat) : hd (A % 2 ^ (7 * m)) m = hd A m := hd_mod_le A m m (Nat.le_refl _)

theorem hd_less (m : Nat) : ∀ (A B : Nat), A < 2 ^ (7 * m) → B < 2 ^ (7 * m) → A < B → ∀ s t : List Nat, lessN (hd A m ++ s) (hd B m ++ t) = true := by
  induction m with
  | zero => intro A B hA hB h; simp at hA hB; omega
  | succ m ih =>
    intro A B hA hB h s t
    have hp : 0 < 2 ^ (7 * m) := Nat.pow_pos (by omega)
    have eA : A / 2 ^ (7 * m) < 128 := by
      rw [show 7 * (m + 1) = 7 * m + 7 by omega, Nat.pow_add] at hA
      exact Nat.div_lt_of_lt_mul hA
    have eB : B / 2 ^ (7 * m) < 128 := by
      rw [show 7 * (m + 1) = 7 * m + 7 by omega, Nat.pow_add] at hB
      exact Nat.div_lt_of_lt_mul hB
    have hle : A / 2 ^ (7 * m) ≤ B / 2 ^ (7 * m) := Nat.div_le_div_right (by omega)
    simp only [hd, List.cons_append, lessN]
    rw [Nat.mod_eq_of_lt eA, Nat.mod_eq_of_lt eB]
    by_cases hlt : A / 2 ^ (7 * m) < B / 2 ^ (7 * m)
    · simp [hlt]
    · have heq : A / 2 ^ (7 * m) = B / 2 ^ (7 * m) := by omega
      have hm : A % 2 ^ (7 * m) < B % 2 ^ (7 * m) := by
        have h1 := Nat.div_add_mod A (2 ^ (7 * m))
        have h2 := Nat.div_add_mod B (2 ^ (7 * m))
        rw [heq] at h1
        omega
      have := ih (A % 2 ^ (7 * m)) (B % 2 ^ (7 * m)) (Nat.mod_lt _ hp) (Nat.mod_lt _ hp) hm s t
      rw [hd_mod, hd_mod] at this
      simp [heq, this]

theorem hd_same (m A : Nat) : ∀ s t : List Nat, lessN (hd A m ++ s) (hd A m ++ t) = lessN s t := by
  induction m with
  | zero => intro s t; rfl
  | succ m ih =>
    intro s t
    simp only [hd, List.cons_append, lessN]
    rw [ih]
    simp

theorem hd_bytes (A m : Nat) : ∀ x ∈ hd A m, x < 256 := by
  induction m with
  | zero => intro x h; simp [hd] at h
  | succ m ih =>
    intro x h
    simp only [hd, List.mem_cons] at h
    rcases h with rfl | h
    · omega
    · exact ih x h

theorem varN_bytes (n : Nat) : ∀ x ∈ varN n, x < 256 := by
  intro x h
  simp only [varN, List.mem_append, List.mem_singleton] at h
  rcases h with h | rfl
  · exact hd_bytes _ _ x h
  · have hl : lastBits n = 7 ∨ lastBits n = 8 := by unfold lastBits; split <;> simp
    rcases hl with h | h <;> rw [h] <;> simp <;> omega

theorem str_list (xs : List Nat) : (str xs).toList = xs.map UInt8.ofNat := by
  rw [Lib.toList_data]; simp [str]

theorem order_cases (a b : Nat) (hb : b < 18446744073709551616) : ¬ a < b ∨ (a < b ∧ szN a < szN b) ∨ (a < b ∧ szN a = szN b ∧ Op.bytesLess (str (varN a)).toList (str (varN b)).toList = true) := by
  by_cases hab : a < b
  · right
    by_cases hs : szN a < szN b
    · exact Or.inl ⟨hab, hs⟩
    · right
      have ca := szN_cases a
      have cb := szN_cases b
      have hs2 : szN a = szN b := by omega
      refine ⟨hab, hs2, ?_⟩
      rw [str_list, str_list, less_eq _ _ (varN_bytes a) (varN_bytes b)]
      have hl : lastBits a = lastBits b := by unfold lastBits; rw [hs2]
      obtain ⟨L, hL⟩ : ∃ L, L = lastBits b := ⟨_, rfl⟩
      have hsz := szN_le b
      simp only [varN]
      rw [hl, hs2, ← hL]
      have hbd : b / 2 ^ L < 2 ^ (7 * (szN b - 1)) := by
        rw [hL]
        unfold lastBits
        split
        · rename_i h9; rw [h9]; simp; omega
        · rename_i h9
          have := szN_ge b (szN b) (Nat.le_refl _) (by omega)
          rw [show 7 * szN b = 7 + 7 * (szN b - 1) by omega, Nat.pow_add] at this
          exact Nat.div_lt_of_lt_mul this
      by_cases hlt : a / 2 ^ L < b / 2 ^ L
      · exact hd_less _ _ _ (by omega) hbd hlt _ _
      · have hle : a / 2 ^ L ≤ b / 2 ^ L := Nat.div_le_div_right (by omega)
        have heq : a / 2 ^ L = b / 2 ^ L := by omega
        rw [heq, hd_same]
        have h1 := Nat.div_add_mod a (2 ^ L)
        have h2 := Nat.div_add_mod b (2 ^ L)
        rw [heq] at h1
        have : a % 2 ^ L < b % 2 ^ L := by omega
        simp [lessN, this]
  · exact Or.inl hab

end Go.Proofs.Ytbpcekhfjkodcaa
