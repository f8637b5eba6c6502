/- What Sectors (both), lives, counted and both good return; no statement of the seat is proved here. -/
import Derived.Test.YtndlogjmnbgegaaDoorAb
namespace Go.Proofs.YtndlogjmnbgegaaDoor
open Go.RowKit

/-- How many sectors a journal of n records has. -/
def secN (n : Int) : Int := 1 + min (max n 0) 4000 * 5

set_option maxHeartbeats 400000 in
theorem sectors_any (n : Int) (w : World) : Calls Tryd.prog 19 #[.int .i64 n] w fun e w' => e = .returned (.int .i64 (secN n)) ∧ w' = w := by
  obtain ⟨k, hk, hs⟩ : ∃ k : Int, (0 ≤ k ∧ k ≤ 4000) ∧ min (max n 0) 4000 = k := ⟨_, by omega, rfl⟩
  have hS : secN n = 1 + k * 5 := by unfold secN; rw [hs]
  rw [hS]
  go_enter Tryd.func19, Tryd.ntmps19
  go_wp2
  go_ret
  exact ⟨rfl, rfl⟩

set_option maxHeartbeats 400000 in
theorem rsectors_any (n : Int) (w : World) : Calls Tryd.prog 20 #[.int .i64 n] w fun e w' => e = .returned (.int .i64 (secN n)) ∧ w' = w := by
  by_cases h0 : n < 0
  · have hS : secN n = 1 := by unfold secN; omega
    rw [hS]
    go_enter Tryd.func20, Tryd.ntmps20
    go_wp2
    go_ret
    exact ⟨rfl, rfl⟩
  · by_cases h1 : 4000 < n
    · have hS : secN n = 20001 := by unfold secN; omega
      rw [hS]
      go_enter Tryd.func20, Tryd.ntmps20
      go_wp2
      go_ret
      exact ⟨rfl, rfl⟩
    · have hS : secN n = 1 + 5 * n := by unfold secN; omega
      rw [hS]
      go_enter Tryd.func20, Tryd.ntmps20
      go_wp2
      go_ret
      exact ⟨rfl, rfl⟩

set_option maxHeartbeats 400000 in
theorem lives_any (w : World) : Calls Tryd.prog 8 #[] w fun e w' => e = .returned (.bool true) ∧ w' = w := by
  have c := hid (sectors_any 2)
  rw [show secN 2 = 11 by decide] at c
  go_enter Tryd.func8, Tryd.ntmps8
  go_wp2_with (go_at_call 19; refine (c.out _).mono ?_; rintro e w1 ⟨rfl, hw1⟩; obtain rfl := hw1.symm)
  go_ret
  exact ⟨rfl, rfl⟩

def ctd (n : Int) : Bool := decide (0 ≤ n) && decide (n ≤ 4000)
theorem ctd_iff (n : Int) : ctd n = true ↔ 0 ≤ n ∧ n ≤ 4000 := by simp [ctd]

set_option maxHeartbeats 400000 in
theorem counted_any (n : Int) (w : World) : Calls Tryd.prog 49 #[.int .i64 n] w fun e w' => e = .returned (.bool (ctd n)) ∧ w' = w := by
  unfold ctd
  by_cases h : 0 ≤ n <;> by_cases h' : n ≤ 4000
  all_goals
    go_enter Tryd.func49, Tryd.ntmps49
    go_wp2
    go_ret
    simp [h, h']

/-- A head's value. -/
def headV (c p : Int) (n : Nat) : Value := .agg #[.int .i64 c, .int .i64 p, .int .u64 (n : Int)]
def hgood (c p : Int) : Bool := ctd c && ctd p
theorem hgood_iff (c p : Int) : hgood c p = true ↔ (0 ≤ c ∧ c ≤ 4000) ∧ 0 ≤ p ∧ p ≤ 4000 := by simp [hgood, ctd_iff]

set_option maxHeartbeats 400000 in
theorem hgood_any (c p : Int) (n : Nat) (w : World) : Calls Tryd.prog 36 #[.agg #[.int .i64 c, .int .i64 p, .int .u64 (n : Int)]] w fun e w' => e = .returned (.bool (hgood c p)) ∧ Below w.heap.size w w' := by
  have c1 := hid (counted_any c)
  have c2 := hid (counted_any p)
  unfold hgood
  generalize ctd c = b1 at *
  generalize ctd p = b2 at *
  cases b1 with
  | true =>
    go_enter Tryd.func36, Tryd.ntmps36
    go_wp2_with (first | (go_at_call 49; refine (c1.out _).mono ?_; rintro e w1 ⟨rfl, hw1⟩; obtain rfl := hw1.symm; clear c1) | (go_at_call 49; refine (c2.out _).mono ?_; rintro e w1 ⟨rfl, hw1⟩; obtain rfl := hw1.symm))
    go_ret
    exact ⟨by simp, Below.alloc (Below.refl _ _) (Nat.le_refl _) _⟩
  | false =>
    go_enter Tryd.func36, Tryd.ntmps36
    go_wp2_with (go_at_call 49; refine (c1.out _).mono ?_; rintro e w1 ⟨rfl, hw1⟩; obtain rfl := hw1.symm)
    go_ret
    exact ⟨by simp, Below.alloc (Below.refl _ _) (Nat.le_refl _) _⟩

def rgood (p : Int) (n : Nat) : Bool := decide (1 ≤ p) && decide (p ≤ 4000) && decide (n = 512)
theorem rgood_iff (p : Int) (n : Nat) : rgood p n = true ↔ (1 ≤ p ∧ p ≤ 4000) ∧ n = 512 := by simp [rgood]

set_option maxHeartbeats 400000 in
theorem rgood_any (p : Int) (ao : Option Addr) (n cap : Nat) (w : World) : Calls Tryd.prog 30 #[.agg #[.int .i64 p, .slice ao n cap]] w fun e w' => e = .returned (.bool (rgood p n)) ∧ Below w.heap.size w w' := by
  by_cases h2 : n = 512
  · subst h2
    by_cases h : 1 ≤ p
    · by_cases h' : p ≤ 4000
      · skip
        rw [show rgood p 512 = true by exact (rgood_iff _ _).2 ⟨⟨by omega, by omega⟩, rfl⟩]
        go_enter Tryd.func30, Tryd.ntmps30
        go_wp2
        go_ret
        exact ⟨rfl, Below.alloc (Below.refl _ _) (Nat.le_refl _) _⟩
      · skip
        rw [show rgood p 512 = false by rw [Bool.eq_false_iff, Ne, rgood_iff]; omega]
        go_enter Tryd.func30, Tryd.ntmps30
        go_wp2
        go_ret
        exact ⟨rfl, Below.alloc (Below.refl _ _) (Nat.le_refl _) _⟩
    · skip
      rw [show rgood p 512 = false by rw [Bool.eq_false_iff, Ne, rgood_iff]; omega]
      go_enter Tryd.func30, Tryd.ntmps30
      go_wp2
      go_ret
      exact ⟨rfl, Below.alloc (Below.refl _ _) (Nat.le_refl _) _⟩
  · have h3 : ((n : Int) == 512) = false := by simp; omega
    by_cases h : 1 ≤ p
    · by_cases h' : p ≤ 4000
      · skip
        rw [show rgood p n = false by rw [Bool.eq_false_iff, Ne, rgood_iff]; omega]
        go_enter Tryd.func30, Tryd.ntmps30
        go_wp2
        go_ret
        exact ⟨rfl, Below.alloc (Below.refl _ _) (Nat.le_refl _) _⟩
      · skip
        rw [show rgood p n = false by rw [Bool.eq_false_iff, Ne, rgood_iff]; omega]
        go_enter Tryd.func30, Tryd.ntmps30
        go_wp2
        go_ret
        exact ⟨rfl, Below.alloc (Below.refl _ _) (Nat.le_refl _) _⟩
    · skip
      rw [show rgood p n = false by rw [Bool.eq_false_iff, Ne, rgood_iff]; omega]
      go_enter Tryd.func30, Tryd.ntmps30
      go_wp2
      go_ret
      exact ⟨rfl, Below.alloc (Below.refl _ _) (Nat.le_refl _) _⟩

end Go.Proofs.YtndlogjmnbgegaaDoor
