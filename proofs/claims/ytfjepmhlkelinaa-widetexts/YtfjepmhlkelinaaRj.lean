/- What the document's own function tenth returns, as a contract over numbers below 2^192; no statement of the seat is proved here. -/
import Derived.Test.YtfjepmhlkelinaaRb
namespace Go.Proofs.Ytfjepmhlkelinaa
open Go.RowKit

theorem ten_step (n j : Nat) : n / 2 ^ j = 2 * (n / 2 ^ (j + 1)) + n / 2 ^ j % 2 := by
  have e : n / 2 ^ j / 2 = n / 2 ^ (j + 1) := by rw [Nat.pow_succ, Nat.div_div_eq_div_mul]
  omega

theorem ten_yes (n j : Nat) (h : 10 ≤ 2 * (n / 2 ^ (j + 1) % 10) + n / 2 ^ j % 2) :
    n / 2 ^ j % 10 = 2 * (n / 2 ^ (j + 1) % 10) + n / 2 ^ j % 2 - 10 ∧ n / 2 ^ (j + 1) / 10 * 2 ^ (j + 1) ||| 2 ^ j = n / 2 ^ j / 10 * 2 ^ j := by
  have s := ten_step n j
  have hb : n / 2 ^ j % 2 < 2 := Nat.mod_lt _ (by omega)
  refine ⟨by omega, ?_⟩
  have hlt : 2 ^ j < 2 ^ (j + 1) := Nat.pow_lt_pow_right (by omega) (by omega)
  rw [Nat.mul_comm, ← Nat.two_pow_add_eq_or_of_lt hlt, show n / 2 ^ j / 10 = 2 * (n / 2 ^ (j + 1) / 10) + 1 by omega, Nat.add_mul, Nat.one_mul, Nat.pow_succ, Nat.mul_assoc, Nat.mul_comm (2 ^ j)]

theorem ten_no (n j : Nat) (h : ¬ 10 ≤ 2 * (n / 2 ^ (j + 1) % 10) + n / 2 ^ j % 2) :
    n / 2 ^ j % 10 = 2 * (n / 2 ^ (j + 1) % 10) + n / 2 ^ j % 2 ∧ n / 2 ^ (j + 1) / 10 * 2 ^ (j + 1) = n / 2 ^ j / 10 * 2 ^ j := by
  have s := ten_step n j
  have hb : n / 2 ^ j % 2 < 2 := Nat.mod_lt _ (by omega)
  refine ⟨by omega, ?_⟩
  rw [show n / 2 ^ j / 10 = 2 * (n / 2 ^ (j + 1) / 10) by omega, Nat.pow_succ, Nat.mul_comm (2 ^ j), ← Nat.mul_assoc, Nat.mul_comm _ 2]

set_option maxHeartbeats 1000000 in
set_option maxRecDepth 100000 in
theorem tenth_any (n : Nat) (hn : n < 6277101735386680763835789423207666416102355444464034512896) (w : World) :
    Calls Try.prog 36 #[.agg #[.int .u64 (W0 (n)), .int .u64 (W1 (n)), .int .u64 (W2 (n))]] w fun e w' => e = .returned (.tuple #[.agg #[.int .u64 (W0 (n / 10)), .int .u64 (W1 (n / 10)), .int .u64 (W2 (n / 10))], .int .i64 ((n % 10 : Nat) : Int)]) ∧ Below w.heap.size w w' := by
  go_enter Try.func36, Try.ntmps36
  go_wp2
  go_loopw [5, 6] (fun r i W => ∃ k : Nat, k ≤ 192 ∧ i = .int .i64 ((k : Int) - 1) ∧ r = .int .i64 ((n / 2 ^ k % 10 : Nat) : Int) ∧ Has W w.heap.size n ∧ Has W (w.heap.size + 1) 0 ∧ Has W (w.heap.size + 1 + 1) (n / 2 ^ k / 10 * 2 ^ k) ∧ Below w.heap.size w W) (fun _ i W => (intOf i + 1).toNat)
  case atStart =>
    have e : n / 2 ^ 192 = 0 := Nat.div_eq_of_lt (show n < 2 ^ 192 from hn)
    refine ⟨192, by omega, rfl, by rw [e]; rfl, ?_, ?_, ?_, (by repeat (first | with_reducible exact Below.refl _ _ | with_reducible assumption | with_reducible refine Below.drew ?_ | with_reducible refine below_drewN ?_ _ | with_reducible refine Below.alloc ?_ (by simp <;> omega) _ | with_reducible refine Below.setCell ?_ (by simp <;> omega) _))⟩
    · exact ((Has.new w n _ _ rfl).alloc _).alloc _
    · exact (Has.new _ 0 _ _ (by simp)).alloc _
    · rw [e, Nat.zero_div, Nat.zero_mul]; exact Has.new _ 0 _ _ (by simp)
  case round =>
    obtain ⟨k, hk, rfl, rfl, ha, hr, ho, hB⟩ := hrel
    have la := ha.lt; have lr := hr.lt; have lo := ho.lt
    have hb' := hid hB
    generalize h2 : w.heap.size + 1 + 1 = p2 at *
    generalize h1 : w.heap.size + 1 = p1 at *
    have P1 : Hid (w.heap.size + 1 = p1) := h1
    have P2 : Hid (p1 + 1 = p2) := h2
    have d12 : ¬ p1 = p2 := by omega
    have d21 : ¬ p2 = p1 := by omega
    clear h1 h2
    cases k with
    | zero =>
      rw [Nat.pow_zero, Nat.div_one] at *
      rw [Nat.mul_one] at ho
      obtain ⟨⟨o0, o1, o2⟩, fo⟩ := ho
      obtain ⟨⟨r0, r1, r2⟩, fr⟩ := hr
      clear ha hB hk
      go_wp2
      exact bodyPost_ret (v := .tuple #[.agg #[.int .u64 (W0 (n / 10)), .int .u64 (W1 (n / 10)), .int .u64 (W2 (n / 10))], .int .i64 ((n % 10 : Nat) : Int)]) (by simp [results, Try.results36, go_sem, *]) rfl ⟨rfl, ((hb'.out.setCell (by have := P1.out; show w.heap.size ≤ p1; omega) _).setCell (by have := P1.out; show w.heap.size ≤ p1; omega) _).setCell (by have := P1.out; show w.heap.size ≤ p1; omega) _⟩
    | succ j =>
      rw [show ((j + 1 : Nat) : Int) - 1 = (j : Int) by omega]
      have hbm := hid (fun w => bit_any n j (by omega) w)
      have hpt := fun w => put_any (n / 2 ^ (j + 1) / 10 * 2 ^ (j + 1)) j (by omega) w
      have xb : n / 2 ^ j % 2 < 2 := Nat.mod_lt _ (by omega)
      have rb : n / 2 ^ (j + 1) % 10 < 10 := Nat.mod_lt _ (by omega)
      have y1 := hid (ten_yes n j)
      have y2 := hid (ten_no n j)
      generalize n / 2 ^ j % 2 = x at *
      generalize n / 2 ^ (j + 1) % 10 = r at *
      generalize n / 2 ^ (j + 1) / 10 * 2 ^ (j + 1) = o at *
      have HA : Hid (Has wr w.heap.size n) := ha; have HR : Hid (Has wr p1 0) := hr; have HO : Hid (Has wr p2 o) := ho
      obtain ⟨⟨a0, a1, a2⟩, fa⟩ := ha
      obtain ⟨⟨o0, o1, o2⟩, fo⟩ := ho
      have x1 : (x : Int) ≤ 1 := by omega
      have r1 : (r : Int) ≤ 9 := by omega
      have kk : (j : Int) < 192 := by omega
      by_cases h10 : 10 ≤ 2 * r + x
      · obtain ⟨e1, e2⟩ := y1.out h10
        rw [e2] at hpt
        have E1 := hid e1
        have PT := hid hpt
        have h10' : (10 : Int) ≤ 2 * (r : Int) + (x : Int) := by omega
        clear hr hB hk y1 y2 e1 e2 hpt h10 xb rb
        go_wp2_with (first | (go_at_call 28; refine (hbm.out _).mono ?_; rintro e w1 ⟨rfl, hb1⟩; obtain ⟨bc1, bf1⟩ := bcell hb1; have hz1 : p2 < w1.heap.size := (by have := hb1.size; omega)) | (go_at_call 29; refine (PT.out _).mono ?_; rintro e w2 ⟨rfl, hb2⟩; obtain ⟨bc2, bf2⟩ := bcell hb2))
        have g := gt hb1 hb2
        refine ⟨⟨j, by omega, rfl, congrArg (Value.int .i64) (by rw [E1.out]; omega), ?_, ?_, ?_, ?_⟩, by simp [intOf] <;> omega⟩
        · exact (((HA.out.grown g).far _ _ _ (by have := P1.out; have := P2.out; omega)).far _ _ _ (by have := P1.out; have := P2.out; omega)).far _ _ _ (by have := P1.out; have := P2.out; omega)
        · exact (((HR.out.grown g).far _ _ _ (by have := P1.out; have := P2.out; omega)).far _ _ _ (by have := P1.out; have := P2.out; omega)).far _ _ _ (by have := P1.out; have := P2.out; omega)
        · exact (HO.out.grown g).set _
        · exact (((gt hb'.out g).setCell (by have := P1.out; have := P2.out; show w.heap.size ≤ p2; omega) _).setCell (by have := P1.out; have := P2.out; show w.heap.size ≤ p2; omega) _).setCell (by have := P1.out; have := P2.out; show w.heap.size ≤ p2; omega) _
      · obtain ⟨e1, e2⟩ := y2.out h10
        have E1 := hid e1
        have E2 := hid e2
        have h10' : ¬ (10 : Int) ≤ 2 * (r : Int) + (x : Int) := by omega
        clear hr hB hk y1 y2 e1 e2 hpt h10 xb rb
        go_wp2_with (go_at_call 28; refine (hbm.out _).mono ?_; rintro e w1 ⟨rfl, hb1⟩)
        refine ⟨⟨j, by omega, rfl, congrArg (Value.int .i64) (by rw [E1.out]; omega), HA.out.grown hb1, HR.out.grown hb1, ?_, gt hb'.out hb1⟩, by simp [intOf] <;> omega⟩
        rw [← E2.out]
        exact HO.out.grown hb1
end Go.Proofs.Ytfjepmhlkelinaa
