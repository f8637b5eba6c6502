/- What the document's own function Get returns; no statement of the seat is proved here. -/
import Derived.Test.YtieachnejicafaaBo
namespace Go.Proofs.Ytieachnejicafaa
open Go.RowKit

def hsum (xs : List Nat) (s : Nat) (l : Bool) : Nat → Nat
  | 0 => 0
  | i + 1 => hsum xs s l i * 256 + xs.getD (if l then s - 1 - i else i) 0

theorem hsum_lt (xs : List Nat) (s : Nat) (l : Bool) (hx : ∀ x ∈ xs, x < 256) (hs : s ≤ xs.length) : ∀ i, i ≤ s → hsum xs s l i < 2 ^ (8 * i) := by
  intro i
  induction i with
  | zero => intro _; simp [hsum]
  | succ i ih =>
    intro hi
    have h := ih (by omega)
    have hc := getD_lt hx (if l then s - 1 - i else i) (by split <;> omega)
    simp only [hsum]
    rw [show 8 * (i + 1) = 8 * i + 8 by omega, Nat.pow_add]
    omega

theorem hsum_eq (xs : List Nat) (s : Nat) (l : Bool) (h8 : s ≤ 8) : hsum xs s l s = psum xs s l s := by
  have e : s = 0 ∨ s = 1 ∨ s = 2 ∨ s = 3 ∨ s = 4 ∨ s = 5 ∨ s = 6 ∨ s = 7 ∨ s = 8 := by omega
  rcases e with rfl | rfl | rfl | rfl | rfl | rfl | rfl | rfl | rfl <;> cases l <;> simp [hsum, psum, place] <;> omega

set_option maxHeartbeats 1000000 in
set_option maxRecDepth 20000 in
theorem rget_ok (b off n cap : Nat) (xs : List Nat) (k : Nat) (l : Bool) (w : World) (hc : ∀ t, t < n → w.cell? ⟨b, off + t, none⟩ = some (.int .u8 ((xs.getD t 0 : Nat) : Int))) (hl : xs.length = n) (hx : ∀ x ∈ xs, x < 256) (hk : 1 ≤ k) (h8 : k ≤ 8) (hkn : k ≤ n) :
    Calls Try.prog 9 #[.slice (some ⟨b, off, none⟩) n cap, .int .i64 k, .bool l] w fun e w' => e = .returned (.tuple #[.int .u64 (hsum xs k l k : Nat), .bool true]) ∧ w = w' := by
  have hx' := hid hx
  have hc' := hid hc
  have hle : ¬ (n : Int) < (k : Int) := by omega
  clear hx hc
  go_enter Try.func9, Try.ntmps9
  go_wp2
  go_loopw [8, 9] (fun a c W => ∃ (i : Nat), i ≤ k ∧ a = .int .u64 (hsum xs k l i : Nat) ∧ c = .int .i64 (i : Int) ∧ w = W) (fun _ c _ => k - (intOf c).toNat)
  case atStart => exact ⟨0, by omega, rfl, rfl, rfl⟩
  case round =>
    obtain ⟨i, hi, rfl, rfl, rfl⟩ := hrel
    by_cases his : i < k
    · obtain ⟨j, hj⟩ : ∃ j, j = if l then k - 1 - i else i := ⟨_, rfl⟩
      have hjn : j < n := by rw [hj]; split <;> omega
      have hcell := hc'.out j hjn
      have hX2 := getD_lt hx'.out j (by omega)
      have hh := hsum_lt xs k l hx'.out (by omega) i (by omega)
      have hb : hsum xs k l i < 72057594037927936 := Nat.lt_of_lt_of_le hh (Nat.pow_le_pow_right (by omega) (by omega : 8 * i ≤ 56))
      obtain ⟨P1, hP1⟩ : ∃ P, P = hsum xs k l (i + 1) := ⟨_, rfl⟩
      have hor := or8 (hsum xs k l i) (xs.getD j 0) hX2 hb
      rw [show hsum xs k l i * 256 + xs.getD j 0 = P1 by rw [hP1, hj]; rfl] at hor
      have hP1' := hid hP1
      clear hP1 hh
      generalize hsum xs k l i = P0 at *
      generalize xs.getD j 0 = X at *
      cases l with
      | true =>
        have e1 : (k : Int) - 1 - (i : Int) = (j : Int) := by rw [hj]; simp; omega
        have e2 := hid hj
        clear hj
        go_wp2
        exact ⟨⟨i + 1, by omega, by rw [hP1'.out], by go_num, trivial⟩, by simp [intOf]; omega⟩
      | false =>
        simp only [Bool.false_eq_true, if_false] at hj
        subst hj
        go_wp2
        exact ⟨⟨j + 1, by omega, by rw [hP1'.out], by go_num, trivial⟩, by simp [intOf]; omega⟩
    · obtain rfl : i = k := by omega
      go_wp2
      go_ret2
      exact ⟨rfl, rfl⟩

set_option maxHeartbeats 400000 in
theorem rget_no (ao : Option Addr) (n cap : Nat) (s : Int) (l : Bool) (w : World) (h : ¬ (1 ≤ s ∧ s ≤ 8 ∧ s ≤ (n : Int))) :
    Calls Try.prog 9 #[.slice ao n cap, .int .i64 s, .bool l] w fun e w' => e = .returned (.tuple #[.int .u64 0, .bool false]) ∧ w = w' := by
  by_cases h1 : s < 1
  · go_enter Try.func9, Try.ntmps9
    go_wp2
    go_ret2
    exact ⟨rfl, rfl⟩
  · by_cases h2 : 8 < s
    · go_enter Try.func9, Try.ntmps9
      go_wp2
      go_ret2
      exact ⟨rfl, rfl⟩
    · have h3 : (n : Int) < s := by omega
      clear h
      go_enter Try.func9, Try.ntmps9
      go_wp2
      go_ret2
      exact ⟨rfl, rfl⟩

theorem rget_any (ao : Option Addr) (n cap : Nat) (xs : List Nat) (s : Int) (l : Bool) (w : World) (h : Rd w ao n cap xs) (hx : ∀ x ∈ xs, x < 256) :
    Calls Try.prog 9 #[.slice ao n cap, .int .i64 s, .bool l] w fun e w' => e = .returned (.tuple #[.int .u64 ((getV xs s l).1 : Nat), .bool (getV xs s l).2]) ∧ w = w' := by
  obtain ⟨hl, _, _, hat⟩ := h
  subst hl
  unfold getV
  by_cases hs : 1 ≤ s ∧ s ≤ 8 ∧ s ≤ (xs.length : Int)
  · rw [if_pos hs]
    obtain ⟨k, rfl⟩ : ∃ k : Nat, s = (k : Int) := ⟨s.toNat, by omega⟩
    obtain ⟨b, off, rfl, hc⟩ := hat (by omega)
    have := rget_ok b off xs.length cap xs k l w hc rfl hx (by omega) (by omega) (by omega)
    rw [hsum_eq xs k l (by omega)] at this
    simpa using this
  · rw [if_neg hs]
    exact rget_no ao xs.length cap s l w hs

end Go.Proofs.Ytieachnejicafaa
