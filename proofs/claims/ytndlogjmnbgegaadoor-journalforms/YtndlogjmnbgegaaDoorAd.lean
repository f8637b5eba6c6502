/- The numbers that bytes make; what the document's own function Get returns; no statement of the seat is proved here. -/
import Derived.Test.YtndlogjmnbgegaaDoorAb
namespace Go.Proofs.YtndlogjmnbgegaaDoor
open Go.RowKit

theorem getD_lt {xs : List Nat} (h : ∀ x ∈ xs, x < 256) (i : Nat) (hi : i < xs.length) : xs.getD i 0 < 256 := by
  rw [List.getD_eq_getElem?_getD, List.getElem?_eq_getElem hi]
  exact h _ (List.getElem_mem hi)

theorem drop_getD (xs : List Nat) (i : Nat) (hi : i < xs.length) : xs.drop i = xs.getD i 0 :: xs.drop (i + 1) := by
  rw [List.drop_eq_getElem_cons hi, List.getD_eq_getElem?_getD, List.getElem?_eq_getElem hi]
  rfl

theorem wraps_u64 (n : Int) (h0 : 0 ≤ n) (h1 : n < 2 ^ 64) : IntKind.u64.wrap n = n := by rw [IntKind.wrap_u64]; omega

theorem or_join (a x k : Nat) (hx : x < 2 ^ k) (h : a * 2 ^ k + x < 18446744073709551616) : bits .or .u64 ((a : Int) * ((2 ^ k : Nat) : Int)) (x : Int) = ((a * 2 ^ k + x : Nat) : Int) := by
  have h1 := (bits_nat .u64 64 (by decide) wraps_u64 (a * 2 ^ k) x (by omega) (by omega)).2
  rw [Int.natCast_mul] at h1
  rw [h1, Nat.mul_comm a, ← Nat.two_pow_add_eq_or_of_lt hx a]

theorem or8 (a x : Nat) (hx : x < 256) (h : a < 72057594037927936) : bits .or .u64 ((a : Int) * 256) (x : Int) = ((a * 256 + x : Nat) : Int) := by
  simpa using or_join a x 8 (by omega) (by omega)

/-- The number that the first i of s bytes make, in either order. -/
def psum (xs : List Nat) (s : Nat) (l : Bool) : Nat → Nat
  | 0 => 0
  | i + 1 => psum xs s l i + xs.getD i 0 * 2 ^ (8 * place l s i)

theorem psum_big (xs : List Nat) (s : Nat) (hx : ∀ x ∈ xs, x < 256) (hs : s ≤ xs.length) : ∀ i, i ≤ s → ∃ q, q < 2 ^ (8 * i) ∧ psum xs s false i = q * 2 ^ (8 * (s - i)) := by
  intro i
  induction i with
  | zero => intro _; exact ⟨0, by simp, by simp [psum]⟩
  | succ i ih =>
    intro hi
    obtain ⟨q, hq, e⟩ := ih (by omega)
    have hc := getD_lt hx i (by omega)
    refine ⟨q * 256 + xs.getD i 0, ?_, ?_⟩
    · rw [show 8 * (i + 1) = 8 * i + 8 by omega, Nat.pow_add]; omega
    · simp only [psum, e, place]
      rw [show 8 * (s - i) = 8 + 8 * (s - (i + 1)) by omega, Nat.pow_add, show s - 1 - i = s - (i + 1) by omega, Nat.add_mul, Nat.mul_assoc]
      rfl

theorem psum_little (xs : List Nat) (s : Nat) (hx : ∀ x ∈ xs, x < 256) (hs : s ≤ xs.length) : ∀ i, i ≤ s → psum xs s true i < 2 ^ (8 * i) := by
  intro i
  induction i with
  | zero => intro _; simp [psum]
  | succ i ih =>
    intro hi
    have h := ih (by omega)
    have hc := getD_lt hx i (by omega)
    simp only [psum, place, if_true]
    rw [show 8 * (i + 1) = 8 * i + 8 by omega, Nat.pow_add]
    have h2 : xs.getD i 0 * 2 ^ (8 * i) ≤ 255 * 2 ^ (8 * i) := Nat.mul_le_mul_right _ (by omega)
    omega

theorem psum_lt (xs : List Nat) (s : Nat) (l : Bool) (hx : ∀ x ∈ xs, x < 256) (hs : s ≤ xs.length) (h8 : s ≤ 8) (i : Nat) (hi : i ≤ s) : psum xs s l i < 18446744073709551616 := by
  cases l with
  | true =>
    have h := psum_little xs s hx hs i hi
    have hp : 2 ^ (8 * i) ≤ 2 ^ 64 := Nat.pow_le_pow_right (by omega) (by omega)
    omega
  | false =>
    obtain ⟨q, hq, e⟩ := psum_big xs s hx hs i hi
    have h1 : q * 2 ^ (8 * (s - i)) < 2 ^ (8 * i) * 2 ^ (8 * (s - i)) := Nat.mul_lt_mul_of_pos_right hq (Nat.pow_pos (by omega))
    rw [← Nat.pow_add, show 8 * i + 8 * (s - i) = 8 * s by omega] at h1
    have hp : 2 ^ (8 * s) ≤ 2 ^ 64 := Nat.pow_le_pow_right (by omega) (by omega)
    omega

theorem psum_or (xs : List Nat) (s : Nat) (l : Bool) (hx : ∀ x ∈ xs, x < 256) (hs : s ≤ xs.length) (i : Nat) (hi : i < s) :
    psum xs s l i ||| xs.getD i 0 * 2 ^ (8 * place l s i) = psum xs s l (i + 1) := by
  have hc := getD_lt hx i (by omega)
  cases l with
  | true =>
    have h := psum_little xs s hx hs i (by omega)
    simp only [psum, place, if_true]
    rw [Nat.or_comm, Nat.mul_comm, ← Nat.two_pow_add_eq_or_of_lt h, Nat.add_comm]
  | false =>
    obtain ⟨q, hq, e⟩ := psum_big xs s hx hs i (by omega)
    simp only [psum, e, place]
    have hlt : xs.getD i 0 * 2 ^ (8 * (s - 1 - i)) < 2 ^ (8 * (s - i)) := by
      rw [show 8 * (s - i) = 8 + 8 * (s - 1 - i) by omega, Nat.pow_add]
      exact Nat.mul_lt_mul_of_pos_right (by omega) (Nat.pow_pos (by omega))
    rw [if_neg (by simp), Nat.mul_comm q, ← Nat.two_pow_add_eq_or_of_lt hlt]

theorem getD_term_lt (xs : List Nat) (s : Nat) (l : Bool) (hx : ∀ x ∈ xs, x < 256) (hs : s ≤ xs.length) (h8 : s ≤ 8) (i : Nat) (hi : i < s) : xs.getD i 0 * 2 ^ (8 * place l s i) < 18446744073709551616 := by
  have := psum_lt xs s l hx hs h8 (i + 1) (by omega)
  simp only [psum] at this
  omega

/-- What Get answers. -/
def getV (xs : List Nat) (s : Int) (l : Bool) : Nat × Bool := if 1 ≤ s ∧ s ≤ 8 ∧ s ≤ (xs.length : Int) then (psum xs s.toNat l s.toNat, true) else (0, false)

theorem getV_lt (xs : List Nat) (s : Int) (l : Bool) (hx : ∀ x ∈ xs, x < 256) : (getV xs s l).1 < 18446744073709551616 := by
  unfold getV
  split
  · exact psum_lt xs s.toNat l hx (by omega) (by omega) s.toNat (Nat.le_refl _)
  · simp

def hsum (xs : List Nat) (s : Nat) (l : Bool) : Nat → Nat
  | 0 => 0
  | i + 1 => hsum xs s l i * 256 + xs.getD (if l then s - 1 - i else i) 0

theorem hsum_lt (xs : List Nat) (s : Nat) (l : Bool) (hx : ∀ x ∈ xs, x < 256) (hs : s ≤ xs.length) : ∀ i, i ≤ s → hsum xs s l i < 2 ^ (8 * i) := by
  intro i
  induction i with
  | zero => intro _; simp [hsum]
  | succ i ih =>
    intro hi
    have h := ih (by omega)
    have hc := getD_lt hx (if l then s - 1 - i else i) (by split <;> omega)
    simp only [hsum]
    rw [show 8 * (i + 1) = 8 * i + 8 by omega, Nat.pow_add]
    omega

theorem hsum_eq (xs : List Nat) (s : Nat) (l : Bool) (h8 : s ≤ 8) : hsum xs s l s = psum xs s l s := by
  have e : s = 0 ∨ s = 1 ∨ s = 2 ∨ s = 3 ∨ s = 4 ∨ s = 5 ∨ s = 6 ∨ s = 7 ∨ s = 8 := by omega
  rcases e with rfl | rfl | rfl | rfl | rfl | rfl | rfl | rfl | rfl <;> cases l <;> simp [hsum, psum, place] <;> omega

set_option maxHeartbeats 1000000 in
set_option maxRecDepth 20000 in
theorem rget_ok (b off n cap : Nat) (xs : List Nat) (k : Nat) (l : Bool) (w : World) (hc : ∀ t, t < n → w.cell? ⟨b, off + t, none⟩ = some (.int .u8 ((xs.getD t 0 : Nat) : Int))) (hl : xs.length = n) (hx : ∀ x ∈ xs, x < 256) (hk : 1 ≤ k) (h8 : k ≤ 8) (hkn : k ≤ n) :
    Calls Tryd.prog 44 #[.slice (some ⟨b, off, none⟩) n cap, .int .i64 k, .bool l] w fun e w' => e = .returned (.tuple #[.int .u64 (hsum xs k l k : Nat), .bool true]) ∧ w = w' := by
  have hx' := hid hx
  have hc' := hid hc
  have hle : ¬ (n : Int) < (k : Int) := by omega
  clear hx hc
  go_enter Tryd.func44, Tryd.ntmps44
  go_wp2
  go_loopw [8, 9] (fun a c W => ∃ (i : Nat), i ≤ k ∧ a = .int .u64 (hsum xs k l i : Nat) ∧ c = .int .i64 (i : Int) ∧ w = W) (fun _ c _ => k - (intOf c).toNat)
  case atStart => exact ⟨0, by omega, rfl, rfl, rfl⟩
  case round =>
    obtain ⟨i, hi, rfl, rfl, rfl⟩ := hrel
    by_cases his : i < k
    · obtain ⟨j, hj⟩ : ∃ j, j = if l then k - 1 - i else i := ⟨_, rfl⟩
      have hjn : j < n := by rw [hj]; split <;> omega
      have hcell := hc'.out j hjn
      have hX2 := getD_lt hx'.out j (by omega)
      have hh := hsum_lt xs k l hx'.out (by omega) i (by omega)
      have hb : hsum xs k l i < 72057594037927936 := Nat.lt_of_lt_of_le hh (Nat.pow_le_pow_right (by omega) (by omega : 8 * i ≤ 56))
      obtain ⟨P1, hP1⟩ : ∃ P, P = hsum xs k l (i + 1) := ⟨_, rfl⟩
      have hor := or8 (hsum xs k l i) (xs.getD j 0) hX2 hb
      rw [show hsum xs k l i * 256 + xs.getD j 0 = P1 by rw [hP1, hj]; rfl] at hor
      have hP1' := hid hP1
      clear hP1 hh
      generalize hsum xs k l i = P0 at *
      generalize xs.getD j 0 = X at *
      cases l with
      | true =>
        have e1 : (k : Int) - 1 - (i : Int) = (j : Int) := by rw [hj]; simp; omega
        have e2 := hid hj
        clear hj
        go_wp2
        exact ⟨⟨i + 1, by omega, by rw [hP1'.out], by go_num, trivial⟩, by simp [intOf]; omega⟩
      | false =>
        simp only [Bool.false_eq_true, if_false] at hj
        subst hj
        go_wp2
        exact ⟨⟨j + 1, by omega, by rw [hP1'.out], by go_num, trivial⟩, by simp [intOf]; omega⟩
    · obtain rfl : i = k := by omega
      go_wp2
      go_ret2
      exact ⟨rfl, rfl⟩

set_option maxHeartbeats 400000 in
theorem rget_no (ao : Option Addr) (n cap : Nat) (s : Int) (l : Bool) (w : World) (h : ¬ (1 ≤ s ∧ s ≤ 8 ∧ s ≤ (n : Int))) :
    Calls Tryd.prog 44 #[.slice ao n cap, .int .i64 s, .bool l] w fun e w' => e = .returned (.tuple #[.int .u64 0, .bool false]) ∧ w = w' := by
  by_cases h1 : s < 1
  · go_enter Tryd.func44, Tryd.ntmps44
    go_wp2
    go_ret2
    exact ⟨rfl, rfl⟩
  · by_cases h2 : 8 < s
    · go_enter Tryd.func44, Tryd.ntmps44
      go_wp2
      go_ret2
      exact ⟨rfl, rfl⟩
    · have h3 : (n : Int) < s := by omega
      clear h
      go_enter Tryd.func44, Tryd.ntmps44
      go_wp2
      go_ret2
      exact ⟨rfl, rfl⟩

theorem rget_any (ao : Option Addr) (n cap : Nat) (xs : List Nat) (s : Int) (l : Bool) (w : World) (h : Rd w ao n cap xs) (hx : ∀ x ∈ xs, x < 256) :
    Calls Tryd.prog 44 #[.slice ao n cap, .int .i64 s, .bool l] w fun e w' => e = .returned (.tuple #[.int .u64 ((getV xs s l).1 : Nat), .bool (getV xs s l).2]) ∧ w = w' := by
  obtain ⟨hl, _, _, hat⟩ := h
  subst hl
  unfold getV
  by_cases hs : 1 ≤ s ∧ s ≤ 8 ∧ s ≤ (xs.length : Int)
  · rw [if_pos hs]
    obtain ⟨k, rfl⟩ : ∃ k : Nat, s = (k : Int) := ⟨s.toNat, by omega⟩
    obtain ⟨b, off, rfl, hc⟩ := hat (by omega)
    have := rget_ok b off xs.length cap xs k l w hc rfl hx (by omega) (by omega) (by omega)
    rw [hsum_eq xs k l (by omega)] at this
    simpa using this
  · rw [if_neg hs]
    exact rget_no ao xs.length cap s l w hs

end Go.Proofs.YtndlogjmnbgegaaDoor
