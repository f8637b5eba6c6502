/- What gather does with a function that tells bytes; no statement of the seat is proved here. -/
import Derived.Test.YtieachnejicafaaBi
namespace Go.Proofs.Ytieachnejicafaa
open Go.RowKit

/-- The number that the first i of s bytes make, in either order. -/
def psum (xs : List Nat) (s : Nat) (l : Bool) : Nat → Nat
  | 0 => 0
  | i + 1 => psum xs s l i + xs.getD i 0 * 2 ^ (8 * place l s i)

theorem psum_big (xs : List Nat) (s : Nat) (hx : ∀ x ∈ xs, x < 256) (hs : s ≤ xs.length) : ∀ i, i ≤ s → ∃ q, q < 2 ^ (8 * i) ∧ psum xs s false i = q * 2 ^ (8 * (s - i)) := by
  intro i
  induction i with
  | zero => intro _; exact ⟨0, by simp, by simp [psum]⟩
  | succ i ih =>
    intro hi
    obtain ⟨q, hq, e⟩ := ih (by omega)
    have hc := getD_lt hx i (by omega)
    refine ⟨q * 256 + xs.getD i 0, ?_, ?_⟩
    · rw [show 8 * (i + 1) = 8 * i + 8 by omega, Nat.pow_add]; omega
    · simp only [psum, e, place]
      rw [show 8 * (s - i) = 8 + 8 * (s - (i + 1)) by omega, Nat.pow_add, show s - 1 - i = s - (i + 1) by omega, Nat.add_mul, Nat.mul_assoc]
      rfl

theorem psum_little (xs : List Nat) (s : Nat) (hx : ∀ x ∈ xs, x < 256) (hs : s ≤ xs.length) : ∀ i, i ≤ s → psum xs s true i < 2 ^ (8 * i) := by
  intro i
  induction i with
  | zero => intro _; simp [psum]
  | succ i ih =>
    intro hi
    have h := ih (by omega)
    have hc := getD_lt hx i (by omega)
    simp only [psum, place, if_true]
    rw [show 8 * (i + 1) = 8 * i + 8 by omega, Nat.pow_add]
    have h2 : xs.getD i 0 * 2 ^ (8 * i) ≤ 255 * 2 ^ (8 * i) := Nat.mul_le_mul_right _ (by omega)
    omega

theorem psum_lt (xs : List Nat) (s : Nat) (l : Bool) (hx : ∀ x ∈ xs, x < 256) (hs : s ≤ xs.length) (h8 : s ≤ 8) (i : Nat) (hi : i ≤ s) : psum xs s l i < 18446744073709551616 := by
  cases l with
  | true =>
    have h := psum_little xs s hx hs i hi
    have hp : 2 ^ (8 * i) ≤ 2 ^ 64 := Nat.pow_le_pow_right (by omega) (by omega)
    omega
  | false =>
    obtain ⟨q, hq, e⟩ := psum_big xs s hx hs i hi
    have h1 : q * 2 ^ (8 * (s - i)) < 2 ^ (8 * i) * 2 ^ (8 * (s - i)) := Nat.mul_lt_mul_of_pos_right hq (Nat.pow_pos (by omega))
    rw [← Nat.pow_add, show 8 * i + 8 * (s - i) = 8 * s by omega] at h1
    have hp : 2 ^ (8 * s) ≤ 2 ^ 64 := Nat.pow_le_pow_right (by omega) (by omega)
    omega

theorem psum_or (xs : List Nat) (s : Nat) (l : Bool) (hx : ∀ x ∈ xs, x < 256) (hs : s ≤ xs.length) (i : Nat) (hi : i < s) :
    psum xs s l i ||| xs.getD i 0 * 2 ^ (8 * place l s i) = psum xs s l (i + 1) := by
  have hc := getD_lt hx i (by omega)
  cases l with
  | true =>
    have h := psum_little xs s hx hs i (by omega)
    simp only [psum, place, if_true]
    rw [Nat.or_comm, Nat.mul_comm, ← Nat.two_pow_add_eq_or_of_lt h, Nat.add_comm]
  | false =>
    obtain ⟨q, hq, e⟩ := psum_big xs s hx hs i (by omega)
    simp only [psum, e, place]
    have hlt : xs.getD i 0 * 2 ^ (8 * (s - 1 - i)) < 2 ^ (8 * (s - i)) := by
      rw [show 8 * (s - i) = 8 + 8 * (s - 1 - i) by omega, Nat.pow_add]
      exact Nat.mul_lt_mul_of_pos_right (by omega) (Nat.pow_pos (by omega))
    rw [if_neg (by simp), Nat.mul_comm q, ← Nat.two_pow_add_eq_or_of_lt hlt]

theorem getD_term_lt (xs : List Nat) (s : Nat) (l : Bool) (hx : ∀ x ∈ xs, x < 256) (hs : s ≤ xs.length) (h8 : s ≤ 8) (i : Nat) (hi : i < s) : xs.getD i 0 * 2 ^ (8 * place l s i) < 18446744073709551616 := by
  have := psum_lt xs s l hx hs h8 (i + 1) (by omega)
  simp only [psum] at this
  omega

set_option maxHeartbeats 1000000 in
set_option maxRecDepth 20000 in
theorem gather_tell (pa pb : Nat) (xs : List Nat) (hx : ∀ x ∈ xs, x < 256) (s : Nat) (l : Bool) (hs : s ≤ xs.length) (h8 : s ≤ 8) (St : Nat → World → Prop)
    (hmore : ∀ k W, St k W → k < xs.length → Calls Try.prog 36 #[.pointer (some ⟨pa, 0, none⟩), .pointer (some ⟨pb, 0, none⟩)] W fun e w' => e = .returned (.tuple #[.int .u8 ((xs.getD k 0 : Nat) : Int), .bool true]) ∧ St (k + 1) w')
    (w : World) (h0 : St 0 w) :
    Calls Try.prog 28 #[.func (.func 36) #[] #[.pointer (some ⟨pa, 0, none⟩), .pointer (some ⟨pb, 0, none⟩)], .int .i64 s, .bool l] w fun e w' =>
      e = .returned (.int .u64 (psum xs s l s : Nat)) ∧ St s w' := by
  have hmore' := hid hmore
  have hx' := hid hx
  have h0' := hid h0
  clear hmore hx h0
  go_enter Try.func28, Try.ntmps28
  go_wp2
  go_loopw [7, 12] (fun a c W => ∃ (i : Nat), i ≤ s ∧ a = .int .u64 (psum xs s l i : Nat) ∧ c = .int .i64 (i : Int) ∧ St i W) (fun _ c _ => s - (intOf c).toNat)
  case atStart => exact ⟨0, by omega, rfl, rfl, h0'.out⟩
  case round =>
    obtain ⟨i, hi, rfl, rfl, hS⟩ := hrel
    have hS' := hid hS
    clear hS
    by_cases his : i < s
    · have c := hid (hmore'.out i wr hS'.out (by omega))
      obtain ⟨sh, q, csh, _, hshl, _⟩ := shift_named (xs.getD i 0) i s l his h8
      have hor := bits_or_u64_nat (psum xs s l i) (xs.getD i 0 * 2 ^ (8 * place l s i)) (psum_lt xs s l hx'.out hs h8 i (by omega)) (getD_term_lt xs s l hx'.out hs h8 i his)
      rw [psum_or xs s l hx'.out hs i his] at hor
      have hw : IntKind.u64.wrap ((xs.getD i 0 * 2 ^ (8 * place l s i) : Nat) : Int) = ((xs.getD i 0 * 2 ^ (8 * place l s i) : Nat) : Int) := by
        rw [IntKind.wrap_u64]; have := getD_term_lt xs s l hx'.out hs h8 i his; omega
      rw [hw] at hshl
      have hX2 := getD_lt hx'.out i (by omega)
      have csh' := hid csh
      clear hw csh
      generalize xs.getD i 0 * 2 ^ (8 * place l s i) = t at *
      obtain ⟨P1, hP1⟩ : ∃ P, P = psum xs s l (i + 1) := ⟨_, rfl⟩
      rw [← hP1] at hor
      generalize psum xs s l i = P0 at *
      generalize xs.getD i 0 = X at *
      have hP1' := hid hP1
      clear hP1
      go_wp2_with (first | (go_at_call 36; refine c.out.mono ?_; rintro e w1 ⟨rfl, hS1⟩) | (go_at_call 32; refine (csh'.out _).mono ?_; rintro e w2 ⟨rfl, hw2⟩; obtain rfl := hw2.symm))
      exact ⟨⟨i + 1, by omega, by rw [hP1'.out], by go_num, hS1⟩, by simp [intOf]; omega⟩
    · obtain rfl : i = s := by omega
      go_wp2
      go_ret
      exact ⟨rfl, hS'.out⟩

end Go.Proofs.Ytieachnejicafaa
