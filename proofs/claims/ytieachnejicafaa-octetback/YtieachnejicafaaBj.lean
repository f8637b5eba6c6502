/- What octet.Take returns; no statement of the seat is proved here. -/
import Derived.Test.YtieachnejicafaaBi
namespace Go.Proofs.Ytieachnejicafaa
open Go.RowKit

/-- The number that begins a list as a Var, and how many bytes it has. -/
def takeN (xs : List Nat) : Nat × Nat := if (asm 0 8 xs).2 = szN (asm 0 8 xs).1 then asm 0 8 xs else (0, 0)

theorem asm_bound (m : Nat) : ∀ (acc : Nat) (xs : List Nat), (∀ x ∈ xs, x < 256) → m ≤ 8 → acc < 2 ^ (7 * (8 - m)) → (asm acc m xs).1 < 18446744073709551616 ∧ (asm acc m xs).2 ≤ 9 := by
  induction m with
  | zero =>
    intro acc xs hx _ ha
    cases xs with
    | nil => simp [asm]
    | cons c r =>
      have := hx c (by simp)
      simp [asm] at ha ⊢
      omega
  | succ m ih =>
    intro acc xs hx hm ha
    cases xs with
    | nil => simp [asm]
    | cons c r =>
      have hc := hx c (by simp)
      have hp : 2 ^ (7 * (8 - (m + 1))) ≤ 2 ^ 49 := Nat.pow_le_pow_right (by omega) (by omega)
      simp only [asm]
      split
      · simp; omega
      · refine ih _ r (fun x h => hx x (by simp [h])) (by omega) ?_
        have := acc_step acc (c - 128) (8 - (m + 1)) ha (by omega)
        rwa [show 8 - (m + 1) + 1 = 8 - m by omega] at this

set_option maxHeartbeats 1000000 in
theorem take_any (ao : Option Addr) (n cap : Nat) (xs : List Nat) (w : World) (h : Rd w ao n cap xs) (hx : ∀ x ∈ xs, x < 256) (hn : n ≤ 9223372036854775807) :
    Calls Try.prog 10 #[.slice ao n cap] w fun e w' => e = .returned (.tuple #[.int .u64 ((takeN xs).1 : Nat), .int .i64 ((takeN xs).2 : Nat)]) ∧ Below w.heap.size w w' := by
  have hl := h.1
  subst hl
  have ca := hid fun w1 h0 => asm_tell (w.heap.size + 1) w.heap.size xs hx (fun k W => Tell w (w.heap.size + 1) w.heap.size ao xs.length cap k W)
    (fun k W hT hk => tell_more w _ _ ao xs.length cap xs h hn k W hT hk) (fun W hT => tell_end w _ _ ao xs.length cap W hT) w1 h0
  have ct := hid (teller_any ao xs.length cap w)
  have hb := asm_bound 8 0 xs hx (by omega) (by simp)
  unfold takeN
  obtain ⟨R, hR⟩ : ∃ R, R = asm 0 8 xs := ⟨_, rfl⟩
  rw [← hR] at ca hb ⊢
  clear hR
  obtain ⟨r1, r2⟩ := R
  simp only at hb ca ⊢
  have cs := hid (size_any r1 hb.1)
  generalize szN r1 = z at *
  generalize w.heap.size + 1 = p1 at *
  clear hx h hn
  by_cases hz : r2 = z
  · subst hz
    rw [if_pos rfl]
    go_enter Try.func10, Try.ntmps10
    go_wp2_with (first | (go_at_call 29; refine ct.out.mono ?_; rintro e w1 ⟨rfl, hT⟩; replace hT := hid hT) | (go_at_call 30; refine (ca.out _ hT.out).mono ?_; rintro e w2 ⟨rfl, k, hT2, hk2⟩; replace hT2 := hid hT2; replace hk2 := hid hk2) | (go_at_call 16; refine (cs.out _).mono ?_; rintro e w3 ⟨rfl, hw3⟩; obtain rfl := hw3.symm))
    go_ret2
    exact ⟨rfl, hT2.out.2.2.2⟩
  · rw [if_neg hz]
    have hz' : ((r2 : Int) == (z : Int)) = false := by simp; omega
    have hz2 := hid hz
    clear hz
    go_enter Try.func10, Try.ntmps10
    go_wp2_with (first | (go_at_call 29; refine ct.out.mono ?_; rintro e w1 ⟨rfl, hT⟩; replace hT := hid hT) | (go_at_call 30; refine (ca.out _ hT.out).mono ?_; rintro e w2 ⟨rfl, k, hT2, hk2⟩; replace hT2 := hid hT2; replace hk2 := hid hk2) | (go_at_call 16; refine (cs.out _).mono ?_; rintro e w3 ⟨rfl, hw3⟩; obtain rfl := hw3.symm))
    all_goals (go_ret2; exact ⟨rfl, hT2.out.2.2.2⟩)

end Go.Proofs.Ytieachnejicafaa
