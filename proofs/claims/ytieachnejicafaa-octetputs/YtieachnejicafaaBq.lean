/- What the document's own function Take returns; no statement of the seat is proved here. -/
import Derived.Test.YtieachnejicafaaBj
namespace Go.Proofs.Ytieachnejicafaa
open Go.RowKit

theorem and127 (c : Nat) (hc : c < 256) : bits .and .u8 (c : Int) 127 = ((c % 128 : Nat) : Int) := by
  have h := (bits_nat .u8 8 (by decide) wraps_u8 c 127 (by omega) (by omega)).1
  rw [show ((127 : Int)) = ((127 : Nat) : Int) by rfl, h]
  have := Nat.and_two_pow_sub_one_eq_mod c 7
  simp at this
  rw [this]

set_option maxHeartbeats 2000000 in
set_option maxRecDepth 20000 in
theorem rtake_some (b off n cap : Nat) (xs : List Nat) (w : World) (hc : ∀ t, t < n → w.cell? ⟨b, off + t, none⟩ = some (.int .u8 ((xs.getD t 0 : Nat) : Int))) (hl : xs.length = n) (hx : ∀ x ∈ xs, x < 256) (hp : 0 < n) (hn : n ≤ 9223372036854775807) :
    Calls Try.prog 11 #[.slice (some ⟨b, off, none⟩) n cap] w fun e w' => e = .returned (.tuple #[.int .u64 ((takeN xs).1 : Nat), .int .i64 ((takeN xs).2 : Nat)]) ∧ w = w' := by
  obtain ⟨T, hT⟩ : ∃ T, T = takeN xs := ⟨_, rfl⟩
  obtain ⟨R, hR⟩ : ∃ R, R = asm 0 8 xs := ⟨_, rfl⟩
  rw [← hT]
  unfold takeN at hT
  rw [← hR] at hT
  have hT' := hid hT
  have hR' := hid hR
  have hx' := hid hx
  have hc' := hid hc
  clear hT hR hx hc
  go_enter Try.func11, Try.ntmps11
  go_wp2
  go_loopw [4, 5] (fun a s W => ∃ (i acc : Nat), i ≤ 8 ∧ i ≤ n ∧ a = .int .u64 (acc : Int) ∧ s = .int .i64 (i : Int) ∧ acc < 2 ^ (7 * i) ∧ asm acc (8 - i) (xs.drop i) = R ∧ w = W) (fun _ s _ => (9 - intOf s).toNat)
  case atStart => exact ⟨0, 0, by omega, by omega, rfl, rfl, by simp, by simpa using hR'.out.symm, rfl⟩
  case round =>
    obtain ⟨i, acc, hi, hil, rfl, rfl, hacc, he, rfl⟩ := hrel
    have he' := hid he
    have hacc' := hid hacc
    clear he hacc
    by_cases hin : i < n
    · have hcell := hc'.out i hin
      obtain ⟨X, hX⟩ : ∃ X, X = xs.getD i 0 := ⟨_, rfl⟩
      have hd : xs.drop i = X :: xs.drop (i + 1) := by rw [hX]; exact drop_getD xs i (by omega)
      have hX2 : X < 256 := by rw [hX]; exact getD_lt hx'.out i (by omega)
      rw [← hX] at hcell
      rw [hd] at he'
      clear hd hX
      have hand := and127 X hX2
      by_cases hi8 : i < 8
      · have hb : acc < 562949953421312 := Nat.lt_of_lt_of_le hacc'.out (Nat.pow_le_pow_right (by omega) (by omega : 7 * i ≤ 49))
        rw [show 8 - i = (7 - i) + 1 by omega] at he'
        have he2 := he'.out
        simp only [asm] at he2
        have hi9 : ((i : Int) == 8) = false := by simp; omega
        by_cases hX3 : X < 128
        · obtain ⟨q, hq⟩ : ∃ q, q = acc * 128 + X := ⟨_, rfl⟩
          rw [Nat.mod_eq_of_lt hX3] at hand
          have hor := or7 acc X hX3 (by omega)
          rw [← hq] at hor
          rw [if_pos hX3, ← hq, show 8 - (7 - i) = i + 1 by omega] at he2
          have hT2 := hT'.out
          rw [← he2] at hT2
          simp only at hT2
          have cs := hid (rsize_any q (by omega))
          generalize szN q = z at *
          clear he' hq hT' he2
          by_cases hz : i + 1 = z
          · rw [if_pos hz] at hT2
            subst hT2
            have hz2 : ((z : Int) == (i : Int) + 1) = true := by simp; omega
            have hz' := hid hz
            clear hz
            go_wp2_with (go_at_call 17; refine (cs.out _).mono ?_; rintro e w1 ⟨rfl, hw1⟩; obtain rfl := hw1.symm)
            all_goals (go_ret2; exact ⟨rfl, rfl⟩)
          · rw [if_neg hz] at hT2
            subst hT2
            have hz2 : ((z : Int) == (i : Int) + 1) = false := by simp; omega
            have hz' := hid hz
            clear hz
            go_wp2_with (go_at_call 17; refine (cs.out _).mono ?_; rintro e w1 ⟨rfl, hw1⟩; obtain rfl := hw1.symm)
            all_goals (go_ret2; exact ⟨rfl, rfl⟩)
        · obtain ⟨y, hy⟩ : ∃ y, y = X - 128 := ⟨_, rfl⟩
          obtain ⟨q, hq⟩ : ∃ q, q = acc * 128 + y := ⟨_, rfl⟩
          rw [show X % 128 = y by omega] at hand
          have hyb : y < 128 := by omega
          have hor := or7 acc y hyb (by omega)
          rw [← hq] at hor
          rw [if_neg hX3, ← hy, ← hq] at he2
          have he3 := hid he2
          have hq' := hid hq
          clear he' hq he2 hy
          go_wp2
          refine ⟨⟨i + 1, q, by omega, by omega, rfl, by go_num, ?_, ?_, trivial⟩, by simp [intOf]; omega⟩
          · rw [hq'.out]; exact acc_step acc y i hacc'.out (by omega)
          · rw [show 8 - (i + 1) = 7 - i by omega]; exact he3.out
      · obtain rfl : i = 8 := by omega
        have hb : acc < 72057594037927936 := by have := hacc'.out; omega
        have he2 := he'.out
        simp only [Nat.sub_self, asm] at he2
        obtain ⟨q, hq⟩ : ∃ q, q = acc * 256 + X := ⟨_, rfl⟩
        have hor := or8 acc X (by omega) (by omega)
        rw [← hq] at hor he2
        have hT2 := hT'.out
        rw [← he2] at hT2
        simp only at hT2
        have cs := hid (rsize_any q (by omega))
        generalize szN q = z at *
        clear he' hq hT' he2 hand
        by_cases hz : 9 = z
        · rw [if_pos hz] at hT2
          subst hT2
          subst hz
          go_wp2_with (go_at_call 17; refine (cs.out _).mono ?_; rintro e w1 ⟨rfl, hw1⟩; obtain rfl := hw1.symm)
          all_goals (go_ret2; exact ⟨rfl, rfl⟩)
        · rw [if_neg hz] at hT2
          subst hT2
          have hz2 : ((z : Int) == 9) = false := by simp; omega
          have hz' := hid hz
          clear hz
          go_wp2_with (go_at_call 17; refine (cs.out _).mono ?_; rintro e w1 ⟨rfl, hw1⟩; obtain rfl := hw1.symm)
          all_goals (go_ret2; exact ⟨rfl, rfl⟩)
    · obtain rfl : i = n := by omega
      have he2 := he'.out
      rw [← hl, List.drop_length] at he2
      have hR0 : R = (0, 0) := by
        rw [← he2]
        cases h8 : 8 - xs.length <;> simp [asm]
      have hT2 := hT'.out
      rw [hR0] at hT2
      have hT0 : T = (0, 0) := by rw [hT2]; split <;> rfl
      subst hT0
      have hl' := hid hl
      clear he' he2 hT2 hR0 hT' hR' hl
      go_wp2
      all_goals (go_ret2; exact ⟨rfl, rfl⟩)

set_option maxHeartbeats 400000 in
theorem rtake_none (ao : Option Addr) (cap : Nat) (w : World) : Calls Try.prog 11 #[.slice ao 0 cap] w fun e w' => e = .returned (.tuple #[.int .u64 0, .int .i64 0]) ∧ w = w' := by
  go_enter Try.func11, Try.ntmps11
  go_wp2
  refine wp_loop_rounds 1 ?_
  rw [rounds_succ]
  go_wp2
  go_ret2
  exact ⟨rfl, rfl⟩

theorem rtake_any (ao : Option Addr) (n cap : Nat) (xs : List Nat) (w : World) (h : Rd w ao n cap xs) (hx : ∀ x ∈ xs, x < 256) (hn : n ≤ 9223372036854775807) :
    Calls Try.prog 11 #[.slice ao n cap] w fun e w' => e = .returned (.tuple #[.int .u64 ((takeN xs).1 : Nat), .int .i64 ((takeN xs).2 : Nat)]) ∧ w = w' := by
  obtain ⟨hl, _, _, hat⟩ := h
  subst hl
  rcases Nat.eq_zero_or_pos xs.length with h0 | hp
  · obtain rfl : xs = [] := List.eq_nil_of_length_eq_zero h0
    have e : takeN [] = (0, 0) := by decide
    rw [e]
    exact rtake_none ao cap w
  · obtain ⟨b, off, rfl, hc⟩ := hat hp
    exact rtake_some b off xs.length cap xs w hc rfl hx hp hn

end Go.Proofs.Ytieachnejicafaa
