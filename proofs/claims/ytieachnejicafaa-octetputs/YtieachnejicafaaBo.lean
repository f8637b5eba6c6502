/- What octet.Get returns; no statement of the seat is proved here. -/
import Derived.Test.YtieachnejicafaaBn
namespace Go.Proofs.Ytieachnejicafaa
open Go.RowKit

/-- What Get answers. -/
def getV (xs : List Nat) (s : Int) (l : Bool) : Nat × Bool := if 1 ≤ s ∧ s ≤ 8 ∧ s ≤ (xs.length : Int) then (psum xs s.toNat l s.toNat, true) else (0, false)

theorem getV_lt (xs : List Nat) (s : Int) (l : Bool) (hx : ∀ x ∈ xs, x < 256) : (getV xs s l).1 < 18446744073709551616 := by
  unfold getV
  split
  · exact psum_lt xs s.toNat l hx (by omega) (by omega) s.toNat (Nat.le_refl _)
  · simp

set_option maxHeartbeats 1000000 in
theorem get_any (ao : Option Addr) (n cap : Nat) (xs : List Nat) (s : Int) (l : Bool) (w : World) (h : Rd w ao n cap xs) (hx : ∀ x ∈ xs, x < 256) (hn : n ≤ 9223372036854775807) :
    Calls Try.prog 8 #[.slice ao n cap, .int .i64 s, .bool l] w fun e w' => e = .returned (.tuple #[.int .u64 ((getV xs s l).1 : Nat), .bool (getV xs s l).2]) ∧ Below w.heap.size w w' := by
  have hl := h.1
  subst hl
  have c27 := hid (sized_any s)
  have ct := hid (teller_any ao xs.length cap w)
  by_cases hs : 1 ≤ s ∧ s ≤ 8 ∧ s ≤ (xs.length : Int)
  · obtain ⟨k, rfl⟩ : ∃ k : Nat, s = (k : Int) := ⟨s.toNat, by omega⟩
    have ca := hid fun w1 h0 => gather_tell (w.heap.size + 1) w.heap.size xs hx k l (by omega) (by omega) (fun k W => Tell w (w.heap.size + 1) w.heap.size ao xs.length cap k W)
      (fun k W hT hk => tell_more w _ _ ao xs.length cap xs h hn k W hT hk) w1 h0
    rw [show (decide ((1 : Int) ≤ (k : Int)) && decide ((k : Int) ≤ 8)) = true by simp; omega] at c27
    unfold getV
    rw [if_pos hs, Int.toNat_natCast]
    simp only
    generalize psum xs k l k = R at *
    generalize w.heap.size + 1 = p1 at *
    have hle : ¬ (xs.length : Int) < (k : Int) := by omega
    clear hx h hn hs
    go_enter Try.func8, Try.ntmps8
    go_wp2_with (first | (go_at_call 27; refine (c27.out _).mono ?_; rintro e w3 ⟨rfl, hw3⟩; obtain rfl := hw3.symm) | (go_at_call 29; refine ct.out.mono ?_; rintro e w1 ⟨rfl, hT⟩; replace hT := hid hT) | (go_at_call 28; refine (ca.out _ hT.out).mono ?_; rintro e w2 ⟨rfl, hT2⟩; replace hT2 := hid hT2))
    go_ret2
    exact ⟨rfl, hT2.out.2.2.2⟩
  · unfold getV
    rw [if_neg hs]
    simp only
    by_cases hz : 1 ≤ s ∧ s ≤ 8
    · rw [show (decide (1 ≤ s) && decide (s ≤ 8)) = true by simp; omega] at c27
      have hle : (xs.length : Int) < s := by omega
      clear hx h hn hs
      go_enter Try.func8, Try.ntmps8
      go_wp2_with (go_at_call 27; refine (c27.out _).mono ?_; rintro e w3 ⟨rfl, hw3⟩; obtain rfl := hw3.symm)
      go_ret2
      exact ⟨rfl, Below.refl _ _⟩
    · rw [show (decide (1 ≤ s) && decide (s ≤ 8)) = false by simp; omega] at c27
      clear hx h hn hs
      go_enter Try.func8, Try.ntmps8
      go_wp2_with (go_at_call 27; refine (c27.out _).mono ?_; rintro e w3 ⟨rfl, hw3⟩; obtain rfl := hw3.symm)
      go_ret2
      exact ⟨rfl, Below.refl _ _⟩

end Go.Proofs.Ytieachnejicafaa
