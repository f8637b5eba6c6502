/- The law CellZigs, walked; no statement of the seat is proved here. -/
import Derived.Test.YtbpcekhfjkodcaaAl
namespace Go.Proofs.Ytbpcekhfjkodcaa
open Go.RowKit

theorem zig_near (k : Int) (h1 : -64 < k) (h2 : k < 64) : zigN k ≤ 127 := by unfold zigN; split <;> omega

set_option maxHeartbeats 1000000 in
theorem zigs_law (k : Int) (z : Nat) (w : World) (hk : I64 k) (hz : z < 18446744073709551616) :
    Calls Try.prog 6 #[.int .i64 k, .int .u64 (z : Int)] w fun e w' => e = .returned (.bool true) ∧ Below w.heap.size w w' := by
  have c1 := hid (zig_any k hk)
  have c2 := hid (zag_any (zigN k) (zigN_lt k hk))
  rw [zag_zig k hk] at c2
  have c3 := hid (zag_any z hz)
  have c4 := hid (zig_any (zagN z) (zag_in z hz))
  rw [zig_zag] at c4
  have hl := hid lives_any
  by_cases h1 : -64 < k ∧ k < 64
  · have hn : ((zigN k : Nat) : Int) ≤ 127 := by have := zig_near k h1.1 h1.2; omega
    obtain ⟨h1, h2⟩ := h1
    have t1 : Hid True := hid trivial
    have t2 : Hid True := hid trivial
    have t3 : Hid True := hid trivial
    generalize zigN k = m at *
    generalize zagN z = y at *
    clear hk hz
    go_enter Try.func6, Try.ntmps6
    go_wp2_with (first
      | (go_at_call 24; clear t1; refine (c1.out _).mono ?_; rintro e w1 ⟨rfl, hw⟩; obtain rfl := hw.symm)
      | (go_at_call 24; clear t2; refine (c1.out _).mono ?_; rintro e w1 ⟨rfl, hw⟩; obtain rfl := hw.symm)
      | (go_at_call 26; clear t3; refine (c2.out _).mono ?_; rintro e w1 ⟨rfl, hw⟩; obtain rfl := hw.symm)
      | (go_at_call 26; refine (c3.out _).mono ?_; rintro e w1 ⟨rfl, hw⟩; obtain rfl := hw.symm)
      | (go_at_call 24; refine (c4.out _).mono ?_; rintro e w1 ⟨rfl, hw⟩; obtain rfl := hw.symm)
      | (go_at_call 8; refine (hl.out _).mono ?_; rintro e w1 ⟨rfl, hb⟩; have B1 := hid hb; clear hb))
    go_ret
    exact ⟨rfl, B1.out⟩
  · have t2 : Hid True := hid trivial
    have t3 : Hid True := hid trivial
    generalize zigN k = m at *
    generalize zagN z = y at *
    clear hk hz
    have h2 : k ≤ -64 ∨ (-64 < k ∧ 64 ≤ k) := by omega
    clear h1
    rcases h2 with h2 | ⟨h2, h3⟩
    all_goals
      go_enter Try.func6, Try.ntmps6
      go_wp2_with (first
        | (go_at_call 24; clear t2; refine (c1.out _).mono ?_; rintro e w1 ⟨rfl, hw⟩; obtain rfl := hw.symm)
        | (go_at_call 26; clear t3; refine (c2.out _).mono ?_; rintro e w1 ⟨rfl, hw⟩; obtain rfl := hw.symm)
        | (go_at_call 26; refine (c3.out _).mono ?_; rintro e w1 ⟨rfl, hw⟩; obtain rfl := hw.symm)
        | (go_at_call 24; refine (c4.out _).mono ?_; rintro e w1 ⟨rfl, hw⟩; obtain rfl := hw.symm)
        | (go_at_call 8; refine (hl.out _).mono ?_; rintro e w1 ⟨rfl, hb⟩; have B1 := hid hb; clear hb))
      go_ret
      exact ⟨rfl, B1.out⟩

end Go.Proofs.Ytbpcekhfjkodcaa
