/- What lives answers; no statement of the seat is proved here. -/
import Derived.Test.YtieachnejicafaaBe
namespace Go.Proofs.Ytieachnejicafaa
open Go.RowKit

/-- A call returned a slice that is the string S, as bytes. -/
def Says (w : World) (S : ByteArray) (e : Ending) (w' : World) : Prop :=
  ∃ ao k c, e = .returned (.slice ao k c) ∧ (∀ W, Below w'.heap.size w' W → (convert 22 9 (.slice ao k c)).run Try.prog W = .ok (.string S) W) ∧ Below w.heap.size w w'

theorem says_own {w : World} {f : Nat} {args : Array Value} {B g n c : Nat} {xs : List Nat} {S : ByteArray} (hS : S = str xs)
    (h : Calls Try.prog f args w fun e w' => e = .returned (.slice (some ⟨g, 0, none⟩) n c) ∧ w'.ownsRow B 5 1 (.slice (some ⟨g, 0, none⟩) n c) n (bs xs) ∧ Below w.heap.size w w') : Calls Try.prog f args w (Says w S) :=
  h.mono fun _ _ ⟨he, ho, hb⟩ => ⟨_, _, _, he, fun _ hW => hS ▸ conv_rd ((rd_own ho).keep hW) 22 9 5 Try.underlying22 Try.underlying5 Try.underlying9, hb⟩

theorem varN_300 : varN 300 = [130, 44] := by decide +kernel
theorem varN_top : varN 18446744073709551615 = [255, 255, 255, 255, 255, 255, 255, 255, 255] := by decide +kernel

theorem var_lit (v : Nat) (z : Int) (w : World) (hz : z = (v : Int)) (hv : v < 18446744073709551616) {S : ByteArray} (hS : S = str ([] ++ varN v)) : Calls Try.prog 14 #[.slice none 0 0, .int .u64 z] w (Says w S) := by
  subst hz
  exact says_own hS (var_any none 0 0 [] v w (Rd.nil w) hv (by omega))

set_option maxHeartbeats 400000 in
theorem lives_any (w : World) : Calls Try.prog 7 #[] w fun e w' => e = .returned (.bool true) ∧ Below w.heap.size w w' := by
  obtain ⟨S1, e1⟩ : ∃ S, S = str ([] ++ varN 300) := ⟨_, rfl⟩
  obtain ⟨S2, e2⟩ : ∃ S, S = str ([] ++ varN 18446744073709551615) := ⟨_, rfl⟩
  have c1 : Hid (∀ w, Calls Try.prog 14 #[.slice none 0 0, .int .u64 300] w (Says w S1)) := hid fun w => var_lit 300 300 w (by omega) (by omega) e1
  have c2 : Hid (∀ w, Calls Try.prog 14 #[.slice none 0 0, .int .u64 18446744073709551615] w (Says w S2)) := hid fun w => var_lit 18446744073709551615 18446744073709551615 w (by omega) (by omega) e2
  rw [varN_300] at e1
  rw [varN_top] at e2
  have d1 := hid e1
  have d2 := hid e2
  clear e1 e2
  have t1 : S1.toList = [130, 44] := by rw [d1.out]; decide +kernel
  have t2 : S2.toList = [255, 255, 255, 255, 255, 255, 255, 255, 255] := by rw [d2.out]; decide +kernel
  go_enter Try.func7, Try.ntmps7
  go_wp2_with (first | (go_at_call 14; refine (c1.out _).mono ?_; rintro e w1 ⟨ao1, n1, k1, rfl, hc1, hb1⟩; replace hc1 := hc1 w1 (Below.refl _ _); clear c1) | (go_at_call 14; refine (c2.out _).mono ?_; rintro e w2 ⟨ao2, n2, k2, rfl, hc2, hb2⟩; replace hc2 := hc2 w2 (Below.refl _ _)))
  go_ret
  exact ⟨rfl, gt hb1 hb2⟩

end Go.Proofs.Ytieachnejicafaa
