/- What lives answers; no statement of the seat is proved here. -/
import Derived.Test.YtbpcekhfjkodcaaOBe
namespace Go.Proofs.Ytbpcekhfjkodcaa
open Go.RowKit

/-- A call returned a slice that is the string S, as bytes. -/
def Says (w : World) (S : ByteArray) (e : Ending) (w' : World) : Prop :=
  ∃ ao k c, e = .returned (.slice ao k c) ∧ (∀ W, Below w'.heap.size w' W → (convert 25 9 (.slice ao k c)).run Try.prog W = .ok (.string S) W) ∧ Below w.heap.size w w'

theorem says_own {w : World} {f : Nat} {args : Array Value} {B g n c : Nat} {xs : List Nat} {S : ByteArray} (hS : S = str xs)
    (h : Calls Try.prog f args w fun e w' => e = .returned (.slice (some ⟨g, 0, none⟩) n c) ∧ w'.ownsRow B 5 1 (.slice (some ⟨g, 0, none⟩) n c) n (bs xs) ∧ Below w.heap.size w w') : Calls Try.prog f args w (Says w S) :=
  h.mono fun _ _ ⟨he, ho, hb⟩ => ⟨_, _, _, he, fun _ hW => hS ▸ conv_rd ((rd_own ho).keep hW) 25 9 5 Try.underlying25 Try.underlying5 Try.underlying9, hb⟩

theorem varN_300 : varN 300 = [130, 44] := by decide +kernel
theorem varN_top : varN 18446744073709551615 = [255, 255, 255, 255, 255, 255, 255, 255, 255] := by decide +kernel

theorem var_lit (v : Nat) (z : Int) (w : World) (hz : z = (v : Int)) (hv : v < 18446744073709551616) {S : ByteArray} (hS : S = str ([] ++ varN v)) : Calls Try.prog 83 #[.slice none 0 0, .int .u64 z] w (Says w S) := by
  subst hz
  exact says_own hS (var_any none 0 0 [] v w (Rd.nil w) hv (by omega))

end Go.Proofs.Ytbpcekhfjkodcaa
