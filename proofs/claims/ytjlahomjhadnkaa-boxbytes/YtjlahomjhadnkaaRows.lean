/-
  NARROWER THAN 'FOR EVERY INPUT', by the rows' own cells (each row's printed sentence says how): BoxOf: loops · BoxPoints: loops.
  DERIVED. THE GIVEN ROWS OF THIS SEAT. 5 by the template 'for every input the law returns true; each argument reads behind the call as it read before'; 0 by the template 'total and deterministic' (their statements: YtjlahomjhadnkaaTotals.lean).
  GIVEN WITH THE SEED: the statements are not yours to turn. If you find one false, say at which input.
  Laid BY PROGRAM, IN A SANDBOX (cutbox-rows.mjs): the forced cells as the released guide's own fill.sh prints them over the translation 6fdcc3b0f952400e… (all of the seat's roots in one cut). By AI agents, Wed Nov 11 2026. No macro, syntax, notation, axiom, sorry.
-/
import Derived.Test.YtjlahomjhadnkaaChecked
import GoSem.Claim
import GoSem.ClaimJoined
import GoSem.ClaimMapViews
import Derived.JoinedTies
import Derived.KernelRfl
namespace Go.Proofs.Ytjlahomjhadnkaa
/- THE CELL 'sum', in the pinned program and in every row, IS THE sha256 OF THE DUMP (.gsa) THAT YtjlahomjhadnkaaProg.lean LOADS. Nothing in Lean hashes anything: it is a label: what it is worth is what the hold of that sum in a sandbox is worth. -/
noncomputable def Try.pinned : Pinned := { name := "ytjlahomjhadnkaa", sum := "6fdcc3b0f952400e149cdc78d492fb6d888789eec76ef307d10c512c11819296", checked := Try.checked }
namespace Rows
def none {H : Type} : Left H := { results := [], args := [] }

/-- 'hachurelaw15.BoxAsks': WHATEVER THE INPUT: true; the input reads as it did. -/
def boxAsksSpec : ChangeSpec := { name := "boxAsks", fn := fun _ => fun
  | [d1, d2] => { results := [.lit (.bool true)], args := [d1, d2] }
  | _ => none }
def boxAsksRow : OpenClaim := { program := "ytjlahomjhadnkaa", sum := "6fdcc3b0f952400e149cdc78d492fb6d888789eec76ef307d10c512c11819296", func := "hachure/hachurelaw15.BoxAsks", spec := "boxAsks", inPlace := ["math/bits.Add64", "math/bits.Sub64"], unfollowed := true, recurses := true, named := ["math/bits.divideError", "math/bits.overflowError"], apart := false }
def BoxAsksSaid : Prop := boxAsksRow.holds Try.pinned (OpenSpec.ofChange boxAsksSpec)

/-- ITS FALSE NEIGHBOUR: 'it returns false'. Refute it at one input. -/
def boxAsksWrong : ChangeSpec := { name := "boxAsks", fn := fun _ => fun
  | [d1, d2] => { results := [.lit (.bool false)], args := [d1, d2] }
  | _ => none }
def BoxAsksWrongFalsely : Prop := boxAsksRow.holds Try.pinned (OpenSpec.ofChange boxAsksWrong)

/-- 'hachurelaw15.BoxOf': WHATEVER THE INPUT: true; the input reads as it did. -/
def boxOfSpec : ChangeSpec := { name := "boxOf", fn := fun _ => fun
  | [d1, d2] => { results := [.lit (.bool true)], args := [d1, d2] }
  | _ => none }
def boxOfRow : OpenClaim := { program := "ytjlahomjhadnkaa", sum := "6fdcc3b0f952400e149cdc78d492fb6d888789eec76ef307d10c512c11819296", func := "hachure/hachurelaw15.BoxOf", spec := "boxOf", unfollowed := true, recurses := true, named := ["math/bits.divideError", "math/bits.overflowError"], loops := true, apart := false }
def BoxOfSaid : Prop := boxOfRow.holds Try.pinned (OpenSpec.ofChange boxOfSpec)

/-- ITS FALSE NEIGHBOUR: 'it returns false'. Refute it at one input. -/
def boxOfWrong : ChangeSpec := { name := "boxOf", fn := fun _ => fun
  | [d1, d2] => { results := [.lit (.bool false)], args := [d1, d2] }
  | _ => none }
def BoxOfWrongFalsely : Prop := boxOfRow.holds Try.pinned (OpenSpec.ofChange boxOfWrong)

/-- 'hachurelaw15.BoxBytes': WHATEVER THE INPUT: true; the input reads as it did. -/
def boxBytesSpec : ChangeSpec := { name := "boxBytes", fn := fun _ => fun
  | [d1, d2] => { results := [.lit (.bool true)], args := [d1, d2] }
  | _ => none }
def boxBytesRow : OpenClaim := { program := "ytjlahomjhadnkaa", sum := "6fdcc3b0f952400e149cdc78d492fb6d888789eec76ef307d10c512c11819296", func := "hachure/hachurelaw15.BoxBytes", spec := "boxBytes", unfollowed := true, recurses := true, named := ["math/bits.divideError", "math/bits.overflowError"], apart := false }
def BoxBytesSaid : Prop := boxBytesRow.holds Try.pinned (OpenSpec.ofChange boxBytesSpec)

/-- ITS FALSE NEIGHBOUR: 'it returns false'. Refute it at one input. -/
def boxBytesWrong : ChangeSpec := { name := "boxBytes", fn := fun _ => fun
  | [d1, d2] => { results := [.lit (.bool false)], args := [d1, d2] }
  | _ => none }
def BoxBytesWrongFalsely : Prop := boxBytesRow.holds Try.pinned (OpenSpec.ofChange boxBytesWrong)

/-- 'hachurelaw15.BoxHolds': WHATEVER THE INPUT: true; the input reads as it did. -/
def boxHoldsSpec : ChangeSpec := { name := "boxHolds", fn := fun _ => fun
  | [d1, d2, d3] => { results := [.lit (.bool true)], args := [d1, d2, d3] }
  | _ => none }
def boxHoldsRow : OpenClaim := { program := "ytjlahomjhadnkaa", sum := "6fdcc3b0f952400e149cdc78d492fb6d888789eec76ef307d10c512c11819296", func := "hachure/hachurelaw15.BoxHolds", spec := "boxHolds", inPlace := ["math/bits.Sub64"], unfollowed := true, recurses := true, named := ["math/bits.divideError", "math/bits.overflowError"], apart := false }
def BoxHoldsSaid : Prop := boxHoldsRow.holds Try.pinned (OpenSpec.ofChange boxHoldsSpec)

/-- ITS FALSE NEIGHBOUR: 'it returns false'. Refute it at one input. -/
def boxHoldsWrong : ChangeSpec := { name := "boxHolds", fn := fun _ => fun
  | [d1, d2, d3] => { results := [.lit (.bool false)], args := [d1, d2, d3] }
  | _ => none }
def BoxHoldsWrongFalsely : Prop := boxHoldsRow.holds Try.pinned (OpenSpec.ofChange boxHoldsWrong)

/-- 'hachurelaw15.BoxPoints': WHATEVER THE INPUT: true; the input reads as it did. -/
def boxPointsSpec : ChangeSpec := { name := "boxPoints", fn := fun _ => fun
  | [d] => { results := [.lit (.bool true)], args := [d] }
  | _ => none }
def boxPointsRow : OpenClaim := { program := "ytjlahomjhadnkaa", sum := "6fdcc3b0f952400e149cdc78d492fb6d888789eec76ef307d10c512c11819296", func := "hachure/hachurelaw15.BoxPoints", spec := "boxPoints", unfollowed := true, recurses := true, named := ["math/bits.divideError", "math/bits.overflowError"], loops := true, apart := false }
def BoxPointsSaid : Prop := boxPointsRow.holds Try.pinned (OpenSpec.ofChange boxPointsSpec)

/-- ITS FALSE NEIGHBOUR: 'it returns false'. Refute it at one input. -/
def boxPointsWrong : ChangeSpec := { name := "boxPoints", fn := fun _ => fun
  | [d] => { results := [.lit (.bool false)], args := [d] }
  | _ => none }
def BoxPointsWrongFalsely : Prop := boxPointsRow.holds Try.pinned (OpenSpec.ofChange boxPointsWrong)

/- THE SECOND FORM. 'bulk': how many values and letters a reading holds, each counted each time it is reached (what is shared counts as often as it is met; a slice's spare places count too). A statement '..UptoSaid' is the law's where the arguments, and the package variables that the reading takes, are together of bulk at most 1048576: NARROWER than '..Said'. Prove '..Said' where nothing that the law and all that it calls make is longer than what came in: it says more and counts as full. Else prove '..UptoSaid'. A law counts once. -/
mutual
def uptoBulk {H : Type} : DataW H → Nat
  | .lit (.string bytes) => bytes.length + 1
  | .lit _ => 1
  | .nil => 1
  | .ptr d => uptoBulk d + 1
  | .slice elems spare => uptoBulkAll elems + uptoBulkAll spare + 1
  | .agg parts => uptoBulkAll parts + 1
  | .iface _ d => uptoBulk d + 1
  | .map entries => uptoBulkEntries entries + 1
  | .held _ => 1
def uptoBulkAll {H : Type} : List (DataW H) → Nat
  | [] => 0
  | d :: r => uptoBulk d + uptoBulkAll r
def uptoBulkEntries {H : Type} : List (Lit × DataW H) → Nat
  | [] => 0
  | x :: r => uptoBulkEntry x + uptoBulkEntries r
def uptoBulkEntry {H : Type} : Lit × DataW H → Nat
  | (.string bytes, d) => bytes.length + uptoBulk d + 1
  | (_, d) => uptoBulk d + 1
 end
def uptoSmall : (H : Type) → List (DataW H) → Bool := fun _ ds => decide (uptoBulkAll ds ≤ 1048576)
def OpenSpec.upto (s : _root_.Go.ChangeSpec) : _root_.Go.OpenSpec := { _root_.Go.OpenSpec.ofChange s with cond := some uptoSmall }

/-- 'hachurelaw15.BoxAsks', WHERE WHAT IT READS IS OF BULK AT MOST 1048576: true; the input reads as it did. -/
def boxAsksUptoRow : OpenClaim := { program := "ytjlahomjhadnkaa", sum := "6fdcc3b0f952400e149cdc78d492fb6d888789eec76ef307d10c512c11819296", func := "hachure/hachurelaw15.BoxAsks", spec := "boxAsks", inPlace := ["math/bits.Add64", "math/bits.Sub64"], unfollowed := true, recurses := true, named := ["math/bits.divideError", "math/bits.overflowError"], apart := false, narrowed := true }
def BoxAsksUptoSaid : Prop := boxAsksUptoRow.holds Try.pinned (OpenSpec.upto boxAsksSpec)

/-- 'hachurelaw15.BoxOf', WHERE WHAT IT READS IS OF BULK AT MOST 1048576: true; the input reads as it did. -/
def boxOfUptoRow : OpenClaim := { program := "ytjlahomjhadnkaa", sum := "6fdcc3b0f952400e149cdc78d492fb6d888789eec76ef307d10c512c11819296", func := "hachure/hachurelaw15.BoxOf", spec := "boxOf", unfollowed := true, recurses := true, named := ["math/bits.divideError", "math/bits.overflowError"], loops := true, apart := false, narrowed := true }
def BoxOfUptoSaid : Prop := boxOfUptoRow.holds Try.pinned (OpenSpec.upto boxOfSpec)

/-- 'hachurelaw15.BoxBytes', WHERE WHAT IT READS IS OF BULK AT MOST 1048576: true; the input reads as it did. -/
def boxBytesUptoRow : OpenClaim := { program := "ytjlahomjhadnkaa", sum := "6fdcc3b0f952400e149cdc78d492fb6d888789eec76ef307d10c512c11819296", func := "hachure/hachurelaw15.BoxBytes", spec := "boxBytes", unfollowed := true, recurses := true, named := ["math/bits.divideError", "math/bits.overflowError"], apart := false, narrowed := true }
def BoxBytesUptoSaid : Prop := boxBytesUptoRow.holds Try.pinned (OpenSpec.upto boxBytesSpec)

/-- 'hachurelaw15.BoxHolds', WHERE WHAT IT READS IS OF BULK AT MOST 1048576: true; the input reads as it did. -/
def boxHoldsUptoRow : OpenClaim := { program := "ytjlahomjhadnkaa", sum := "6fdcc3b0f952400e149cdc78d492fb6d888789eec76ef307d10c512c11819296", func := "hachure/hachurelaw15.BoxHolds", spec := "boxHolds", inPlace := ["math/bits.Sub64"], unfollowed := true, recurses := true, named := ["math/bits.divideError", "math/bits.overflowError"], apart := false, narrowed := true }
def BoxHoldsUptoSaid : Prop := boxHoldsUptoRow.holds Try.pinned (OpenSpec.upto boxHoldsSpec)

/-- 'hachurelaw15.BoxPoints', WHERE WHAT IT READS IS OF BULK AT MOST 1048576: true; the input reads as it did. -/
def boxPointsUptoRow : OpenClaim := { program := "ytjlahomjhadnkaa", sum := "6fdcc3b0f952400e149cdc78d492fb6d888789eec76ef307d10c512c11819296", func := "hachure/hachurelaw15.BoxPoints", spec := "boxPoints", unfollowed := true, recurses := true, named := ["math/bits.divideError", "math/bits.overflowError"], loops := true, apart := false, narrowed := true }
def BoxPointsUptoSaid : Prop := boxPointsUptoRow.holds Try.pinned (OpenSpec.upto boxPointsSpec)

end Rows
end Go.Proofs.Ytjlahomjhadnkaa
