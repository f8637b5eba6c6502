/-
  NARROWER THAN 'FOR EVERY INPUT', by the rows' own cells (each row's printed sentence says how): TreeActs: laid · TreePages: laid · TreeOrder: laid · TreeUndone: laid · WalkActs: laid · WalkRanges: laid · WalkAll: laid · WalkNone: laid.
  DERIVED. THE GIVEN ROWS OF THIS SEAT. 8 by the template 'for every input the law returns true; each argument reads behind the call as it read before'; 0 by the template 'total and deterministic' (their statements: YtfcikkechphmaaaGreatDoorTotals.lean).
  GIVEN WITH THE SEED: the statements are not yours to turn. If you find one false, say at which input.
  Laid BY PROGRAM, IN A SANDBOX (cutbox-rows.mjs): the forced cells as the released guide's own fill.sh prints them over the translation a72dbedbc6ae368a… (all of the seat's roots in one cut). By AI agents, Wed Nov 11 2026. No macro, syntax, notation, axiom, sorry.
-/
import Derived.Test.YtfcikkechphmaaaGreatDoorChecked
import GoSem.Claim
import GoSem.ClaimJoined
import GoSem.ClaimMapViews
import Derived.JoinedTies
import Derived.KernelRfl
namespace Go.Proofs.YtfcikkechphmaaaGreatDoor
/- THE CELL 'sum', in the pinned program and in every row, IS THE sha256 OF THE DUMP (.gsa) THAT YtfcikkechphmaaaGreatDoorProg.lean LOADS. Nothing in Lean hashes anything: it is a label: what it is worth is what the hold of that sum in a sandbox is worth. -/
noncomputable def Tryz.pinned : Pinned := { name := "ytfcikkechphmaaagreatdoor", sum := "a72dbedbc6ae368aac3d862ca1db0dcb57ec3d4519496a5751b595748678c518", checked := Tryz.checked }
namespace Rows
def none {H : Type} : Left H := { results := [], args := [] }

/- WHAT THE LISTED PACKAGE-LEVEL VARIABLES READ AS WHEN THE CALL BEGINS. Each datum BY PROGRAM (the guide's laid-datum.mjs) off the statement by which the dump's own 'gosem.cut.vars' lays the variable. In a bare row this is a premise. The card (YtfcikkechphmaaaGreatDoorCards.lean) ties it to the program's text. -/
def laid_hachure_sum_carried {H : Type} : DataW H := .agg [.lit (.int .u32 0), .lit (.int .u32 274646895), .lit (.int .u32 549293790), .lit (.int .u32 820201905), .lit (.int .u32 1098587580), .lit (.int .u32 1361435347), .lit (.int .u32 1640403810), .lit (.int .u32 1905808397), .lit (.int .u32 2197175160), .lit (.int .u32 2460548119), .lit (.int .u32 2722870694), .lit (.int .u32 2987750089), .lit (.int .u32 3280807620), .lit (.int .u32 3553878443), .lit (.int .u32 3811616794), .lit (.int .u32 4084100981)]

/-- 'hachurelaw11.TreeActs': WHATEVER THE INPUT: true; the input reads as it did. -/
def treeActsSpec : ChangeSpec := { name := "treeActs", fn := fun _ => fun
  | [d] => { results := [.lit (.bool true)], args := [d] }
  | _ => none }
def treeActsRow : OpenClaim := { program := "ytfcikkechphmaaagreatdoor", sum := "a72dbedbc6ae368aac3d862ca1db0dcb57ec3d4519496a5751b595748678c518", func := "hachure/hachurelaw11.TreeActs", spec := "treeActs", inPlace := ["maps.clone", "slices.overlaps[hachure/cell.Cell]"], unfollowed := true, recurses := true, named := ["hachure/sum.carried"], apart := false, laid := [("hachure/sum.carried", laid_hachure_sum_carried)] }
def TreeActsSaid : Prop := treeActsRow.holds Tryz.pinned (OpenSpec.ofChange treeActsSpec)

/-- ITS FALSE NEIGHBOUR: 'it returns false'. Refute it at one input. -/
def treeActsWrong : ChangeSpec := { name := "treeActs", fn := fun _ => fun
  | [d] => { results := [.lit (.bool false)], args := [d] }
  | _ => none }
def TreeActsWrongFalsely : Prop := treeActsRow.holds Tryz.pinned (OpenSpec.ofChange treeActsWrong)

/-- 'hachurelaw11.TreePages': WHATEVER THE INPUT: true; the input reads as it did. -/
def treePagesSpec : ChangeSpec := { name := "treePages", fn := fun _ => fun
  | [d1, d2] => { results := [.lit (.bool true)], args := [d1, d2] }
  | _ => none }
def treePagesRow : OpenClaim := { program := "ytfcikkechphmaaagreatdoor", sum := "a72dbedbc6ae368aac3d862ca1db0dcb57ec3d4519496a5751b595748678c518", func := "hachure/hachurelaw11.TreePages", spec := "treePages", inPlace := ["maps.clone", "slices.overlaps[hachure/cell.Cell]"], unfollowed := true, recurses := true, named := ["hachure/sum.carried"], apart := false, laid := [("hachure/sum.carried", laid_hachure_sum_carried)] }
def TreePagesSaid : Prop := treePagesRow.holds Tryz.pinned (OpenSpec.ofChange treePagesSpec)

/-- ITS FALSE NEIGHBOUR: 'it returns false'. Refute it at one input. -/
def treePagesWrong : ChangeSpec := { name := "treePages", fn := fun _ => fun
  | [d1, d2] => { results := [.lit (.bool false)], args := [d1, d2] }
  | _ => none }
def TreePagesWrongFalsely : Prop := treePagesRow.holds Tryz.pinned (OpenSpec.ofChange treePagesWrong)

/-- 'hachurelaw11.TreeOrder': WHATEVER THE INPUT: true; the input reads as it did. -/
def treeOrderSpec : ChangeSpec := { name := "treeOrder", fn := fun _ => fun
  | [d1, d2] => { results := [.lit (.bool true)], args := [d1, d2] }
  | _ => none }
def treeOrderRow : OpenClaim := { program := "ytfcikkechphmaaagreatdoor", sum := "a72dbedbc6ae368aac3d862ca1db0dcb57ec3d4519496a5751b595748678c518", func := "hachure/hachurelaw11.TreeOrder", spec := "treeOrder", inPlace := ["maps.clone", "slices.overlaps[hachure/cell.Cell]"], unfollowed := true, recurses := true, named := ["hachure/sum.carried"], apart := false, laid := [("hachure/sum.carried", laid_hachure_sum_carried)] }
def TreeOrderSaid : Prop := treeOrderRow.holds Tryz.pinned (OpenSpec.ofChange treeOrderSpec)

/-- ITS FALSE NEIGHBOUR: 'it returns false'. Refute it at one input. -/
def treeOrderWrong : ChangeSpec := { name := "treeOrder", fn := fun _ => fun
  | [d1, d2] => { results := [.lit (.bool false)], args := [d1, d2] }
  | _ => none }
def TreeOrderWrongFalsely : Prop := treeOrderRow.holds Tryz.pinned (OpenSpec.ofChange treeOrderWrong)

/-- 'hachurelaw11.TreeUndone': WHATEVER THE INPUT: true; the input reads as it did. -/
def treeUndoneSpec : ChangeSpec := { name := "treeUndone", fn := fun _ => fun
  | [d1, d2] => { results := [.lit (.bool true)], args := [d1, d2] }
  | _ => none }
def treeUndoneRow : OpenClaim := { program := "ytfcikkechphmaaagreatdoor", sum := "a72dbedbc6ae368aac3d862ca1db0dcb57ec3d4519496a5751b595748678c518", func := "hachure/hachurelaw11.TreeUndone", spec := "treeUndone", inPlace := ["maps.clone", "slices.overlaps[hachure/cell.Cell]"], unfollowed := true, recurses := true, named := ["hachure/sum.carried"], apart := false, laid := [("hachure/sum.carried", laid_hachure_sum_carried)] }
def TreeUndoneSaid : Prop := treeUndoneRow.holds Tryz.pinned (OpenSpec.ofChange treeUndoneSpec)

/-- ITS FALSE NEIGHBOUR: 'it returns false'. Refute it at one input. -/
def treeUndoneWrong : ChangeSpec := { name := "treeUndone", fn := fun _ => fun
  | [d1, d2] => { results := [.lit (.bool false)], args := [d1, d2] }
  | _ => none }
def TreeUndoneWrongFalsely : Prop := treeUndoneRow.holds Tryz.pinned (OpenSpec.ofChange treeUndoneWrong)

/-- 'hachurelaw12.WalkActs': WHATEVER THE INPUT: true; the input reads as it did. -/
def walkActsSpec : ChangeSpec := { name := "walkActs", fn := fun _ => fun
  | [d] => { results := [.lit (.bool true)], args := [d] }
  | _ => none }
def walkActsRow : OpenClaim := { program := "ytfcikkechphmaaagreatdoor", sum := "a72dbedbc6ae368aac3d862ca1db0dcb57ec3d4519496a5751b595748678c518", func := "hachure/hachurelaw12.WalkActs", spec := "walkActs", inPlace := ["maps.clone", "slices.overlaps[hachure/cell.Cell]"], unfollowed := true, recurses := true, named := ["hachure/sum.carried"], apart := false, laid := [("hachure/sum.carried", laid_hachure_sum_carried)] }
def WalkActsSaid : Prop := walkActsRow.holds Tryz.pinned (OpenSpec.ofChange walkActsSpec)

/-- ITS FALSE NEIGHBOUR: 'it returns false'. Refute it at one input. -/
def walkActsWrong : ChangeSpec := { name := "walkActs", fn := fun _ => fun
  | [d] => { results := [.lit (.bool false)], args := [d] }
  | _ => none }
def WalkActsWrongFalsely : Prop := walkActsRow.holds Tryz.pinned (OpenSpec.ofChange walkActsWrong)

/-- 'hachurelaw12.WalkRanges': WHATEVER THE INPUT: true; the input reads as it did. -/
def walkRangesSpec : ChangeSpec := { name := "walkRanges", fn := fun _ => fun
  | [d1, d2, d3] => { results := [.lit (.bool true)], args := [d1, d2, d3] }
  | _ => none }
def walkRangesRow : OpenClaim := { program := "ytfcikkechphmaaagreatdoor", sum := "a72dbedbc6ae368aac3d862ca1db0dcb57ec3d4519496a5751b595748678c518", func := "hachure/hachurelaw12.WalkRanges", spec := "walkRanges", inPlace := ["maps.clone", "slices.overlaps[hachure/cell.Cell]"], unfollowed := true, recurses := true, named := ["hachure/sum.carried"], apart := false, laid := [("hachure/sum.carried", laid_hachure_sum_carried)] }
def WalkRangesSaid : Prop := walkRangesRow.holds Tryz.pinned (OpenSpec.ofChange walkRangesSpec)

/-- ITS FALSE NEIGHBOUR: 'it returns false'. Refute it at one input. -/
def walkRangesWrong : ChangeSpec := { name := "walkRanges", fn := fun _ => fun
  | [d1, d2, d3] => { results := [.lit (.bool false)], args := [d1, d2, d3] }
  | _ => none }
def WalkRangesWrongFalsely : Prop := walkRangesRow.holds Tryz.pinned (OpenSpec.ofChange walkRangesWrong)

/-- 'hachurelaw12.WalkAll': WHATEVER THE INPUT: true; the input reads as it did. -/
def walkAllSpec : ChangeSpec := { name := "walkAll", fn := fun _ => fun
  | [d1, d2] => { results := [.lit (.bool true)], args := [d1, d2] }
  | _ => none }
def walkAllRow : OpenClaim := { program := "ytfcikkechphmaaagreatdoor", sum := "a72dbedbc6ae368aac3d862ca1db0dcb57ec3d4519496a5751b595748678c518", func := "hachure/hachurelaw12.WalkAll", spec := "walkAll", inPlace := ["maps.clone", "slices.overlaps[hachure/cell.Cell]"], unfollowed := true, recurses := true, named := ["hachure/sum.carried"], apart := false, laid := [("hachure/sum.carried", laid_hachure_sum_carried)] }
def WalkAllSaid : Prop := walkAllRow.holds Tryz.pinned (OpenSpec.ofChange walkAllSpec)

/-- ITS FALSE NEIGHBOUR: 'it returns false'. Refute it at one input. -/
def walkAllWrong : ChangeSpec := { name := "walkAll", fn := fun _ => fun
  | [d1, d2] => { results := [.lit (.bool false)], args := [d1, d2] }
  | _ => none }
def WalkAllWrongFalsely : Prop := walkAllRow.holds Tryz.pinned (OpenSpec.ofChange walkAllWrong)

/-- 'hachurelaw12.WalkNone': WHATEVER THE INPUT: true; the input reads as it did. -/
def walkNoneSpec : ChangeSpec := { name := "walkNone", fn := fun _ => fun
  | [d] => { results := [.lit (.bool true)], args := [d] }
  | _ => none }
def walkNoneRow : OpenClaim := { program := "ytfcikkechphmaaagreatdoor", sum := "a72dbedbc6ae368aac3d862ca1db0dcb57ec3d4519496a5751b595748678c518", func := "hachure/hachurelaw12.WalkNone", spec := "walkNone", inPlace := ["maps.clone", "slices.overlaps[hachure/cell.Cell]"], unfollowed := true, recurses := true, named := ["hachure/sum.carried"], apart := false, laid := [("hachure/sum.carried", laid_hachure_sum_carried)] }
def WalkNoneSaid : Prop := walkNoneRow.holds Tryz.pinned (OpenSpec.ofChange walkNoneSpec)

/-- ITS FALSE NEIGHBOUR: 'it returns false'. Refute it at one input. -/
def walkNoneWrong : ChangeSpec := { name := "walkNone", fn := fun _ => fun
  | [d] => { results := [.lit (.bool false)], args := [d] }
  | _ => none }
def WalkNoneWrongFalsely : Prop := walkNoneRow.holds Tryz.pinned (OpenSpec.ofChange walkNoneWrong)

/- THE SECOND FORM. 'bulk': how many values and letters a reading holds, each counted each time it is reached (what is shared counts as often as it is met; a slice's spare places count too). A statement '..UptoSaid' is the law's where the arguments, and the package variables that the reading takes, are together of bulk at most 1048576: NARROWER than '..Said'. Prove '..Said' where nothing that the law and all that it calls make is longer than what came in: it says more and counts as full. Else prove '..UptoSaid'. A law counts once. -/
mutual
def uptoBulk {H : Type} : DataW H → Nat
  | .lit (.string bytes) => bytes.length + 1
  | .lit _ => 1
  | .nil => 1
  | .ptr d => uptoBulk d + 1
  | .slice elems spare => uptoBulkAll elems + uptoBulkAll spare + 1
  | .agg parts => uptoBulkAll parts + 1
  | .iface _ d => uptoBulk d + 1
  | .map entries => uptoBulkEntries entries + 1
  | .held _ => 1
def uptoBulkAll {H : Type} : List (DataW H) → Nat
  | [] => 0
  | d :: r => uptoBulk d + uptoBulkAll r
def uptoBulkEntries {H : Type} : List (Lit × DataW H) → Nat
  | [] => 0
  | x :: r => uptoBulkEntry x + uptoBulkEntries r
def uptoBulkEntry {H : Type} : Lit × DataW H → Nat
  | (.string bytes, d) => bytes.length + uptoBulk d + 1
  | (_, d) => uptoBulk d + 1
 end
def uptoSmall : (H : Type) → List (DataW H) → Bool := fun _ ds => decide (uptoBulkAll ds ≤ 1048576)
def OpenSpec.upto (s : _root_.Go.ChangeSpec) : _root_.Go.OpenSpec := { _root_.Go.OpenSpec.ofChange s with cond := some uptoSmall }

/-- 'hachurelaw11.TreeActs', WHERE WHAT IT READS IS OF BULK AT MOST 1048576: true; the input reads as it did. -/
def treeActsUptoRow : OpenClaim := { program := "ytfcikkechphmaaagreatdoor", sum := "a72dbedbc6ae368aac3d862ca1db0dcb57ec3d4519496a5751b595748678c518", func := "hachure/hachurelaw11.TreeActs", spec := "treeActs", inPlace := ["maps.clone", "slices.overlaps[hachure/cell.Cell]"], unfollowed := true, recurses := true, named := ["hachure/sum.carried"], apart := false, laid := [("hachure/sum.carried", laid_hachure_sum_carried)], narrowed := true }
def TreeActsUptoSaid : Prop := treeActsUptoRow.holds Tryz.pinned (OpenSpec.upto treeActsSpec)

/-- 'hachurelaw11.TreePages', WHERE WHAT IT READS IS OF BULK AT MOST 1048576: true; the input reads as it did. -/
def treePagesUptoRow : OpenClaim := { program := "ytfcikkechphmaaagreatdoor", sum := "a72dbedbc6ae368aac3d862ca1db0dcb57ec3d4519496a5751b595748678c518", func := "hachure/hachurelaw11.TreePages", spec := "treePages", inPlace := ["maps.clone", "slices.overlaps[hachure/cell.Cell]"], unfollowed := true, recurses := true, named := ["hachure/sum.carried"], apart := false, laid := [("hachure/sum.carried", laid_hachure_sum_carried)], narrowed := true }
def TreePagesUptoSaid : Prop := treePagesUptoRow.holds Tryz.pinned (OpenSpec.upto treePagesSpec)

/-- 'hachurelaw11.TreeOrder', WHERE WHAT IT READS IS OF BULK AT MOST 1048576: true; the input reads as it did. -/
def treeOrderUptoRow : OpenClaim := { program := "ytfcikkechphmaaagreatdoor", sum := "a72dbedbc6ae368aac3d862ca1db0dcb57ec3d4519496a5751b595748678c518", func := "hachure/hachurelaw11.TreeOrder", spec := "treeOrder", inPlace := ["maps.clone", "slices.overlaps[hachure/cell.Cell]"], unfollowed := true, recurses := true, named := ["hachure/sum.carried"], apart := false, laid := [("hachure/sum.carried", laid_hachure_sum_carried)], narrowed := true }
def TreeOrderUptoSaid : Prop := treeOrderUptoRow.holds Tryz.pinned (OpenSpec.upto treeOrderSpec)

/-- 'hachurelaw11.TreeUndone', WHERE WHAT IT READS IS OF BULK AT MOST 1048576: true; the input reads as it did. -/
def treeUndoneUptoRow : OpenClaim := { program := "ytfcikkechphmaaagreatdoor", sum := "a72dbedbc6ae368aac3d862ca1db0dcb57ec3d4519496a5751b595748678c518", func := "hachure/hachurelaw11.TreeUndone", spec := "treeUndone", inPlace := ["maps.clone", "slices.overlaps[hachure/cell.Cell]"], unfollowed := true, recurses := true, named := ["hachure/sum.carried"], apart := false, laid := [("hachure/sum.carried", laid_hachure_sum_carried)], narrowed := true }
def TreeUndoneUptoSaid : Prop := treeUndoneUptoRow.holds Tryz.pinned (OpenSpec.upto treeUndoneSpec)

/-- 'hachurelaw12.WalkActs', WHERE WHAT IT READS IS OF BULK AT MOST 1048576: true; the input reads as it did. -/
def walkActsUptoRow : OpenClaim := { program := "ytfcikkechphmaaagreatdoor", sum := "a72dbedbc6ae368aac3d862ca1db0dcb57ec3d4519496a5751b595748678c518", func := "hachure/hachurelaw12.WalkActs", spec := "walkActs", inPlace := ["maps.clone", "slices.overlaps[hachure/cell.Cell]"], unfollowed := true, recurses := true, named := ["hachure/sum.carried"], apart := false, laid := [("hachure/sum.carried", laid_hachure_sum_carried)], narrowed := true }
def WalkActsUptoSaid : Prop := walkActsUptoRow.holds Tryz.pinned (OpenSpec.upto walkActsSpec)

/-- 'hachurelaw12.WalkRanges', WHERE WHAT IT READS IS OF BULK AT MOST 1048576: true; the input reads as it did. -/
def walkRangesUptoRow : OpenClaim := { program := "ytfcikkechphmaaagreatdoor", sum := "a72dbedbc6ae368aac3d862ca1db0dcb57ec3d4519496a5751b595748678c518", func := "hachure/hachurelaw12.WalkRanges", spec := "walkRanges", inPlace := ["maps.clone", "slices.overlaps[hachure/cell.Cell]"], unfollowed := true, recurses := true, named := ["hachure/sum.carried"], apart := false, laid := [("hachure/sum.carried", laid_hachure_sum_carried)], narrowed := true }
def WalkRangesUptoSaid : Prop := walkRangesUptoRow.holds Tryz.pinned (OpenSpec.upto walkRangesSpec)

/-- 'hachurelaw12.WalkAll', WHERE WHAT IT READS IS OF BULK AT MOST 1048576: true; the input reads as it did. -/
def walkAllUptoRow : OpenClaim := { program := "ytfcikkechphmaaagreatdoor", sum := "a72dbedbc6ae368aac3d862ca1db0dcb57ec3d4519496a5751b595748678c518", func := "hachure/hachurelaw12.WalkAll", spec := "walkAll", inPlace := ["maps.clone", "slices.overlaps[hachure/cell.Cell]"], unfollowed := true, recurses := true, named := ["hachure/sum.carried"], apart := false, laid := [("hachure/sum.carried", laid_hachure_sum_carried)], narrowed := true }
def WalkAllUptoSaid : Prop := walkAllUptoRow.holds Tryz.pinned (OpenSpec.upto walkAllSpec)

/-- 'hachurelaw12.WalkNone', WHERE WHAT IT READS IS OF BULK AT MOST 1048576: true; the input reads as it did. -/
def walkNoneUptoRow : OpenClaim := { program := "ytfcikkechphmaaagreatdoor", sum := "a72dbedbc6ae368aac3d862ca1db0dcb57ec3d4519496a5751b595748678c518", func := "hachure/hachurelaw12.WalkNone", spec := "walkNone", inPlace := ["maps.clone", "slices.overlaps[hachure/cell.Cell]"], unfollowed := true, recurses := true, named := ["hachure/sum.carried"], apart := false, laid := [("hachure/sum.carried", laid_hachure_sum_carried)], narrowed := true }
def WalkNoneUptoSaid : Prop := walkNoneUptoRow.holds Tryz.pinned (OpenSpec.upto walkNoneSpec)

end Rows
end Go.Proofs.YtfcikkechphmaaaGreatDoor
