/-
  NARROWER THAN 'FOR EVERY INPUT', by the rows' own cells (each row's printed sentence says how): BlobOpens: laid · BlobBack: loops, laid.
  DERIVED. THE GIVEN ROWS OF THIS SEAT. 2 by the template 'for every input the law returns true; each argument reads behind the call as it read before'; 0 by the template 'total and deterministic' (their statements: YtpmfedimjjifaaaGreatDoorTotals.lean).
  GIVEN WITH THE SEED: the statements are not yours to turn. If you find one false, say at which input.
  Laid BY PROGRAM, IN A SANDBOX (cutbox-rows.mjs): the forced cells as the released guide's own fill.sh prints them over the translation 395ea4e720902a51… (all of the seat's roots in one cut). By AI agents, Wed Nov 11 2026. No macro, syntax, notation, axiom, sorry.
-/
import Derived.Test.YtpmfedimjjifaaaGreatDoorChecked
import GoSem.Claim
import GoSem.ClaimJoined
import GoSem.ClaimMapViews
import Derived.JoinedTies
import Derived.KernelRfl
namespace Go.Proofs.YtpmfedimjjifaaaGreatDoor
/- THE CELL 'sum', in the pinned program and in every row, IS THE sha256 OF THE DUMP (.gsa) THAT YtpmfedimjjifaaaGreatDoorProg.lean LOADS. Nothing in Lean hashes anything: it is a label: what it is worth is what the hold of that sum in a sandbox is worth. -/
noncomputable def Tryz.pinned : Pinned := { name := "ytpmfedimjjifaaagreatdoor", sum := "395ea4e720902a51aab089cc0acda213aaec2c1900458783da59427e3d6c18b9", checked := Tryz.checked }
namespace Rows
def none {H : Type} : Left H := { results := [], args := [] }

/- WHAT THE LISTED PACKAGE-LEVEL VARIABLES READ AS WHEN THE CALL BEGINS. Each datum BY PROGRAM (the guide's laid-datum.mjs) off the statement by which the dump's own 'gosem.cut.vars' lays the variable. In a bare row this is a premise. The card (YtpmfedimjjifaaaGreatDoorCards.lean) ties it to the program's text. -/
def laid_hachure_shape_rules {H : Type} : DataW H := .agg [.agg [.lit (.string []), .lit (.int .i64 1), .lit (.int .i64 0)], .agg [.lit (.string [80, 79, 73, 78, 84]), .lit (.int .i64 1), .lit (.int .i64 0)], .agg [.lit (.string [76, 73, 78, 69, 83, 84, 82, 73, 78, 71]), .lit (.int .i64 1), .lit (.int .i64 0)], .agg [.lit (.string [80, 79, 76, 89, 71, 79, 78]), .lit (.int .i64 0), .lit (.int .i64 0)], .agg [.lit (.string [77, 85, 76, 84, 73, 80, 79, 73, 78, 84]), .lit (.int .i64 1), .lit (.int .i64 1)], .agg [.lit (.string [77, 85, 76, 84, 73, 76, 73, 78, 69, 83, 84, 82, 73, 78, 71]), .lit (.int .i64 2), .lit (.int .i64 2)], .agg [.lit (.string [77, 85, 76, 84, 73, 80, 79, 76, 89, 71, 79, 78]), .lit (.int .i64 3), .lit (.int .i64 3)], .agg [.lit (.string [71, 69, 79, 77, 69, 84, 82, 89, 67, 79, 76, 76, 69, 67, 84, 73, 79, 78]), .lit (.int .i64 1), .lit (.int .i64 7)]]

/-- 'hachurelaw16.BlobOpens': WHATEVER THE INPUT: true; the input reads as it did. -/
def blobOpensSpec : ChangeSpec := { name := "blobOpens", fn := fun _ => fun
  | [d1, d2] => { results := [.lit (.bool true)], args := [d1, d2] }
  | _ => none }
def blobOpensRow : OpenClaim := { program := "ytpmfedimjjifaaagreatdoor", sum := "395ea4e720902a51aab089cc0acda213aaec2c1900458783da59427e3d6c18b9", func := "hachure/hachurelaw16.BlobOpens", spec := "blobOpens", unfollowed := true, recurses := true, named := ["hachure/shape.rules"], apart := false, laid := [("hachure/shape.rules", laid_hachure_shape_rules)] }
def BlobOpensSaid : Prop := blobOpensRow.holds Tryz.pinned (OpenSpec.ofChange blobOpensSpec)

/-- ITS FALSE NEIGHBOUR: 'it returns false'. Refute it at one input. -/
def blobOpensWrong : ChangeSpec := { name := "blobOpens", fn := fun _ => fun
  | [d1, d2] => { results := [.lit (.bool false)], args := [d1, d2] }
  | _ => none }
def BlobOpensWrongFalsely : Prop := blobOpensRow.holds Tryz.pinned (OpenSpec.ofChange blobOpensWrong)

/-- 'hachurelaw16.BlobBack': WHATEVER THE INPUT: true; the input reads as it did. -/
def blobBackSpec : ChangeSpec := { name := "blobBack", fn := fun _ => fun
  | [d1, d2, d3] => { results := [.lit (.bool true)], args := [d1, d2, d3] }
  | _ => none }
def blobBackRow : OpenClaim := { program := "ytpmfedimjjifaaagreatdoor", sum := "395ea4e720902a51aab089cc0acda213aaec2c1900458783da59427e3d6c18b9", func := "hachure/hachurelaw16.BlobBack", spec := "blobBack", unfollowed := true, recurses := true, named := ["hachure/shape.rules"], loops := true, apart := false, laid := [("hachure/shape.rules", laid_hachure_shape_rules)] }
def BlobBackSaid : Prop := blobBackRow.holds Tryz.pinned (OpenSpec.ofChange blobBackSpec)

/-- ITS FALSE NEIGHBOUR: 'it returns false'. Refute it at one input. -/
def blobBackWrong : ChangeSpec := { name := "blobBack", fn := fun _ => fun
  | [d1, d2, d3] => { results := [.lit (.bool false)], args := [d1, d2, d3] }
  | _ => none }
def BlobBackWrongFalsely : Prop := blobBackRow.holds Tryz.pinned (OpenSpec.ofChange blobBackWrong)

/- THE SECOND FORM. 'bulk': how many values and letters a reading holds, each counted each time it is reached (what is shared counts as often as it is met; a slice's spare places count too). A statement '..UptoSaid' is the law's where the arguments, and the package variables that the reading takes, are together of bulk at most 1048576: NARROWER than '..Said'. Prove '..Said' where nothing that the law and all that it calls make is longer than what came in: it says more and counts as full. Else prove '..UptoSaid'. A law counts once. -/
mutual
def uptoBulk {H : Type} : DataW H → Nat
  | .lit (.string bytes) => bytes.length + 1
  | .lit _ => 1
  | .nil => 1
  | .ptr d => uptoBulk d + 1
  | .slice elems spare => uptoBulkAll elems + uptoBulkAll spare + 1
  | .agg parts => uptoBulkAll parts + 1
  | .iface _ d => uptoBulk d + 1
  | .map entries => uptoBulkEntries entries + 1
  | .held _ => 1
def uptoBulkAll {H : Type} : List (DataW H) → Nat
  | [] => 0
  | d :: r => uptoBulk d + uptoBulkAll r
def uptoBulkEntries {H : Type} : List (Lit × DataW H) → Nat
  | [] => 0
  | x :: r => uptoBulkEntry x + uptoBulkEntries r
def uptoBulkEntry {H : Type} : Lit × DataW H → Nat
  | (.string bytes, d) => bytes.length + uptoBulk d + 1
  | (_, d) => uptoBulk d + 1
 end
def uptoSmall : (H : Type) → List (DataW H) → Bool := fun _ ds => decide (uptoBulkAll ds ≤ 1048576)
def OpenSpec.upto (s : _root_.Go.ChangeSpec) : _root_.Go.OpenSpec := { _root_.Go.OpenSpec.ofChange s with cond := some uptoSmall }

/-- 'hachurelaw16.BlobOpens', WHERE WHAT IT READS IS OF BULK AT MOST 1048576: true; the input reads as it did. -/
def blobOpensUptoRow : OpenClaim := { program := "ytpmfedimjjifaaagreatdoor", sum := "395ea4e720902a51aab089cc0acda213aaec2c1900458783da59427e3d6c18b9", func := "hachure/hachurelaw16.BlobOpens", spec := "blobOpens", unfollowed := true, recurses := true, named := ["hachure/shape.rules"], apart := false, laid := [("hachure/shape.rules", laid_hachure_shape_rules)], narrowed := true }
def BlobOpensUptoSaid : Prop := blobOpensUptoRow.holds Tryz.pinned (OpenSpec.upto blobOpensSpec)

/-- 'hachurelaw16.BlobBack', WHERE WHAT IT READS IS OF BULK AT MOST 1048576: true; the input reads as it did. -/
def blobBackUptoRow : OpenClaim := { program := "ytpmfedimjjifaaagreatdoor", sum := "395ea4e720902a51aab089cc0acda213aaec2c1900458783da59427e3d6c18b9", func := "hachure/hachurelaw16.BlobBack", spec := "blobBack", unfollowed := true, recurses := true, named := ["hachure/shape.rules"], loops := true, apart := false, laid := [("hachure/shape.rules", laid_hachure_shape_rules)], narrowed := true }
def BlobBackUptoSaid : Prop := blobBackUptoRow.holds Tryz.pinned (OpenSpec.upto blobBackSpec)

end Rows
end Go.Proofs.YtpmfedimjjifaaaGreatDoor
