/-
  NARROWER THAN 'FOR EVERY INPUT', by the rows' own cells (each row's printed sentence says how): ShapeChecks: loops, laid · ShapeKinds: laid · ShapeEquals: loops, laid · ShapeCopies: loops, laid · ShapeWraps: loops, laid.
  DERIVED. THE GIVEN ROWS OF THIS SEAT. 5 by the template 'for every input the law returns true; each argument reads behind the call as it read before'; 0 by the template 'total and deterministic' (their statements: YtcneadohpbeahaaDoorTotals.lean).
  GIVEN WITH THE SEED: the statements are not yours to turn. If you find one false, say at which input.
  Laid BY PROGRAM, IN A SANDBOX (cutbox-rows.mjs): the forced cells as the released guide's own fill.sh prints them over the translation 8d84358899764d18… (all of the seat's roots in one cut). By AI agents, Wed Nov 11 2026. No macro, syntax, notation, axiom, sorry.
-/
import Derived.Test.YtcneadohpbeahaaDoorChecked
import GoSem.Claim
import GoSem.ClaimJoined
import GoSem.ClaimMapViews
import Derived.JoinedTies
import Derived.KernelRfl
namespace Go.Proofs.YtcneadohpbeahaaDoor
/- THE CELL 'sum', in the pinned program and in every row, IS THE sha256 OF THE DUMP (.gsa) THAT YtcneadohpbeahaaDoorProg.lean LOADS. Nothing in Lean hashes anything: it is a label: what it is worth is what the hold of that sum in a sandbox is worth. -/
noncomputable def Tryd.pinned : Pinned := { name := "ytcneadohpbeahaadoor", sum := "8d84358899764d181d3c07c53b78d847ed61585bcea80668eba553ccf2446b91", checked := Tryd.checked }
namespace Rows
def none {H : Type} : Left H := { results := [], args := [] }

/- WHAT THE LISTED PACKAGE-LEVEL VARIABLES READ AS WHEN THE CALL BEGINS. Each datum BY PROGRAM (the guide's laid-datum.mjs) off the statement by which the dump's own 'gosem.cut.vars' lays the variable. In a bare row this is a premise. The card (YtcneadohpbeahaaDoorCards.lean) ties it to the program's text. -/
def laid_hachure_shape_rules {H : Type} : DataW H := .agg [.agg [.lit (.string []), .lit (.int .i64 1), .lit (.int .i64 0)], .agg [.lit (.string [80, 79, 73, 78, 84]), .lit (.int .i64 1), .lit (.int .i64 0)], .agg [.lit (.string [76, 73, 78, 69, 83, 84, 82, 73, 78, 71]), .lit (.int .i64 1), .lit (.int .i64 0)], .agg [.lit (.string [80, 79, 76, 89, 71, 79, 78]), .lit (.int .i64 0), .lit (.int .i64 0)], .agg [.lit (.string [77, 85, 76, 84, 73, 80, 79, 73, 78, 84]), .lit (.int .i64 1), .lit (.int .i64 1)], .agg [.lit (.string [77, 85, 76, 84, 73, 76, 73, 78, 69, 83, 84, 82, 73, 78, 71]), .lit (.int .i64 2), .lit (.int .i64 2)], .agg [.lit (.string [77, 85, 76, 84, 73, 80, 79, 76, 89, 71, 79, 78]), .lit (.int .i64 3), .lit (.int .i64 3)], .agg [.lit (.string [71, 69, 79, 77, 69, 84, 82, 89, 67, 79, 76, 76, 69, 67, 84, 73, 79, 78]), .lit (.int .i64 1), .lit (.int .i64 7)]]

/-- 'hachurelaw13.ShapeChecks': WHATEVER THE INPUT: true; the input reads as it did. -/
def shapeChecksSpec : ChangeSpec := { name := "shapeChecks", fn := fun _ => fun
  | [d] => { results := [.lit (.bool true)], args := [d] }
  | _ => none }
def shapeChecksRow : OpenClaim := { program := "ytcneadohpbeahaadoor", sum := "8d84358899764d181d3c07c53b78d847ed61585bcea80668eba553ccf2446b91", func := "hachure/hachurelaw13.ShapeChecks", spec := "shapeChecks", unfollowed := true, recurses := true, named := ["hachure/shape.rules"], loops := true, apart := false, laid := [("hachure/shape.rules", laid_hachure_shape_rules)] }
def ShapeChecksSaid : Prop := shapeChecksRow.holds Tryd.pinned (OpenSpec.ofChange shapeChecksSpec)

/-- ITS FALSE NEIGHBOUR: 'it returns false'. Refute it at one input. -/
def shapeChecksWrong : ChangeSpec := { name := "shapeChecks", fn := fun _ => fun
  | [d] => { results := [.lit (.bool false)], args := [d] }
  | _ => none }
def ShapeChecksWrongFalsely : Prop := shapeChecksRow.holds Tryd.pinned (OpenSpec.ofChange shapeChecksWrong)

/-- 'hachurelaw13.ShapeKinds': WHATEVER THE INPUT: true; the input reads as it did. -/
def shapeKindsSpec : ChangeSpec := { name := "shapeKinds", fn := fun _ => fun
  | [d1, d2] => { results := [.lit (.bool true)], args := [d1, d2] }
  | _ => none }
def shapeKindsRow : OpenClaim := { program := "ytcneadohpbeahaadoor", sum := "8d84358899764d181d3c07c53b78d847ed61585bcea80668eba553ccf2446b91", func := "hachure/hachurelaw13.ShapeKinds", spec := "shapeKinds", unfollowed := true, recurses := true, named := ["hachure/shape.rules"], apart := false, laid := [("hachure/shape.rules", laid_hachure_shape_rules)] }
def ShapeKindsSaid : Prop := shapeKindsRow.holds Tryd.pinned (OpenSpec.ofChange shapeKindsSpec)

/-- ITS FALSE NEIGHBOUR: 'it returns false'. Refute it at one input. -/
def shapeKindsWrong : ChangeSpec := { name := "shapeKinds", fn := fun _ => fun
  | [d1, d2] => { results := [.lit (.bool false)], args := [d1, d2] }
  | _ => none }
def ShapeKindsWrongFalsely : Prop := shapeKindsRow.holds Tryd.pinned (OpenSpec.ofChange shapeKindsWrong)

/-- 'hachurelaw13.ShapeEquals': WHATEVER THE INPUT: true; the input reads as it did. -/
def shapeEqualsSpec : ChangeSpec := { name := "shapeEquals", fn := fun _ => fun
  | [d1, d2, d3] => { results := [.lit (.bool true)], args := [d1, d2, d3] }
  | _ => none }
def shapeEqualsRow : OpenClaim := { program := "ytcneadohpbeahaadoor", sum := "8d84358899764d181d3c07c53b78d847ed61585bcea80668eba553ccf2446b91", func := "hachure/hachurelaw13.ShapeEquals", spec := "shapeEquals", unfollowed := true, recurses := true, named := ["hachure/shape.rules"], loops := true, apart := false, laid := [("hachure/shape.rules", laid_hachure_shape_rules)] }
def ShapeEqualsSaid : Prop := shapeEqualsRow.holds Tryd.pinned (OpenSpec.ofChange shapeEqualsSpec)

/-- ITS FALSE NEIGHBOUR: 'it returns false'. Refute it at one input. -/
def shapeEqualsWrong : ChangeSpec := { name := "shapeEquals", fn := fun _ => fun
  | [d1, d2, d3] => { results := [.lit (.bool false)], args := [d1, d2, d3] }
  | _ => none }
def ShapeEqualsWrongFalsely : Prop := shapeEqualsRow.holds Tryd.pinned (OpenSpec.ofChange shapeEqualsWrong)

/-- 'hachurelaw13.ShapeCopies': WHATEVER THE INPUT: true; the input reads as it did. -/
def shapeCopiesSpec : ChangeSpec := { name := "shapeCopies", fn := fun _ => fun
  | [d1, d2] => { results := [.lit (.bool true)], args := [d1, d2] }
  | _ => none }
def shapeCopiesRow : OpenClaim := { program := "ytcneadohpbeahaadoor", sum := "8d84358899764d181d3c07c53b78d847ed61585bcea80668eba553ccf2446b91", func := "hachure/hachurelaw13.ShapeCopies", spec := "shapeCopies", unfollowed := true, recurses := true, named := ["hachure/shape.rules"], loops := true, apart := false, laid := [("hachure/shape.rules", laid_hachure_shape_rules)] }
def ShapeCopiesSaid : Prop := shapeCopiesRow.holds Tryd.pinned (OpenSpec.ofChange shapeCopiesSpec)

/-- ITS FALSE NEIGHBOUR: 'it returns false'. Refute it at one input. -/
def shapeCopiesWrong : ChangeSpec := { name := "shapeCopies", fn := fun _ => fun
  | [d1, d2] => { results := [.lit (.bool false)], args := [d1, d2] }
  | _ => none }
def ShapeCopiesWrongFalsely : Prop := shapeCopiesRow.holds Tryd.pinned (OpenSpec.ofChange shapeCopiesWrong)

/-- 'hachurelaw13.ShapeWraps': WHATEVER THE INPUT: true; the input reads as it did. -/
def shapeWrapsSpec : ChangeSpec := { name := "shapeWraps", fn := fun _ => fun
  | [d] => { results := [.lit (.bool true)], args := [d] }
  | _ => none }
def shapeWrapsRow : OpenClaim := { program := "ytcneadohpbeahaadoor", sum := "8d84358899764d181d3c07c53b78d847ed61585bcea80668eba553ccf2446b91", func := "hachure/hachurelaw13.ShapeWraps", spec := "shapeWraps", unfollowed := true, recurses := true, named := ["hachure/shape.rules"], loops := true, apart := false, laid := [("hachure/shape.rules", laid_hachure_shape_rules)] }
def ShapeWrapsSaid : Prop := shapeWrapsRow.holds Tryd.pinned (OpenSpec.ofChange shapeWrapsSpec)

/-- ITS FALSE NEIGHBOUR: 'it returns false'. Refute it at one input. -/
def shapeWrapsWrong : ChangeSpec := { name := "shapeWraps", fn := fun _ => fun
  | [d] => { results := [.lit (.bool false)], args := [d] }
  | _ => none }
def ShapeWrapsWrongFalsely : Prop := shapeWrapsRow.holds Tryd.pinned (OpenSpec.ofChange shapeWrapsWrong)

/- THE SECOND FORM. 'bulk': how many values and letters a reading holds, each counted each time it is reached (what is shared counts as often as it is met; a slice's spare places count too). A statement '..UptoSaid' is the law's where the arguments, and the package variables that the reading takes, are together of bulk at most 1048576: NARROWER than '..Said'. Prove '..Said' where nothing that the law and all that it calls make is longer than what came in: it says more and counts as full. Else prove '..UptoSaid'. A law counts once. -/
mutual
def uptoBulk {H : Type} : DataW H → Nat
  | .lit (.string bytes) => bytes.length + 1
  | .lit _ => 1
  | .nil => 1
  | .ptr d => uptoBulk d + 1
  | .slice elems spare => uptoBulkAll elems + uptoBulkAll spare + 1
  | .agg parts => uptoBulkAll parts + 1
  | .iface _ d => uptoBulk d + 1
  | .map entries => uptoBulkEntries entries + 1
  | .held _ => 1
def uptoBulkAll {H : Type} : List (DataW H) → Nat
  | [] => 0
  | d :: r => uptoBulk d + uptoBulkAll r
def uptoBulkEntries {H : Type} : List (Lit × DataW H) → Nat
  | [] => 0
  | x :: r => uptoBulkEntry x + uptoBulkEntries r
def uptoBulkEntry {H : Type} : Lit × DataW H → Nat
  | (.string bytes, d) => bytes.length + uptoBulk d + 1
  | (_, d) => uptoBulk d + 1
 end
def uptoSmall : (H : Type) → List (DataW H) → Bool := fun _ ds => decide (uptoBulkAll ds ≤ 1048576)
def OpenSpec.upto (s : _root_.Go.ChangeSpec) : _root_.Go.OpenSpec := { _root_.Go.OpenSpec.ofChange s with cond := some uptoSmall }

/-- 'hachurelaw13.ShapeChecks', WHERE WHAT IT READS IS OF BULK AT MOST 1048576: true; the input reads as it did. -/
def shapeChecksUptoRow : OpenClaim := { program := "ytcneadohpbeahaadoor", sum := "8d84358899764d181d3c07c53b78d847ed61585bcea80668eba553ccf2446b91", func := "hachure/hachurelaw13.ShapeChecks", spec := "shapeChecks", unfollowed := true, recurses := true, named := ["hachure/shape.rules"], loops := true, apart := false, laid := [("hachure/shape.rules", laid_hachure_shape_rules)], narrowed := true }
def ShapeChecksUptoSaid : Prop := shapeChecksUptoRow.holds Tryd.pinned (OpenSpec.upto shapeChecksSpec)

/-- 'hachurelaw13.ShapeKinds', WHERE WHAT IT READS IS OF BULK AT MOST 1048576: true; the input reads as it did. -/
def shapeKindsUptoRow : OpenClaim := { program := "ytcneadohpbeahaadoor", sum := "8d84358899764d181d3c07c53b78d847ed61585bcea80668eba553ccf2446b91", func := "hachure/hachurelaw13.ShapeKinds", spec := "shapeKinds", unfollowed := true, recurses := true, named := ["hachure/shape.rules"], apart := false, laid := [("hachure/shape.rules", laid_hachure_shape_rules)], narrowed := true }
def ShapeKindsUptoSaid : Prop := shapeKindsUptoRow.holds Tryd.pinned (OpenSpec.upto shapeKindsSpec)

/-- 'hachurelaw13.ShapeEquals', WHERE WHAT IT READS IS OF BULK AT MOST 1048576: true; the input reads as it did. -/
def shapeEqualsUptoRow : OpenClaim := { program := "ytcneadohpbeahaadoor", sum := "8d84358899764d181d3c07c53b78d847ed61585bcea80668eba553ccf2446b91", func := "hachure/hachurelaw13.ShapeEquals", spec := "shapeEquals", unfollowed := true, recurses := true, named := ["hachure/shape.rules"], loops := true, apart := false, laid := [("hachure/shape.rules", laid_hachure_shape_rules)], narrowed := true }
def ShapeEqualsUptoSaid : Prop := shapeEqualsUptoRow.holds Tryd.pinned (OpenSpec.upto shapeEqualsSpec)

/-- 'hachurelaw13.ShapeCopies', WHERE WHAT IT READS IS OF BULK AT MOST 1048576: true; the input reads as it did. -/
def shapeCopiesUptoRow : OpenClaim := { program := "ytcneadohpbeahaadoor", sum := "8d84358899764d181d3c07c53b78d847ed61585bcea80668eba553ccf2446b91", func := "hachure/hachurelaw13.ShapeCopies", spec := "shapeCopies", unfollowed := true, recurses := true, named := ["hachure/shape.rules"], loops := true, apart := false, laid := [("hachure/shape.rules", laid_hachure_shape_rules)], narrowed := true }
def ShapeCopiesUptoSaid : Prop := shapeCopiesUptoRow.holds Tryd.pinned (OpenSpec.upto shapeCopiesSpec)

/-- 'hachurelaw13.ShapeWraps', WHERE WHAT IT READS IS OF BULK AT MOST 1048576: true; the input reads as it did. -/
def shapeWrapsUptoRow : OpenClaim := { program := "ytcneadohpbeahaadoor", sum := "8d84358899764d181d3c07c53b78d847ed61585bcea80668eba553ccf2446b91", func := "hachure/hachurelaw13.ShapeWraps", spec := "shapeWraps", unfollowed := true, recurses := true, named := ["hachure/shape.rules"], loops := true, apart := false, laid := [("hachure/shape.rules", laid_hachure_shape_rules)], narrowed := true }
def ShapeWrapsUptoSaid : Prop := shapeWrapsUptoRow.holds Tryd.pinned (OpenSpec.upto shapeWrapsSpec)

end Rows
end Go.Proofs.YtcneadohpbeahaaDoor
