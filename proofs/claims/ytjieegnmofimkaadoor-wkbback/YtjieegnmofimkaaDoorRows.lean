/-
  NARROWER THAN 'FOR EVERY INPUT', by the rows' own cells (each row's printed sentence says how): WkbEncodes: loops, laid · WkbReads: laid · WkbBack: loops, laid · WkbCuts: loops, laid · WkbDeep: laid.
  DERIVED. THE GIVEN ROWS OF THIS SEAT. 5 by the template 'for every input the law returns true; each argument reads behind the call as it read before'; 0 by the template 'total and deterministic' (their statements: YtjieegnmofimkaaDoorTotals.lean).
  GIVEN WITH THE SEED: the statements are not yours to turn. If you find one false, say at which input.
  Laid BY PROGRAM, IN A SANDBOX (cutbox-rows.mjs): the forced cells as the released guide's own fill.sh prints them over the translation c557a4e85245373f… (all of the seat's roots in one cut). By AI agents, Wed Nov 11 2026. No macro, syntax, notation, axiom, sorry.
-/
import Derived.Test.YtjieegnmofimkaaDoorChecked
import GoSem.Claim
import GoSem.ClaimJoined
import GoSem.ClaimMapViews
import Derived.JoinedTies
import Derived.KernelRfl
namespace Go.Proofs.YtjieegnmofimkaaDoor
/- THE CELL 'sum', in the pinned program and in every row, IS THE sha256 OF THE DUMP (.gsa) THAT YtjieegnmofimkaaDoorProg.lean LOADS. Nothing in Lean hashes anything: it is a label: what it is worth is what the hold of that sum in a sandbox is worth. -/
noncomputable def Tryd.pinned : Pinned := { name := "ytjieegnmofimkaadoor", sum := "c557a4e85245373f48dfe9805d8a6816ded9b2ee7964fb008927028216ecfbad", checked := Tryd.checked }
namespace Rows
def none {H : Type} : Left H := { results := [], args := [] }

/- WHAT THE LISTED PACKAGE-LEVEL VARIABLES READ AS WHEN THE CALL BEGINS. Each datum BY PROGRAM (the guide's laid-datum.mjs) off the statement by which the dump's own 'gosem.cut.vars' lays the variable. In a bare row this is a premise. The card (YtjieegnmofimkaaDoorCards.lean) ties it to the program's text. -/
def laid_hachure_shape_rules {H : Type} : DataW H := .agg [.agg [.lit (.string []), .lit (.int .i64 1), .lit (.int .i64 0)], .agg [.lit (.string [80, 79, 73, 78, 84]), .lit (.int .i64 1), .lit (.int .i64 0)], .agg [.lit (.string [76, 73, 78, 69, 83, 84, 82, 73, 78, 71]), .lit (.int .i64 1), .lit (.int .i64 0)], .agg [.lit (.string [80, 79, 76, 89, 71, 79, 78]), .lit (.int .i64 0), .lit (.int .i64 0)], .agg [.lit (.string [77, 85, 76, 84, 73, 80, 79, 73, 78, 84]), .lit (.int .i64 1), .lit (.int .i64 1)], .agg [.lit (.string [77, 85, 76, 84, 73, 76, 73, 78, 69, 83, 84, 82, 73, 78, 71]), .lit (.int .i64 2), .lit (.int .i64 2)], .agg [.lit (.string [77, 85, 76, 84, 73, 80, 79, 76, 89, 71, 79, 78]), .lit (.int .i64 3), .lit (.int .i64 3)], .agg [.lit (.string [71, 69, 79, 77, 69, 84, 82, 89, 67, 79, 76, 76, 69, 67, 84, 73, 79, 78]), .lit (.int .i64 1), .lit (.int .i64 7)]]

/-- 'hachurelaw14.WkbEncodes': WHATEVER THE INPUT: true; the input reads as it did. -/
def wkbEncodesSpec : ChangeSpec := { name := "wkbEncodes", fn := fun _ => fun
  | [d1, d2] => { results := [.lit (.bool true)], args := [d1, d2] }
  | _ => none }
def wkbEncodesRow : OpenClaim := { program := "ytjieegnmofimkaadoor", sum := "c557a4e85245373f48dfe9805d8a6816ded9b2ee7964fb008927028216ecfbad", func := "hachure/hachurelaw14.WkbEncodes", spec := "wkbEncodes", unfollowed := true, recurses := true, named := ["hachure/shape.rules"], loops := true, apart := false, laid := [("hachure/shape.rules", laid_hachure_shape_rules)] }
def WkbEncodesSaid : Prop := wkbEncodesRow.holds Tryd.pinned (OpenSpec.ofChange wkbEncodesSpec)

/-- ITS FALSE NEIGHBOUR: 'it returns false'. Refute it at one input. -/
def wkbEncodesWrong : ChangeSpec := { name := "wkbEncodes", fn := fun _ => fun
  | [d1, d2] => { results := [.lit (.bool false)], args := [d1, d2] }
  | _ => none }
def WkbEncodesWrongFalsely : Prop := wkbEncodesRow.holds Tryd.pinned (OpenSpec.ofChange wkbEncodesWrong)

/-- 'hachurelaw14.WkbReads': WHATEVER THE INPUT: true; the input reads as it did. -/
def wkbReadsSpec : ChangeSpec := { name := "wkbReads", fn := fun _ => fun
  | [d] => { results := [.lit (.bool true)], args := [d] }
  | _ => none }
def wkbReadsRow : OpenClaim := { program := "ytjieegnmofimkaadoor", sum := "c557a4e85245373f48dfe9805d8a6816ded9b2ee7964fb008927028216ecfbad", func := "hachure/hachurelaw14.WkbReads", spec := "wkbReads", unfollowed := true, recurses := true, named := ["hachure/shape.rules"], apart := false, laid := [("hachure/shape.rules", laid_hachure_shape_rules)] }
def WkbReadsSaid : Prop := wkbReadsRow.holds Tryd.pinned (OpenSpec.ofChange wkbReadsSpec)

/-- ITS FALSE NEIGHBOUR: 'it returns false'. Refute it at one input. -/
def wkbReadsWrong : ChangeSpec := { name := "wkbReads", fn := fun _ => fun
  | [d] => { results := [.lit (.bool false)], args := [d] }
  | _ => none }
def WkbReadsWrongFalsely : Prop := wkbReadsRow.holds Tryd.pinned (OpenSpec.ofChange wkbReadsWrong)

/-- 'hachurelaw14.WkbBack': WHATEVER THE INPUT: true; the input reads as it did. -/
def wkbBackSpec : ChangeSpec := { name := "wkbBack", fn := fun _ => fun
  | [d1, d2, d3] => { results := [.lit (.bool true)], args := [d1, d2, d3] }
  | _ => none }
def wkbBackRow : OpenClaim := { program := "ytjieegnmofimkaadoor", sum := "c557a4e85245373f48dfe9805d8a6816ded9b2ee7964fb008927028216ecfbad", func := "hachure/hachurelaw14.WkbBack", spec := "wkbBack", unfollowed := true, recurses := true, named := ["hachure/shape.rules"], loops := true, apart := false, laid := [("hachure/shape.rules", laid_hachure_shape_rules)] }
def WkbBackSaid : Prop := wkbBackRow.holds Tryd.pinned (OpenSpec.ofChange wkbBackSpec)

/-- ITS FALSE NEIGHBOUR: 'it returns false'. Refute it at one input. -/
def wkbBackWrong : ChangeSpec := { name := "wkbBack", fn := fun _ => fun
  | [d1, d2, d3] => { results := [.lit (.bool false)], args := [d1, d2, d3] }
  | _ => none }
def WkbBackWrongFalsely : Prop := wkbBackRow.holds Tryd.pinned (OpenSpec.ofChange wkbBackWrong)

/-- 'hachurelaw14.WkbCuts': WHATEVER THE INPUT: true; the input reads as it did. -/
def wkbCutsSpec : ChangeSpec := { name := "wkbCuts", fn := fun _ => fun
  | [d1, d2, d3] => { results := [.lit (.bool true)], args := [d1, d2, d3] }
  | _ => none }
def wkbCutsRow : OpenClaim := { program := "ytjieegnmofimkaadoor", sum := "c557a4e85245373f48dfe9805d8a6816ded9b2ee7964fb008927028216ecfbad", func := "hachure/hachurelaw14.WkbCuts", spec := "wkbCuts", unfollowed := true, recurses := true, named := ["hachure/shape.rules"], loops := true, apart := false, laid := [("hachure/shape.rules", laid_hachure_shape_rules)] }
def WkbCutsSaid : Prop := wkbCutsRow.holds Tryd.pinned (OpenSpec.ofChange wkbCutsSpec)

/-- ITS FALSE NEIGHBOUR: 'it returns false'. Refute it at one input. -/
def wkbCutsWrong : ChangeSpec := { name := "wkbCuts", fn := fun _ => fun
  | [d1, d2, d3] => { results := [.lit (.bool false)], args := [d1, d2, d3] }
  | _ => none }
def WkbCutsWrongFalsely : Prop := wkbCutsRow.holds Tryd.pinned (OpenSpec.ofChange wkbCutsWrong)

/-- 'hachurelaw14.WkbDeep': WHATEVER THE INPUT: true; the input reads as it did. -/
def wkbDeepSpec : ChangeSpec := { name := "wkbDeep", fn := fun _ => fun
  | [d1, d2] => { results := [.lit (.bool true)], args := [d1, d2] }
  | _ => none }
def wkbDeepRow : OpenClaim := { program := "ytjieegnmofimkaadoor", sum := "c557a4e85245373f48dfe9805d8a6816ded9b2ee7964fb008927028216ecfbad", func := "hachure/hachurelaw14.WkbDeep", spec := "wkbDeep", unfollowed := true, recurses := true, named := ["hachure/shape.rules"], apart := false, laid := [("hachure/shape.rules", laid_hachure_shape_rules)] }
def WkbDeepSaid : Prop := wkbDeepRow.holds Tryd.pinned (OpenSpec.ofChange wkbDeepSpec)

/-- ITS FALSE NEIGHBOUR: 'it returns false'. Refute it at one input. -/
def wkbDeepWrong : ChangeSpec := { name := "wkbDeep", fn := fun _ => fun
  | [d1, d2] => { results := [.lit (.bool false)], args := [d1, d2] }
  | _ => none }
def WkbDeepWrongFalsely : Prop := wkbDeepRow.holds Tryd.pinned (OpenSpec.ofChange wkbDeepWrong)

/- THE SECOND FORM. 'bulk': how many values and letters a reading holds, each counted each time it is reached (what is shared counts as often as it is met; a slice's spare places count too). A statement '..UptoSaid' is the law's where the arguments, and the package variables that the reading takes, are together of bulk at most 1048576: NARROWER than '..Said'. Prove '..Said' where nothing that the law and all that it calls make is longer than what came in: it says more and counts as full. Else prove '..UptoSaid'. A law counts once. -/
mutual
def uptoBulk {H : Type} : DataW H → Nat
  | .lit (.string bytes) => bytes.length + 1
  | .lit _ => 1
  | .nil => 1
  | .ptr d => uptoBulk d + 1
  | .slice elems spare => uptoBulkAll elems + uptoBulkAll spare + 1
  | .agg parts => uptoBulkAll parts + 1
  | .iface _ d => uptoBulk d + 1
  | .map entries => uptoBulkEntries entries + 1
  | .held _ => 1
def uptoBulkAll {H : Type} : List (DataW H) → Nat
  | [] => 0
  | d :: r => uptoBulk d + uptoBulkAll r
def uptoBulkEntries {H : Type} : List (Lit × DataW H) → Nat
  | [] => 0
  | x :: r => uptoBulkEntry x + uptoBulkEntries r
def uptoBulkEntry {H : Type} : Lit × DataW H → Nat
  | (.string bytes, d) => bytes.length + uptoBulk d + 1
  | (_, d) => uptoBulk d + 1
 end
def uptoSmall : (H : Type) → List (DataW H) → Bool := fun _ ds => decide (uptoBulkAll ds ≤ 1048576)
def OpenSpec.upto (s : _root_.Go.ChangeSpec) : _root_.Go.OpenSpec := { _root_.Go.OpenSpec.ofChange s with cond := some uptoSmall }

/-- 'hachurelaw14.WkbEncodes', WHERE WHAT IT READS IS OF BULK AT MOST 1048576: true; the input reads as it did. -/
def wkbEncodesUptoRow : OpenClaim := { program := "ytjieegnmofimkaadoor", sum := "c557a4e85245373f48dfe9805d8a6816ded9b2ee7964fb008927028216ecfbad", func := "hachure/hachurelaw14.WkbEncodes", spec := "wkbEncodes", unfollowed := true, recurses := true, named := ["hachure/shape.rules"], loops := true, apart := false, laid := [("hachure/shape.rules", laid_hachure_shape_rules)], narrowed := true }
def WkbEncodesUptoSaid : Prop := wkbEncodesUptoRow.holds Tryd.pinned (OpenSpec.upto wkbEncodesSpec)

/-- 'hachurelaw14.WkbReads', WHERE WHAT IT READS IS OF BULK AT MOST 1048576: true; the input reads as it did. -/
def wkbReadsUptoRow : OpenClaim := { program := "ytjieegnmofimkaadoor", sum := "c557a4e85245373f48dfe9805d8a6816ded9b2ee7964fb008927028216ecfbad", func := "hachure/hachurelaw14.WkbReads", spec := "wkbReads", unfollowed := true, recurses := true, named := ["hachure/shape.rules"], apart := false, laid := [("hachure/shape.rules", laid_hachure_shape_rules)], narrowed := true }
def WkbReadsUptoSaid : Prop := wkbReadsUptoRow.holds Tryd.pinned (OpenSpec.upto wkbReadsSpec)

/-- 'hachurelaw14.WkbBack', WHERE WHAT IT READS IS OF BULK AT MOST 1048576: true; the input reads as it did. -/
def wkbBackUptoRow : OpenClaim := { program := "ytjieegnmofimkaadoor", sum := "c557a4e85245373f48dfe9805d8a6816ded9b2ee7964fb008927028216ecfbad", func := "hachure/hachurelaw14.WkbBack", spec := "wkbBack", unfollowed := true, recurses := true, named := ["hachure/shape.rules"], loops := true, apart := false, laid := [("hachure/shape.rules", laid_hachure_shape_rules)], narrowed := true }
def WkbBackUptoSaid : Prop := wkbBackUptoRow.holds Tryd.pinned (OpenSpec.upto wkbBackSpec)

/-- 'hachurelaw14.WkbCuts', WHERE WHAT IT READS IS OF BULK AT MOST 1048576: true; the input reads as it did. -/
def wkbCutsUptoRow : OpenClaim := { program := "ytjieegnmofimkaadoor", sum := "c557a4e85245373f48dfe9805d8a6816ded9b2ee7964fb008927028216ecfbad", func := "hachure/hachurelaw14.WkbCuts", spec := "wkbCuts", unfollowed := true, recurses := true, named := ["hachure/shape.rules"], loops := true, apart := false, laid := [("hachure/shape.rules", laid_hachure_shape_rules)], narrowed := true }
def WkbCutsUptoSaid : Prop := wkbCutsUptoRow.holds Tryd.pinned (OpenSpec.upto wkbCutsSpec)

/-- 'hachurelaw14.WkbDeep', WHERE WHAT IT READS IS OF BULK AT MOST 1048576: true; the input reads as it did. -/
def wkbDeepUptoRow : OpenClaim := { program := "ytjieegnmofimkaadoor", sum := "c557a4e85245373f48dfe9805d8a6816ded9b2ee7964fb008927028216ecfbad", func := "hachure/hachurelaw14.WkbDeep", spec := "wkbDeep", unfollowed := true, recurses := true, named := ["hachure/shape.rules"], apart := false, laid := [("hachure/shape.rules", laid_hachure_shape_rules)], narrowed := true }
def WkbDeepUptoSaid : Prop := wkbDeepUptoRow.holds Tryd.pinned (OpenSpec.upto wkbDeepSpec)

end Rows
end Go.Proofs.YtjieegnmofimkaaDoor
