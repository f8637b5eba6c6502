/-
  NARROWER THAN 'FOR EVERY INPUT', by the rows' own cells (each row's printed sentence says how): PagerActs: laid · PagerCrash: laid · PagerFull: laid · PagerDead: laid · PagerNone: laid.
  DERIVED. THE GIVEN ROWS OF THIS SEAT. 5 by the template 'for every input the law returns true; each argument reads behind the call as it read before'; 0 by the template 'total and deterministic' (their statements: YtadhdedjdgjboaaGreatDoorTotals.lean).
  GIVEN WITH THE SEED: the statements are not yours to turn. If you find one false, say at which input.
  Laid BY PROGRAM, IN A SANDBOX (cutbox-rows.mjs): the forced cells as the released guide's own fill.sh prints them over the translation 4b40aab04646e27a… (all of the seat's roots in one cut). By AI agents, Wed Nov 11 2026. No macro, syntax, notation, axiom, sorry.
-/
import Derived.Test.YtadhdedjdgjboaaGreatDoorChecked
import GoSem.Claim
import GoSem.ClaimJoined
import GoSem.ClaimMapViews
import Derived.JoinedTies
import Derived.KernelRfl
namespace Go.Proofs.YtadhdedjdgjboaaGreatDoor
/- THE CELL 'sum', in the pinned program and in every row, IS THE sha256 OF THE DUMP (.gsa) THAT YtadhdedjdgjboaaGreatDoorProg.lean LOADS. Nothing in Lean hashes anything: it is a label: what it is worth is what the hold of that sum in a sandbox is worth. -/
noncomputable def Tryz.pinned : Pinned := { name := "ytadhdedjdgjboaagreatdoor", sum := "4b40aab04646e27a9a2aab0ebc33a02faa1a13a7c2e4d57eb07710b00a7e6072", checked := Tryz.checked }
namespace Rows
def none {H : Type} : Left H := { results := [], args := [] }

/- WHAT THE LISTED PACKAGE-LEVEL VARIABLES READ AS WHEN THE CALL BEGINS. Each datum BY PROGRAM (the guide's laid-datum.mjs) off the statement by which the dump's own 'gosem.cut.vars' lays the variable. In a bare row this is a premise. The card (YtadhdedjdgjboaaGreatDoorCards.lean) ties it to the program's text. -/
def laid_hachure_sum_carried {H : Type} : DataW H := .agg [.lit (.int .u32 0), .lit (.int .u32 274646895), .lit (.int .u32 549293790), .lit (.int .u32 820201905), .lit (.int .u32 1098587580), .lit (.int .u32 1361435347), .lit (.int .u32 1640403810), .lit (.int .u32 1905808397), .lit (.int .u32 2197175160), .lit (.int .u32 2460548119), .lit (.int .u32 2722870694), .lit (.int .u32 2987750089), .lit (.int .u32 3280807620), .lit (.int .u32 3553878443), .lit (.int .u32 3811616794), .lit (.int .u32 4084100981)]

/-- 'hachurelaw07.PagerActs': WHATEVER THE INPUT: true; the input reads as it did. -/
def pagerActsSpec : ChangeSpec := { name := "pagerActs", fn := fun _ => fun
  | [d1, d2] => { results := [.lit (.bool true)], args := [d1, d2] }
  | _ => none }
def pagerActsRow : OpenClaim := { program := "ytadhdedjdgjboaagreatdoor", sum := "4b40aab04646e27a9a2aab0ebc33a02faa1a13a7c2e4d57eb07710b00a7e6072", func := "hachure/hachurelaw07.PagerActs", spec := "pagerActs", inPlace := ["maps.clone"], unfollowed := true, recurses := true, named := ["hachure/sum.carried"], apart := false, laid := [("hachure/sum.carried", laid_hachure_sum_carried)] }
def PagerActsSaid : Prop := pagerActsRow.holds Tryz.pinned (OpenSpec.ofChange pagerActsSpec)

/-- ITS FALSE NEIGHBOUR: 'it returns false'. Refute it at one input. -/
def pagerActsWrong : ChangeSpec := { name := "pagerActs", fn := fun _ => fun
  | [d1, d2] => { results := [.lit (.bool false)], args := [d1, d2] }
  | _ => none }
def PagerActsWrongFalsely : Prop := pagerActsRow.holds Tryz.pinned (OpenSpec.ofChange pagerActsWrong)

/-- 'hachurelaw07.PagerCrash': WHATEVER THE INPUT: true; the input reads as it did. -/
def pagerCrashSpec : ChangeSpec := { name := "pagerCrash", fn := fun _ => fun
  | [d1, d2, d3] => { results := [.lit (.bool true)], args := [d1, d2, d3] }
  | _ => none }
def pagerCrashRow : OpenClaim := { program := "ytadhdedjdgjboaagreatdoor", sum := "4b40aab04646e27a9a2aab0ebc33a02faa1a13a7c2e4d57eb07710b00a7e6072", func := "hachure/hachurelaw07.PagerCrash", spec := "pagerCrash", inPlace := ["maps.clone"], unfollowed := true, recurses := true, named := ["hachure/sum.carried"], apart := false, laid := [("hachure/sum.carried", laid_hachure_sum_carried)] }
def PagerCrashSaid : Prop := pagerCrashRow.holds Tryz.pinned (OpenSpec.ofChange pagerCrashSpec)

/-- ITS FALSE NEIGHBOUR: 'it returns false'. Refute it at one input. -/
def pagerCrashWrong : ChangeSpec := { name := "pagerCrash", fn := fun _ => fun
  | [d1, d2, d3] => { results := [.lit (.bool false)], args := [d1, d2, d3] }
  | _ => none }
def PagerCrashWrongFalsely : Prop := pagerCrashRow.holds Tryz.pinned (OpenSpec.ofChange pagerCrashWrong)

/-- 'hachurelaw07.PagerFull': WHATEVER THE INPUT: true; the input reads as it did. -/
def pagerFullSpec : ChangeSpec := { name := "pagerFull", fn := fun _ => fun
  | [d1, d2, d3] => { results := [.lit (.bool true)], args := [d1, d2, d3] }
  | _ => none }
def pagerFullRow : OpenClaim := { program := "ytadhdedjdgjboaagreatdoor", sum := "4b40aab04646e27a9a2aab0ebc33a02faa1a13a7c2e4d57eb07710b00a7e6072", func := "hachure/hachurelaw07.PagerFull", spec := "pagerFull", inPlace := ["maps.clone"], unfollowed := true, recurses := true, named := ["hachure/sum.carried"], apart := false, laid := [("hachure/sum.carried", laid_hachure_sum_carried)] }
def PagerFullSaid : Prop := pagerFullRow.holds Tryz.pinned (OpenSpec.ofChange pagerFullSpec)

/-- ITS FALSE NEIGHBOUR: 'it returns false'. Refute it at one input. -/
def pagerFullWrong : ChangeSpec := { name := "pagerFull", fn := fun _ => fun
  | [d1, d2, d3] => { results := [.lit (.bool false)], args := [d1, d2, d3] }
  | _ => none }
def PagerFullWrongFalsely : Prop := pagerFullRow.holds Tryz.pinned (OpenSpec.ofChange pagerFullWrong)

/-- 'hachurelaw07.PagerDead': WHATEVER THE INPUT: true; the input reads as it did. -/
def pagerDeadSpec : ChangeSpec := { name := "pagerDead", fn := fun _ => fun
  | [d1, d2] => { results := [.lit (.bool true)], args := [d1, d2] }
  | _ => none }
def pagerDeadRow : OpenClaim := { program := "ytadhdedjdgjboaagreatdoor", sum := "4b40aab04646e27a9a2aab0ebc33a02faa1a13a7c2e4d57eb07710b00a7e6072", func := "hachure/hachurelaw07.PagerDead", spec := "pagerDead", inPlace := ["maps.clone"], unfollowed := true, recurses := true, named := ["hachure/sum.carried"], apart := false, laid := [("hachure/sum.carried", laid_hachure_sum_carried)] }
def PagerDeadSaid : Prop := pagerDeadRow.holds Tryz.pinned (OpenSpec.ofChange pagerDeadSpec)

/-- ITS FALSE NEIGHBOUR: 'it returns false'. Refute it at one input. -/
def pagerDeadWrong : ChangeSpec := { name := "pagerDead", fn := fun _ => fun
  | [d1, d2] => { results := [.lit (.bool false)], args := [d1, d2] }
  | _ => none }
def PagerDeadWrongFalsely : Prop := pagerDeadRow.holds Tryz.pinned (OpenSpec.ofChange pagerDeadWrong)

/-- 'hachurelaw07.PagerNone': WHATEVER THE INPUT: true; the input reads as it did. -/
def pagerNoneSpec : ChangeSpec := { name := "pagerNone", fn := fun _ => fun
  | [d1, d2] => { results := [.lit (.bool true)], args := [d1, d2] }
  | _ => none }
def pagerNoneRow : OpenClaim := { program := "ytadhdedjdgjboaagreatdoor", sum := "4b40aab04646e27a9a2aab0ebc33a02faa1a13a7c2e4d57eb07710b00a7e6072", func := "hachure/hachurelaw07.PagerNone", spec := "pagerNone", inPlace := ["maps.clone"], unfollowed := true, recurses := true, named := ["hachure/sum.carried"], apart := false, laid := [("hachure/sum.carried", laid_hachure_sum_carried)] }
def PagerNoneSaid : Prop := pagerNoneRow.holds Tryz.pinned (OpenSpec.ofChange pagerNoneSpec)

/-- ITS FALSE NEIGHBOUR: 'it returns false'. Refute it at one input. -/
def pagerNoneWrong : ChangeSpec := { name := "pagerNone", fn := fun _ => fun
  | [d1, d2] => { results := [.lit (.bool false)], args := [d1, d2] }
  | _ => none }
def PagerNoneWrongFalsely : Prop := pagerNoneRow.holds Tryz.pinned (OpenSpec.ofChange pagerNoneWrong)

/- THE SECOND FORM. 'bulk': how many values and letters a reading holds, each counted each time it is reached (what is shared counts as often as it is met; a slice's spare places count too). A statement '..UptoSaid' is the law's where the arguments, and the package variables that the reading takes, are together of bulk at most 1048576: NARROWER than '..Said'. Prove '..Said' where nothing that the law and all that it calls make is longer than what came in: it says more and counts as full. Else prove '..UptoSaid'. A law counts once. -/
mutual
def uptoBulk {H : Type} : DataW H → Nat
  | .lit (.string bytes) => bytes.length + 1
  | .lit _ => 1
  | .nil => 1
  | .ptr d => uptoBulk d + 1
  | .slice elems spare => uptoBulkAll elems + uptoBulkAll spare + 1
  | .agg parts => uptoBulkAll parts + 1
  | .iface _ d => uptoBulk d + 1
  | .map entries => uptoBulkEntries entries + 1
  | .held _ => 1
def uptoBulkAll {H : Type} : List (DataW H) → Nat
  | [] => 0
  | d :: r => uptoBulk d + uptoBulkAll r
def uptoBulkEntries {H : Type} : List (Lit × DataW H) → Nat
  | [] => 0
  | x :: r => uptoBulkEntry x + uptoBulkEntries r
def uptoBulkEntry {H : Type} : Lit × DataW H → Nat
  | (.string bytes, d) => bytes.length + uptoBulk d + 1
  | (_, d) => uptoBulk d + 1
 end
def uptoSmall : (H : Type) → List (DataW H) → Bool := fun _ ds => decide (uptoBulkAll ds ≤ 1048576)
def OpenSpec.upto (s : _root_.Go.ChangeSpec) : _root_.Go.OpenSpec := { _root_.Go.OpenSpec.ofChange s with cond := some uptoSmall }

/-- 'hachurelaw07.PagerActs', WHERE WHAT IT READS IS OF BULK AT MOST 1048576: true; the input reads as it did. -/
def pagerActsUptoRow : OpenClaim := { program := "ytadhdedjdgjboaagreatdoor", sum := "4b40aab04646e27a9a2aab0ebc33a02faa1a13a7c2e4d57eb07710b00a7e6072", func := "hachure/hachurelaw07.PagerActs", spec := "pagerActs", inPlace := ["maps.clone"], unfollowed := true, recurses := true, named := ["hachure/sum.carried"], apart := false, laid := [("hachure/sum.carried", laid_hachure_sum_carried)], narrowed := true }
def PagerActsUptoSaid : Prop := pagerActsUptoRow.holds Tryz.pinned (OpenSpec.upto pagerActsSpec)

/-- 'hachurelaw07.PagerCrash', WHERE WHAT IT READS IS OF BULK AT MOST 1048576: true; the input reads as it did. -/
def pagerCrashUptoRow : OpenClaim := { program := "ytadhdedjdgjboaagreatdoor", sum := "4b40aab04646e27a9a2aab0ebc33a02faa1a13a7c2e4d57eb07710b00a7e6072", func := "hachure/hachurelaw07.PagerCrash", spec := "pagerCrash", inPlace := ["maps.clone"], unfollowed := true, recurses := true, named := ["hachure/sum.carried"], apart := false, laid := [("hachure/sum.carried", laid_hachure_sum_carried)], narrowed := true }
def PagerCrashUptoSaid : Prop := pagerCrashUptoRow.holds Tryz.pinned (OpenSpec.upto pagerCrashSpec)

/-- 'hachurelaw07.PagerFull', WHERE WHAT IT READS IS OF BULK AT MOST 1048576: true; the input reads as it did. -/
def pagerFullUptoRow : OpenClaim := { program := "ytadhdedjdgjboaagreatdoor", sum := "4b40aab04646e27a9a2aab0ebc33a02faa1a13a7c2e4d57eb07710b00a7e6072", func := "hachure/hachurelaw07.PagerFull", spec := "pagerFull", inPlace := ["maps.clone"], unfollowed := true, recurses := true, named := ["hachure/sum.carried"], apart := false, laid := [("hachure/sum.carried", laid_hachure_sum_carried)], narrowed := true }
def PagerFullUptoSaid : Prop := pagerFullUptoRow.holds Tryz.pinned (OpenSpec.upto pagerFullSpec)

/-- 'hachurelaw07.PagerDead', WHERE WHAT IT READS IS OF BULK AT MOST 1048576: true; the input reads as it did. -/
def pagerDeadUptoRow : OpenClaim := { program := "ytadhdedjdgjboaagreatdoor", sum := "4b40aab04646e27a9a2aab0ebc33a02faa1a13a7c2e4d57eb07710b00a7e6072", func := "hachure/hachurelaw07.PagerDead", spec := "pagerDead", inPlace := ["maps.clone"], unfollowed := true, recurses := true, named := ["hachure/sum.carried"], apart := false, laid := [("hachure/sum.carried", laid_hachure_sum_carried)], narrowed := true }
def PagerDeadUptoSaid : Prop := pagerDeadUptoRow.holds Tryz.pinned (OpenSpec.upto pagerDeadSpec)

/-- 'hachurelaw07.PagerNone', WHERE WHAT IT READS IS OF BULK AT MOST 1048576: true; the input reads as it did. -/
def pagerNoneUptoRow : OpenClaim := { program := "ytadhdedjdgjboaagreatdoor", sum := "4b40aab04646e27a9a2aab0ebc33a02faa1a13a7c2e4d57eb07710b00a7e6072", func := "hachure/hachurelaw07.PagerNone", spec := "pagerNone", inPlace := ["maps.clone"], unfollowed := true, recurses := true, named := ["hachure/sum.carried"], apart := false, laid := [("hachure/sum.carried", laid_hachure_sum_carried)], narrowed := true }
def PagerNoneUptoSaid : Prop := pagerNoneUptoRow.holds Tryz.pinned (OpenSpec.upto pagerNoneSpec)

end Rows
end Go.Proofs.YtadhdedjdgjboaaGreatDoor
