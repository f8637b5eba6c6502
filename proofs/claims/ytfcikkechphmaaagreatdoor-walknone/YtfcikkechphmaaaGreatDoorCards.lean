/-
  DERIVED. GIVEN WITH THE SEED: THE CARDS: each row of YtfcikkechphmaaaGreatDoorRows.lean that lists a variable, with what it lists TIED to the program's text (the seventh form; the later family's looks); each row that meets fmt, with fmt's text TOLD by the authors' own Lean function (tested against real Go, not proved from fmt's source: count such statements apart). THE CARD IS WHAT COUNTS. Prove the row's statement (the work); the ties are given (YtfcikkechphmaaaGreatDoorTie.lean); close each card by the builder's one call (the guide's Derived/Test/ToyasCard.lean, 'card_holds'). Laid BY PROGRAM, IN A SANDBOX (cutbox-door.mjs). By AI agents, Wed Nov 11 2026. No macro, syntax, notation, axiom, sorry.
-/
import Derived.Test.YtfcikkechphmaaaGreatDoorRows
import GoSem.ClaimSeven
namespace Go.Proofs.YtfcikkechphmaaaGreatDoor
namespace Rows

/-- THE TIED CARD OF 'hachurelaw11.TreeActs'. -/
def treeActsCard : Claim7 := { stood := { row := treeActsRow, standIns := [], harness := (true, "7aeba44fe7b687f51e200404ca97b34695b6a1cb53bb6661715ad3522a001543"), looks := true }, kinds := [], alts := [], laidByText := true, laidKinds := [.data], laidTests := true, laidLooks := .later }
def TreeActsCardSaid : Prop := Claim7.holds Tryz.pinned (.plain (OpenSpec.ofChange treeActsSpec)) treeActsCard

/-- THE TIED CARD OF 'hachurelaw11.TreePages'. -/
def treePagesCard : Claim7 := { stood := { row := treePagesRow, standIns := [], harness := (true, "7aeba44fe7b687f51e200404ca97b34695b6a1cb53bb6661715ad3522a001543"), looks := true }, kinds := [], alts := [], laidByText := true, laidKinds := [.data], laidTests := true, laidLooks := .later }
def TreePagesCardSaid : Prop := Claim7.holds Tryz.pinned (.plain (OpenSpec.ofChange treePagesSpec)) treePagesCard

/-- THE TIED CARD OF 'hachurelaw11.TreeOrder'. -/
def treeOrderCard : Claim7 := { stood := { row := treeOrderRow, standIns := [], harness := (true, "7aeba44fe7b687f51e200404ca97b34695b6a1cb53bb6661715ad3522a001543"), looks := true }, kinds := [], alts := [], laidByText := true, laidKinds := [.data], laidTests := true, laidLooks := .later }
def TreeOrderCardSaid : Prop := Claim7.holds Tryz.pinned (.plain (OpenSpec.ofChange treeOrderSpec)) treeOrderCard

/-- THE TIED CARD OF 'hachurelaw11.TreeUndone'. -/
def treeUndoneCard : Claim7 := { stood := { row := treeUndoneRow, standIns := [], harness := (true, "7aeba44fe7b687f51e200404ca97b34695b6a1cb53bb6661715ad3522a001543"), looks := true }, kinds := [], alts := [], laidByText := true, laidKinds := [.data], laidTests := true, laidLooks := .later }
def TreeUndoneCardSaid : Prop := Claim7.holds Tryz.pinned (.plain (OpenSpec.ofChange treeUndoneSpec)) treeUndoneCard

/-- THE TIED CARD OF 'hachurelaw12.WalkActs'. -/
def walkActsCard : Claim7 := { stood := { row := walkActsRow, standIns := [], harness := (true, "7aeba44fe7b687f51e200404ca97b34695b6a1cb53bb6661715ad3522a001543"), looks := true }, kinds := [], alts := [], laidByText := true, laidKinds := [.data], laidTests := true, laidLooks := .later }
def WalkActsCardSaid : Prop := Claim7.holds Tryz.pinned (.plain (OpenSpec.ofChange walkActsSpec)) walkActsCard

/-- THE TIED CARD OF 'hachurelaw12.WalkRanges'. -/
def walkRangesCard : Claim7 := { stood := { row := walkRangesRow, standIns := [], harness := (true, "7aeba44fe7b687f51e200404ca97b34695b6a1cb53bb6661715ad3522a001543"), looks := true }, kinds := [], alts := [], laidByText := true, laidKinds := [.data], laidTests := true, laidLooks := .later }
def WalkRangesCardSaid : Prop := Claim7.holds Tryz.pinned (.plain (OpenSpec.ofChange walkRangesSpec)) walkRangesCard

/-- THE TIED CARD OF 'hachurelaw12.WalkAll'. -/
def walkAllCard : Claim7 := { stood := { row := walkAllRow, standIns := [], harness := (true, "7aeba44fe7b687f51e200404ca97b34695b6a1cb53bb6661715ad3522a001543"), looks := true }, kinds := [], alts := [], laidByText := true, laidKinds := [.data], laidTests := true, laidLooks := .later }
def WalkAllCardSaid : Prop := Claim7.holds Tryz.pinned (.plain (OpenSpec.ofChange walkAllSpec)) walkAllCard

/-- THE TIED CARD OF 'hachurelaw12.WalkNone'. -/
def walkNoneCard : Claim7 := { stood := { row := walkNoneRow, standIns := [], harness := (true, "7aeba44fe7b687f51e200404ca97b34695b6a1cb53bb6661715ad3522a001543"), looks := true }, kinds := [], alts := [], laidByText := true, laidKinds := [.data], laidTests := true, laidLooks := .later }
def WalkNoneCardSaid : Prop := Claim7.holds Tryz.pinned (.plain (OpenSpec.ofChange walkNoneSpec)) walkNoneCard

/-- THE SECOND FORM's CARD OF 'hachurelaw11.TreeActs'. -/
def treeActsUptoCard : Claim7 := { stood := { row := treeActsUptoRow, standIns := [], harness := (true, "7aeba44fe7b687f51e200404ca97b34695b6a1cb53bb6661715ad3522a001543"), looks := true }, kinds := [], alts := [], laidByText := true, laidKinds := [.data], laidTests := true, laidLooks := .later }
def TreeActsUptoCardSaid : Prop := Claim7.holds Tryz.pinned (.plain (OpenSpec.upto treeActsSpec)) treeActsUptoCard

/-- THE SECOND FORM's CARD OF 'hachurelaw11.TreePages'. -/
def treePagesUptoCard : Claim7 := { stood := { row := treePagesUptoRow, standIns := [], harness := (true, "7aeba44fe7b687f51e200404ca97b34695b6a1cb53bb6661715ad3522a001543"), looks := true }, kinds := [], alts := [], laidByText := true, laidKinds := [.data], laidTests := true, laidLooks := .later }
def TreePagesUptoCardSaid : Prop := Claim7.holds Tryz.pinned (.plain (OpenSpec.upto treePagesSpec)) treePagesUptoCard

/-- THE SECOND FORM's CARD OF 'hachurelaw11.TreeOrder'. -/
def treeOrderUptoCard : Claim7 := { stood := { row := treeOrderUptoRow, standIns := [], harness := (true, "7aeba44fe7b687f51e200404ca97b34695b6a1cb53bb6661715ad3522a001543"), looks := true }, kinds := [], alts := [], laidByText := true, laidKinds := [.data], laidTests := true, laidLooks := .later }
def TreeOrderUptoCardSaid : Prop := Claim7.holds Tryz.pinned (.plain (OpenSpec.upto treeOrderSpec)) treeOrderUptoCard

/-- THE SECOND FORM's CARD OF 'hachurelaw11.TreeUndone'. -/
def treeUndoneUptoCard : Claim7 := { stood := { row := treeUndoneUptoRow, standIns := [], harness := (true, "7aeba44fe7b687f51e200404ca97b34695b6a1cb53bb6661715ad3522a001543"), looks := true }, kinds := [], alts := [], laidByText := true, laidKinds := [.data], laidTests := true, laidLooks := .later }
def TreeUndoneUptoCardSaid : Prop := Claim7.holds Tryz.pinned (.plain (OpenSpec.upto treeUndoneSpec)) treeUndoneUptoCard

/-- THE SECOND FORM's CARD OF 'hachurelaw12.WalkActs'. -/
def walkActsUptoCard : Claim7 := { stood := { row := walkActsUptoRow, standIns := [], harness := (true, "7aeba44fe7b687f51e200404ca97b34695b6a1cb53bb6661715ad3522a001543"), looks := true }, kinds := [], alts := [], laidByText := true, laidKinds := [.data], laidTests := true, laidLooks := .later }
def WalkActsUptoCardSaid : Prop := Claim7.holds Tryz.pinned (.plain (OpenSpec.upto walkActsSpec)) walkActsUptoCard

/-- THE SECOND FORM's CARD OF 'hachurelaw12.WalkRanges'. -/
def walkRangesUptoCard : Claim7 := { stood := { row := walkRangesUptoRow, standIns := [], harness := (true, "7aeba44fe7b687f51e200404ca97b34695b6a1cb53bb6661715ad3522a001543"), looks := true }, kinds := [], alts := [], laidByText := true, laidKinds := [.data], laidTests := true, laidLooks := .later }
def WalkRangesUptoCardSaid : Prop := Claim7.holds Tryz.pinned (.plain (OpenSpec.upto walkRangesSpec)) walkRangesUptoCard

/-- THE SECOND FORM's CARD OF 'hachurelaw12.WalkAll'. -/
def walkAllUptoCard : Claim7 := { stood := { row := walkAllUptoRow, standIns := [], harness := (true, "7aeba44fe7b687f51e200404ca97b34695b6a1cb53bb6661715ad3522a001543"), looks := true }, kinds := [], alts := [], laidByText := true, laidKinds := [.data], laidTests := true, laidLooks := .later }
def WalkAllUptoCardSaid : Prop := Claim7.holds Tryz.pinned (.plain (OpenSpec.upto walkAllSpec)) walkAllUptoCard

/-- THE SECOND FORM's CARD OF 'hachurelaw12.WalkNone'. -/
def walkNoneUptoCard : Claim7 := { stood := { row := walkNoneUptoRow, standIns := [], harness := (true, "7aeba44fe7b687f51e200404ca97b34695b6a1cb53bb6661715ad3522a001543"), looks := true }, kinds := [], alts := [], laidByText := true, laidKinds := [.data], laidTests := true, laidLooks := .later }
def WalkNoneUptoCardSaid : Prop := Claim7.holds Tryz.pinned (.plain (OpenSpec.upto walkNoneSpec)) walkNoneUptoCard
end Rows
end Go.Proofs.YtfcikkechphmaaaGreatDoor
