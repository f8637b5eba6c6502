/-
  DERIVED. GIVEN WITH THE SEED: THE CARDS: each row of YtneemfbnjkcflaaGreatDoorRows.lean that lists a variable, with what it lists TIED to the program's text (the seventh form; the later family's looks); each row that meets fmt, with fmt's text TOLD by the authors' own Lean function (tested against real Go, not proved from fmt's source: count such statements apart). THE CARD IS WHAT COUNTS. Prove the row's statement (the work); the ties are given (YtneemfbnjkcflaaGreatDoorTie.lean); close each card by the builder's one call (the guide's Derived/Test/ToyasCard.lean, 'card_holds'). Laid BY PROGRAM, IN A SANDBOX (cutbox-door.mjs). By AI agents, Wed Nov 11 2026. No macro, syntax, notation, axiom, sorry.
-/
import Derived.Test.YtneemfbnjkcflaaGreatDoorRows
import GoSem.ClaimSeven
namespace Go.Proofs.YtneemfbnjkcflaaGreatDoor
namespace Rows

/-- THE TIED CARD OF 'hachurelaw10.SpillBack'. -/
def spillBackCard : Claim7 := { stood := { row := spillBackRow, standIns := [], harness := (true, "bfaa9726fa74056fa2e0bad05c2b245bf8acb6cb55daf16115498384fc3a5794"), looks := true }, kinds := [], alts := [], laidByText := true, laidKinds := [.data], laidTests := true, laidLooks := .later }
def SpillBackCardSaid : Prop := Claim7.holds Tryz.pinned (.plain (OpenSpec.ofChange spillBackSpec)) spillBackCard

/-- THE TIED CARD OF 'hachurelaw10.SpillWrong'. -/
def spillWrongCard : Claim7 := { stood := { row := spillWrongRow, standIns := [], harness := (true, "bfaa9726fa74056fa2e0bad05c2b245bf8acb6cb55daf16115498384fc3a5794"), looks := true }, kinds := [], alts := [], laidByText := true, laidKinds := [.data], laidTests := true, laidLooks := .later }
def SpillWrongCardSaid : Prop := Claim7.holds Tryz.pinned (.plain (OpenSpec.ofChange spillWrongSpec)) spillWrongCard

/-- THE SECOND FORM's CARD OF 'hachurelaw10.SpillBack'. -/
def spillBackUptoCard : Claim7 := { stood := { row := spillBackUptoRow, standIns := [], harness := (true, "bfaa9726fa74056fa2e0bad05c2b245bf8acb6cb55daf16115498384fc3a5794"), looks := true }, kinds := [], alts := [], laidByText := true, laidKinds := [.data], laidTests := true, laidLooks := .later }
def SpillBackUptoCardSaid : Prop := Claim7.holds Tryz.pinned (.plain (OpenSpec.upto spillBackSpec)) spillBackUptoCard

/-- THE SECOND FORM's CARD OF 'hachurelaw10.SpillWrong'. -/
def spillWrongUptoCard : Claim7 := { stood := { row := spillWrongUptoRow, standIns := [], harness := (true, "bfaa9726fa74056fa2e0bad05c2b245bf8acb6cb55daf16115498384fc3a5794"), looks := true }, kinds := [], alts := [], laidByText := true, laidKinds := [.data], laidTests := true, laidLooks := .later }
def SpillWrongUptoCardSaid : Prop := Claim7.holds Tryz.pinned (.plain (OpenSpec.upto spillWrongSpec)) spillWrongUptoCard
end Rows
end Go.Proofs.YtneemfbnjkcflaaGreatDoor
