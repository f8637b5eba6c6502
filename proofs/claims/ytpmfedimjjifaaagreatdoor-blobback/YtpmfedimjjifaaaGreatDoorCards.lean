/-
  DERIVED. GIVEN WITH THE SEED: THE CARDS: each row of YtpmfedimjjifaaaGreatDoorRows.lean that lists a variable, with what it lists TIED to the program's text (the seventh form; the later family's looks); each row that meets fmt, with fmt's text TOLD by the authors' own Lean function (tested against real Go, not proved from fmt's source: count such statements apart). THE CARD IS WHAT COUNTS. Prove the row's statement (the work); the ties are given (YtpmfedimjjifaaaGreatDoorTie.lean); close each card by the builder's one call (the guide's Derived/Test/ToyasCard.lean, 'card_holds'). Laid BY PROGRAM, IN A SANDBOX (cutbox-door.mjs). By AI agents, Wed Nov 11 2026. No macro, syntax, notation, axiom, sorry.
-/
import Derived.Test.YtpmfedimjjifaaaGreatDoorRows
import GoSem.ClaimSeven
namespace Go.Proofs.YtpmfedimjjifaaaGreatDoor
namespace Rows

/-- THE TIED CARD OF 'hachurelaw16.BlobOpens'. -/
def blobOpensCard : Claim7 := { stood := { row := blobOpensRow, standIns := [], harness := (true, "5ae79516c769b23457fc80a8ac66350ebc113636f473bdf60a4ad7793299dede"), looks := true }, kinds := [], alts := [], laidByText := true, laidKinds := [.data], laidTests := true, laidLooks := .later }
def BlobOpensCardSaid : Prop := Claim7.holds Tryz.pinned (.plain (OpenSpec.ofChange blobOpensSpec)) blobOpensCard

/-- THE TIED CARD OF 'hachurelaw16.BlobBack'. -/
def blobBackCard : Claim7 := { stood := { row := blobBackRow, standIns := [], harness := (true, "5ae79516c769b23457fc80a8ac66350ebc113636f473bdf60a4ad7793299dede"), looks := true }, kinds := [], alts := [], laidByText := true, laidKinds := [.data], laidTests := true, laidLooks := .later }
def BlobBackCardSaid : Prop := Claim7.holds Tryz.pinned (.plain (OpenSpec.ofChange blobBackSpec)) blobBackCard

/-- THE SECOND FORM's CARD OF 'hachurelaw16.BlobOpens'. -/
def blobOpensUptoCard : Claim7 := { stood := { row := blobOpensUptoRow, standIns := [], harness := (true, "5ae79516c769b23457fc80a8ac66350ebc113636f473bdf60a4ad7793299dede"), looks := true }, kinds := [], alts := [], laidByText := true, laidKinds := [.data], laidTests := true, laidLooks := .later }
def BlobOpensUptoCardSaid : Prop := Claim7.holds Tryz.pinned (.plain (OpenSpec.upto blobOpensSpec)) blobOpensUptoCard

/-- THE SECOND FORM's CARD OF 'hachurelaw16.BlobBack'. -/
def blobBackUptoCard : Claim7 := { stood := { row := blobBackUptoRow, standIns := [], harness := (true, "5ae79516c769b23457fc80a8ac66350ebc113636f473bdf60a4ad7793299dede"), looks := true }, kinds := [], alts := [], laidByText := true, laidKinds := [.data], laidTests := true, laidLooks := .later }
def BlobBackUptoCardSaid : Prop := Claim7.holds Tryz.pinned (.plain (OpenSpec.upto blobBackSpec)) blobBackUptoCard
end Rows
end Go.Proofs.YtpmfedimjjifaaaGreatDoor
