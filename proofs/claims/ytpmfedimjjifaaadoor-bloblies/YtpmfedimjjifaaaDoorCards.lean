/-
  DERIVED. GIVEN WITH THE SEED: THE CARDS: each row of YtpmfedimjjifaaaDoorRows.lean that lists a variable, with what it lists TIED to the program's text (the seventh form; the later family's looks); each row that meets fmt, with fmt's text TOLD by the authors' own Lean function (tested against real Go, not proved from fmt's source: count such statements apart). THE CARD IS WHAT COUNTS. Prove the row's statement (the work); the ties are given (YtpmfedimjjifaaaDoorTie.lean); close each card by the builder's one call (the guide's Derived/Test/ToyasCard.lean, 'card_holds'). Laid BY PROGRAM, IN A SANDBOX (cutbox-door.mjs). By AI agents, Wed Nov 11 2026. No macro, syntax, notation, axiom, sorry.
-/
import Derived.Test.YtpmfedimjjifaaaDoorRows
import GoSem.ClaimSeven
namespace Go.Proofs.YtpmfedimjjifaaaDoor
namespace Rows

/-- THE TIED CARD OF 'hachurelaw16.BlobMakes'. -/
def blobMakesCard : Claim7 := { stood := { row := blobMakesRow, standIns := [], harness := (true, "3e67e34a2f3bae929dbf2b920291d3bfbd1cb1f708af9077643b3b40b24444a5"), looks := true }, kinds := [], alts := [], laidByText := true, laidKinds := [.data], laidTests := true, laidLooks := .later }
def BlobMakesCardSaid : Prop := Claim7.holds Tryd.pinned (.plain (OpenSpec.ofChange blobMakesSpec)) blobMakesCard

/-- THE TIED CARD OF 'hachurelaw16.BlobCanons'. -/
def blobCanonsCard : Claim7 := { stood := { row := blobCanonsRow, standIns := [], harness := (true, "3e67e34a2f3bae929dbf2b920291d3bfbd1cb1f708af9077643b3b40b24444a5"), looks := true }, kinds := [], alts := [], laidByText := true, laidKinds := [.data], laidTests := true, laidLooks := .later }
def BlobCanonsCardSaid : Prop := Claim7.holds Tryd.pinned (.plain (OpenSpec.ofChange blobCanonsSpec)) blobCanonsCard

/-- THE TIED CARD OF 'hachurelaw16.BlobLies'. -/
def blobLiesCard : Claim7 := { stood := { row := blobLiesRow, standIns := [], harness := (true, "3e67e34a2f3bae929dbf2b920291d3bfbd1cb1f708af9077643b3b40b24444a5"), looks := true }, kinds := [], alts := [], laidByText := true, laidKinds := [.data], laidTests := true, laidLooks := .later }
def BlobLiesCardSaid : Prop := Claim7.holds Tryd.pinned (.plain (OpenSpec.ofChange blobLiesSpec)) blobLiesCard

/-- THE SECOND FORM's CARD OF 'hachurelaw16.BlobMakes'. -/
def blobMakesUptoCard : Claim7 := { stood := { row := blobMakesUptoRow, standIns := [], harness := (true, "3e67e34a2f3bae929dbf2b920291d3bfbd1cb1f708af9077643b3b40b24444a5"), looks := true }, kinds := [], alts := [], laidByText := true, laidKinds := [.data], laidTests := true, laidLooks := .later }
def BlobMakesUptoCardSaid : Prop := Claim7.holds Tryd.pinned (.plain (OpenSpec.upto blobMakesSpec)) blobMakesUptoCard

/-- THE SECOND FORM's CARD OF 'hachurelaw16.BlobCanons'. -/
def blobCanonsUptoCard : Claim7 := { stood := { row := blobCanonsUptoRow, standIns := [], harness := (true, "3e67e34a2f3bae929dbf2b920291d3bfbd1cb1f708af9077643b3b40b24444a5"), looks := true }, kinds := [], alts := [], laidByText := true, laidKinds := [.data], laidTests := true, laidLooks := .later }
def BlobCanonsUptoCardSaid : Prop := Claim7.holds Tryd.pinned (.plain (OpenSpec.upto blobCanonsSpec)) blobCanonsUptoCard

/-- THE SECOND FORM's CARD OF 'hachurelaw16.BlobLies'. -/
def blobLiesUptoCard : Claim7 := { stood := { row := blobLiesUptoRow, standIns := [], harness := (true, "3e67e34a2f3bae929dbf2b920291d3bfbd1cb1f708af9077643b3b40b24444a5"), looks := true }, kinds := [], alts := [], laidByText := true, laidKinds := [.data], laidTests := true, laidLooks := .later }
def BlobLiesUptoCardSaid : Prop := Claim7.holds Tryd.pinned (.plain (OpenSpec.upto blobLiesSpec)) blobLiesUptoCard
end Rows
end Go.Proofs.YtpmfedimjjifaaaDoor
