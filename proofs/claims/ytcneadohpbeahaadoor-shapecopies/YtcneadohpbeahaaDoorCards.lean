/-
  DERIVED. GIVEN WITH THE SEED: THE CARDS: each row of YtcneadohpbeahaaDoorRows.lean that lists a variable, with what it lists TIED to the program's text (the seventh form; the later family's looks); each row that meets fmt, with fmt's text TOLD by the authors' own Lean function (tested against real Go, not proved from fmt's source: count such statements apart). THE CARD IS WHAT COUNTS. Prove the row's statement (the work); the ties are given (YtcneadohpbeahaaDoorTie.lean); close each card by the builder's one call (the guide's Derived/Test/ToyasCard.lean, 'card_holds'). Laid BY PROGRAM, IN A SANDBOX (cutbox-door.mjs). By AI agents, Wed Nov 11 2026. No macro, syntax, notation, axiom, sorry.
-/
import Derived.Test.YtcneadohpbeahaaDoorRows
import GoSem.ClaimSeven
namespace Go.Proofs.YtcneadohpbeahaaDoor
namespace Rows

/-- THE TIED CARD OF 'hachurelaw13.ShapeChecks'. -/
def shapeChecksCard : Claim7 := { stood := { row := shapeChecksRow, standIns := [], harness := (true, "13d2573963ac017f10b0ad65cc127f61ab09c348004a905eb0adb70497a576e9"), looks := false }, kinds := [], alts := [], laidByText := true, laidKinds := [.data], laidTests := true, laidLooks := .later }
def ShapeChecksCardSaid : Prop := Claim7.holds Tryd.pinned (.plain (OpenSpec.ofChange shapeChecksSpec)) shapeChecksCard

/-- THE TIED CARD OF 'hachurelaw13.ShapeKinds'. -/
def shapeKindsCard : Claim7 := { stood := { row := shapeKindsRow, standIns := [], harness := (true, "13d2573963ac017f10b0ad65cc127f61ab09c348004a905eb0adb70497a576e9"), looks := false }, kinds := [], alts := [], laidByText := true, laidKinds := [.data], laidTests := true, laidLooks := .later }
def ShapeKindsCardSaid : Prop := Claim7.holds Tryd.pinned (.plain (OpenSpec.ofChange shapeKindsSpec)) shapeKindsCard

/-- THE TIED CARD OF 'hachurelaw13.ShapeEquals'. -/
def shapeEqualsCard : Claim7 := { stood := { row := shapeEqualsRow, standIns := [], harness := (true, "13d2573963ac017f10b0ad65cc127f61ab09c348004a905eb0adb70497a576e9"), looks := false }, kinds := [], alts := [], laidByText := true, laidKinds := [.data], laidTests := true, laidLooks := .later }
def ShapeEqualsCardSaid : Prop := Claim7.holds Tryd.pinned (.plain (OpenSpec.ofChange shapeEqualsSpec)) shapeEqualsCard

/-- THE TIED CARD OF 'hachurelaw13.ShapeCopies'. -/
def shapeCopiesCard : Claim7 := { stood := { row := shapeCopiesRow, standIns := [], harness := (true, "13d2573963ac017f10b0ad65cc127f61ab09c348004a905eb0adb70497a576e9"), looks := false }, kinds := [], alts := [], laidByText := true, laidKinds := [.data], laidTests := true, laidLooks := .later }
def ShapeCopiesCardSaid : Prop := Claim7.holds Tryd.pinned (.plain (OpenSpec.ofChange shapeCopiesSpec)) shapeCopiesCard

/-- THE TIED CARD OF 'hachurelaw13.ShapeWraps'. -/
def shapeWrapsCard : Claim7 := { stood := { row := shapeWrapsRow, standIns := [], harness := (true, "13d2573963ac017f10b0ad65cc127f61ab09c348004a905eb0adb70497a576e9"), looks := false }, kinds := [], alts := [], laidByText := true, laidKinds := [.data], laidTests := true, laidLooks := .later }
def ShapeWrapsCardSaid : Prop := Claim7.holds Tryd.pinned (.plain (OpenSpec.ofChange shapeWrapsSpec)) shapeWrapsCard

/-- THE SECOND FORM's CARD OF 'hachurelaw13.ShapeChecks'. -/
def shapeChecksUptoCard : Claim7 := { stood := { row := shapeChecksUptoRow, standIns := [], harness := (true, "13d2573963ac017f10b0ad65cc127f61ab09c348004a905eb0adb70497a576e9"), looks := false }, kinds := [], alts := [], laidByText := true, laidKinds := [.data], laidTests := true, laidLooks := .later }
def ShapeChecksUptoCardSaid : Prop := Claim7.holds Tryd.pinned (.plain (OpenSpec.upto shapeChecksSpec)) shapeChecksUptoCard

/-- THE SECOND FORM's CARD OF 'hachurelaw13.ShapeKinds'. -/
def shapeKindsUptoCard : Claim7 := { stood := { row := shapeKindsUptoRow, standIns := [], harness := (true, "13d2573963ac017f10b0ad65cc127f61ab09c348004a905eb0adb70497a576e9"), looks := false }, kinds := [], alts := [], laidByText := true, laidKinds := [.data], laidTests := true, laidLooks := .later }
def ShapeKindsUptoCardSaid : Prop := Claim7.holds Tryd.pinned (.plain (OpenSpec.upto shapeKindsSpec)) shapeKindsUptoCard

/-- THE SECOND FORM's CARD OF 'hachurelaw13.ShapeEquals'. -/
def shapeEqualsUptoCard : Claim7 := { stood := { row := shapeEqualsUptoRow, standIns := [], harness := (true, "13d2573963ac017f10b0ad65cc127f61ab09c348004a905eb0adb70497a576e9"), looks := false }, kinds := [], alts := [], laidByText := true, laidKinds := [.data], laidTests := true, laidLooks := .later }
def ShapeEqualsUptoCardSaid : Prop := Claim7.holds Tryd.pinned (.plain (OpenSpec.upto shapeEqualsSpec)) shapeEqualsUptoCard

/-- THE SECOND FORM's CARD OF 'hachurelaw13.ShapeCopies'. -/
def shapeCopiesUptoCard : Claim7 := { stood := { row := shapeCopiesUptoRow, standIns := [], harness := (true, "13d2573963ac017f10b0ad65cc127f61ab09c348004a905eb0adb70497a576e9"), looks := false }, kinds := [], alts := [], laidByText := true, laidKinds := [.data], laidTests := true, laidLooks := .later }
def ShapeCopiesUptoCardSaid : Prop := Claim7.holds Tryd.pinned (.plain (OpenSpec.upto shapeCopiesSpec)) shapeCopiesUptoCard

/-- THE SECOND FORM's CARD OF 'hachurelaw13.ShapeWraps'. -/
def shapeWrapsUptoCard : Claim7 := { stood := { row := shapeWrapsUptoRow, standIns := [], harness := (true, "13d2573963ac017f10b0ad65cc127f61ab09c348004a905eb0adb70497a576e9"), looks := false }, kinds := [], alts := [], laidByText := true, laidKinds := [.data], laidTests := true, laidLooks := .later }
def ShapeWrapsUptoCardSaid : Prop := Claim7.holds Tryd.pinned (.plain (OpenSpec.upto shapeWrapsSpec)) shapeWrapsUptoCard
end Rows
end Go.Proofs.YtcneadohpbeahaaDoor
