/-
  DERIVED. GIVEN WITH THE SEED: THE CARDS: each row of YtgjgkpnjchflaaaGreatDoorRows.lean that lists a variable, with what it lists TIED to the program's text (the seventh form; the later family's looks); each row that meets fmt, with fmt's text TOLD by the authors' own Lean function (tested against real Go, not proved from fmt's source: count such statements apart). THE CARD IS WHAT COUNTS. Prove the row's statement (the work); the ties are given (YtgjgkpnjchflaaaGreatDoorTie.lean); close each card by the builder's one call (the guide's Derived/Test/ToyasCard.lean, 'card_holds'). Laid BY PROGRAM, IN A SANDBOX (cutbox-door.mjs). By AI agents, Wed Nov 11 2026. No macro, syntax, notation, axiom, sorry.
-/
import Derived.Test.YtgjgkpnjchflaaaGreatDoorRows
import GoSem.ClaimSeven
namespace Go.Proofs.YtgjgkpnjchflaaaGreatDoor
namespace Rows

/-- THE TIED CARD OF 'hachurelaw08.FreeActs'. -/
def freeActsCard : Claim7 := { stood := { row := freeActsRow, standIns := [], harness := (true, "e49f1dc562a7f7a39f48bc0ea9a597aaba871aa32ddd37839231fc270ebcc88d"), looks := false }, kinds := [], alts := [], laidByText := true, laidKinds := [.data], laidTests := true, laidLooks := .later }
def FreeActsCardSaid : Prop := Claim7.holds Tryz.pinned (.plain (OpenSpec.ofChange freeActsSpec)) freeActsCard

/-- THE TIED CARD OF 'hachurelaw08.FreeOnce'. -/
def freeOnceCard : Claim7 := { stood := { row := freeOnceRow, standIns := [], harness := (true, "e49f1dc562a7f7a39f48bc0ea9a597aaba871aa32ddd37839231fc270ebcc88d"), looks := false }, kinds := [], alts := [], laidByText := true, laidKinds := [.data], laidTests := true, laidLooks := .later }
def FreeOnceCardSaid : Prop := Claim7.holds Tryz.pinned (.plain (OpenSpec.ofChange freeOnceSpec)) freeOnceCard

/-- THE TIED CARD OF 'hachurelaw08.FreeStays'. -/
def freeStaysCard : Claim7 := { stood := { row := freeStaysRow, standIns := [], harness := (true, "e49f1dc562a7f7a39f48bc0ea9a597aaba871aa32ddd37839231fc270ebcc88d"), looks := false }, kinds := [], alts := [], laidByText := true, laidKinds := [.data], laidTests := true, laidLooks := .later }
def FreeStaysCardSaid : Prop := Claim7.holds Tryz.pinned (.plain (OpenSpec.ofChange freeStaysSpec)) freeStaysCard

/-- THE TIED CARD OF 'hachurelaw08.FreeNone'. -/
def freeNoneCard : Claim7 := { stood := { row := freeNoneRow, standIns := [], harness := (true, "e49f1dc562a7f7a39f48bc0ea9a597aaba871aa32ddd37839231fc270ebcc88d"), looks := false }, kinds := [], alts := [], laidByText := true, laidKinds := [.data], laidTests := true, laidLooks := .later }
def FreeNoneCardSaid : Prop := Claim7.holds Tryz.pinned (.plain (OpenSpec.ofChange freeNoneSpec)) freeNoneCard

/-- THE SECOND FORM's CARD OF 'hachurelaw08.FreeActs'. -/
def freeActsUptoCard : Claim7 := { stood := { row := freeActsUptoRow, standIns := [], harness := (true, "e49f1dc562a7f7a39f48bc0ea9a597aaba871aa32ddd37839231fc270ebcc88d"), looks := false }, kinds := [], alts := [], laidByText := true, laidKinds := [.data], laidTests := true, laidLooks := .later }
def FreeActsUptoCardSaid : Prop := Claim7.holds Tryz.pinned (.plain (OpenSpec.upto freeActsSpec)) freeActsUptoCard

/-- THE SECOND FORM's CARD OF 'hachurelaw08.FreeOnce'. -/
def freeOnceUptoCard : Claim7 := { stood := { row := freeOnceUptoRow, standIns := [], harness := (true, "e49f1dc562a7f7a39f48bc0ea9a597aaba871aa32ddd37839231fc270ebcc88d"), looks := false }, kinds := [], alts := [], laidByText := true, laidKinds := [.data], laidTests := true, laidLooks := .later }
def FreeOnceUptoCardSaid : Prop := Claim7.holds Tryz.pinned (.plain (OpenSpec.upto freeOnceSpec)) freeOnceUptoCard

/-- THE SECOND FORM's CARD OF 'hachurelaw08.FreeStays'. -/
def freeStaysUptoCard : Claim7 := { stood := { row := freeStaysUptoRow, standIns := [], harness := (true, "e49f1dc562a7f7a39f48bc0ea9a597aaba871aa32ddd37839231fc270ebcc88d"), looks := false }, kinds := [], alts := [], laidByText := true, laidKinds := [.data], laidTests := true, laidLooks := .later }
def FreeStaysUptoCardSaid : Prop := Claim7.holds Tryz.pinned (.plain (OpenSpec.upto freeStaysSpec)) freeStaysUptoCard

/-- THE SECOND FORM's CARD OF 'hachurelaw08.FreeNone'. -/
def freeNoneUptoCard : Claim7 := { stood := { row := freeNoneUptoRow, standIns := [], harness := (true, "e49f1dc562a7f7a39f48bc0ea9a597aaba871aa32ddd37839231fc270ebcc88d"), looks := false }, kinds := [], alts := [], laidByText := true, laidKinds := [.data], laidTests := true, laidLooks := .later }
def FreeNoneUptoCardSaid : Prop := Claim7.holds Tryz.pinned (.plain (OpenSpec.upto freeNoneSpec)) freeNoneUptoCard
end Rows
end Go.Proofs.YtgjgkpnjchflaaaGreatDoor
