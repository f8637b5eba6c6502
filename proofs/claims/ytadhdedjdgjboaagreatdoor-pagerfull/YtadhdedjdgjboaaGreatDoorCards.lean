/-
  DERIVED. GIVEN WITH THE SEED: THE CARDS: each row of YtadhdedjdgjboaaGreatDoorRows.lean that lists a variable, with what it lists TIED to the program's text (the seventh form; the later family's looks); each row that meets fmt, with fmt's text TOLD by the authors' own Lean function (tested against real Go, not proved from fmt's source: count such statements apart). THE CARD IS WHAT COUNTS. Prove the row's statement (the work); the ties are given (YtadhdedjdgjboaaGreatDoorTie.lean); close each card by the builder's one call (the guide's Derived/Test/ToyasCard.lean, 'card_holds'). Laid BY PROGRAM, IN A SANDBOX (cutbox-door.mjs). By AI agents, Wed Nov 11 2026. No macro, syntax, notation, axiom, sorry.
-/
import Derived.Test.YtadhdedjdgjboaaGreatDoorRows
import GoSem.ClaimSeven
namespace Go.Proofs.YtadhdedjdgjboaaGreatDoor
namespace Rows

/-- THE TIED CARD OF 'hachurelaw07.PagerActs'. -/
def pagerActsCard : Claim7 := { stood := { row := pagerActsRow, standIns := [], harness := (true, "258c75378f02fec4e3fc8005d03fdb3fdbd2b06631f8ae13877c85adf14578e2"), looks := true }, kinds := [], alts := [], laidByText := true, laidKinds := [.data], laidTests := true, laidLooks := .later }
def PagerActsCardSaid : Prop := Claim7.holds Tryz.pinned (.plain (OpenSpec.ofChange pagerActsSpec)) pagerActsCard

/-- THE TIED CARD OF 'hachurelaw07.PagerCrash'. -/
def pagerCrashCard : Claim7 := { stood := { row := pagerCrashRow, standIns := [], harness := (true, "258c75378f02fec4e3fc8005d03fdb3fdbd2b06631f8ae13877c85adf14578e2"), looks := true }, kinds := [], alts := [], laidByText := true, laidKinds := [.data], laidTests := true, laidLooks := .later }
def PagerCrashCardSaid : Prop := Claim7.holds Tryz.pinned (.plain (OpenSpec.ofChange pagerCrashSpec)) pagerCrashCard

/-- THE TIED CARD OF 'hachurelaw07.PagerFull'. -/
def pagerFullCard : Claim7 := { stood := { row := pagerFullRow, standIns := [], harness := (true, "258c75378f02fec4e3fc8005d03fdb3fdbd2b06631f8ae13877c85adf14578e2"), looks := true }, kinds := [], alts := [], laidByText := true, laidKinds := [.data], laidTests := true, laidLooks := .later }
def PagerFullCardSaid : Prop := Claim7.holds Tryz.pinned (.plain (OpenSpec.ofChange pagerFullSpec)) pagerFullCard

/-- THE TIED CARD OF 'hachurelaw07.PagerDead'. -/
def pagerDeadCard : Claim7 := { stood := { row := pagerDeadRow, standIns := [], harness := (true, "258c75378f02fec4e3fc8005d03fdb3fdbd2b06631f8ae13877c85adf14578e2"), looks := true }, kinds := [], alts := [], laidByText := true, laidKinds := [.data], laidTests := true, laidLooks := .later }
def PagerDeadCardSaid : Prop := Claim7.holds Tryz.pinned (.plain (OpenSpec.ofChange pagerDeadSpec)) pagerDeadCard

/-- THE TIED CARD OF 'hachurelaw07.PagerNone'. -/
def pagerNoneCard : Claim7 := { stood := { row := pagerNoneRow, standIns := [], harness := (true, "258c75378f02fec4e3fc8005d03fdb3fdbd2b06631f8ae13877c85adf14578e2"), looks := true }, kinds := [], alts := [], laidByText := true, laidKinds := [.data], laidTests := true, laidLooks := .later }
def PagerNoneCardSaid : Prop := Claim7.holds Tryz.pinned (.plain (OpenSpec.ofChange pagerNoneSpec)) pagerNoneCard

/-- THE SECOND FORM's CARD OF 'hachurelaw07.PagerActs'. -/
def pagerActsUptoCard : Claim7 := { stood := { row := pagerActsUptoRow, standIns := [], harness := (true, "258c75378f02fec4e3fc8005d03fdb3fdbd2b06631f8ae13877c85adf14578e2"), looks := true }, kinds := [], alts := [], laidByText := true, laidKinds := [.data], laidTests := true, laidLooks := .later }
def PagerActsUptoCardSaid : Prop := Claim7.holds Tryz.pinned (.plain (OpenSpec.upto pagerActsSpec)) pagerActsUptoCard

/-- THE SECOND FORM's CARD OF 'hachurelaw07.PagerCrash'. -/
def pagerCrashUptoCard : Claim7 := { stood := { row := pagerCrashUptoRow, standIns := [], harness := (true, "258c75378f02fec4e3fc8005d03fdb3fdbd2b06631f8ae13877c85adf14578e2"), looks := true }, kinds := [], alts := [], laidByText := true, laidKinds := [.data], laidTests := true, laidLooks := .later }
def PagerCrashUptoCardSaid : Prop := Claim7.holds Tryz.pinned (.plain (OpenSpec.upto pagerCrashSpec)) pagerCrashUptoCard

/-- THE SECOND FORM's CARD OF 'hachurelaw07.PagerFull'. -/
def pagerFullUptoCard : Claim7 := { stood := { row := pagerFullUptoRow, standIns := [], harness := (true, "258c75378f02fec4e3fc8005d03fdb3fdbd2b06631f8ae13877c85adf14578e2"), looks := true }, kinds := [], alts := [], laidByText := true, laidKinds := [.data], laidTests := true, laidLooks := .later }
def PagerFullUptoCardSaid : Prop := Claim7.holds Tryz.pinned (.plain (OpenSpec.upto pagerFullSpec)) pagerFullUptoCard

/-- THE SECOND FORM's CARD OF 'hachurelaw07.PagerDead'. -/
def pagerDeadUptoCard : Claim7 := { stood := { row := pagerDeadUptoRow, standIns := [], harness := (true, "258c75378f02fec4e3fc8005d03fdb3fdbd2b06631f8ae13877c85adf14578e2"), looks := true }, kinds := [], alts := [], laidByText := true, laidKinds := [.data], laidTests := true, laidLooks := .later }
def PagerDeadUptoCardSaid : Prop := Claim7.holds Tryz.pinned (.plain (OpenSpec.upto pagerDeadSpec)) pagerDeadUptoCard

/-- THE SECOND FORM's CARD OF 'hachurelaw07.PagerNone'. -/
def pagerNoneUptoCard : Claim7 := { stood := { row := pagerNoneUptoRow, standIns := [], harness := (true, "258c75378f02fec4e3fc8005d03fdb3fdbd2b06631f8ae13877c85adf14578e2"), looks := true }, kinds := [], alts := [], laidByText := true, laidKinds := [.data], laidTests := true, laidLooks := .later }
def PagerNoneUptoCardSaid : Prop := Claim7.holds Tryz.pinned (.plain (OpenSpec.upto pagerNoneSpec)) pagerNoneUptoCard
end Rows
end Go.Proofs.YtadhdedjdgjboaaGreatDoor
