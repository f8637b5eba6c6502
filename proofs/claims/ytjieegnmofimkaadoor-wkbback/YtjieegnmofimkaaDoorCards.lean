/-
  DERIVED. GIVEN WITH THE SEED: THE CARDS: each row of YtjieegnmofimkaaDoorRows.lean that lists a variable, with what it lists TIED to the program's text (the seventh form; the later family's looks); each row that meets fmt, with fmt's text TOLD by the authors' own Lean function (tested against real Go, not proved from fmt's source: count such statements apart). THE CARD IS WHAT COUNTS. Prove the row's statement (the work); the ties are given (YtjieegnmofimkaaDoorTie.lean); close each card by the builder's one call (the guide's Derived/Test/ToyasCard.lean, 'card_holds'). Laid BY PROGRAM, IN A SANDBOX (cutbox-door.mjs). By AI agents, Wed Nov 11 2026. No macro, syntax, notation, axiom, sorry.
-/
import Derived.Test.YtjieegnmofimkaaDoorRows
import GoSem.ClaimSeven
namespace Go.Proofs.YtjieegnmofimkaaDoor
namespace Rows

/-- THE TIED CARD OF 'hachurelaw14.WkbEncodes'. -/
def wkbEncodesCard : Claim7 := { stood := { row := wkbEncodesRow, standIns := [], harness := (true, "2de7e044d4d598c22a95e3240d3eb53d4925d3cf9e6974b176711902cb96b4d4"), looks := true }, kinds := [], alts := [], laidByText := true, laidKinds := [.data], laidTests := true, laidLooks := .later }
def WkbEncodesCardSaid : Prop := Claim7.holds Tryd.pinned (.plain (OpenSpec.ofChange wkbEncodesSpec)) wkbEncodesCard

/-- THE TIED CARD OF 'hachurelaw14.WkbReads'. -/
def wkbReadsCard : Claim7 := { stood := { row := wkbReadsRow, standIns := [], harness := (true, "2de7e044d4d598c22a95e3240d3eb53d4925d3cf9e6974b176711902cb96b4d4"), looks := true }, kinds := [], alts := [], laidByText := true, laidKinds := [.data], laidTests := true, laidLooks := .later }
def WkbReadsCardSaid : Prop := Claim7.holds Tryd.pinned (.plain (OpenSpec.ofChange wkbReadsSpec)) wkbReadsCard

/-- THE TIED CARD OF 'hachurelaw14.WkbBack'. -/
def wkbBackCard : Claim7 := { stood := { row := wkbBackRow, standIns := [], harness := (true, "2de7e044d4d598c22a95e3240d3eb53d4925d3cf9e6974b176711902cb96b4d4"), looks := true }, kinds := [], alts := [], laidByText := true, laidKinds := [.data], laidTests := true, laidLooks := .later }
def WkbBackCardSaid : Prop := Claim7.holds Tryd.pinned (.plain (OpenSpec.ofChange wkbBackSpec)) wkbBackCard

/-- THE TIED CARD OF 'hachurelaw14.WkbCuts'. -/
def wkbCutsCard : Claim7 := { stood := { row := wkbCutsRow, standIns := [], harness := (true, "2de7e044d4d598c22a95e3240d3eb53d4925d3cf9e6974b176711902cb96b4d4"), looks := true }, kinds := [], alts := [], laidByText := true, laidKinds := [.data], laidTests := true, laidLooks := .later }
def WkbCutsCardSaid : Prop := Claim7.holds Tryd.pinned (.plain (OpenSpec.ofChange wkbCutsSpec)) wkbCutsCard

/-- THE TIED CARD OF 'hachurelaw14.WkbDeep'. -/
def wkbDeepCard : Claim7 := { stood := { row := wkbDeepRow, standIns := [], harness := (true, "2de7e044d4d598c22a95e3240d3eb53d4925d3cf9e6974b176711902cb96b4d4"), looks := true }, kinds := [], alts := [], laidByText := true, laidKinds := [.data], laidTests := true, laidLooks := .later }
def WkbDeepCardSaid : Prop := Claim7.holds Tryd.pinned (.plain (OpenSpec.ofChange wkbDeepSpec)) wkbDeepCard

/-- THE SECOND FORM's CARD OF 'hachurelaw14.WkbEncodes'. -/
def wkbEncodesUptoCard : Claim7 := { stood := { row := wkbEncodesUptoRow, standIns := [], harness := (true, "2de7e044d4d598c22a95e3240d3eb53d4925d3cf9e6974b176711902cb96b4d4"), looks := true }, kinds := [], alts := [], laidByText := true, laidKinds := [.data], laidTests := true, laidLooks := .later }
def WkbEncodesUptoCardSaid : Prop := Claim7.holds Tryd.pinned (.plain (OpenSpec.upto wkbEncodesSpec)) wkbEncodesUptoCard

/-- THE SECOND FORM's CARD OF 'hachurelaw14.WkbReads'. -/
def wkbReadsUptoCard : Claim7 := { stood := { row := wkbReadsUptoRow, standIns := [], harness := (true, "2de7e044d4d598c22a95e3240d3eb53d4925d3cf9e6974b176711902cb96b4d4"), looks := true }, kinds := [], alts := [], laidByText := true, laidKinds := [.data], laidTests := true, laidLooks := .later }
def WkbReadsUptoCardSaid : Prop := Claim7.holds Tryd.pinned (.plain (OpenSpec.upto wkbReadsSpec)) wkbReadsUptoCard

/-- THE SECOND FORM's CARD OF 'hachurelaw14.WkbBack'. -/
def wkbBackUptoCard : Claim7 := { stood := { row := wkbBackUptoRow, standIns := [], harness := (true, "2de7e044d4d598c22a95e3240d3eb53d4925d3cf9e6974b176711902cb96b4d4"), looks := true }, kinds := [], alts := [], laidByText := true, laidKinds := [.data], laidTests := true, laidLooks := .later }
def WkbBackUptoCardSaid : Prop := Claim7.holds Tryd.pinned (.plain (OpenSpec.upto wkbBackSpec)) wkbBackUptoCard

/-- THE SECOND FORM's CARD OF 'hachurelaw14.WkbCuts'. -/
def wkbCutsUptoCard : Claim7 := { stood := { row := wkbCutsUptoRow, standIns := [], harness := (true, "2de7e044d4d598c22a95e3240d3eb53d4925d3cf9e6974b176711902cb96b4d4"), looks := true }, kinds := [], alts := [], laidByText := true, laidKinds := [.data], laidTests := true, laidLooks := .later }
def WkbCutsUptoCardSaid : Prop := Claim7.holds Tryd.pinned (.plain (OpenSpec.upto wkbCutsSpec)) wkbCutsUptoCard

/-- THE SECOND FORM's CARD OF 'hachurelaw14.WkbDeep'. -/
def wkbDeepUptoCard : Claim7 := { stood := { row := wkbDeepUptoRow, standIns := [], harness := (true, "2de7e044d4d598c22a95e3240d3eb53d4925d3cf9e6974b176711902cb96b4d4"), looks := true }, kinds := [], alts := [], laidByText := true, laidKinds := [.data], laidTests := true, laidLooks := .later }
def WkbDeepUptoCardSaid : Prop := Claim7.holds Tryd.pinned (.plain (OpenSpec.upto wkbDeepSpec)) wkbDeepUptoCard
end Rows
end Go.Proofs.YtjieegnmofimkaaDoor
