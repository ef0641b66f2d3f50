/-
  DERIVED. GIVEN WITH THE SEED: THE CARDS: each row of YtjjdhdieihmnnaaGreatDoorRows.lean that lists a variable, with what it lists TIED to the program's text (the seventh form; the later family's looks); each row that meets fmt, with fmt's text TOLD by the authors' own Lean function (tested against real Go, not proved from fmt's source: count such statements apart). THE CARD IS WHAT COUNTS. Prove the row's statement (the work); the ties are given (YtjjdhdieihmnnaaGreatDoorTie.lean); close each card by the builder's one call (the guide's Derived/Test/ToyasCard.lean, 'card_holds'). Laid BY PROGRAM, IN A SANDBOX (cutbox-door.mjs). By AI agents, Wed Nov 11 2026. No macro, syntax, notation, axiom, sorry.
-/
import Derived.Test.YtjjdhdieihmnnaaGreatDoorRows
import GoSem.ClaimSeven
namespace Go.Proofs.YtjjdhdieihmnnaaGreatDoor
namespace Rows

/-- THE TIED CARD OF 'suffraganlaw07.ParseShows'. -/
def parseShowsCard : Claim7 := { stood := { row := parseShowsRow, standIns := [], harness := (true, "bec63d9fb01be497f067d2ed31677edff742d1a59e5e6058ca5a850fe8dcaddb"), looks := true }, kinds := [], alts := [], laidByText := true, laidKinds := [.data, .data, .data, .data], laidTests := true, laidLooks := .later }
def ParseShowsCardSaid : Prop := Claim7.holds Tryz.pinned (.plain (OpenSpec.ofChange parseShowsSpec)) parseShowsCard

/-- THE TIED CARD OF 'suffraganlaw08.CanonTexts'. -/
def canonTextsCard : Claim7 := { stood := { row := canonTextsRow, standIns := [], harness := (true, "bec63d9fb01be497f067d2ed31677edff742d1a59e5e6058ca5a850fe8dcaddb"), looks := true }, kinds := [], alts := [], laidByText := true, laidKinds := [.data, .data, .data, .data, .data, .data], laidTests := true, laidLooks := .later }
def CanonTextsCardSaid : Prop := Claim7.holds Tryz.pinned (.plain (OpenSpec.ofChange canonTextsSpec)) canonTextsCard

/-- THE TIED CARD OF 'suffraganlaw08.CanonPrints'. -/
def canonPrintsCard : Claim7 := { stood := { row := canonPrintsRow, standIns := [], harness := (true, "bec63d9fb01be497f067d2ed31677edff742d1a59e5e6058ca5a850fe8dcaddb"), looks := true }, kinds := [], alts := [], laidByText := true, laidKinds := [.data, .data, .data, .data, .data, .data], laidTests := true, laidLooks := .later }
def CanonPrintsCardSaid : Prop := Claim7.holds Tryz.pinned (.plain (OpenSpec.ofChange canonPrintsSpec)) canonPrintsCard

/-- THE TIED CARD OF 'suffraganlaw08.CanonBlanks'. -/
def canonBlanksCard : Claim7 := { stood := { row := canonBlanksRow, standIns := [], harness := (true, "bec63d9fb01be497f067d2ed31677edff742d1a59e5e6058ca5a850fe8dcaddb"), looks := true }, kinds := [], alts := [], laidByText := true, laidKinds := [.data, .data, .data, .data, .data, .data], laidTests := true, laidLooks := .later }
def CanonBlanksCardSaid : Prop := Claim7.holds Tryz.pinned (.plain (OpenSpec.ofChange canonBlanksSpec)) canonBlanksCard

/-- THE TIED CARD OF 'suffraganlaw08.CanonApart'. -/
def canonApartCard : Claim7 := { stood := { row := canonApartRow, standIns := [], harness := (true, "bec63d9fb01be497f067d2ed31677edff742d1a59e5e6058ca5a850fe8dcaddb"), looks := true }, kinds := [], alts := [], laidByText := true, laidKinds := [.data, .data, .data, .data, .data, .data], laidTests := true, laidLooks := .later }
def CanonApartCardSaid : Prop := Claim7.holds Tryz.pinned (.plain (OpenSpec.ofChange canonApartSpec)) canonApartCard

/-- THE TIED CARD OF 'suffraganlaw08.CanonLogs'. -/
def canonLogsCard : Claim7 := { stood := { row := canonLogsRow, standIns := [], harness := (true, "bec63d9fb01be497f067d2ed31677edff742d1a59e5e6058ca5a850fe8dcaddb"), looks := true }, kinds := [], alts := [], laidByText := true, laidKinds := [.data, .data, .data, .data, .data, .data], laidTests := true, laidLooks := .later }
def CanonLogsCardSaid : Prop := Claim7.holds Tryz.pinned (.plain (OpenSpec.ofChange canonLogsSpec)) canonLogsCard

/-- THE SECOND FORM's CARD OF 'suffraganlaw07.ParseShows'. -/
def parseShowsUptoCard : Claim7 := { stood := { row := parseShowsUptoRow, standIns := [], harness := (true, "bec63d9fb01be497f067d2ed31677edff742d1a59e5e6058ca5a850fe8dcaddb"), looks := true }, kinds := [], alts := [], laidByText := true, laidKinds := [.data, .data, .data, .data], laidTests := true, laidLooks := .later }
def ParseShowsUptoCardSaid : Prop := Claim7.holds Tryz.pinned (.plain (OpenSpec.upto parseShowsSpec)) parseShowsUptoCard

/-- THE SECOND FORM's CARD OF 'suffraganlaw08.CanonTexts'. -/
def canonTextsUptoCard : Claim7 := { stood := { row := canonTextsUptoRow, standIns := [], harness := (true, "bec63d9fb01be497f067d2ed31677edff742d1a59e5e6058ca5a850fe8dcaddb"), looks := true }, kinds := [], alts := [], laidByText := true, laidKinds := [.data, .data, .data, .data, .data, .data], laidTests := true, laidLooks := .later }
def CanonTextsUptoCardSaid : Prop := Claim7.holds Tryz.pinned (.plain (OpenSpec.upto canonTextsSpec)) canonTextsUptoCard

/-- THE SECOND FORM's CARD OF 'suffraganlaw08.CanonPrints'. -/
def canonPrintsUptoCard : Claim7 := { stood := { row := canonPrintsUptoRow, standIns := [], harness := (true, "bec63d9fb01be497f067d2ed31677edff742d1a59e5e6058ca5a850fe8dcaddb"), looks := true }, kinds := [], alts := [], laidByText := true, laidKinds := [.data, .data, .data, .data, .data, .data], laidTests := true, laidLooks := .later }
def CanonPrintsUptoCardSaid : Prop := Claim7.holds Tryz.pinned (.plain (OpenSpec.upto canonPrintsSpec)) canonPrintsUptoCard

/-- THE SECOND FORM's CARD OF 'suffraganlaw08.CanonBlanks'. -/
def canonBlanksUptoCard : Claim7 := { stood := { row := canonBlanksUptoRow, standIns := [], harness := (true, "bec63d9fb01be497f067d2ed31677edff742d1a59e5e6058ca5a850fe8dcaddb"), looks := true }, kinds := [], alts := [], laidByText := true, laidKinds := [.data, .data, .data, .data, .data, .data], laidTests := true, laidLooks := .later }
def CanonBlanksUptoCardSaid : Prop := Claim7.holds Tryz.pinned (.plain (OpenSpec.upto canonBlanksSpec)) canonBlanksUptoCard

/-- THE SECOND FORM's CARD OF 'suffraganlaw08.CanonApart'. -/
def canonApartUptoCard : Claim7 := { stood := { row := canonApartUptoRow, standIns := [], harness := (true, "bec63d9fb01be497f067d2ed31677edff742d1a59e5e6058ca5a850fe8dcaddb"), looks := true }, kinds := [], alts := [], laidByText := true, laidKinds := [.data, .data, .data, .data, .data, .data], laidTests := true, laidLooks := .later }
def CanonApartUptoCardSaid : Prop := Claim7.holds Tryz.pinned (.plain (OpenSpec.upto canonApartSpec)) canonApartUptoCard

/-- THE SECOND FORM's CARD OF 'suffraganlaw08.CanonLogs'. -/
def canonLogsUptoCard : Claim7 := { stood := { row := canonLogsUptoRow, standIns := [], harness := (true, "bec63d9fb01be497f067d2ed31677edff742d1a59e5e6058ca5a850fe8dcaddb"), looks := true }, kinds := [], alts := [], laidByText := true, laidKinds := [.data, .data, .data, .data, .data, .data], laidTests := true, laidLooks := .later }
def CanonLogsUptoCardSaid : Prop := Claim7.holds Tryz.pinned (.plain (OpenSpec.upto canonLogsSpec)) canonLogsUptoCard
end Rows
end Go.Proofs.YtjjdhdieihmnnaaGreatDoor
