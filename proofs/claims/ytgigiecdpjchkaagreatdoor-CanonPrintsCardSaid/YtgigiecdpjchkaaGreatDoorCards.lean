/-
  DERIVED. GIVEN WITH THE SEED: THE CARDS: each row of YtgigiecdpjchkaaGreatDoorRows.lean that lists a variable, with what it lists TIED to the program's text (the seventh form; the later family's looks); each row that meets fmt, with fmt's text TOLD by the authors' own Lean function (tested against real Go, not proved from fmt's source: count such statements apart). THE CARD IS WHAT COUNTS. Prove the row's statement (the work); the ties are given (YtgigiecdpjchkaaGreatDoorTie.lean); close each card by the builder's one call (the guide's Derived/Test/ToyasCard.lean, 'card_holds'). Laid BY PROGRAM, IN A SANDBOX (cutbox-door.mjs). By AI agents, Wed Nov 11 2026. No macro, syntax, notation, axiom, sorry.
-/
import Derived.Test.YtgigiecdpjchkaaGreatDoorRows
import GoSem.ClaimSeven
namespace Go.Proofs.YtgigiecdpjchkaaGreatDoor
namespace Rows

/-- THE TIED CARD OF 'suffraganlaw07.ParseShows'. -/
def parseShowsCard : Claim7 := { stood := { row := parseShowsRow, standIns := [], harness := (true, "f2ee6bed1180c86662f8dae6daf11da28ea1d0f6da95fb8f82e5f7900b8421a2"), looks := true }, kinds := [], alts := [], laidByText := true, laidKinds := [.data, .data, .data, .data], laidTests := true, laidLooks := .later }
def ParseShowsCardSaid : Prop := Claim7.holds Tryz.pinned (.plain (OpenSpec.ofChange parseShowsSpec)) parseShowsCard

/-- THE TIED CARD OF 'suffraganlaw08.CanonTexts'. -/
def canonTextsCard : Claim7 := { stood := { row := canonTextsRow, standIns := [], harness := (true, "f2ee6bed1180c86662f8dae6daf11da28ea1d0f6da95fb8f82e5f7900b8421a2"), looks := true }, kinds := [], alts := [], laidByText := true, laidKinds := [.data, .data, .data, .data, .data, .data], laidTests := true, laidLooks := .later }
def CanonTextsCardSaid : Prop := Claim7.holds Tryz.pinned (.plain (OpenSpec.ofChange canonTextsSpec)) canonTextsCard

/-- THE TIED CARD OF 'suffraganlaw08.CanonPrints'. -/
def canonPrintsCard : Claim7 := { stood := { row := canonPrintsRow, standIns := [], harness := (true, "f2ee6bed1180c86662f8dae6daf11da28ea1d0f6da95fb8f82e5f7900b8421a2"), looks := true }, kinds := [], alts := [], laidByText := true, laidKinds := [.data, .data, .data, .data, .data, .data], laidTests := true, laidLooks := .later }
def CanonPrintsCardSaid : Prop := Claim7.holds Tryz.pinned (.plain (OpenSpec.ofChange canonPrintsSpec)) canonPrintsCard

/-- THE TIED CARD OF 'suffraganlaw08.CanonApart'. -/
def canonApartCard : Claim7 := { stood := { row := canonApartRow, standIns := [], harness := (true, "f2ee6bed1180c86662f8dae6daf11da28ea1d0f6da95fb8f82e5f7900b8421a2"), looks := true }, kinds := [], alts := [], laidByText := true, laidKinds := [.data, .data, .data, .data, .data, .data], laidTests := true, laidLooks := .later }
def CanonApartCardSaid : Prop := Claim7.holds Tryz.pinned (.plain (OpenSpec.ofChange canonApartSpec)) canonApartCard

/-- THE TIED CARD OF 'suffraganlaw09.DatumFits'. -/
def datumFitsCard : Claim7 := { stood := { row := datumFitsRow, standIns := [], harness := (true, "f2ee6bed1180c86662f8dae6daf11da28ea1d0f6da95fb8f82e5f7900b8421a2"), looks := true }, kinds := [], alts := [], laidByText := true, laidKinds := [.data, .data, .data, .data], laidTests := true, laidLooks := .later }
def DatumFitsCardSaid : Prop := Claim7.holds Tryz.pinned (.plain (OpenSpec.ofChange datumFitsSpec)) datumFitsCard

/-- THE TIED CARD OF 'suffraganlaw09.DatumPuts'. -/
def datumPutsCard : Claim7 := { stood := { row := datumPutsRow, standIns := [], harness := (true, "f2ee6bed1180c86662f8dae6daf11da28ea1d0f6da95fb8f82e5f7900b8421a2"), looks := true }, kinds := [], alts := [], laidByText := true, laidKinds := [.data, .data, .data, .data], laidTests := true, laidLooks := .later }
def DatumPutsCardSaid : Prop := Claim7.holds Tryz.pinned (.plain (OpenSpec.ofChange datumPutsSpec)) datumPutsCard

/-- THE TIED CARD OF 'suffraganlaw09.DatumBack'. -/
def datumBackCard : Claim7 := { stood := { row := datumBackRow, standIns := [], harness := (true, "f2ee6bed1180c86662f8dae6daf11da28ea1d0f6da95fb8f82e5f7900b8421a2"), looks := true }, kinds := [], alts := [], laidByText := true, laidKinds := [.data, .data, .data, .data], laidTests := true, laidLooks := .later }
def DatumBackCardSaid : Prop := Claim7.holds Tryz.pinned (.plain (OpenSpec.ofChange datumBackSpec)) datumBackCard

/-- THE TIED CARD OF 'suffraganlaw09.DatumSame'. -/
def datumSameCard : Claim7 := { stood := { row := datumSameRow, standIns := [], harness := (true, "f2ee6bed1180c86662f8dae6daf11da28ea1d0f6da95fb8f82e5f7900b8421a2"), looks := true }, kinds := [], alts := [], laidByText := true, laidKinds := [.data, .data, .data, .data], laidTests := true, laidLooks := .later }
def DatumSameCardSaid : Prop := Claim7.holds Tryz.pinned (.plain (OpenSpec.ofChange datumSameSpec)) datumSameCard

/-- THE SECOND FORM's CARD OF 'suffraganlaw07.ParseShows'. -/
def parseShowsUptoCard : Claim7 := { stood := { row := parseShowsUptoRow, standIns := [], harness := (true, "f2ee6bed1180c86662f8dae6daf11da28ea1d0f6da95fb8f82e5f7900b8421a2"), looks := true }, kinds := [], alts := [], laidByText := true, laidKinds := [.data, .data, .data, .data], laidTests := true, laidLooks := .later }
def ParseShowsUptoCardSaid : Prop := Claim7.holds Tryz.pinned (.plain (OpenSpec.upto parseShowsSpec)) parseShowsUptoCard

/-- THE SECOND FORM's CARD OF 'suffraganlaw08.CanonTexts'. -/
def canonTextsUptoCard : Claim7 := { stood := { row := canonTextsUptoRow, standIns := [], harness := (true, "f2ee6bed1180c86662f8dae6daf11da28ea1d0f6da95fb8f82e5f7900b8421a2"), looks := true }, kinds := [], alts := [], laidByText := true, laidKinds := [.data, .data, .data, .data, .data, .data], laidTests := true, laidLooks := .later }
def CanonTextsUptoCardSaid : Prop := Claim7.holds Tryz.pinned (.plain (OpenSpec.upto canonTextsSpec)) canonTextsUptoCard

/-- THE SECOND FORM's CARD OF 'suffraganlaw08.CanonPrints'. -/
def canonPrintsUptoCard : Claim7 := { stood := { row := canonPrintsUptoRow, standIns := [], harness := (true, "f2ee6bed1180c86662f8dae6daf11da28ea1d0f6da95fb8f82e5f7900b8421a2"), looks := true }, kinds := [], alts := [], laidByText := true, laidKinds := [.data, .data, .data, .data, .data, .data], laidTests := true, laidLooks := .later }
def CanonPrintsUptoCardSaid : Prop := Claim7.holds Tryz.pinned (.plain (OpenSpec.upto canonPrintsSpec)) canonPrintsUptoCard

/-- THE SECOND FORM's CARD OF 'suffraganlaw08.CanonApart'. -/
def canonApartUptoCard : Claim7 := { stood := { row := canonApartUptoRow, standIns := [], harness := (true, "f2ee6bed1180c86662f8dae6daf11da28ea1d0f6da95fb8f82e5f7900b8421a2"), looks := true }, kinds := [], alts := [], laidByText := true, laidKinds := [.data, .data, .data, .data, .data, .data], laidTests := true, laidLooks := .later }
def CanonApartUptoCardSaid : Prop := Claim7.holds Tryz.pinned (.plain (OpenSpec.upto canonApartSpec)) canonApartUptoCard

/-- THE SECOND FORM's CARD OF 'suffraganlaw09.DatumFits'. -/
def datumFitsUptoCard : Claim7 := { stood := { row := datumFitsUptoRow, standIns := [], harness := (true, "f2ee6bed1180c86662f8dae6daf11da28ea1d0f6da95fb8f82e5f7900b8421a2"), looks := true }, kinds := [], alts := [], laidByText := true, laidKinds := [.data, .data, .data, .data], laidTests := true, laidLooks := .later }
def DatumFitsUptoCardSaid : Prop := Claim7.holds Tryz.pinned (.plain (OpenSpec.upto datumFitsSpec)) datumFitsUptoCard

/-- THE SECOND FORM's CARD OF 'suffraganlaw09.DatumPuts'. -/
def datumPutsUptoCard : Claim7 := { stood := { row := datumPutsUptoRow, standIns := [], harness := (true, "f2ee6bed1180c86662f8dae6daf11da28ea1d0f6da95fb8f82e5f7900b8421a2"), looks := true }, kinds := [], alts := [], laidByText := true, laidKinds := [.data, .data, .data, .data], laidTests := true, laidLooks := .later }
def DatumPutsUptoCardSaid : Prop := Claim7.holds Tryz.pinned (.plain (OpenSpec.upto datumPutsSpec)) datumPutsUptoCard

/-- THE SECOND FORM's CARD OF 'suffraganlaw09.DatumBack'. -/
def datumBackUptoCard : Claim7 := { stood := { row := datumBackUptoRow, standIns := [], harness := (true, "f2ee6bed1180c86662f8dae6daf11da28ea1d0f6da95fb8f82e5f7900b8421a2"), looks := true }, kinds := [], alts := [], laidByText := true, laidKinds := [.data, .data, .data, .data], laidTests := true, laidLooks := .later }
def DatumBackUptoCardSaid : Prop := Claim7.holds Tryz.pinned (.plain (OpenSpec.upto datumBackSpec)) datumBackUptoCard

/-- THE SECOND FORM's CARD OF 'suffraganlaw09.DatumSame'. -/
def datumSameUptoCard : Claim7 := { stood := { row := datumSameUptoRow, standIns := [], harness := (true, "f2ee6bed1180c86662f8dae6daf11da28ea1d0f6da95fb8f82e5f7900b8421a2"), looks := true }, kinds := [], alts := [], laidByText := true, laidKinds := [.data, .data, .data, .data], laidTests := true, laidLooks := .later }
def DatumSameUptoCardSaid : Prop := Claim7.holds Tryz.pinned (.plain (OpenSpec.upto datumSameSpec)) datumSameUptoCard
end Rows
end Go.Proofs.YtgigiecdpjchkaaGreatDoor
