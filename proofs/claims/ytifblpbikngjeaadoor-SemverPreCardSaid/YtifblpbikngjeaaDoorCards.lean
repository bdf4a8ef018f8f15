/-
  DERIVED. GIVEN WITH THE SEED: THE CARDS: each row of YtifblpbikngjeaaDoorRows.lean that lists a variable, with what it lists TIED to the program's text (the seventh form; the later family's looks); each row that meets fmt, with fmt's text TOLD by the authors' own Lean function (tested against real Go, not proved from fmt's source: count such statements apart). THE CARD IS WHAT COUNTS. Prove the row's statement (the work); the ties are given (YtifblpbikngjeaaDoorTie.lean); close each card by the builder's one call (the guide's Derived/Test/ToyasCard.lean, 'card_holds'). Laid BY PROGRAM, IN A SANDBOX (cutbox-door.mjs). By AI agents, Wed Nov 11 2026. No macro, syntax, notation, axiom, sorry.
-/
import Derived.Test.YtifblpbikngjeaaDoorRows
import GoSem.ClaimSeven
namespace Go.Proofs.YtifblpbikngjeaaDoor
namespace Rows

/-- THE TIED CARD OF 'pandectlaw04.SemverParses'. -/
def semverParsesCard : Claim7 := { stood := { row := semverParsesRow, standIns := [], harness := (true, "2339b1fa30871ca4825dbc61739f44ca60aeecedf58b9426d8dd26bb1c095057"), looks := true }, kinds := [], alts := [], laidByText := true, laidKinds := [.data, .data, .data, .data, .sentinel, .sentinel, .pinned], laidTests := true, laidLooks := .later }
def SemverParsesCardSaid : Prop := Claim7.holds Tryd.pinned (.plain (OpenSpec.ofChange semverParsesSpec)) semverParsesCard

/-- THE TIED CARD OF 'pandectlaw04.SemverShows'. -/
def semverShowsCard : Claim7 := { stood := { row := semverShowsRow, standIns := [], harness := (true, "2339b1fa30871ca4825dbc61739f44ca60aeecedf58b9426d8dd26bb1c095057"), looks := true }, kinds := [], alts := [], laidByText := true, laidKinds := [.data, .data, .data, .data, .sentinel, .sentinel, .pinned], laidTests := true, laidLooks := .later }
def SemverShowsCardSaid : Prop := Claim7.holds Tryd.pinned (.plain (OpenSpec.ofChange semverShowsSpec)) semverShowsCard

/-- THE TIED CARD OF 'pandectlaw04.SemverCmps'. -/
def semverCmpsCard : Claim7 := { stood := { row := semverCmpsRow, standIns := [], harness := (true, "2339b1fa30871ca4825dbc61739f44ca60aeecedf58b9426d8dd26bb1c095057"), looks := true }, kinds := [], alts := [], laidByText := true, laidKinds := [.data, .data, .data, .data, .sentinel, .sentinel, .pinned], laidTests := true, laidLooks := .later }
def SemverCmpsCardSaid : Prop := Claim7.holds Tryd.pinned (.plain (OpenSpec.ofChange semverCmpsSpec)) semverCmpsCard

/-- THE TIED CARD OF 'pandectlaw04.SemverHighs'. -/
def semverHighsCard : Claim7 := { stood := { row := semverHighsRow, standIns := [], harness := (true, "2339b1fa30871ca4825dbc61739f44ca60aeecedf58b9426d8dd26bb1c095057"), looks := true }, kinds := [], alts := [], laidByText := true, laidKinds := [.data, .data, .data, .data, .sentinel, .sentinel, .pinned], laidTests := true, laidLooks := .later }
def SemverHighsCardSaid : Prop := Claim7.holds Tryd.pinned (.plain (OpenSpec.ofChange semverHighsSpec)) semverHighsCard

/-- THE TIED CARD OF 'pandectlaw04.SemverBack'. -/
def semverBackCard : Claim7 := { stood := { row := semverBackRow, standIns := [], harness := (true, "2339b1fa30871ca4825dbc61739f44ca60aeecedf58b9426d8dd26bb1c095057"), looks := true }, kinds := [], alts := [], laidByText := true, laidKinds := [.data, .data, .data, .data, .sentinel, .sentinel, .pinned], laidTests := true, laidLooks := .later }
def SemverBackCardSaid : Prop := Claim7.holds Tryd.pinned (.plain (OpenSpec.ofChange semverBackSpec)) semverBackCard

/-- THE TIED CARD OF 'pandectlaw04.SemverOrder'. -/
def semverOrderCard : Claim7 := { stood := { row := semverOrderRow, standIns := [], harness := (true, "2339b1fa30871ca4825dbc61739f44ca60aeecedf58b9426d8dd26bb1c095057"), looks := true }, kinds := [], alts := [], laidByText := true, laidKinds := [.data, .data, .data, .data, .sentinel, .sentinel, .pinned], laidTests := true, laidLooks := .later }
def SemverOrderCardSaid : Prop := Claim7.holds Tryd.pinned (.plain (OpenSpec.ofChange semverOrderSpec)) semverOrderCard

/-- THE TIED CARD OF 'pandectlaw04.SemverPre'. -/
def semverPreCard : Claim7 := { stood := { row := semverPreRow, standIns := [], harness := (true, "2339b1fa30871ca4825dbc61739f44ca60aeecedf58b9426d8dd26bb1c095057"), looks := true }, kinds := [], alts := [], laidByText := true, laidKinds := [.data, .data, .data, .data, .sentinel, .sentinel, .pinned], laidTests := true, laidLooks := .later }
def SemverPreCardSaid : Prop := Claim7.holds Tryd.pinned (.plain (OpenSpec.ofChange semverPreSpec)) semverPreCard

/-- THE SECOND FORM's CARD OF 'pandectlaw04.SemverParses'. -/
def semverParsesUptoCard : Claim7 := { stood := { row := semverParsesUptoRow, standIns := [], harness := (true, "2339b1fa30871ca4825dbc61739f44ca60aeecedf58b9426d8dd26bb1c095057"), looks := true }, kinds := [], alts := [], laidByText := true, laidKinds := [.data, .data, .data, .data, .sentinel, .sentinel, .pinned], laidTests := true, laidLooks := .later }
def SemverParsesUptoCardSaid : Prop := Claim7.holds Tryd.pinned (.plain (OpenSpec.upto semverParsesSpec)) semverParsesUptoCard

/-- THE SECOND FORM's CARD OF 'pandectlaw04.SemverShows'. -/
def semverShowsUptoCard : Claim7 := { stood := { row := semverShowsUptoRow, standIns := [], harness := (true, "2339b1fa30871ca4825dbc61739f44ca60aeecedf58b9426d8dd26bb1c095057"), looks := true }, kinds := [], alts := [], laidByText := true, laidKinds := [.data, .data, .data, .data, .sentinel, .sentinel, .pinned], laidTests := true, laidLooks := .later }
def SemverShowsUptoCardSaid : Prop := Claim7.holds Tryd.pinned (.plain (OpenSpec.upto semverShowsSpec)) semverShowsUptoCard

/-- THE SECOND FORM's CARD OF 'pandectlaw04.SemverCmps'. -/
def semverCmpsUptoCard : Claim7 := { stood := { row := semverCmpsUptoRow, standIns := [], harness := (true, "2339b1fa30871ca4825dbc61739f44ca60aeecedf58b9426d8dd26bb1c095057"), looks := true }, kinds := [], alts := [], laidByText := true, laidKinds := [.data, .data, .data, .data, .sentinel, .sentinel, .pinned], laidTests := true, laidLooks := .later }
def SemverCmpsUptoCardSaid : Prop := Claim7.holds Tryd.pinned (.plain (OpenSpec.upto semverCmpsSpec)) semverCmpsUptoCard

/-- THE SECOND FORM's CARD OF 'pandectlaw04.SemverHighs'. -/
def semverHighsUptoCard : Claim7 := { stood := { row := semverHighsUptoRow, standIns := [], harness := (true, "2339b1fa30871ca4825dbc61739f44ca60aeecedf58b9426d8dd26bb1c095057"), looks := true }, kinds := [], alts := [], laidByText := true, laidKinds := [.data, .data, .data, .data, .sentinel, .sentinel, .pinned], laidTests := true, laidLooks := .later }
def SemverHighsUptoCardSaid : Prop := Claim7.holds Tryd.pinned (.plain (OpenSpec.upto semverHighsSpec)) semverHighsUptoCard

/-- THE SECOND FORM's CARD OF 'pandectlaw04.SemverBack'. -/
def semverBackUptoCard : Claim7 := { stood := { row := semverBackUptoRow, standIns := [], harness := (true, "2339b1fa30871ca4825dbc61739f44ca60aeecedf58b9426d8dd26bb1c095057"), looks := true }, kinds := [], alts := [], laidByText := true, laidKinds := [.data, .data, .data, .data, .sentinel, .sentinel, .pinned], laidTests := true, laidLooks := .later }
def SemverBackUptoCardSaid : Prop := Claim7.holds Tryd.pinned (.plain (OpenSpec.upto semverBackSpec)) semverBackUptoCard

/-- THE SECOND FORM's CARD OF 'pandectlaw04.SemverOrder'. -/
def semverOrderUptoCard : Claim7 := { stood := { row := semverOrderUptoRow, standIns := [], harness := (true, "2339b1fa30871ca4825dbc61739f44ca60aeecedf58b9426d8dd26bb1c095057"), looks := true }, kinds := [], alts := [], laidByText := true, laidKinds := [.data, .data, .data, .data, .sentinel, .sentinel, .pinned], laidTests := true, laidLooks := .later }
def SemverOrderUptoCardSaid : Prop := Claim7.holds Tryd.pinned (.plain (OpenSpec.upto semverOrderSpec)) semverOrderUptoCard

/-- THE SECOND FORM's CARD OF 'pandectlaw04.SemverPre'. -/
def semverPreUptoCard : Claim7 := { stood := { row := semverPreUptoRow, standIns := [], harness := (true, "2339b1fa30871ca4825dbc61739f44ca60aeecedf58b9426d8dd26bb1c095057"), looks := true }, kinds := [], alts := [], laidByText := true, laidKinds := [.data, .data, .data, .data, .sentinel, .sentinel, .pinned], laidTests := true, laidLooks := .later }
def SemverPreUptoCardSaid : Prop := Claim7.holds Tryd.pinned (.plain (OpenSpec.upto semverPreSpec)) semverPreUptoCard
end Rows
end Go.Proofs.YtifblpbikngjeaaDoor
