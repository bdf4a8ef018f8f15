/-
  DERIVED. GIVEN WITH THE SEED: THE CARDS: each row of YtkncdbaoaeeoiaaGreatDoorRows.lean that lists a variable, with what it lists TIED to the program's text (the seventh form; the later family's looks); each row that meets fmt, with fmt's text TOLD by the authors' own Lean function (tested against real Go, not proved from fmt's source: count such statements apart). THE CARD IS WHAT COUNTS. Prove the row's statement (the work); the ties are given (YtkncdbaoaeeoiaaGreatDoorTie.lean); close each card by the builder's one call (the guide's Derived/Test/ToyasCard.lean, 'card_holds'). Laid BY PROGRAM, IN A SANDBOX (cutbox-door.mjs). By AI agents, Wed Nov 11 2026. No macro, syntax, notation, axiom, sorry.
-/
import Derived.Test.YtkncdbaoaeeoiaaGreatDoorRows
import GoSem.ClaimSeven
namespace Go.Proofs.YtkncdbaoaeeoiaaGreatDoor
namespace Rows

/-- THE TIED CARD OF 'pandectlaw09.ParseAround'. -/
def parseAroundCard : Claim7 := { stood := { row := parseAroundRow, standIns := [], harness := (true, "7b005818ff0baf5cd66c449a4660402308b77219620d132ed56e2af5c60d6f17"), looks := true }, kinds := [], alts := [], laidByText := true, laidKinds := [.data, .data, .data, .data, .sentinel, .sentinel, .data, .pinned], laidTests := true, laidLooks := .later }
def ParseAroundCardSaid : Prop := Claim7.holds Tryz.pinned (.plain (OpenSpec.ofChange parseAroundSpec)) parseAroundCard

/-- THE TIED CARD OF 'pandectlaw09.ParsePlaces'. -/
def parsePlacesCard : Claim7 := { stood := { row := parsePlacesRow, standIns := [], harness := (true, "7b005818ff0baf5cd66c449a4660402308b77219620d132ed56e2af5c60d6f17"), looks := true }, kinds := [], alts := [], laidByText := true, laidKinds := [.data, .data, .data, .data, .sentinel, .sentinel, .data, .pinned], laidTests := true, laidLooks := .later }
def ParsePlacesCardSaid : Prop := Claim7.holds Tryz.pinned (.plain (OpenSpec.ofChange parsePlacesSpec)) parsePlacesCard

/-- THE SECOND FORM's CARD OF 'pandectlaw09.ParseAround'. -/
def parseAroundUptoCard : Claim7 := { stood := { row := parseAroundUptoRow, standIns := [], harness := (true, "7b005818ff0baf5cd66c449a4660402308b77219620d132ed56e2af5c60d6f17"), looks := true }, kinds := [], alts := [], laidByText := true, laidKinds := [.data, .data, .data, .data, .sentinel, .sentinel, .data, .pinned], laidTests := true, laidLooks := .later }
def ParseAroundUptoCardSaid : Prop := Claim7.holds Tryz.pinned (.plain (OpenSpec.upto parseAroundSpec)) parseAroundUptoCard

/-- THE SECOND FORM's CARD OF 'pandectlaw09.ParsePlaces'. -/
def parsePlacesUptoCard : Claim7 := { stood := { row := parsePlacesUptoRow, standIns := [], harness := (true, "7b005818ff0baf5cd66c449a4660402308b77219620d132ed56e2af5c60d6f17"), looks := true }, kinds := [], alts := [], laidByText := true, laidKinds := [.data, .data, .data, .data, .sentinel, .sentinel, .data, .pinned], laidTests := true, laidLooks := .later }
def ParsePlacesUptoCardSaid : Prop := Claim7.holds Tryz.pinned (.plain (OpenSpec.upto parsePlacesSpec)) parsePlacesUptoCard
end Rows
end Go.Proofs.YtkncdbaoaeeoiaaGreatDoor
