/-
  DERIVED. GIVEN WITH THE SEED: THE CARDS: each row of YthjombepcmebfaaGreatDoorRows.lean that lists a variable, with what it lists TIED to the program's text (the seventh form; the later family's looks); each row that meets fmt, with fmt's text TOLD by the authors' own Lean function (tested against real Go, not proved from fmt's source: count such statements apart). THE CARD IS WHAT COUNTS. Prove the row's statement (the work); the ties are given (YthjombepcmebfaaGreatDoorTie.lean); close each card by the builder's one call (the guide's Derived/Test/ToyasCard.lean, 'card_holds'). Laid BY PROGRAM, IN A SANDBOX (cutbox-door.mjs). By AI agents, Wed Nov 11 2026. No macro, syntax, notation, axiom, sorry.
-/
import Derived.Test.YthjombepcmebfaaGreatDoorRows
import GoSem.ClaimSeven
namespace Go.Proofs.YthjombepcmebfaaGreatDoor
namespace Rows

/-- THE TIED CARD OF 'pandectlaw05.RangesParses'. -/
def rangesParsesCard : Claim7 := { stood := { row := rangesParsesRow, standIns := [], harness := (true, "6f4f90e5af220920a8e56c52262b56a1a3a7844db70bb21fc5ef70a7f84d1c08"), looks := true }, kinds := [], alts := [], laidByText := true, laidKinds := [.data, .data, .data, .data, .sentinel, .sentinel, .data, .pinned], laidTests := true, laidLooks := .later }
def RangesParsesCardSaid : Prop := Claim7.holds Tryz.pinned (.plain (OpenSpec.ofChange rangesParsesSpec)) rangesParsesCard

/-- THE TIED CARD OF 'pandectlaw05.RangesShows'. -/
def rangesShowsCard : Claim7 := { stood := { row := rangesShowsRow, standIns := [], harness := (true, "6f4f90e5af220920a8e56c52262b56a1a3a7844db70bb21fc5ef70a7f84d1c08"), looks := true }, kinds := [], alts := [], laidByText := true, laidKinds := [.data, .data, .data, .data, .sentinel, .sentinel, .data, .pinned], laidTests := true, laidLooks := .later }
def RangesShowsCardSaid : Prop := Claim7.holds Tryz.pinned (.plain (OpenSpec.ofChange rangesShowsSpec)) rangesShowsCard

/-- THE TIED CARD OF 'pandectlaw05.RangesMeets'. -/
def rangesMeetsCard : Claim7 := { stood := { row := rangesMeetsRow, standIns := [], harness := (true, "6f4f90e5af220920a8e56c52262b56a1a3a7844db70bb21fc5ef70a7f84d1c08"), looks := true }, kinds := [], alts := [], laidByText := true, laidKinds := [.data, .data, .data, .data, .sentinel, .sentinel, .data, .pinned], laidTests := true, laidLooks := .later }
def RangesMeetsCardSaid : Prop := Claim7.holds Tryz.pinned (.plain (OpenSpec.ofChange rangesMeetsSpec)) rangesMeetsCard

/-- THE TIED CARD OF 'pandectlaw05.RangesNormals'. -/
def rangesNormalsCard : Claim7 := { stood := { row := rangesNormalsRow, standIns := [], harness := (true, "6f4f90e5af220920a8e56c52262b56a1a3a7844db70bb21fc5ef70a7f84d1c08"), looks := true }, kinds := [], alts := [], laidByText := true, laidKinds := [.data, .data, .data, .data, .sentinel, .sentinel, .data, .pinned], laidTests := true, laidLooks := .later }
def RangesNormalsCardSaid : Prop := Claim7.holds Tryz.pinned (.plain (OpenSpec.ofChange rangesNormalsSpec)) rangesNormalsCard

/-- THE TIED CARD OF 'pandectlaw05.RangesBack'. -/
def rangesBackCard : Claim7 := { stood := { row := rangesBackRow, standIns := [], harness := (true, "6f4f90e5af220920a8e56c52262b56a1a3a7844db70bb21fc5ef70a7f84d1c08"), looks := true }, kinds := [], alts := [], laidByText := true, laidKinds := [.data, .data, .data, .data, .sentinel, .sentinel, .data, .pinned], laidTests := true, laidLooks := .later }
def RangesBackCardSaid : Prop := Claim7.holds Tryz.pinned (.plain (OpenSpec.ofChange rangesBackSpec)) rangesBackCard

/-- THE TIED CARD OF 'pandectlaw05.RangesBoth'. -/
def rangesBothCard : Claim7 := { stood := { row := rangesBothRow, standIns := [], harness := (true, "6f4f90e5af220920a8e56c52262b56a1a3a7844db70bb21fc5ef70a7f84d1c08"), looks := true }, kinds := [], alts := [], laidByText := true, laidKinds := [.data, .data, .data, .data, .sentinel, .sentinel, .data, .pinned], laidTests := true, laidLooks := .later }
def RangesBothCardSaid : Prop := Claim7.holds Tryz.pinned (.plain (OpenSpec.ofChange rangesBothSpec)) rangesBothCard

/-- THE TIED CARD OF 'pandectlaw05.RangesNormal'. -/
def rangesNormalCard : Claim7 := { stood := { row := rangesNormalRow, standIns := [], harness := (true, "6f4f90e5af220920a8e56c52262b56a1a3a7844db70bb21fc5ef70a7f84d1c08"), looks := true }, kinds := [], alts := [], laidByText := true, laidKinds := [.data, .data, .data, .data, .sentinel, .sentinel, .data, .pinned], laidTests := true, laidLooks := .later }
def RangesNormalCardSaid : Prop := Claim7.holds Tryz.pinned (.plain (OpenSpec.ofChange rangesNormalSpec)) rangesNormalCard

/-- THE TIED CARD OF 'pandectlaw05.RangesNear'. -/
def rangesNearCard : Claim7 := { stood := { row := rangesNearRow, standIns := [], harness := (true, "6f4f90e5af220920a8e56c52262b56a1a3a7844db70bb21fc5ef70a7f84d1c08"), looks := true }, kinds := [], alts := [], laidByText := true, laidKinds := [.data, .data, .data, .data, .sentinel, .sentinel, .data, .pinned], laidTests := true, laidLooks := .later }
def RangesNearCardSaid : Prop := Claim7.holds Tryz.pinned (.plain (OpenSpec.ofChange rangesNearSpec)) rangesNearCard

/-- THE SECOND FORM's CARD OF 'pandectlaw05.RangesParses'. -/
def rangesParsesUptoCard : Claim7 := { stood := { row := rangesParsesUptoRow, standIns := [], harness := (true, "6f4f90e5af220920a8e56c52262b56a1a3a7844db70bb21fc5ef70a7f84d1c08"), looks := true }, kinds := [], alts := [], laidByText := true, laidKinds := [.data, .data, .data, .data, .sentinel, .sentinel, .data, .pinned], laidTests := true, laidLooks := .later }
def RangesParsesUptoCardSaid : Prop := Claim7.holds Tryz.pinned (.plain (OpenSpec.upto rangesParsesSpec)) rangesParsesUptoCard

/-- THE SECOND FORM's CARD OF 'pandectlaw05.RangesShows'. -/
def rangesShowsUptoCard : Claim7 := { stood := { row := rangesShowsUptoRow, standIns := [], harness := (true, "6f4f90e5af220920a8e56c52262b56a1a3a7844db70bb21fc5ef70a7f84d1c08"), looks := true }, kinds := [], alts := [], laidByText := true, laidKinds := [.data, .data, .data, .data, .sentinel, .sentinel, .data, .pinned], laidTests := true, laidLooks := .later }
def RangesShowsUptoCardSaid : Prop := Claim7.holds Tryz.pinned (.plain (OpenSpec.upto rangesShowsSpec)) rangesShowsUptoCard

/-- THE SECOND FORM's CARD OF 'pandectlaw05.RangesMeets'. -/
def rangesMeetsUptoCard : Claim7 := { stood := { row := rangesMeetsUptoRow, standIns := [], harness := (true, "6f4f90e5af220920a8e56c52262b56a1a3a7844db70bb21fc5ef70a7f84d1c08"), looks := true }, kinds := [], alts := [], laidByText := true, laidKinds := [.data, .data, .data, .data, .sentinel, .sentinel, .data, .pinned], laidTests := true, laidLooks := .later }
def RangesMeetsUptoCardSaid : Prop := Claim7.holds Tryz.pinned (.plain (OpenSpec.upto rangesMeetsSpec)) rangesMeetsUptoCard

/-- THE SECOND FORM's CARD OF 'pandectlaw05.RangesNormals'. -/
def rangesNormalsUptoCard : Claim7 := { stood := { row := rangesNormalsUptoRow, standIns := [], harness := (true, "6f4f90e5af220920a8e56c52262b56a1a3a7844db70bb21fc5ef70a7f84d1c08"), looks := true }, kinds := [], alts := [], laidByText := true, laidKinds := [.data, .data, .data, .data, .sentinel, .sentinel, .data, .pinned], laidTests := true, laidLooks := .later }
def RangesNormalsUptoCardSaid : Prop := Claim7.holds Tryz.pinned (.plain (OpenSpec.upto rangesNormalsSpec)) rangesNormalsUptoCard

/-- THE SECOND FORM's CARD OF 'pandectlaw05.RangesBack'. -/
def rangesBackUptoCard : Claim7 := { stood := { row := rangesBackUptoRow, standIns := [], harness := (true, "6f4f90e5af220920a8e56c52262b56a1a3a7844db70bb21fc5ef70a7f84d1c08"), looks := true }, kinds := [], alts := [], laidByText := true, laidKinds := [.data, .data, .data, .data, .sentinel, .sentinel, .data, .pinned], laidTests := true, laidLooks := .later }
def RangesBackUptoCardSaid : Prop := Claim7.holds Tryz.pinned (.plain (OpenSpec.upto rangesBackSpec)) rangesBackUptoCard

/-- THE SECOND FORM's CARD OF 'pandectlaw05.RangesBoth'. -/
def rangesBothUptoCard : Claim7 := { stood := { row := rangesBothUptoRow, standIns := [], harness := (true, "6f4f90e5af220920a8e56c52262b56a1a3a7844db70bb21fc5ef70a7f84d1c08"), looks := true }, kinds := [], alts := [], laidByText := true, laidKinds := [.data, .data, .data, .data, .sentinel, .sentinel, .data, .pinned], laidTests := true, laidLooks := .later }
def RangesBothUptoCardSaid : Prop := Claim7.holds Tryz.pinned (.plain (OpenSpec.upto rangesBothSpec)) rangesBothUptoCard

/-- THE SECOND FORM's CARD OF 'pandectlaw05.RangesNormal'. -/
def rangesNormalUptoCard : Claim7 := { stood := { row := rangesNormalUptoRow, standIns := [], harness := (true, "6f4f90e5af220920a8e56c52262b56a1a3a7844db70bb21fc5ef70a7f84d1c08"), looks := true }, kinds := [], alts := [], laidByText := true, laidKinds := [.data, .data, .data, .data, .sentinel, .sentinel, .data, .pinned], laidTests := true, laidLooks := .later }
def RangesNormalUptoCardSaid : Prop := Claim7.holds Tryz.pinned (.plain (OpenSpec.upto rangesNormalSpec)) rangesNormalUptoCard

/-- THE SECOND FORM's CARD OF 'pandectlaw05.RangesNear'. -/
def rangesNearUptoCard : Claim7 := { stood := { row := rangesNearUptoRow, standIns := [], harness := (true, "6f4f90e5af220920a8e56c52262b56a1a3a7844db70bb21fc5ef70a7f84d1c08"), looks := true }, kinds := [], alts := [], laidByText := true, laidKinds := [.data, .data, .data, .data, .sentinel, .sentinel, .data, .pinned], laidTests := true, laidLooks := .later }
def RangesNearUptoCardSaid : Prop := Claim7.holds Tryz.pinned (.plain (OpenSpec.upto rangesNearSpec)) rangesNearUptoCard
end Rows
end Go.Proofs.YthjombepcmebfaaGreatDoor
