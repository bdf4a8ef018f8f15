/-
  DERIVED. GIVEN WITH THE SEED: THE CARDS: each row of YtkehnmapnckdgaaDoorRows.lean that lists a variable, with what it lists TIED to the program's text (the seventh form; the later family's looks); each row that meets fmt, with fmt's text TOLD by the authors' own Lean function (tested against real Go, not proved from fmt's source: count such statements apart). THE CARD IS WHAT COUNTS. Prove the row's statement (the work); the ties are given (YtkehnmapnckdgaaDoorTie.lean); close each card by the builder's one call (the guide's Derived/Test/ToyasCard.lean, 'card_holds'). Laid BY PROGRAM, IN A SANDBOX (cutbox-door.mjs). By AI agents, Wed Nov 11 2026. No macro, syntax, notation, axiom, sorry.
-/
import Derived.Test.YtkehnmapnckdgaaDoorRows
import GoSem.ClaimSeven
namespace Go.Proofs.YtkehnmapnckdgaaDoor
namespace Rows

/-- THE TIED CARD OF 'pandectlaw07.ShapeChecks'. -/
def shapeChecksCard : Claim7 := { stood := { row := shapeChecksRow, standIns := [], harness := (true, "37d3ab9aadcaf439527367b5bca2dd8d9712afc481ab0bcdf8c8cd7306caab1b"), looks := false }, kinds := [], alts := [], laidByText := true, laidKinds := [.data], laidTests := true, laidLooks := .later }
def ShapeChecksCardSaid : Prop := Claim7.holds Tryd.pinned (.plain (OpenSpec.ofChange shapeChecksSpec)) shapeChecksCard

/-- THE TIED CARD OF 'pandectlaw07.ShapeSorts'. -/
def shapeSortsCard : Claim7 := { stood := { row := shapeSortsRow, standIns := [], harness := (true, "37d3ab9aadcaf439527367b5bca2dd8d9712afc481ab0bcdf8c8cd7306caab1b"), looks := false }, kinds := [], alts := [], laidByText := true, laidKinds := [.data], laidTests := true, laidLooks := .later }
def ShapeSortsCardSaid : Prop := Claim7.holds Tryd.pinned (.plain (OpenSpec.ofChange shapeSortsSpec)) shapeSortsCard

/-- THE TIED CARD OF 'pandectlaw07.ShapeSames'. -/
def shapeSamesCard : Claim7 := { stood := { row := shapeSamesRow, standIns := [], harness := (true, "37d3ab9aadcaf439527367b5bca2dd8d9712afc481ab0bcdf8c8cd7306caab1b"), looks := false }, kinds := [], alts := [], laidByText := true, laidKinds := [.data], laidTests := true, laidLooks := .later }
def ShapeSamesCardSaid : Prop := Claim7.holds Tryd.pinned (.plain (OpenSpec.ofChange shapeSamesSpec)) shapeSamesCard

/-- THE TIED CARD OF 'pandectlaw07.ShapeShows'. -/
def shapeShowsCard : Claim7 := { stood := { row := shapeShowsRow, standIns := [], harness := (true, "37d3ab9aadcaf439527367b5bca2dd8d9712afc481ab0bcdf8c8cd7306caab1b"), looks := false }, kinds := [], alts := [], laidByText := true, laidKinds := [.data], laidTests := true, laidLooks := .later }
def ShapeShowsCardSaid : Prop := Claim7.holds Tryd.pinned (.plain (OpenSpec.ofChange shapeShowsSpec)) shapeShowsCard

/-- THE TIED CARD OF 'pandectlaw07.ShapeTurned'. -/
def shapeTurnedCard : Claim7 := { stood := { row := shapeTurnedRow, standIns := [], harness := (true, "37d3ab9aadcaf439527367b5bca2dd8d9712afc481ab0bcdf8c8cd7306caab1b"), looks := false }, kinds := [], alts := [], laidByText := true, laidKinds := [.data], laidTests := true, laidLooks := .later }
def ShapeTurnedCardSaid : Prop := Claim7.holds Tryd.pinned (.plain (OpenSpec.ofChange shapeTurnedSpec)) shapeTurnedCard

/-- THE TIED CARD OF 'pandectlaw07.ShapeSame'. -/
def shapeSameCard : Claim7 := { stood := { row := shapeSameRow, standIns := [], harness := (true, "37d3ab9aadcaf439527367b5bca2dd8d9712afc481ab0bcdf8c8cd7306caab1b"), looks := false }, kinds := [], alts := [], laidByText := true, laidKinds := [.data], laidTests := true, laidLooks := .later }
def ShapeSameCardSaid : Prop := Claim7.holds Tryd.pinned (.plain (OpenSpec.ofChange shapeSameSpec)) shapeSameCard

/-- THE SECOND FORM's CARD OF 'pandectlaw07.ShapeChecks'. -/
def shapeChecksUptoCard : Claim7 := { stood := { row := shapeChecksUptoRow, standIns := [], harness := (true, "37d3ab9aadcaf439527367b5bca2dd8d9712afc481ab0bcdf8c8cd7306caab1b"), looks := false }, kinds := [], alts := [], laidByText := true, laidKinds := [.data], laidTests := true, laidLooks := .later }
def ShapeChecksUptoCardSaid : Prop := Claim7.holds Tryd.pinned (.plain (OpenSpec.upto shapeChecksSpec)) shapeChecksUptoCard

/-- THE SECOND FORM's CARD OF 'pandectlaw07.ShapeSorts'. -/
def shapeSortsUptoCard : Claim7 := { stood := { row := shapeSortsUptoRow, standIns := [], harness := (true, "37d3ab9aadcaf439527367b5bca2dd8d9712afc481ab0bcdf8c8cd7306caab1b"), looks := false }, kinds := [], alts := [], laidByText := true, laidKinds := [.data], laidTests := true, laidLooks := .later }
def ShapeSortsUptoCardSaid : Prop := Claim7.holds Tryd.pinned (.plain (OpenSpec.upto shapeSortsSpec)) shapeSortsUptoCard

/-- THE SECOND FORM's CARD OF 'pandectlaw07.ShapeSames'. -/
def shapeSamesUptoCard : Claim7 := { stood := { row := shapeSamesUptoRow, standIns := [], harness := (true, "37d3ab9aadcaf439527367b5bca2dd8d9712afc481ab0bcdf8c8cd7306caab1b"), looks := false }, kinds := [], alts := [], laidByText := true, laidKinds := [.data], laidTests := true, laidLooks := .later }
def ShapeSamesUptoCardSaid : Prop := Claim7.holds Tryd.pinned (.plain (OpenSpec.upto shapeSamesSpec)) shapeSamesUptoCard

/-- THE SECOND FORM's CARD OF 'pandectlaw07.ShapeShows'. -/
def shapeShowsUptoCard : Claim7 := { stood := { row := shapeShowsUptoRow, standIns := [], harness := (true, "37d3ab9aadcaf439527367b5bca2dd8d9712afc481ab0bcdf8c8cd7306caab1b"), looks := false }, kinds := [], alts := [], laidByText := true, laidKinds := [.data], laidTests := true, laidLooks := .later }
def ShapeShowsUptoCardSaid : Prop := Claim7.holds Tryd.pinned (.plain (OpenSpec.upto shapeShowsSpec)) shapeShowsUptoCard

/-- THE SECOND FORM's CARD OF 'pandectlaw07.ShapeTurned'. -/
def shapeTurnedUptoCard : Claim7 := { stood := { row := shapeTurnedUptoRow, standIns := [], harness := (true, "37d3ab9aadcaf439527367b5bca2dd8d9712afc481ab0bcdf8c8cd7306caab1b"), looks := false }, kinds := [], alts := [], laidByText := true, laidKinds := [.data], laidTests := true, laidLooks := .later }
def ShapeTurnedUptoCardSaid : Prop := Claim7.holds Tryd.pinned (.plain (OpenSpec.upto shapeTurnedSpec)) shapeTurnedUptoCard

/-- THE SECOND FORM's CARD OF 'pandectlaw07.ShapeSame'. -/
def shapeSameUptoCard : Claim7 := { stood := { row := shapeSameUptoRow, standIns := [], harness := (true, "37d3ab9aadcaf439527367b5bca2dd8d9712afc481ab0bcdf8c8cd7306caab1b"), looks := false }, kinds := [], alts := [], laidByText := true, laidKinds := [.data], laidTests := true, laidLooks := .later }
def ShapeSameUptoCardSaid : Prop := Claim7.holds Tryd.pinned (.plain (OpenSpec.upto shapeSameSpec)) shapeSameUptoCard
end Rows
end Go.Proofs.YtkehnmapnckdgaaDoor
