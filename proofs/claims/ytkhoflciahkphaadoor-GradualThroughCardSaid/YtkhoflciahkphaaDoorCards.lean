/-
  DERIVED. GIVEN WITH THE SEED: THE CARDS: each row of YtkhoflciahkphaaDoorRows.lean that lists a variable, with what it lists TIED to the program's text (the seventh form; the later family's looks); each row that meets fmt, with fmt's text TOLD by the authors' own Lean function (tested against real Go, not proved from fmt's source: count such statements apart). THE CARD IS WHAT COUNTS. Prove the row's statement (the work); the ties are given (YtkhoflciahkphaaDoorTie.lean); close each card by the builder's one call (the guide's Derived/Test/ToyasCard.lean, 'card_holds'). Laid BY PROGRAM, IN A SANDBOX (cutbox-door.mjs). By AI agents, Wed Nov 11 2026. No macro, syntax, notation, axiom, sorry.
-/
import Derived.Test.YtkhoflciahkphaaDoorRows
import GoSem.ClaimSeven
namespace Go.Proofs.YtkhoflciahkphaaDoor
namespace Rows

/-- THE TIED CARD OF 'pandectlaw13.GradualPlain'. -/
def gradualPlainCard : Claim7 := { stood := { row := gradualPlainRow, standIns := [], harness := (true, "a42f29b3538ccaf9ab3428cc8933112eed1b0fa573b05ce39f63b5ce76dca058"), looks := false }, kinds := [], alts := [], laidByText := true, laidKinds := [.data], laidTests := true, laidLooks := .later }
def GradualPlainCardSaid : Prop := Claim7.holds Tryd.pinned (.plain (OpenSpec.ofChange gradualPlainSpec)) gradualPlainCard

/-- THE TIED CARD OF 'pandectlaw13.GradualMoves'. -/
def gradualMovesCard : Claim7 := { stood := { row := gradualMovesRow, standIns := [], harness := (true, "a42f29b3538ccaf9ab3428cc8933112eed1b0fa573b05ce39f63b5ce76dca058"), looks := false }, kinds := [], alts := [], laidByText := true, laidKinds := [.data], laidTests := true, laidLooks := .later }
def GradualMovesCardSaid : Prop := Claim7.holds Tryd.pinned (.plain (OpenSpec.ofChange gradualMovesSpec)) gradualMovesCard

/-- THE TIED CARD OF 'pandectlaw13.GradualAlike'. -/
def gradualAlikeCard : Claim7 := { stood := { row := gradualAlikeRow, standIns := [], harness := (true, "a42f29b3538ccaf9ab3428cc8933112eed1b0fa573b05ce39f63b5ce76dca058"), looks := false }, kinds := [], alts := [], laidByText := true, laidKinds := [.data], laidTests := true, laidLooks := .later }
def GradualAlikeCardSaid : Prop := Claim7.holds Tryd.pinned (.plain (OpenSpec.ofChange gradualAlikeSpec)) gradualAlikeCard

/-- THE TIED CARD OF 'pandectlaw13.GradualWitness'. -/
def gradualWitnessCard : Claim7 := { stood := { row := gradualWitnessRow, standIns := [], harness := (true, "a42f29b3538ccaf9ab3428cc8933112eed1b0fa573b05ce39f63b5ce76dca058"), looks := false }, kinds := [], alts := [], laidByText := true, laidKinds := [.data], laidTests := true, laidLooks := .later }
def GradualWitnessCardSaid : Prop := Claim7.holds Tryd.pinned (.plain (OpenSpec.ofChange gradualWitnessSpec)) gradualWitnessCard

/-- THE TIED CARD OF 'pandectlaw13.GradualThrough'. -/
def gradualThroughCard : Claim7 := { stood := { row := gradualThroughRow, standIns := [], harness := (true, "a42f29b3538ccaf9ab3428cc8933112eed1b0fa573b05ce39f63b5ce76dca058"), looks := false }, kinds := [], alts := [], laidByText := true, laidKinds := [.data], laidTests := true, laidLooks := .later }
def GradualThroughCardSaid : Prop := Claim7.holds Tryd.pinned (.plain (OpenSpec.ofChange gradualThroughSpec)) gradualThroughCard

/-- THE SECOND FORM's CARD OF 'pandectlaw13.GradualPlain'. -/
def gradualPlainUptoCard : Claim7 := { stood := { row := gradualPlainUptoRow, standIns := [], harness := (true, "a42f29b3538ccaf9ab3428cc8933112eed1b0fa573b05ce39f63b5ce76dca058"), looks := false }, kinds := [], alts := [], laidByText := true, laidKinds := [.data], laidTests := true, laidLooks := .later }
def GradualPlainUptoCardSaid : Prop := Claim7.holds Tryd.pinned (.plain (OpenSpec.upto gradualPlainSpec)) gradualPlainUptoCard

/-- THE SECOND FORM's CARD OF 'pandectlaw13.GradualMoves'. -/
def gradualMovesUptoCard : Claim7 := { stood := { row := gradualMovesUptoRow, standIns := [], harness := (true, "a42f29b3538ccaf9ab3428cc8933112eed1b0fa573b05ce39f63b5ce76dca058"), looks := false }, kinds := [], alts := [], laidByText := true, laidKinds := [.data], laidTests := true, laidLooks := .later }
def GradualMovesUptoCardSaid : Prop := Claim7.holds Tryd.pinned (.plain (OpenSpec.upto gradualMovesSpec)) gradualMovesUptoCard

/-- THE SECOND FORM's CARD OF 'pandectlaw13.GradualAlike'. -/
def gradualAlikeUptoCard : Claim7 := { stood := { row := gradualAlikeUptoRow, standIns := [], harness := (true, "a42f29b3538ccaf9ab3428cc8933112eed1b0fa573b05ce39f63b5ce76dca058"), looks := false }, kinds := [], alts := [], laidByText := true, laidKinds := [.data], laidTests := true, laidLooks := .later }
def GradualAlikeUptoCardSaid : Prop := Claim7.holds Tryd.pinned (.plain (OpenSpec.upto gradualAlikeSpec)) gradualAlikeUptoCard

/-- THE SECOND FORM's CARD OF 'pandectlaw13.GradualWitness'. -/
def gradualWitnessUptoCard : Claim7 := { stood := { row := gradualWitnessUptoRow, standIns := [], harness := (true, "a42f29b3538ccaf9ab3428cc8933112eed1b0fa573b05ce39f63b5ce76dca058"), looks := false }, kinds := [], alts := [], laidByText := true, laidKinds := [.data], laidTests := true, laidLooks := .later }
def GradualWitnessUptoCardSaid : Prop := Claim7.holds Tryd.pinned (.plain (OpenSpec.upto gradualWitnessSpec)) gradualWitnessUptoCard

/-- THE SECOND FORM's CARD OF 'pandectlaw13.GradualThrough'. -/
def gradualThroughUptoCard : Claim7 := { stood := { row := gradualThroughUptoRow, standIns := [], harness := (true, "a42f29b3538ccaf9ab3428cc8933112eed1b0fa573b05ce39f63b5ce76dca058"), looks := false }, kinds := [], alts := [], laidByText := true, laidKinds := [.data], laidTests := true, laidLooks := .later }
def GradualThroughUptoCardSaid : Prop := Claim7.holds Tryd.pinned (.plain (OpenSpec.upto gradualThroughSpec)) gradualThroughUptoCard
end Rows
end Go.Proofs.YtkhoflciahkphaaDoor
