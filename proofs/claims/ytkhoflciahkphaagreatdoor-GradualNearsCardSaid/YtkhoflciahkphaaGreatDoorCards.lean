/-
  DERIVED. GIVEN WITH THE SEED: THE CARDS: each row of YtkhoflciahkphaaGreatDoorRows.lean that lists a variable, with what it lists TIED to the program's text (the seventh form; the later family's looks); each row that meets fmt, with fmt's text TOLD by the authors' own Lean function (tested against real Go, not proved from fmt's source: count such statements apart). THE CARD IS WHAT COUNTS. Prove the row's statement (the work); the ties are given (YtkhoflciahkphaaGreatDoorTie.lean); close each card by the builder's one call (the guide's Derived/Test/ToyasCard.lean, 'card_holds'). Laid BY PROGRAM, IN A SANDBOX (cutbox-door.mjs). By AI agents, Wed Nov 11 2026. No macro, syntax, notation, axiom, sorry.
-/
import Derived.Test.YtkhoflciahkphaaGreatDoorRows
import GoSem.ClaimSeven
namespace Go.Proofs.YtkhoflciahkphaaGreatDoor
namespace Rows

/-- THE TIED CARD OF 'pandectlaw13.GradualNears'. -/
def gradualNearsCard : Claim7 := { stood := { row := gradualNearsRow, standIns := [], harness := (true, "fba0c9b94e046cbb3b5b2dee20745ceb673019d0871e7b11e0b4917411ef5208"), looks := false }, kinds := [], alts := [], laidByText := true, laidKinds := [.data], laidTests := true, laidLooks := .later }
def GradualNearsCardSaid : Prop := Claim7.holds Tryz.pinned (.plain (OpenSpec.ofChange gradualNearsSpec)) gradualNearsCard

/-- THE TIED CARD OF 'pandectlaw13.GradualBetweens'. -/
def gradualBetweensCard : Claim7 := { stood := { row := gradualBetweensRow, standIns := [], harness := (true, "fba0c9b94e046cbb3b5b2dee20745ceb673019d0871e7b11e0b4917411ef5208"), looks := false }, kinds := [], alts := [], laidByText := true, laidKinds := [.data], laidTests := true, laidLooks := .later }
def GradualBetweensCardSaid : Prop := Claim7.holds Tryz.pinned (.plain (OpenSpec.ofChange gradualBetweensSpec)) gradualBetweensCard

/-- THE TIED CARD OF 'pandectlaw12.SubtypeJoins'. -/
def subtypeJoinsCard : Claim7 := { stood := { row := subtypeJoinsRow, standIns := [], harness := (true, "fba0c9b94e046cbb3b5b2dee20745ceb673019d0871e7b11e0b4917411ef5208"), looks := false }, kinds := [], alts := [], laidByText := true, laidKinds := [.data], laidTests := true, laidLooks := .later }
def SubtypeJoinsCardSaid : Prop := Claim7.holds Tryz.pinned (.plain (OpenSpec.ofChange subtypeJoinsSpec)) subtypeJoinsCard

/-- THE TIED CARD OF 'pandectlaw12.SubtypeMeets'. -/
def subtypeMeetsCard : Claim7 := { stood := { row := subtypeMeetsRow, standIns := [], harness := (true, "fba0c9b94e046cbb3b5b2dee20745ceb673019d0871e7b11e0b4917411ef5208"), looks := false }, kinds := [], alts := [], laidByText := true, laidKinds := [.data], laidTests := true, laidLooks := .later }
def SubtypeMeetsCardSaid : Prop := Claim7.holds Tryz.pinned (.plain (OpenSpec.ofChange subtypeMeetsSpec)) subtypeMeetsCard

/-- THE SECOND FORM's CARD OF 'pandectlaw13.GradualNears'. -/
def gradualNearsUptoCard : Claim7 := { stood := { row := gradualNearsUptoRow, standIns := [], harness := (true, "fba0c9b94e046cbb3b5b2dee20745ceb673019d0871e7b11e0b4917411ef5208"), looks := false }, kinds := [], alts := [], laidByText := true, laidKinds := [.data], laidTests := true, laidLooks := .later }
def GradualNearsUptoCardSaid : Prop := Claim7.holds Tryz.pinned (.plain (OpenSpec.upto gradualNearsSpec)) gradualNearsUptoCard

/-- THE SECOND FORM's CARD OF 'pandectlaw13.GradualBetweens'. -/
def gradualBetweensUptoCard : Claim7 := { stood := { row := gradualBetweensUptoRow, standIns := [], harness := (true, "fba0c9b94e046cbb3b5b2dee20745ceb673019d0871e7b11e0b4917411ef5208"), looks := false }, kinds := [], alts := [], laidByText := true, laidKinds := [.data], laidTests := true, laidLooks := .later }
def GradualBetweensUptoCardSaid : Prop := Claim7.holds Tryz.pinned (.plain (OpenSpec.upto gradualBetweensSpec)) gradualBetweensUptoCard

/-- THE SECOND FORM's CARD OF 'pandectlaw12.SubtypeJoins'. -/
def subtypeJoinsUptoCard : Claim7 := { stood := { row := subtypeJoinsUptoRow, standIns := [], harness := (true, "fba0c9b94e046cbb3b5b2dee20745ceb673019d0871e7b11e0b4917411ef5208"), looks := false }, kinds := [], alts := [], laidByText := true, laidKinds := [.data], laidTests := true, laidLooks := .later }
def SubtypeJoinsUptoCardSaid : Prop := Claim7.holds Tryz.pinned (.plain (OpenSpec.upto subtypeJoinsSpec)) subtypeJoinsUptoCard

/-- THE SECOND FORM's CARD OF 'pandectlaw12.SubtypeMeets'. -/
def subtypeMeetsUptoCard : Claim7 := { stood := { row := subtypeMeetsUptoRow, standIns := [], harness := (true, "fba0c9b94e046cbb3b5b2dee20745ceb673019d0871e7b11e0b4917411ef5208"), looks := false }, kinds := [], alts := [], laidByText := true, laidKinds := [.data], laidTests := true, laidLooks := .later }
def SubtypeMeetsUptoCardSaid : Prop := Claim7.holds Tryz.pinned (.plain (OpenSpec.upto subtypeMeetsSpec)) subtypeMeetsUptoCard
end Rows
end Go.Proofs.YtkhoflciahkphaaGreatDoor
