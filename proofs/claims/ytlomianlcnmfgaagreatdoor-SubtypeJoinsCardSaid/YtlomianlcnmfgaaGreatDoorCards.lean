/-
  DERIVED. GIVEN WITH THE SEED: THE CARDS: each row of YtlomianlcnmfgaaGreatDoorRows.lean that lists a variable, with what it lists TIED to the program's text (the seventh form; the later family's looks); each row that meets fmt, with fmt's text TOLD by the authors' own Lean function (tested against real Go, not proved from fmt's source: count such statements apart). THE CARD IS WHAT COUNTS. Prove the row's statement (the work); the ties are given (YtlomianlcnmfgaaGreatDoorTie.lean); close each card by the builder's one call (the guide's Derived/Test/ToyasCard.lean, 'card_holds'). Laid BY PROGRAM, IN A SANDBOX (cutbox-door.mjs). By AI agents, Wed Nov 11 2026. No macro, syntax, notation, axiom, sorry.
-/
import Derived.Test.YtlomianlcnmfgaaGreatDoorRows
import GoSem.ClaimSeven
namespace Go.Proofs.YtlomianlcnmfgaaGreatDoor
namespace Rows

/-- THE TIED CARD OF 'pandectlaw12.SubtypeJoins'. -/
def subtypeJoinsCard : Claim7 := { stood := { row := subtypeJoinsRow, standIns := [], harness := (true, "7e1db0e804fbec685054efb5f6263fba9d13fd94c5f68bb766a8c75b3ab017f1"), looks := false }, kinds := [], alts := [], laidByText := true, laidKinds := [.data], laidTests := true, laidLooks := .later }
def SubtypeJoinsCardSaid : Prop := Claim7.holds Tryz.pinned (.plain (OpenSpec.ofChange subtypeJoinsSpec)) subtypeJoinsCard

/-- THE TIED CARD OF 'pandectlaw12.SubtypeMeets'. -/
def subtypeMeetsCard : Claim7 := { stood := { row := subtypeMeetsRow, standIns := [], harness := (true, "7e1db0e804fbec685054efb5f6263fba9d13fd94c5f68bb766a8c75b3ab017f1"), looks := false }, kinds := [], alts := [], laidByText := true, laidKinds := [.data], laidTests := true, laidLooks := .later }
def SubtypeMeetsCardSaid : Prop := Claim7.holds Tryz.pinned (.plain (OpenSpec.ofChange subtypeMeetsSpec)) subtypeMeetsCard

/-- THE TIED CARD OF 'pandectlaw13.GradualBetweens'. -/
def gradualBetweensCard : Claim7 := { stood := { row := gradualBetweensRow, standIns := [], harness := (true, "7e1db0e804fbec685054efb5f6263fba9d13fd94c5f68bb766a8c75b3ab017f1"), looks := false }, kinds := [], alts := [], laidByText := true, laidKinds := [.data], laidTests := true, laidLooks := .later }
def GradualBetweensCardSaid : Prop := Claim7.holds Tryz.pinned (.plain (OpenSpec.ofChange gradualBetweensSpec)) gradualBetweensCard

/-- THE SECOND FORM's CARD OF 'pandectlaw12.SubtypeJoins'. -/
def subtypeJoinsUptoCard : Claim7 := { stood := { row := subtypeJoinsUptoRow, standIns := [], harness := (true, "7e1db0e804fbec685054efb5f6263fba9d13fd94c5f68bb766a8c75b3ab017f1"), looks := false }, kinds := [], alts := [], laidByText := true, laidKinds := [.data], laidTests := true, laidLooks := .later }
def SubtypeJoinsUptoCardSaid : Prop := Claim7.holds Tryz.pinned (.plain (OpenSpec.upto subtypeJoinsSpec)) subtypeJoinsUptoCard

/-- THE SECOND FORM's CARD OF 'pandectlaw12.SubtypeMeets'. -/
def subtypeMeetsUptoCard : Claim7 := { stood := { row := subtypeMeetsUptoRow, standIns := [], harness := (true, "7e1db0e804fbec685054efb5f6263fba9d13fd94c5f68bb766a8c75b3ab017f1"), looks := false }, kinds := [], alts := [], laidByText := true, laidKinds := [.data], laidTests := true, laidLooks := .later }
def SubtypeMeetsUptoCardSaid : Prop := Claim7.holds Tryz.pinned (.plain (OpenSpec.upto subtypeMeetsSpec)) subtypeMeetsUptoCard

/-- THE SECOND FORM's CARD OF 'pandectlaw13.GradualBetweens'. -/
def gradualBetweensUptoCard : Claim7 := { stood := { row := gradualBetweensUptoRow, standIns := [], harness := (true, "7e1db0e804fbec685054efb5f6263fba9d13fd94c5f68bb766a8c75b3ab017f1"), looks := false }, kinds := [], alts := [], laidByText := true, laidKinds := [.data], laidTests := true, laidLooks := .later }
def GradualBetweensUptoCardSaid : Prop := Claim7.holds Tryz.pinned (.plain (OpenSpec.upto gradualBetweensSpec)) gradualBetweensUptoCard
end Rows
end Go.Proofs.YtlomianlcnmfgaaGreatDoor
