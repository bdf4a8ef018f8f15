/-
  DERIVED. GIVEN WITH THE SEED: THE CARDS: each row of YtlomianlcnmfgaaDoorRows.lean that lists a variable, with what it lists TIED to the program's text (the seventh form; the later family's looks); each row that meets fmt, with fmt's text TOLD by the authors' own Lean function (tested against real Go, not proved from fmt's source: count such statements apart). THE CARD IS WHAT COUNTS. Prove the row's statement (the work); the ties are given (YtlomianlcnmfgaaDoorTie.lean); close each card by the builder's one call (the guide's Derived/Test/ToyasCard.lean, 'card_holds'). Laid BY PROGRAM, IN A SANDBOX (cutbox-door.mjs). By AI agents, Wed Nov 11 2026. No macro, syntax, notation, axiom, sorry.
-/
import Derived.Test.YtlomianlcnmfgaaDoorRows
import GoSem.ClaimSeven
namespace Go.Proofs.YtlomianlcnmfgaaDoor
namespace Rows

/-- THE TIED CARD OF 'pandectlaw12.SubtypeBelows'. -/
def subtypeBelowsCard : Claim7 := { stood := { row := subtypeBelowsRow, standIns := [], harness := (true, "f4a975f4e851343bc1d73e4675cb030a46b07b7c4c18195be5cce43ce18afcf6"), looks := false }, kinds := [], alts := [], laidByText := true, laidKinds := [.data], laidTests := true, laidLooks := .later }
def SubtypeBelowsCardSaid : Prop := Claim7.holds Tryd.pinned (.plain (OpenSpec.ofChange subtypeBelowsSpec)) subtypeBelowsCard

/-- THE TIED CARD OF 'pandectlaw12.SubtypeOrder'. -/
def subtypeOrderCard : Claim7 := { stood := { row := subtypeOrderRow, standIns := [], harness := (true, "f4a975f4e851343bc1d73e4675cb030a46b07b7c4c18195be5cce43ce18afcf6"), looks := false }, kinds := [], alts := [], laidByText := true, laidKinds := [.data], laidTests := true, laidLooks := .later }
def SubtypeOrderCardSaid : Prop := Claim7.holds Tryd.pinned (.plain (OpenSpec.ofChange subtypeOrderSpec)) subtypeOrderCard

/-- THE TIED CARD OF 'pandectlaw12.SubtypeLeast'. -/
def subtypeLeastCard : Claim7 := { stood := { row := subtypeLeastRow, standIns := [], harness := (true, "f4a975f4e851343bc1d73e4675cb030a46b07b7c4c18195be5cce43ce18afcf6"), looks := false }, kinds := [], alts := [], laidByText := true, laidKinds := [.data], laidTests := true, laidLooks := .later }
def SubtypeLeastCardSaid : Prop := Claim7.holds Tryd.pinned (.plain (OpenSpec.ofChange subtypeLeastSpec)) subtypeLeastCard

/-- THE TIED CARD OF 'pandectlaw12.SubtypeGreatest'. -/
def subtypeGreatestCard : Claim7 := { stood := { row := subtypeGreatestRow, standIns := [], harness := (true, "f4a975f4e851343bc1d73e4675cb030a46b07b7c4c18195be5cce43ce18afcf6"), looks := false }, kinds := [], alts := [], laidByText := true, laidKinds := [.data], laidTests := true, laidLooks := .later }
def SubtypeGreatestCardSaid : Prop := Claim7.holds Tryd.pinned (.plain (OpenSpec.ofChange subtypeGreatestSpec)) subtypeGreatestCard

/-- THE TIED CARD OF 'pandectlaw12.SubtypeBoth'. -/
def subtypeBothCard : Claim7 := { stood := { row := subtypeBothRow, standIns := [], harness := (true, "f4a975f4e851343bc1d73e4675cb030a46b07b7c4c18195be5cce43ce18afcf6"), looks := false }, kinds := [], alts := [], laidByText := true, laidKinds := [.data], laidTests := true, laidLooks := .later }
def SubtypeBothCardSaid : Prop := Claim7.holds Tryd.pinned (.plain (OpenSpec.ofChange subtypeBothSpec)) subtypeBothCard

/-- THE SECOND FORM's CARD OF 'pandectlaw12.SubtypeBelows'. -/
def subtypeBelowsUptoCard : Claim7 := { stood := { row := subtypeBelowsUptoRow, standIns := [], harness := (true, "f4a975f4e851343bc1d73e4675cb030a46b07b7c4c18195be5cce43ce18afcf6"), looks := false }, kinds := [], alts := [], laidByText := true, laidKinds := [.data], laidTests := true, laidLooks := .later }
def SubtypeBelowsUptoCardSaid : Prop := Claim7.holds Tryd.pinned (.plain (OpenSpec.upto subtypeBelowsSpec)) subtypeBelowsUptoCard

/-- THE SECOND FORM's CARD OF 'pandectlaw12.SubtypeOrder'. -/
def subtypeOrderUptoCard : Claim7 := { stood := { row := subtypeOrderUptoRow, standIns := [], harness := (true, "f4a975f4e851343bc1d73e4675cb030a46b07b7c4c18195be5cce43ce18afcf6"), looks := false }, kinds := [], alts := [], laidByText := true, laidKinds := [.data], laidTests := true, laidLooks := .later }
def SubtypeOrderUptoCardSaid : Prop := Claim7.holds Tryd.pinned (.plain (OpenSpec.upto subtypeOrderSpec)) subtypeOrderUptoCard

/-- THE SECOND FORM's CARD OF 'pandectlaw12.SubtypeLeast'. -/
def subtypeLeastUptoCard : Claim7 := { stood := { row := subtypeLeastUptoRow, standIns := [], harness := (true, "f4a975f4e851343bc1d73e4675cb030a46b07b7c4c18195be5cce43ce18afcf6"), looks := false }, kinds := [], alts := [], laidByText := true, laidKinds := [.data], laidTests := true, laidLooks := .later }
def SubtypeLeastUptoCardSaid : Prop := Claim7.holds Tryd.pinned (.plain (OpenSpec.upto subtypeLeastSpec)) subtypeLeastUptoCard

/-- THE SECOND FORM's CARD OF 'pandectlaw12.SubtypeGreatest'. -/
def subtypeGreatestUptoCard : Claim7 := { stood := { row := subtypeGreatestUptoRow, standIns := [], harness := (true, "f4a975f4e851343bc1d73e4675cb030a46b07b7c4c18195be5cce43ce18afcf6"), looks := false }, kinds := [], alts := [], laidByText := true, laidKinds := [.data], laidTests := true, laidLooks := .later }
def SubtypeGreatestUptoCardSaid : Prop := Claim7.holds Tryd.pinned (.plain (OpenSpec.upto subtypeGreatestSpec)) subtypeGreatestUptoCard

/-- THE SECOND FORM's CARD OF 'pandectlaw12.SubtypeBoth'. -/
def subtypeBothUptoCard : Claim7 := { stood := { row := subtypeBothUptoRow, standIns := [], harness := (true, "f4a975f4e851343bc1d73e4675cb030a46b07b7c4c18195be5cce43ce18afcf6"), looks := false }, kinds := [], alts := [], laidByText := true, laidKinds := [.data], laidTests := true, laidLooks := .later }
def SubtypeBothUptoCardSaid : Prop := Claim7.holds Tryd.pinned (.plain (OpenSpec.upto subtypeBothSpec)) subtypeBothUptoCard
end Rows
end Go.Proofs.YtlomianlcnmfgaaDoor
