/-
  DERIVED. GIVEN WITH THE SEED: THE CARDS: each row of YtmeiijjpomcgcaaDoorRows.lean that lists a variable, with what it lists TIED to the program's text (the seventh form; the later family's looks); each row that meets fmt, with fmt's text TOLD by the authors' own Lean function (tested against real Go, not proved from fmt's source: count such statements apart). THE CARD IS WHAT COUNTS. Prove the row's statement (the work); the ties are given (YtmeiijjpomcgcaaDoorTie.lean); close each card by the builder's one call (the guide's Derived/Test/ToyasCard.lean, 'card_holds'). Laid BY PROGRAM, IN A SANDBOX (cutbox-door.mjs). By AI agents, Wed Nov 11 2026. No macro, syntax, notation, axiom, sorry.
-/
import Derived.Test.YtmeiijjpomcgcaaDoorRows
import GoSem.ClaimSeven
namespace Go.Proofs.YtmeiijjpomcgcaaDoor
namespace Rows

/-- THE TIED CARD OF 'pandectlaw11.ExpandResolves'. -/
def expandResolvesCard : Claim7 := { stood := { row := expandResolvesRow, standIns := [], harness := (true, "6741c6c8e149c591445254967b2498f8a8f02eca0080f08cb59c3a681cf751ea"), looks := false }, kinds := [], alts := [], laidByText := true, laidKinds := [.data], laidTests := true, laidLooks := .later }
def ExpandResolvesCardSaid : Prop := Claim7.holds Tryd.pinned (.plain (OpenSpec.ofChange expandResolvesSpec)) expandResolvesCard

/-- THE TIED CARD OF 'pandectlaw11.ExpandTypes'. -/
def expandTypesCard : Claim7 := { stood := { row := expandTypesRow, standIns := [], harness := (true, "6741c6c8e149c591445254967b2498f8a8f02eca0080f08cb59c3a681cf751ea"), looks := false }, kinds := [], alts := [], laidByText := true, laidKinds := [.data], laidTests := true, laidLooks := .later }
def ExpandTypesCardSaid : Prop := Claim7.holds Tryd.pinned (.plain (OpenSpec.ofChange expandTypesSpec)) expandTypesCard

/-- THE TIED CARD OF 'pandectlaw11.ExpandDeclares'. -/
def expandDeclaresCard : Claim7 := { stood := { row := expandDeclaresRow, standIns := [], harness := (true, "6741c6c8e149c591445254967b2498f8a8f02eca0080f08cb59c3a681cf751ea"), looks := false }, kinds := [], alts := [], laidByText := true, laidKinds := [.data], laidTests := true, laidLooks := .later }
def ExpandDeclaresCardSaid : Prop := Claim7.holds Tryd.pinned (.plain (OpenSpec.ofChange expandDeclaresSpec)) expandDeclaresCard

/-- THE TIED CARD OF 'pandectlaw11.ExpandMore'. -/
def expandMoreCard : Claim7 := { stood := { row := expandMoreRow, standIns := [], harness := (true, "6741c6c8e149c591445254967b2498f8a8f02eca0080f08cb59c3a681cf751ea"), looks := false }, kinds := [], alts := [], laidByText := true, laidKinds := [.data], laidTests := true, laidLooks := .later }
def ExpandMoreCardSaid : Prop := Claim7.holds Tryd.pinned (.plain (OpenSpec.ofChange expandMoreSpec)) expandMoreCard

/-- THE SECOND FORM's CARD OF 'pandectlaw11.ExpandResolves'. -/
def expandResolvesUptoCard : Claim7 := { stood := { row := expandResolvesUptoRow, standIns := [], harness := (true, "6741c6c8e149c591445254967b2498f8a8f02eca0080f08cb59c3a681cf751ea"), looks := false }, kinds := [], alts := [], laidByText := true, laidKinds := [.data], laidTests := true, laidLooks := .later }
def ExpandResolvesUptoCardSaid : Prop := Claim7.holds Tryd.pinned (.plain (OpenSpec.upto expandResolvesSpec)) expandResolvesUptoCard

/-- THE SECOND FORM's CARD OF 'pandectlaw11.ExpandTypes'. -/
def expandTypesUptoCard : Claim7 := { stood := { row := expandTypesUptoRow, standIns := [], harness := (true, "6741c6c8e149c591445254967b2498f8a8f02eca0080f08cb59c3a681cf751ea"), looks := false }, kinds := [], alts := [], laidByText := true, laidKinds := [.data], laidTests := true, laidLooks := .later }
def ExpandTypesUptoCardSaid : Prop := Claim7.holds Tryd.pinned (.plain (OpenSpec.upto expandTypesSpec)) expandTypesUptoCard

/-- THE SECOND FORM's CARD OF 'pandectlaw11.ExpandDeclares'. -/
def expandDeclaresUptoCard : Claim7 := { stood := { row := expandDeclaresUptoRow, standIns := [], harness := (true, "6741c6c8e149c591445254967b2498f8a8f02eca0080f08cb59c3a681cf751ea"), looks := false }, kinds := [], alts := [], laidByText := true, laidKinds := [.data], laidTests := true, laidLooks := .later }
def ExpandDeclaresUptoCardSaid : Prop := Claim7.holds Tryd.pinned (.plain (OpenSpec.upto expandDeclaresSpec)) expandDeclaresUptoCard

/-- THE SECOND FORM's CARD OF 'pandectlaw11.ExpandMore'. -/
def expandMoreUptoCard : Claim7 := { stood := { row := expandMoreUptoRow, standIns := [], harness := (true, "6741c6c8e149c591445254967b2498f8a8f02eca0080f08cb59c3a681cf751ea"), looks := false }, kinds := [], alts := [], laidByText := true, laidKinds := [.data], laidTests := true, laidLooks := .later }
def ExpandMoreUptoCardSaid : Prop := Claim7.holds Tryd.pinned (.plain (OpenSpec.upto expandMoreSpec)) expandMoreUptoCard
end Rows
end Go.Proofs.YtmeiijjpomcgcaaDoor
