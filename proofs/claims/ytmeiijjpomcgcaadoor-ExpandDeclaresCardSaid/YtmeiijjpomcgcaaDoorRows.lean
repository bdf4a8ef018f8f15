/-
  NARROWER THAN 'FOR EVERY INPUT', by the rows' own cells (each row's printed sentence says how): ExpandResolves: loops, laid · ExpandTypes: loops, laid · ExpandDeclares: loops, laid · ExpandMore: loops, laid.
  DERIVED. THE GIVEN ROWS OF THIS SEAT. 4 by the template 'for every input the law returns true; each argument reads behind the call as it read before'; 0 by the template 'total and deterministic' (their statements: YtmeiijjpomcgcaaDoorTotals.lean).
  GIVEN WITH THE SEED: the statements are not yours to turn. If you find one false, say at which input.
  Laid BY PROGRAM, IN A SANDBOX (cutbox-rows.mjs): the forced cells as the released guide's own fill.sh prints them over the translation e974a9388effd72f… (all of the seat's roots in one cut). By AI agents, Wed Nov 11 2026. No macro, syntax, notation, axiom, sorry.
-/
import Derived.Test.YtmeiijjpomcgcaaDoorChecked
import GoSem.Claim
import GoSem.ClaimJoined
import GoSem.ClaimMapViews
import Derived.JoinedTies
import Derived.KernelRfl
namespace Go.Proofs.YtmeiijjpomcgcaaDoor
/- THE CELL 'sum', in the pinned program and in every row, IS THE sha256 OF THE DUMP (.gsa) THAT YtmeiijjpomcgcaaDoorProg.lean LOADS. Nothing in Lean hashes anything: it is a label: what it is worth is what the hold of that sum in a sandbox is worth. -/
noncomputable def Tryd.pinned : Pinned := { name := "ytmeiijjpomcgcaadoor", sum := "e974a9388effd72f5f38347dc3d39ee159c3f7c667d43649fbf45de2b64de7ca", checked := Tryd.checked }
namespace Rows
def none {H : Type} : Left H := { results := [], args := [] }

/- WHAT THE LISTED PACKAGE-LEVEL VARIABLES READ AS WHEN THE CALL BEGINS. Each datum BY PROGRAM (the guide's laid-datum.mjs) off the statement by which the dump's own 'gosem.cut.vars' lays the variable. In a bare row this is a premise. The card (YtmeiijjpomcgcaaDoorCards.lean) ties it to the program's text. -/
def laid_pandect_shape_words {H : Type} : DataW H := .agg [.lit (.string []), .lit (.string [73, 110, 116]), .lit (.string [66, 111, 111, 108]), .lit (.string [84, 101, 120, 116]), .lit (.string [65, 110, 121])]

/-- 'pandectlaw11.ExpandResolves': WHATEVER THE INPUT: true; the input reads as it did. -/
def expandResolvesSpec : ChangeSpec := { name := "expandResolves", fn := fun _ => fun
  | [d1, d2] => { results := [.lit (.bool true)], args := [d1, d2] }
  | _ => none }
def expandResolvesRow : OpenClaim := { program := "ytmeiijjpomcgcaadoor", sum := "e974a9388effd72f5f38347dc3d39ee159c3f7c667d43649fbf45de2b64de7ca", func := "pandect/pandectlaw11.ExpandResolves", spec := "expandResolves", unfollowed := true, recurses := true, named := ["pandect/shape.words"], loops := true, plainKeys := false, apart := false, laid := [("pandect/shape.words", laid_pandect_shape_words)] }
def ExpandResolvesSaid : Prop := expandResolvesRow.holds Tryd.pinned (OpenSpec.ofChange expandResolvesSpec)

/-- ITS FALSE NEIGHBOUR: 'it returns false'. Refute it at one input. -/
def expandResolvesWrong : ChangeSpec := { name := "expandResolves", fn := fun _ => fun
  | [d1, d2] => { results := [.lit (.bool false)], args := [d1, d2] }
  | _ => none }
def ExpandResolvesWrongFalsely : Prop := expandResolvesRow.holds Tryd.pinned (OpenSpec.ofChange expandResolvesWrong)

/-- 'pandectlaw11.ExpandTypes': WHATEVER THE INPUT: true; the input reads as it did. -/
def expandTypesSpec : ChangeSpec := { name := "expandTypes", fn := fun _ => fun
  | [d1, d2] => { results := [.lit (.bool true)], args := [d1, d2] }
  | _ => none }
def expandTypesRow : OpenClaim := { program := "ytmeiijjpomcgcaadoor", sum := "e974a9388effd72f5f38347dc3d39ee159c3f7c667d43649fbf45de2b64de7ca", func := "pandect/pandectlaw11.ExpandTypes", spec := "expandTypes", unfollowed := true, recurses := true, named := ["pandect/shape.words"], loops := true, plainKeys := false, apart := false, laid := [("pandect/shape.words", laid_pandect_shape_words)] }
def ExpandTypesSaid : Prop := expandTypesRow.holds Tryd.pinned (OpenSpec.ofChange expandTypesSpec)

/-- ITS FALSE NEIGHBOUR: 'it returns false'. Refute it at one input. -/
def expandTypesWrong : ChangeSpec := { name := "expandTypes", fn := fun _ => fun
  | [d1, d2] => { results := [.lit (.bool false)], args := [d1, d2] }
  | _ => none }
def ExpandTypesWrongFalsely : Prop := expandTypesRow.holds Tryd.pinned (OpenSpec.ofChange expandTypesWrong)

/-- 'pandectlaw11.ExpandDeclares': WHATEVER THE INPUT: true; the input reads as it did. -/
def expandDeclaresSpec : ChangeSpec := { name := "expandDeclares", fn := fun _ => fun
  | [d1, d2, d3] => { results := [.lit (.bool true)], args := [d1, d2, d3] }
  | _ => none }
def expandDeclaresRow : OpenClaim := { program := "ytmeiijjpomcgcaadoor", sum := "e974a9388effd72f5f38347dc3d39ee159c3f7c667d43649fbf45de2b64de7ca", func := "pandect/pandectlaw11.ExpandDeclares", spec := "expandDeclares", unfollowed := true, recurses := true, named := ["pandect/shape.words"], loops := true, plainKeys := false, apart := false, laid := [("pandect/shape.words", laid_pandect_shape_words)] }
def ExpandDeclaresSaid : Prop := expandDeclaresRow.holds Tryd.pinned (OpenSpec.ofChange expandDeclaresSpec)

/-- ITS FALSE NEIGHBOUR: 'it returns false'. Refute it at one input. -/
def expandDeclaresWrong : ChangeSpec := { name := "expandDeclares", fn := fun _ => fun
  | [d1, d2, d3] => { results := [.lit (.bool false)], args := [d1, d2, d3] }
  | _ => none }
def ExpandDeclaresWrongFalsely : Prop := expandDeclaresRow.holds Tryd.pinned (OpenSpec.ofChange expandDeclaresWrong)

/-- 'pandectlaw11.ExpandMore': WHATEVER THE INPUT: true; the input reads as it did. -/
def expandMoreSpec : ChangeSpec := { name := "expandMore", fn := fun _ => fun
  | [d1, d2, d3] => { results := [.lit (.bool true)], args := [d1, d2, d3] }
  | _ => none }
def expandMoreRow : OpenClaim := { program := "ytmeiijjpomcgcaadoor", sum := "e974a9388effd72f5f38347dc3d39ee159c3f7c667d43649fbf45de2b64de7ca", func := "pandect/pandectlaw11.ExpandMore", spec := "expandMore", unfollowed := true, recurses := true, named := ["pandect/shape.words"], loops := true, plainKeys := false, apart := false, laid := [("pandect/shape.words", laid_pandect_shape_words)] }
def ExpandMoreSaid : Prop := expandMoreRow.holds Tryd.pinned (OpenSpec.ofChange expandMoreSpec)

/-- ITS FALSE NEIGHBOUR: 'it returns false'. Refute it at one input. -/
def expandMoreWrong : ChangeSpec := { name := "expandMore", fn := fun _ => fun
  | [d1, d2, d3] => { results := [.lit (.bool false)], args := [d1, d2, d3] }
  | _ => none }
def ExpandMoreWrongFalsely : Prop := expandMoreRow.holds Tryd.pinned (OpenSpec.ofChange expandMoreWrong)

/- THE SECOND FORM. 'bulk': how many values and letters a reading holds, each counted each time it is reached (what is shared counts as often as it is met; a slice's spare places count too). A statement '..UptoSaid' is the law's where the arguments, and the package variables that the reading takes, are together of bulk at most 1048576: NARROWER than '..Said'. Prove '..Said' where nothing that the law and all that it calls make is longer than what came in: it says more and counts as full. Else prove '..UptoSaid'. A law counts once. -/
mutual
def uptoBulk {H : Type} : DataW H → Nat
  | .lit (.string bytes) => bytes.length + 1
  | .lit _ => 1
  | .nil => 1
  | .ptr d => uptoBulk d + 1
  | .slice elems spare => uptoBulkAll elems + uptoBulkAll spare + 1
  | .agg parts => uptoBulkAll parts + 1
  | .iface _ d => uptoBulk d + 1
  | .map entries => uptoBulkEntries entries + 1
  | .held _ => 1
def uptoBulkAll {H : Type} : List (DataW H) → Nat
  | [] => 0
  | d :: r => uptoBulk d + uptoBulkAll r
def uptoBulkEntries {H : Type} : List (Lit × DataW H) → Nat
  | [] => 0
  | x :: r => uptoBulkEntry x + uptoBulkEntries r
def uptoBulkEntry {H : Type} : Lit × DataW H → Nat
  | (.string bytes, d) => bytes.length + uptoBulk d + 1
  | (_, d) => uptoBulk d + 1
 end
def uptoSmall : (H : Type) → List (DataW H) → Bool := fun _ ds => decide (uptoBulkAll ds ≤ 1048576)
def OpenSpec.upto (s : _root_.Go.ChangeSpec) : _root_.Go.OpenSpec := { _root_.Go.OpenSpec.ofChange s with cond := some uptoSmall }

/-- 'pandectlaw11.ExpandResolves', WHERE WHAT IT READS IS OF BULK AT MOST 1048576: true; the input reads as it did. -/
def expandResolvesUptoRow : OpenClaim := { program := "ytmeiijjpomcgcaadoor", sum := "e974a9388effd72f5f38347dc3d39ee159c3f7c667d43649fbf45de2b64de7ca", func := "pandect/pandectlaw11.ExpandResolves", spec := "expandResolves", unfollowed := true, recurses := true, named := ["pandect/shape.words"], loops := true, plainKeys := false, apart := false, laid := [("pandect/shape.words", laid_pandect_shape_words)], narrowed := true }
def ExpandResolvesUptoSaid : Prop := expandResolvesUptoRow.holds Tryd.pinned (OpenSpec.upto expandResolvesSpec)

/-- 'pandectlaw11.ExpandTypes', WHERE WHAT IT READS IS OF BULK AT MOST 1048576: true; the input reads as it did. -/
def expandTypesUptoRow : OpenClaim := { program := "ytmeiijjpomcgcaadoor", sum := "e974a9388effd72f5f38347dc3d39ee159c3f7c667d43649fbf45de2b64de7ca", func := "pandect/pandectlaw11.ExpandTypes", spec := "expandTypes", unfollowed := true, recurses := true, named := ["pandect/shape.words"], loops := true, plainKeys := false, apart := false, laid := [("pandect/shape.words", laid_pandect_shape_words)], narrowed := true }
def ExpandTypesUptoSaid : Prop := expandTypesUptoRow.holds Tryd.pinned (OpenSpec.upto expandTypesSpec)

/-- 'pandectlaw11.ExpandDeclares', WHERE WHAT IT READS IS OF BULK AT MOST 1048576: true; the input reads as it did. -/
def expandDeclaresUptoRow : OpenClaim := { program := "ytmeiijjpomcgcaadoor", sum := "e974a9388effd72f5f38347dc3d39ee159c3f7c667d43649fbf45de2b64de7ca", func := "pandect/pandectlaw11.ExpandDeclares", spec := "expandDeclares", unfollowed := true, recurses := true, named := ["pandect/shape.words"], loops := true, plainKeys := false, apart := false, laid := [("pandect/shape.words", laid_pandect_shape_words)], narrowed := true }
def ExpandDeclaresUptoSaid : Prop := expandDeclaresUptoRow.holds Tryd.pinned (OpenSpec.upto expandDeclaresSpec)

/-- 'pandectlaw11.ExpandMore', WHERE WHAT IT READS IS OF BULK AT MOST 1048576: true; the input reads as it did. -/
def expandMoreUptoRow : OpenClaim := { program := "ytmeiijjpomcgcaadoor", sum := "e974a9388effd72f5f38347dc3d39ee159c3f7c667d43649fbf45de2b64de7ca", func := "pandect/pandectlaw11.ExpandMore", spec := "expandMore", unfollowed := true, recurses := true, named := ["pandect/shape.words"], loops := true, plainKeys := false, apart := false, laid := [("pandect/shape.words", laid_pandect_shape_words)], narrowed := true }
def ExpandMoreUptoSaid : Prop := expandMoreUptoRow.holds Tryd.pinned (OpenSpec.upto expandMoreSpec)

end Rows
end Go.Proofs.YtmeiijjpomcgcaaDoor
