/-
  NARROWER THAN 'FOR EVERY INPUT', by the rows' own cells (each row's printed sentence says how): SubtypeBelows: loops, laid · SubtypeOrder: loops, laid · SubtypeLeast: loops, laid · SubtypeGreatest: loops, laid · SubtypeBoth: loops, laid.
  DERIVED. THE GIVEN ROWS OF THIS SEAT. 5 by the template 'for every input the law returns true; each argument reads behind the call as it read before'; 0 by the template 'total and deterministic' (their statements: YtlomianlcnmfgaaDoorTotals.lean).
  GIVEN WITH THE SEED: the statements are not yours to turn. If you find one false, say at which input.
  Laid BY PROGRAM, IN A SANDBOX (cutbox-rows.mjs): the forced cells as the released guide's own fill.sh prints them over the translation 0efab2ecbad1d7d5… (all of the seat's roots in one cut). By AI agents, Wed Nov 11 2026. No macro, syntax, notation, axiom, sorry.
-/
import Derived.Test.YtlomianlcnmfgaaDoorChecked
import GoSem.Claim
import GoSem.ClaimJoined
import GoSem.ClaimMapViews
import Derived.JoinedTies
import Derived.KernelRfl
namespace Go.Proofs.YtlomianlcnmfgaaDoor
/- THE CELL 'sum', in the pinned program and in every row, IS THE sha256 OF THE DUMP (.gsa) THAT YtlomianlcnmfgaaDoorProg.lean LOADS. Nothing in Lean hashes anything: it is a label: what it is worth is what the hold of that sum in a sandbox is worth. -/
noncomputable def Tryd.pinned : Pinned := { name := "ytlomianlcnmfgaadoor", sum := "0efab2ecbad1d7d5f830e606b8c07d6668b14b741af864a73456f1a414da1dab", checked := Tryd.checked }
namespace Rows
def none {H : Type} : Left H := { results := [], args := [] }

/- WHAT THE LISTED PACKAGE-LEVEL VARIABLES READ AS WHEN THE CALL BEGINS. Each datum BY PROGRAM (the guide's laid-datum.mjs) off the statement by which the dump's own 'gosem.cut.vars' lays the variable. In a bare row this is a premise. The card (YtlomianlcnmfgaaDoorCards.lean) ties it to the program's text. -/
def laid_pandect_shape_words {H : Type} : DataW H := .agg [.lit (.string []), .lit (.string [73, 110, 116]), .lit (.string [66, 111, 111, 108]), .lit (.string [84, 101, 120, 116]), .lit (.string [65, 110, 121])]

/-- 'pandectlaw12.SubtypeBelows': WHATEVER THE INPUT: true; the input reads as it did. -/
def subtypeBelowsSpec : ChangeSpec := { name := "subtypeBelows", fn := fun _ => fun
  | [d1, d2] => { results := [.lit (.bool true)], args := [d1, d2] }
  | _ => none }
def subtypeBelowsRow : OpenClaim := { program := "ytlomianlcnmfgaadoor", sum := "0efab2ecbad1d7d5f830e606b8c07d6668b14b741af864a73456f1a414da1dab", func := "pandect/pandectlaw12.SubtypeBelows", spec := "subtypeBelows", unfollowed := true, recurses := true, named := ["pandect/shape.words"], loops := true, plainKeys := false, apart := false, laid := [("pandect/shape.words", laid_pandect_shape_words)] }
def SubtypeBelowsSaid : Prop := subtypeBelowsRow.holds Tryd.pinned (OpenSpec.ofChange subtypeBelowsSpec)

/-- ITS FALSE NEIGHBOUR: 'it returns false'. Refute it at one input. -/
def subtypeBelowsWrong : ChangeSpec := { name := "subtypeBelows", fn := fun _ => fun
  | [d1, d2] => { results := [.lit (.bool false)], args := [d1, d2] }
  | _ => none }
def SubtypeBelowsWrongFalsely : Prop := subtypeBelowsRow.holds Tryd.pinned (OpenSpec.ofChange subtypeBelowsWrong)

/-- 'pandectlaw12.SubtypeOrder': WHATEVER THE INPUT: true; the input reads as it did. -/
def subtypeOrderSpec : ChangeSpec := { name := "subtypeOrder", fn := fun _ => fun
  | [d1, d2, d3] => { results := [.lit (.bool true)], args := [d1, d2, d3] }
  | _ => none }
def subtypeOrderRow : OpenClaim := { program := "ytlomianlcnmfgaadoor", sum := "0efab2ecbad1d7d5f830e606b8c07d6668b14b741af864a73456f1a414da1dab", func := "pandect/pandectlaw12.SubtypeOrder", spec := "subtypeOrder", unfollowed := true, recurses := true, named := ["pandect/shape.words"], loops := true, plainKeys := false, apart := false, laid := [("pandect/shape.words", laid_pandect_shape_words)] }
def SubtypeOrderSaid : Prop := subtypeOrderRow.holds Tryd.pinned (OpenSpec.ofChange subtypeOrderSpec)

/-- ITS FALSE NEIGHBOUR: 'it returns false'. Refute it at one input. -/
def subtypeOrderWrong : ChangeSpec := { name := "subtypeOrder", fn := fun _ => fun
  | [d1, d2, d3] => { results := [.lit (.bool false)], args := [d1, d2, d3] }
  | _ => none }
def SubtypeOrderWrongFalsely : Prop := subtypeOrderRow.holds Tryd.pinned (OpenSpec.ofChange subtypeOrderWrong)

/-- 'pandectlaw12.SubtypeLeast': WHATEVER THE INPUT: true; the input reads as it did. -/
def subtypeLeastSpec : ChangeSpec := { name := "subtypeLeast", fn := fun _ => fun
  | [d1, d2, d3] => { results := [.lit (.bool true)], args := [d1, d2, d3] }
  | _ => none }
def subtypeLeastRow : OpenClaim := { program := "ytlomianlcnmfgaadoor", sum := "0efab2ecbad1d7d5f830e606b8c07d6668b14b741af864a73456f1a414da1dab", func := "pandect/pandectlaw12.SubtypeLeast", spec := "subtypeLeast", unfollowed := true, recurses := true, named := ["pandect/shape.words"], loops := true, plainKeys := false, apart := false, laid := [("pandect/shape.words", laid_pandect_shape_words)] }
def SubtypeLeastSaid : Prop := subtypeLeastRow.holds Tryd.pinned (OpenSpec.ofChange subtypeLeastSpec)

/-- ITS FALSE NEIGHBOUR: 'it returns false'. Refute it at one input. -/
def subtypeLeastWrong : ChangeSpec := { name := "subtypeLeast", fn := fun _ => fun
  | [d1, d2, d3] => { results := [.lit (.bool false)], args := [d1, d2, d3] }
  | _ => none }
def SubtypeLeastWrongFalsely : Prop := subtypeLeastRow.holds Tryd.pinned (OpenSpec.ofChange subtypeLeastWrong)

/-- 'pandectlaw12.SubtypeGreatest': WHATEVER THE INPUT: true; the input reads as it did. -/
def subtypeGreatestSpec : ChangeSpec := { name := "subtypeGreatest", fn := fun _ => fun
  | [d1, d2, d3] => { results := [.lit (.bool true)], args := [d1, d2, d3] }
  | _ => none }
def subtypeGreatestRow : OpenClaim := { program := "ytlomianlcnmfgaadoor", sum := "0efab2ecbad1d7d5f830e606b8c07d6668b14b741af864a73456f1a414da1dab", func := "pandect/pandectlaw12.SubtypeGreatest", spec := "subtypeGreatest", unfollowed := true, recurses := true, named := ["pandect/shape.words"], loops := true, plainKeys := false, apart := false, laid := [("pandect/shape.words", laid_pandect_shape_words)] }
def SubtypeGreatestSaid : Prop := subtypeGreatestRow.holds Tryd.pinned (OpenSpec.ofChange subtypeGreatestSpec)

/-- ITS FALSE NEIGHBOUR: 'it returns false'. Refute it at one input. -/
def subtypeGreatestWrong : ChangeSpec := { name := "subtypeGreatest", fn := fun _ => fun
  | [d1, d2, d3] => { results := [.lit (.bool false)], args := [d1, d2, d3] }
  | _ => none }
def SubtypeGreatestWrongFalsely : Prop := subtypeGreatestRow.holds Tryd.pinned (OpenSpec.ofChange subtypeGreatestWrong)

/-- 'pandectlaw12.SubtypeBoth': WHATEVER THE INPUT: true; the input reads as it did. -/
def subtypeBothSpec : ChangeSpec := { name := "subtypeBoth", fn := fun _ => fun
  | [d1, d2] => { results := [.lit (.bool true)], args := [d1, d2] }
  | _ => none }
def subtypeBothRow : OpenClaim := { program := "ytlomianlcnmfgaadoor", sum := "0efab2ecbad1d7d5f830e606b8c07d6668b14b741af864a73456f1a414da1dab", func := "pandect/pandectlaw12.SubtypeBoth", spec := "subtypeBoth", unfollowed := true, recurses := true, named := ["pandect/shape.words"], loops := true, plainKeys := false, apart := false, laid := [("pandect/shape.words", laid_pandect_shape_words)] }
def SubtypeBothSaid : Prop := subtypeBothRow.holds Tryd.pinned (OpenSpec.ofChange subtypeBothSpec)

/-- ITS FALSE NEIGHBOUR: 'it returns false'. Refute it at one input. -/
def subtypeBothWrong : ChangeSpec := { name := "subtypeBoth", fn := fun _ => fun
  | [d1, d2] => { results := [.lit (.bool false)], args := [d1, d2] }
  | _ => none }
def SubtypeBothWrongFalsely : Prop := subtypeBothRow.holds Tryd.pinned (OpenSpec.ofChange subtypeBothWrong)

/- THE SECOND FORM. 'bulk': how many values and letters a reading holds, each counted each time it is reached (what is shared counts as often as it is met; a slice's spare places count too). A statement '..UptoSaid' is the law's where the arguments, and the package variables that the reading takes, are together of bulk at most 1048576: NARROWER than '..Said'. Prove '..Said' where nothing that the law and all that it calls make is longer than what came in: it says more and counts as full. Else prove '..UptoSaid'. A law counts once. -/
mutual
def uptoBulk {H : Type} : DataW H → Nat
  | .lit (.string bytes) => bytes.length + 1
  | .lit _ => 1
  | .nil => 1
  | .ptr d => uptoBulk d + 1
  | .slice elems spare => uptoBulkAll elems + uptoBulkAll spare + 1
  | .agg parts => uptoBulkAll parts + 1
  | .iface _ d => uptoBulk d + 1
  | .map entries => uptoBulkEntries entries + 1
  | .held _ => 1
def uptoBulkAll {H : Type} : List (DataW H) → Nat
  | [] => 0
  | d :: r => uptoBulk d + uptoBulkAll r
def uptoBulkEntries {H : Type} : List (Lit × DataW H) → Nat
  | [] => 0
  | x :: r => uptoBulkEntry x + uptoBulkEntries r
def uptoBulkEntry {H : Type} : Lit × DataW H → Nat
  | (.string bytes, d) => bytes.length + uptoBulk d + 1
  | (_, d) => uptoBulk d + 1
 end
def uptoSmall : (H : Type) → List (DataW H) → Bool := fun _ ds => decide (uptoBulkAll ds ≤ 1048576)
def OpenSpec.upto (s : _root_.Go.ChangeSpec) : _root_.Go.OpenSpec := { _root_.Go.OpenSpec.ofChange s with cond := some uptoSmall }

/-- 'pandectlaw12.SubtypeBelows', WHERE WHAT IT READS IS OF BULK AT MOST 1048576: true; the input reads as it did. -/
def subtypeBelowsUptoRow : OpenClaim := { program := "ytlomianlcnmfgaadoor", sum := "0efab2ecbad1d7d5f830e606b8c07d6668b14b741af864a73456f1a414da1dab", func := "pandect/pandectlaw12.SubtypeBelows", spec := "subtypeBelows", unfollowed := true, recurses := true, named := ["pandect/shape.words"], loops := true, plainKeys := false, apart := false, laid := [("pandect/shape.words", laid_pandect_shape_words)], narrowed := true }
def SubtypeBelowsUptoSaid : Prop := subtypeBelowsUptoRow.holds Tryd.pinned (OpenSpec.upto subtypeBelowsSpec)

/-- 'pandectlaw12.SubtypeOrder', WHERE WHAT IT READS IS OF BULK AT MOST 1048576: true; the input reads as it did. -/
def subtypeOrderUptoRow : OpenClaim := { program := "ytlomianlcnmfgaadoor", sum := "0efab2ecbad1d7d5f830e606b8c07d6668b14b741af864a73456f1a414da1dab", func := "pandect/pandectlaw12.SubtypeOrder", spec := "subtypeOrder", unfollowed := true, recurses := true, named := ["pandect/shape.words"], loops := true, plainKeys := false, apart := false, laid := [("pandect/shape.words", laid_pandect_shape_words)], narrowed := true }
def SubtypeOrderUptoSaid : Prop := subtypeOrderUptoRow.holds Tryd.pinned (OpenSpec.upto subtypeOrderSpec)

/-- 'pandectlaw12.SubtypeLeast', WHERE WHAT IT READS IS OF BULK AT MOST 1048576: true; the input reads as it did. -/
def subtypeLeastUptoRow : OpenClaim := { program := "ytlomianlcnmfgaadoor", sum := "0efab2ecbad1d7d5f830e606b8c07d6668b14b741af864a73456f1a414da1dab", func := "pandect/pandectlaw12.SubtypeLeast", spec := "subtypeLeast", unfollowed := true, recurses := true, named := ["pandect/shape.words"], loops := true, plainKeys := false, apart := false, laid := [("pandect/shape.words", laid_pandect_shape_words)], narrowed := true }
def SubtypeLeastUptoSaid : Prop := subtypeLeastUptoRow.holds Tryd.pinned (OpenSpec.upto subtypeLeastSpec)

/-- 'pandectlaw12.SubtypeGreatest', WHERE WHAT IT READS IS OF BULK AT MOST 1048576: true; the input reads as it did. -/
def subtypeGreatestUptoRow : OpenClaim := { program := "ytlomianlcnmfgaadoor", sum := "0efab2ecbad1d7d5f830e606b8c07d6668b14b741af864a73456f1a414da1dab", func := "pandect/pandectlaw12.SubtypeGreatest", spec := "subtypeGreatest", unfollowed := true, recurses := true, named := ["pandect/shape.words"], loops := true, plainKeys := false, apart := false, laid := [("pandect/shape.words", laid_pandect_shape_words)], narrowed := true }
def SubtypeGreatestUptoSaid : Prop := subtypeGreatestUptoRow.holds Tryd.pinned (OpenSpec.upto subtypeGreatestSpec)

/-- 'pandectlaw12.SubtypeBoth', WHERE WHAT IT READS IS OF BULK AT MOST 1048576: true; the input reads as it did. -/
def subtypeBothUptoRow : OpenClaim := { program := "ytlomianlcnmfgaadoor", sum := "0efab2ecbad1d7d5f830e606b8c07d6668b14b741af864a73456f1a414da1dab", func := "pandect/pandectlaw12.SubtypeBoth", spec := "subtypeBoth", unfollowed := true, recurses := true, named := ["pandect/shape.words"], loops := true, plainKeys := false, apart := false, laid := [("pandect/shape.words", laid_pandect_shape_words)], narrowed := true }
def SubtypeBothUptoSaid : Prop := subtypeBothUptoRow.holds Tryd.pinned (OpenSpec.upto subtypeBothSpec)

end Rows
end Go.Proofs.YtlomianlcnmfgaaDoor
