/-
  NARROWER THAN 'FOR EVERY INPUT', by the rows' own cells (each row's printed sentence says how): SubtypeJoins: loops, laid · SubtypeMeets: loops, laid · GradualBetweens: loops, laid.
  DERIVED. THE GIVEN ROWS OF THIS SEAT. 3 by the template 'for every input the law returns true; each argument reads behind the call as it read before'; 0 by the template 'total and deterministic' (their statements: YtlomianlcnmfgaaGreatDoorTotals.lean).
  GIVEN WITH THE SEED: the statements are not yours to turn. If you find one false, say at which input.
  Laid BY PROGRAM, IN A SANDBOX (cutbox-rows.mjs): the forced cells as the released guide's own fill.sh prints them over the translation 96f0ea97820b41f0… (all of the seat's roots in one cut). By AI agents, Wed Nov 11 2026. No macro, syntax, notation, axiom, sorry.
-/
import Derived.Test.YtlomianlcnmfgaaGreatDoorChecked
import GoSem.Claim
import GoSem.ClaimJoined
import GoSem.ClaimMapViews
import Derived.JoinedTies
import Derived.KernelRfl
namespace Go.Proofs.YtlomianlcnmfgaaGreatDoor
/- THE CELL 'sum', in the pinned program and in every row, IS THE sha256 OF THE DUMP (.gsa) THAT YtlomianlcnmfgaaGreatDoorProg.lean LOADS. Nothing in Lean hashes anything: it is a label: what it is worth is what the hold of that sum in a sandbox is worth. -/
noncomputable def Tryz.pinned : Pinned := { name := "ytlomianlcnmfgaagreatdoor", sum := "96f0ea97820b41f0fec13c15b41303c3a3abe2255702c4b7ae5bfb8ef384eade", checked := Tryz.checked }
namespace Rows
def none {H : Type} : Left H := { results := [], args := [] }

/- WHAT THE LISTED PACKAGE-LEVEL VARIABLES READ AS WHEN THE CALL BEGINS. Each datum BY PROGRAM (the guide's laid-datum.mjs) off the statement by which the dump's own 'gosem.cut.vars' lays the variable. In a bare row this is a premise. The card (YtlomianlcnmfgaaGreatDoorCards.lean) ties it to the program's text. -/
def laid_pandect_shape_words {H : Type} : DataW H := .agg [.lit (.string []), .lit (.string [73, 110, 116]), .lit (.string [66, 111, 111, 108]), .lit (.string [84, 101, 120, 116]), .lit (.string [65, 110, 121])]

/-- 'pandectlaw12.SubtypeJoins': WHATEVER THE INPUT: true; the input reads as it did. -/
def subtypeJoinsSpec : ChangeSpec := { name := "subtypeJoins", fn := fun _ => fun
  | [d1, d2] => { results := [.lit (.bool true)], args := [d1, d2] }
  | _ => none }
def subtypeJoinsRow : OpenClaim := { program := "ytlomianlcnmfgaagreatdoor", sum := "96f0ea97820b41f0fec13c15b41303c3a3abe2255702c4b7ae5bfb8ef384eade", func := "pandect/pandectlaw12.SubtypeJoins", spec := "subtypeJoins", unfollowed := true, recurses := true, named := ["pandect/shape.words"], loops := true, plainKeys := false, apart := false, laid := [("pandect/shape.words", laid_pandect_shape_words)] }
def SubtypeJoinsSaid : Prop := subtypeJoinsRow.holds Tryz.pinned (OpenSpec.ofChange subtypeJoinsSpec)

/-- ITS FALSE NEIGHBOUR: 'it returns false'. Refute it at one input. -/
def subtypeJoinsWrong : ChangeSpec := { name := "subtypeJoins", fn := fun _ => fun
  | [d1, d2] => { results := [.lit (.bool false)], args := [d1, d2] }
  | _ => none }
def SubtypeJoinsWrongFalsely : Prop := subtypeJoinsRow.holds Tryz.pinned (OpenSpec.ofChange subtypeJoinsWrong)

/-- 'pandectlaw12.SubtypeMeets': WHATEVER THE INPUT: true; the input reads as it did. -/
def subtypeMeetsSpec : ChangeSpec := { name := "subtypeMeets", fn := fun _ => fun
  | [d1, d2] => { results := [.lit (.bool true)], args := [d1, d2] }
  | _ => none }
def subtypeMeetsRow : OpenClaim := { program := "ytlomianlcnmfgaagreatdoor", sum := "96f0ea97820b41f0fec13c15b41303c3a3abe2255702c4b7ae5bfb8ef384eade", func := "pandect/pandectlaw12.SubtypeMeets", spec := "subtypeMeets", unfollowed := true, recurses := true, named := ["pandect/shape.words"], loops := true, plainKeys := false, apart := false, laid := [("pandect/shape.words", laid_pandect_shape_words)] }
def SubtypeMeetsSaid : Prop := subtypeMeetsRow.holds Tryz.pinned (OpenSpec.ofChange subtypeMeetsSpec)

/-- ITS FALSE NEIGHBOUR: 'it returns false'. Refute it at one input. -/
def subtypeMeetsWrong : ChangeSpec := { name := "subtypeMeets", fn := fun _ => fun
  | [d1, d2] => { results := [.lit (.bool false)], args := [d1, d2] }
  | _ => none }
def SubtypeMeetsWrongFalsely : Prop := subtypeMeetsRow.holds Tryz.pinned (OpenSpec.ofChange subtypeMeetsWrong)

/-- 'pandectlaw13.GradualBetweens': WHATEVER THE INPUT: true; the input reads as it did. -/
def gradualBetweensSpec : ChangeSpec := { name := "gradualBetweens", fn := fun _ => fun
  | [d1, d2] => { results := [.lit (.bool true)], args := [d1, d2] }
  | _ => none }
def gradualBetweensRow : OpenClaim := { program := "ytlomianlcnmfgaagreatdoor", sum := "96f0ea97820b41f0fec13c15b41303c3a3abe2255702c4b7ae5bfb8ef384eade", func := "pandect/pandectlaw13.GradualBetweens", spec := "gradualBetweens", unfollowed := true, recurses := true, named := ["pandect/shape.words"], loops := true, plainKeys := false, apart := false, laid := [("pandect/shape.words", laid_pandect_shape_words)] }
def GradualBetweensSaid : Prop := gradualBetweensRow.holds Tryz.pinned (OpenSpec.ofChange gradualBetweensSpec)

/-- ITS FALSE NEIGHBOUR: 'it returns false'. Refute it at one input. -/
def gradualBetweensWrong : ChangeSpec := { name := "gradualBetweens", fn := fun _ => fun
  | [d1, d2] => { results := [.lit (.bool false)], args := [d1, d2] }
  | _ => none }
def GradualBetweensWrongFalsely : Prop := gradualBetweensRow.holds Tryz.pinned (OpenSpec.ofChange gradualBetweensWrong)

/- THE SECOND FORM. 'bulk': how many values and letters a reading holds, each counted each time it is reached (what is shared counts as often as it is met; a slice's spare places count too). A statement '..UptoSaid' is the law's where the arguments, and the package variables that the reading takes, are together of bulk at most 1048576: NARROWER than '..Said'. Prove '..Said' where nothing that the law and all that it calls make is longer than what came in: it says more and counts as full. Else prove '..UptoSaid'. A law counts once. -/
mutual
def uptoBulk {H : Type} : DataW H → Nat
  | .lit (.string bytes) => bytes.length + 1
  | .lit _ => 1
  | .nil => 1
  | .ptr d => uptoBulk d + 1
  | .slice elems spare => uptoBulkAll elems + uptoBulkAll spare + 1
  | .agg parts => uptoBulkAll parts + 1
  | .iface _ d => uptoBulk d + 1
  | .map entries => uptoBulkEntries entries + 1
  | .held _ => 1
def uptoBulkAll {H : Type} : List (DataW H) → Nat
  | [] => 0
  | d :: r => uptoBulk d + uptoBulkAll r
def uptoBulkEntries {H : Type} : List (Lit × DataW H) → Nat
  | [] => 0
  | x :: r => uptoBulkEntry x + uptoBulkEntries r
def uptoBulkEntry {H : Type} : Lit × DataW H → Nat
  | (.string bytes, d) => bytes.length + uptoBulk d + 1
  | (_, d) => uptoBulk d + 1
 end
def uptoSmall : (H : Type) → List (DataW H) → Bool := fun _ ds => decide (uptoBulkAll ds ≤ 1048576)
def OpenSpec.upto (s : _root_.Go.ChangeSpec) : _root_.Go.OpenSpec := { _root_.Go.OpenSpec.ofChange s with cond := some uptoSmall }

/-- 'pandectlaw12.SubtypeJoins', WHERE WHAT IT READS IS OF BULK AT MOST 1048576: true; the input reads as it did. -/
def subtypeJoinsUptoRow : OpenClaim := { program := "ytlomianlcnmfgaagreatdoor", sum := "96f0ea97820b41f0fec13c15b41303c3a3abe2255702c4b7ae5bfb8ef384eade", func := "pandect/pandectlaw12.SubtypeJoins", spec := "subtypeJoins", unfollowed := true, recurses := true, named := ["pandect/shape.words"], loops := true, plainKeys := false, apart := false, laid := [("pandect/shape.words", laid_pandect_shape_words)], narrowed := true }
def SubtypeJoinsUptoSaid : Prop := subtypeJoinsUptoRow.holds Tryz.pinned (OpenSpec.upto subtypeJoinsSpec)

/-- 'pandectlaw12.SubtypeMeets', WHERE WHAT IT READS IS OF BULK AT MOST 1048576: true; the input reads as it did. -/
def subtypeMeetsUptoRow : OpenClaim := { program := "ytlomianlcnmfgaagreatdoor", sum := "96f0ea97820b41f0fec13c15b41303c3a3abe2255702c4b7ae5bfb8ef384eade", func := "pandect/pandectlaw12.SubtypeMeets", spec := "subtypeMeets", unfollowed := true, recurses := true, named := ["pandect/shape.words"], loops := true, plainKeys := false, apart := false, laid := [("pandect/shape.words", laid_pandect_shape_words)], narrowed := true }
def SubtypeMeetsUptoSaid : Prop := subtypeMeetsUptoRow.holds Tryz.pinned (OpenSpec.upto subtypeMeetsSpec)

/-- 'pandectlaw13.GradualBetweens', WHERE WHAT IT READS IS OF BULK AT MOST 1048576: true; the input reads as it did. -/
def gradualBetweensUptoRow : OpenClaim := { program := "ytlomianlcnmfgaagreatdoor", sum := "96f0ea97820b41f0fec13c15b41303c3a3abe2255702c4b7ae5bfb8ef384eade", func := "pandect/pandectlaw13.GradualBetweens", spec := "gradualBetweens", unfollowed := true, recurses := true, named := ["pandect/shape.words"], loops := true, plainKeys := false, apart := false, laid := [("pandect/shape.words", laid_pandect_shape_words)], narrowed := true }
def GradualBetweensUptoSaid : Prop := gradualBetweensUptoRow.holds Tryz.pinned (OpenSpec.upto gradualBetweensSpec)

end Rows
end Go.Proofs.YtlomianlcnmfgaaGreatDoor
