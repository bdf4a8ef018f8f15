/-
  NARROWER THAN 'FOR EVERY INPUT', by the rows' own cells (each row's printed sentence says how): GradualPlain: loops, laid · GradualMoves: loops, laid · GradualAlike: loops, laid · GradualWitness: loops, laid · GradualThrough: loops, laid.
  DERIVED. THE GIVEN ROWS OF THIS SEAT. 5 by the template 'for every input the law returns true; each argument reads behind the call as it read before'; 0 by the template 'total and deterministic' (their statements: YtkhoflciahkphaaDoorTotals.lean).
  GIVEN WITH THE SEED: the statements are not yours to turn. If you find one false, say at which input.
  Laid BY PROGRAM, IN A SANDBOX (cutbox-rows.mjs): the forced cells as the released guide's own fill.sh prints them over the translation b1e6438b4e8c52af… (all of the seat's roots in one cut). By AI agents, Wed Nov 11 2026. No macro, syntax, notation, axiom, sorry.
-/
import Derived.Test.YtkhoflciahkphaaDoorChecked
import GoSem.Claim
import GoSem.ClaimJoined
import GoSem.ClaimMapViews
import Derived.JoinedTies
import Derived.KernelRfl
namespace Go.Proofs.YtkhoflciahkphaaDoor
/- THE CELL 'sum', in the pinned program and in every row, IS THE sha256 OF THE DUMP (.gsa) THAT YtkhoflciahkphaaDoorProg.lean LOADS. Nothing in Lean hashes anything: it is a label: what it is worth is what the hold of that sum in a sandbox is worth. -/
noncomputable def Tryd.pinned : Pinned := { name := "ytkhoflciahkphaadoor", sum := "b1e6438b4e8c52afd87a097765339328e0ba27c5a44a7efafff92aea09b9f140", checked := Tryd.checked }
namespace Rows
def none {H : Type} : Left H := { results := [], args := [] }

/- WHAT THE LISTED PACKAGE-LEVEL VARIABLES READ AS WHEN THE CALL BEGINS. Each datum BY PROGRAM (the guide's laid-datum.mjs) off the statement by which the dump's own 'gosem.cut.vars' lays the variable. In a bare row this is a premise. The card (YtkhoflciahkphaaDoorCards.lean) ties it to the program's text. -/
def laid_pandect_shape_words {H : Type} : DataW H := .agg [.lit (.string []), .lit (.string [73, 110, 116]), .lit (.string [66, 111, 111, 108]), .lit (.string [84, 101, 120, 116]), .lit (.string [65, 110, 121])]

/-- 'pandectlaw13.GradualPlain': WHATEVER THE INPUT: true; the input reads as it did. -/
def gradualPlainSpec : ChangeSpec := { name := "gradualPlain", fn := fun _ => fun
  | [d1, d2] => { results := [.lit (.bool true)], args := [d1, d2] }
  | _ => none }
def gradualPlainRow : OpenClaim := { program := "ytkhoflciahkphaadoor", sum := "b1e6438b4e8c52afd87a097765339328e0ba27c5a44a7efafff92aea09b9f140", func := "pandect/pandectlaw13.GradualPlain", spec := "gradualPlain", unfollowed := true, recurses := true, named := ["pandect/shape.words"], loops := true, plainKeys := false, apart := false, laid := [("pandect/shape.words", laid_pandect_shape_words)] }
def GradualPlainSaid : Prop := gradualPlainRow.holds Tryd.pinned (OpenSpec.ofChange gradualPlainSpec)

/-- ITS FALSE NEIGHBOUR: 'it returns false'. Refute it at one input. -/
def gradualPlainWrong : ChangeSpec := { name := "gradualPlain", fn := fun _ => fun
  | [d1, d2] => { results := [.lit (.bool false)], args := [d1, d2] }
  | _ => none }
def GradualPlainWrongFalsely : Prop := gradualPlainRow.holds Tryd.pinned (OpenSpec.ofChange gradualPlainWrong)

/-- 'pandectlaw13.GradualMoves': WHATEVER THE INPUT: true; the input reads as it did. -/
def gradualMovesSpec : ChangeSpec := { name := "gradualMoves", fn := fun _ => fun
  | [d1, d2, d3] => { results := [.lit (.bool true)], args := [d1, d2, d3] }
  | _ => none }
def gradualMovesRow : OpenClaim := { program := "ytkhoflciahkphaadoor", sum := "b1e6438b4e8c52afd87a097765339328e0ba27c5a44a7efafff92aea09b9f140", func := "pandect/pandectlaw13.GradualMoves", spec := "gradualMoves", unfollowed := true, recurses := true, named := ["pandect/shape.words"], loops := true, plainKeys := false, apart := false, laid := [("pandect/shape.words", laid_pandect_shape_words)] }
def GradualMovesSaid : Prop := gradualMovesRow.holds Tryd.pinned (OpenSpec.ofChange gradualMovesSpec)

/-- ITS FALSE NEIGHBOUR: 'it returns false'. Refute it at one input. -/
def gradualMovesWrong : ChangeSpec := { name := "gradualMoves", fn := fun _ => fun
  | [d1, d2, d3] => { results := [.lit (.bool false)], args := [d1, d2, d3] }
  | _ => none }
def GradualMovesWrongFalsely : Prop := gradualMovesRow.holds Tryd.pinned (OpenSpec.ofChange gradualMovesWrong)

/-- 'pandectlaw13.GradualAlike': WHATEVER THE INPUT: true; the input reads as it did. -/
def gradualAlikeSpec : ChangeSpec := { name := "gradualAlike", fn := fun _ => fun
  | [d1, d2] => { results := [.lit (.bool true)], args := [d1, d2] }
  | _ => none }
def gradualAlikeRow : OpenClaim := { program := "ytkhoflciahkphaadoor", sum := "b1e6438b4e8c52afd87a097765339328e0ba27c5a44a7efafff92aea09b9f140", func := "pandect/pandectlaw13.GradualAlike", spec := "gradualAlike", unfollowed := true, recurses := true, named := ["pandect/shape.words"], loops := true, plainKeys := false, apart := false, laid := [("pandect/shape.words", laid_pandect_shape_words)] }
def GradualAlikeSaid : Prop := gradualAlikeRow.holds Tryd.pinned (OpenSpec.ofChange gradualAlikeSpec)

/-- ITS FALSE NEIGHBOUR: 'it returns false'. Refute it at one input. -/
def gradualAlikeWrong : ChangeSpec := { name := "gradualAlike", fn := fun _ => fun
  | [d1, d2] => { results := [.lit (.bool false)], args := [d1, d2] }
  | _ => none }
def GradualAlikeWrongFalsely : Prop := gradualAlikeRow.holds Tryd.pinned (OpenSpec.ofChange gradualAlikeWrong)

/-- 'pandectlaw13.GradualWitness': WHATEVER THE INPUT: true; the input reads as it did. -/
def gradualWitnessSpec : ChangeSpec := { name := "gradualWitness", fn := fun _ => fun
  | [d1, d2] => { results := [.lit (.bool true)], args := [d1, d2] }
  | _ => none }
def gradualWitnessRow : OpenClaim := { program := "ytkhoflciahkphaadoor", sum := "b1e6438b4e8c52afd87a097765339328e0ba27c5a44a7efafff92aea09b9f140", func := "pandect/pandectlaw13.GradualWitness", spec := "gradualWitness", unfollowed := true, recurses := true, named := ["pandect/shape.words"], loops := true, plainKeys := false, apart := false, laid := [("pandect/shape.words", laid_pandect_shape_words)] }
def GradualWitnessSaid : Prop := gradualWitnessRow.holds Tryd.pinned (OpenSpec.ofChange gradualWitnessSpec)

/-- ITS FALSE NEIGHBOUR: 'it returns false'. Refute it at one input. -/
def gradualWitnessWrong : ChangeSpec := { name := "gradualWitness", fn := fun _ => fun
  | [d1, d2] => { results := [.lit (.bool false)], args := [d1, d2] }
  | _ => none }
def GradualWitnessWrongFalsely : Prop := gradualWitnessRow.holds Tryd.pinned (OpenSpec.ofChange gradualWitnessWrong)

/-- 'pandectlaw13.GradualThrough': WHATEVER THE INPUT: true; the input reads as it did. -/
def gradualThroughSpec : ChangeSpec := { name := "gradualThrough", fn := fun _ => fun
  | [d1, d2, d3] => { results := [.lit (.bool true)], args := [d1, d2, d3] }
  | _ => none }
def gradualThroughRow : OpenClaim := { program := "ytkhoflciahkphaadoor", sum := "b1e6438b4e8c52afd87a097765339328e0ba27c5a44a7efafff92aea09b9f140", func := "pandect/pandectlaw13.GradualThrough", spec := "gradualThrough", unfollowed := true, recurses := true, named := ["pandect/shape.words"], loops := true, plainKeys := false, apart := false, laid := [("pandect/shape.words", laid_pandect_shape_words)] }
def GradualThroughSaid : Prop := gradualThroughRow.holds Tryd.pinned (OpenSpec.ofChange gradualThroughSpec)

/-- ITS FALSE NEIGHBOUR: 'it returns false'. Refute it at one input. -/
def gradualThroughWrong : ChangeSpec := { name := "gradualThrough", fn := fun _ => fun
  | [d1, d2, d3] => { results := [.lit (.bool false)], args := [d1, d2, d3] }
  | _ => none }
def GradualThroughWrongFalsely : Prop := gradualThroughRow.holds Tryd.pinned (OpenSpec.ofChange gradualThroughWrong)

/- THE SECOND FORM. 'bulk': how many values and letters a reading holds, each counted each time it is reached (what is shared counts as often as it is met; a slice's spare places count too). A statement '..UptoSaid' is the law's where the arguments, and the package variables that the reading takes, are together of bulk at most 1048576: NARROWER than '..Said'. Prove '..Said' where nothing that the law and all that it calls make is longer than what came in: it says more and counts as full. Else prove '..UptoSaid'. A law counts once. -/
mutual
def uptoBulk {H : Type} : DataW H → Nat
  | .lit (.string bytes) => bytes.length + 1
  | .lit _ => 1
  | .nil => 1
  | .ptr d => uptoBulk d + 1
  | .slice elems spare => uptoBulkAll elems + uptoBulkAll spare + 1
  | .agg parts => uptoBulkAll parts + 1
  | .iface _ d => uptoBulk d + 1
  | .map entries => uptoBulkEntries entries + 1
  | .held _ => 1
def uptoBulkAll {H : Type} : List (DataW H) → Nat
  | [] => 0
  | d :: r => uptoBulk d + uptoBulkAll r
def uptoBulkEntries {H : Type} : List (Lit × DataW H) → Nat
  | [] => 0
  | x :: r => uptoBulkEntry x + uptoBulkEntries r
def uptoBulkEntry {H : Type} : Lit × DataW H → Nat
  | (.string bytes, d) => bytes.length + uptoBulk d + 1
  | (_, d) => uptoBulk d + 1
 end
def uptoSmall : (H : Type) → List (DataW H) → Bool := fun _ ds => decide (uptoBulkAll ds ≤ 1048576)
def OpenSpec.upto (s : _root_.Go.ChangeSpec) : _root_.Go.OpenSpec := { _root_.Go.OpenSpec.ofChange s with cond := some uptoSmall }

/-- 'pandectlaw13.GradualPlain', WHERE WHAT IT READS IS OF BULK AT MOST 1048576: true; the input reads as it did. -/
def gradualPlainUptoRow : OpenClaim := { program := "ytkhoflciahkphaadoor", sum := "b1e6438b4e8c52afd87a097765339328e0ba27c5a44a7efafff92aea09b9f140", func := "pandect/pandectlaw13.GradualPlain", spec := "gradualPlain", unfollowed := true, recurses := true, named := ["pandect/shape.words"], loops := true, plainKeys := false, apart := false, laid := [("pandect/shape.words", laid_pandect_shape_words)], narrowed := true }
def GradualPlainUptoSaid : Prop := gradualPlainUptoRow.holds Tryd.pinned (OpenSpec.upto gradualPlainSpec)

/-- 'pandectlaw13.GradualMoves', WHERE WHAT IT READS IS OF BULK AT MOST 1048576: true; the input reads as it did. -/
def gradualMovesUptoRow : OpenClaim := { program := "ytkhoflciahkphaadoor", sum := "b1e6438b4e8c52afd87a097765339328e0ba27c5a44a7efafff92aea09b9f140", func := "pandect/pandectlaw13.GradualMoves", spec := "gradualMoves", unfollowed := true, recurses := true, named := ["pandect/shape.words"], loops := true, plainKeys := false, apart := false, laid := [("pandect/shape.words", laid_pandect_shape_words)], narrowed := true }
def GradualMovesUptoSaid : Prop := gradualMovesUptoRow.holds Tryd.pinned (OpenSpec.upto gradualMovesSpec)

/-- 'pandectlaw13.GradualAlike', WHERE WHAT IT READS IS OF BULK AT MOST 1048576: true; the input reads as it did. -/
def gradualAlikeUptoRow : OpenClaim := { program := "ytkhoflciahkphaadoor", sum := "b1e6438b4e8c52afd87a097765339328e0ba27c5a44a7efafff92aea09b9f140", func := "pandect/pandectlaw13.GradualAlike", spec := "gradualAlike", unfollowed := true, recurses := true, named := ["pandect/shape.words"], loops := true, plainKeys := false, apart := false, laid := [("pandect/shape.words", laid_pandect_shape_words)], narrowed := true }
def GradualAlikeUptoSaid : Prop := gradualAlikeUptoRow.holds Tryd.pinned (OpenSpec.upto gradualAlikeSpec)

/-- 'pandectlaw13.GradualWitness', WHERE WHAT IT READS IS OF BULK AT MOST 1048576: true; the input reads as it did. -/
def gradualWitnessUptoRow : OpenClaim := { program := "ytkhoflciahkphaadoor", sum := "b1e6438b4e8c52afd87a097765339328e0ba27c5a44a7efafff92aea09b9f140", func := "pandect/pandectlaw13.GradualWitness", spec := "gradualWitness", unfollowed := true, recurses := true, named := ["pandect/shape.words"], loops := true, plainKeys := false, apart := false, laid := [("pandect/shape.words", laid_pandect_shape_words)], narrowed := true }
def GradualWitnessUptoSaid : Prop := gradualWitnessUptoRow.holds Tryd.pinned (OpenSpec.upto gradualWitnessSpec)

/-- 'pandectlaw13.GradualThrough', WHERE WHAT IT READS IS OF BULK AT MOST 1048576: true; the input reads as it did. -/
def gradualThroughUptoRow : OpenClaim := { program := "ytkhoflciahkphaadoor", sum := "b1e6438b4e8c52afd87a097765339328e0ba27c5a44a7efafff92aea09b9f140", func := "pandect/pandectlaw13.GradualThrough", spec := "gradualThrough", unfollowed := true, recurses := true, named := ["pandect/shape.words"], loops := true, plainKeys := false, apart := false, laid := [("pandect/shape.words", laid_pandect_shape_words)], narrowed := true }
def GradualThroughUptoSaid : Prop := gradualThroughUptoRow.holds Tryd.pinned (OpenSpec.upto gradualThroughSpec)

end Rows
end Go.Proofs.YtkhoflciahkphaaDoor
