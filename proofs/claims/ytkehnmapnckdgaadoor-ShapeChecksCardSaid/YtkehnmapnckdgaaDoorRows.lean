/-
  NARROWER THAN 'FOR EVERY INPUT', by the rows' own cells (each row's printed sentence says how): ShapeChecks: loops, laid · ShapeSorts: loops, laid · ShapeSames: loops, laid · ShapeShows: loops, laid · ShapeTurned: loops, laid · ShapeSame: loops, laid.
  DERIVED. THE GIVEN ROWS OF THIS SEAT. 6 by the template 'for every input the law returns true; each argument reads behind the call as it read before'; 0 by the template 'total and deterministic' (their statements: YtkehnmapnckdgaaDoorTotals.lean).
  GIVEN WITH THE SEED: the statements are not yours to turn. If you find one false, say at which input.
  Laid BY PROGRAM, IN A SANDBOX (cutbox-rows.mjs): the forced cells as the released guide's own fill.sh prints them over the translation 2063038d2b561ebb… (all of the seat's roots in one cut). By AI agents, Wed Nov 11 2026. No macro, syntax, notation, axiom, sorry.
-/
import Derived.Test.YtkehnmapnckdgaaDoorChecked
import GoSem.Claim
import GoSem.ClaimJoined
import GoSem.ClaimMapViews
import Derived.JoinedTies
import Derived.KernelRfl
namespace Go.Proofs.YtkehnmapnckdgaaDoor
/- THE CELL 'sum', in the pinned program and in every row, IS THE sha256 OF THE DUMP (.gsa) THAT YtkehnmapnckdgaaDoorProg.lean LOADS. Nothing in Lean hashes anything: it is a label: what it is worth is what the hold of that sum in a sandbox is worth. -/
noncomputable def Tryd.pinned : Pinned := { name := "ytkehnmapnckdgaadoor", sum := "2063038d2b561ebbc1d503a469b0faba3894c22c433b053a587b6d1354522855", checked := Tryd.checked }
namespace Rows
def none {H : Type} : Left H := { results := [], args := [] }

/- WHAT THE LISTED PACKAGE-LEVEL VARIABLES READ AS WHEN THE CALL BEGINS. Each datum BY PROGRAM (the guide's laid-datum.mjs) off the statement by which the dump's own 'gosem.cut.vars' lays the variable. In a bare row this is a premise. The card (YtkehnmapnckdgaaDoorCards.lean) ties it to the program's text. -/
def laid_pandect_shape_words {H : Type} : DataW H := .agg [.lit (.string []), .lit (.string [73, 110, 116]), .lit (.string [66, 111, 111, 108]), .lit (.string [84, 101, 120, 116]), .lit (.string [65, 110, 121])]

/-- 'pandectlaw07.ShapeChecks': WHATEVER THE INPUT: true; the input reads as it did. -/
def shapeChecksSpec : ChangeSpec := { name := "shapeChecks", fn := fun _ => fun
  | [d] => { results := [.lit (.bool true)], args := [d] }
  | _ => none }
def shapeChecksRow : OpenClaim := { program := "ytkehnmapnckdgaadoor", sum := "2063038d2b561ebbc1d503a469b0faba3894c22c433b053a587b6d1354522855", func := "pandect/pandectlaw07.ShapeChecks", spec := "shapeChecks", inPlace := ["internal/abi.NoEscape", "internal/bytealg.MakeNoZero"], unfollowed := true, recurses := true, named := ["pandect/shape.words"], loops := true, plainKeys := false, apart := false, laid := [("pandect/shape.words", laid_pandect_shape_words)] }
def ShapeChecksSaid : Prop := shapeChecksRow.holds Tryd.pinned (OpenSpec.ofChange shapeChecksSpec)

/-- ITS FALSE NEIGHBOUR: 'it returns false'. Refute it at one input. -/
def shapeChecksWrong : ChangeSpec := { name := "shapeChecks", fn := fun _ => fun
  | [d] => { results := [.lit (.bool false)], args := [d] }
  | _ => none }
def ShapeChecksWrongFalsely : Prop := shapeChecksRow.holds Tryd.pinned (OpenSpec.ofChange shapeChecksWrong)

/-- 'pandectlaw07.ShapeSorts': WHATEVER THE INPUT: true; the input reads as it did. -/
def shapeSortsSpec : ChangeSpec := { name := "shapeSorts", fn := fun _ => fun
  | [d] => { results := [.lit (.bool true)], args := [d] }
  | _ => none }
def shapeSortsRow : OpenClaim := { program := "ytkehnmapnckdgaadoor", sum := "2063038d2b561ebbc1d503a469b0faba3894c22c433b053a587b6d1354522855", func := "pandect/pandectlaw07.ShapeSorts", spec := "shapeSorts", inPlace := ["internal/abi.NoEscape", "internal/bytealg.MakeNoZero"], unfollowed := true, recurses := true, named := ["pandect/shape.words"], loops := true, plainKeys := false, apart := false, laid := [("pandect/shape.words", laid_pandect_shape_words)] }
def ShapeSortsSaid : Prop := shapeSortsRow.holds Tryd.pinned (OpenSpec.ofChange shapeSortsSpec)

/-- ITS FALSE NEIGHBOUR: 'it returns false'. Refute it at one input. -/
def shapeSortsWrong : ChangeSpec := { name := "shapeSorts", fn := fun _ => fun
  | [d] => { results := [.lit (.bool false)], args := [d] }
  | _ => none }
def ShapeSortsWrongFalsely : Prop := shapeSortsRow.holds Tryd.pinned (OpenSpec.ofChange shapeSortsWrong)

/-- 'pandectlaw07.ShapeSames': WHATEVER THE INPUT: true; the input reads as it did. -/
def shapeSamesSpec : ChangeSpec := { name := "shapeSames", fn := fun _ => fun
  | [d1, d2] => { results := [.lit (.bool true)], args := [d1, d2] }
  | _ => none }
def shapeSamesRow : OpenClaim := { program := "ytkehnmapnckdgaadoor", sum := "2063038d2b561ebbc1d503a469b0faba3894c22c433b053a587b6d1354522855", func := "pandect/pandectlaw07.ShapeSames", spec := "shapeSames", inPlace := ["internal/abi.NoEscape", "internal/bytealg.MakeNoZero"], unfollowed := true, recurses := true, named := ["pandect/shape.words"], loops := true, plainKeys := false, apart := false, laid := [("pandect/shape.words", laid_pandect_shape_words)] }
def ShapeSamesSaid : Prop := shapeSamesRow.holds Tryd.pinned (OpenSpec.ofChange shapeSamesSpec)

/-- ITS FALSE NEIGHBOUR: 'it returns false'. Refute it at one input. -/
def shapeSamesWrong : ChangeSpec := { name := "shapeSames", fn := fun _ => fun
  | [d1, d2] => { results := [.lit (.bool false)], args := [d1, d2] }
  | _ => none }
def ShapeSamesWrongFalsely : Prop := shapeSamesRow.holds Tryd.pinned (OpenSpec.ofChange shapeSamesWrong)

/-- 'pandectlaw07.ShapeShows': WHATEVER THE INPUT: true; the input reads as it did. -/
def shapeShowsSpec : ChangeSpec := { name := "shapeShows", fn := fun _ => fun
  | [d] => { results := [.lit (.bool true)], args := [d] }
  | _ => none }
def shapeShowsRow : OpenClaim := { program := "ytkehnmapnckdgaadoor", sum := "2063038d2b561ebbc1d503a469b0faba3894c22c433b053a587b6d1354522855", func := "pandect/pandectlaw07.ShapeShows", spec := "shapeShows", inPlace := ["internal/abi.NoEscape", "internal/bytealg.MakeNoZero"], unfollowed := true, recurses := true, named := ["pandect/shape.words"], loops := true, plainKeys := false, apart := false, laid := [("pandect/shape.words", laid_pandect_shape_words)] }
def ShapeShowsSaid : Prop := shapeShowsRow.holds Tryd.pinned (OpenSpec.ofChange shapeShowsSpec)

/-- ITS FALSE NEIGHBOUR: 'it returns false'. Refute it at one input. -/
def shapeShowsWrong : ChangeSpec := { name := "shapeShows", fn := fun _ => fun
  | [d] => { results := [.lit (.bool false)], args := [d] }
  | _ => none }
def ShapeShowsWrongFalsely : Prop := shapeShowsRow.holds Tryd.pinned (OpenSpec.ofChange shapeShowsWrong)

/-- 'pandectlaw07.ShapeTurned': WHATEVER THE INPUT: true; the input reads as it did. -/
def shapeTurnedSpec : ChangeSpec := { name := "shapeTurned", fn := fun _ => fun
  | [d] => { results := [.lit (.bool true)], args := [d] }
  | _ => none }
def shapeTurnedRow : OpenClaim := { program := "ytkehnmapnckdgaadoor", sum := "2063038d2b561ebbc1d503a469b0faba3894c22c433b053a587b6d1354522855", func := "pandect/pandectlaw07.ShapeTurned", spec := "shapeTurned", inPlace := ["internal/abi.NoEscape", "internal/bytealg.MakeNoZero"], unfollowed := true, recurses := true, named := ["pandect/shape.words"], loops := true, plainKeys := false, apart := false, laid := [("pandect/shape.words", laid_pandect_shape_words)] }
def ShapeTurnedSaid : Prop := shapeTurnedRow.holds Tryd.pinned (OpenSpec.ofChange shapeTurnedSpec)

/-- ITS FALSE NEIGHBOUR: 'it returns false'. Refute it at one input. -/
def shapeTurnedWrong : ChangeSpec := { name := "shapeTurned", fn := fun _ => fun
  | [d] => { results := [.lit (.bool false)], args := [d] }
  | _ => none }
def ShapeTurnedWrongFalsely : Prop := shapeTurnedRow.holds Tryd.pinned (OpenSpec.ofChange shapeTurnedWrong)

/-- 'pandectlaw07.ShapeSame': WHATEVER THE INPUT: true; the input reads as it did. -/
def shapeSameSpec : ChangeSpec := { name := "shapeSame", fn := fun _ => fun
  | [d1, d2, d3] => { results := [.lit (.bool true)], args := [d1, d2, d3] }
  | _ => none }
def shapeSameRow : OpenClaim := { program := "ytkehnmapnckdgaadoor", sum := "2063038d2b561ebbc1d503a469b0faba3894c22c433b053a587b6d1354522855", func := "pandect/pandectlaw07.ShapeSame", spec := "shapeSame", inPlace := ["internal/abi.NoEscape", "internal/bytealg.MakeNoZero"], unfollowed := true, recurses := true, named := ["pandect/shape.words"], loops := true, plainKeys := false, apart := false, laid := [("pandect/shape.words", laid_pandect_shape_words)] }
def ShapeSameSaid : Prop := shapeSameRow.holds Tryd.pinned (OpenSpec.ofChange shapeSameSpec)

/-- ITS FALSE NEIGHBOUR: 'it returns false'. Refute it at one input. -/
def shapeSameWrong : ChangeSpec := { name := "shapeSame", fn := fun _ => fun
  | [d1, d2, d3] => { results := [.lit (.bool false)], args := [d1, d2, d3] }
  | _ => none }
def ShapeSameWrongFalsely : Prop := shapeSameRow.holds Tryd.pinned (OpenSpec.ofChange shapeSameWrong)

/- THE SECOND FORM. 'bulk': how many values and letters a reading holds, each counted each time it is reached (what is shared counts as often as it is met; a slice's spare places count too). A statement '..UptoSaid' is the law's where the arguments, and the package variables that the reading takes, are together of bulk at most 1048576: NARROWER than '..Said'. Prove '..Said' where nothing that the law and all that it calls make is longer than what came in: it says more and counts as full. Else prove '..UptoSaid'. A law counts once. -/
mutual
def uptoBulk {H : Type} : DataW H → Nat
  | .lit (.string bytes) => bytes.length + 1
  | .lit _ => 1
  | .nil => 1
  | .ptr d => uptoBulk d + 1
  | .slice elems spare => uptoBulkAll elems + uptoBulkAll spare + 1
  | .agg parts => uptoBulkAll parts + 1
  | .iface _ d => uptoBulk d + 1
  | .map entries => uptoBulkEntries entries + 1
  | .held _ => 1
def uptoBulkAll {H : Type} : List (DataW H) → Nat
  | [] => 0
  | d :: r => uptoBulk d + uptoBulkAll r
def uptoBulkEntries {H : Type} : List (Lit × DataW H) → Nat
  | [] => 0
  | x :: r => uptoBulkEntry x + uptoBulkEntries r
def uptoBulkEntry {H : Type} : Lit × DataW H → Nat
  | (.string bytes, d) => bytes.length + uptoBulk d + 1
  | (_, d) => uptoBulk d + 1
 end
def uptoSmall : (H : Type) → List (DataW H) → Bool := fun _ ds => decide (uptoBulkAll ds ≤ 1048576)
def OpenSpec.upto (s : _root_.Go.ChangeSpec) : _root_.Go.OpenSpec := { _root_.Go.OpenSpec.ofChange s with cond := some uptoSmall }

/-- 'pandectlaw07.ShapeChecks', WHERE WHAT IT READS IS OF BULK AT MOST 1048576: true; the input reads as it did. -/
def shapeChecksUptoRow : OpenClaim := { program := "ytkehnmapnckdgaadoor", sum := "2063038d2b561ebbc1d503a469b0faba3894c22c433b053a587b6d1354522855", func := "pandect/pandectlaw07.ShapeChecks", spec := "shapeChecks", inPlace := ["internal/abi.NoEscape", "internal/bytealg.MakeNoZero"], unfollowed := true, recurses := true, named := ["pandect/shape.words"], loops := true, plainKeys := false, apart := false, laid := [("pandect/shape.words", laid_pandect_shape_words)], narrowed := true }
def ShapeChecksUptoSaid : Prop := shapeChecksUptoRow.holds Tryd.pinned (OpenSpec.upto shapeChecksSpec)

/-- 'pandectlaw07.ShapeSorts', WHERE WHAT IT READS IS OF BULK AT MOST 1048576: true; the input reads as it did. -/
def shapeSortsUptoRow : OpenClaim := { program := "ytkehnmapnckdgaadoor", sum := "2063038d2b561ebbc1d503a469b0faba3894c22c433b053a587b6d1354522855", func := "pandect/pandectlaw07.ShapeSorts", spec := "shapeSorts", inPlace := ["internal/abi.NoEscape", "internal/bytealg.MakeNoZero"], unfollowed := true, recurses := true, named := ["pandect/shape.words"], loops := true, plainKeys := false, apart := false, laid := [("pandect/shape.words", laid_pandect_shape_words)], narrowed := true }
def ShapeSortsUptoSaid : Prop := shapeSortsUptoRow.holds Tryd.pinned (OpenSpec.upto shapeSortsSpec)

/-- 'pandectlaw07.ShapeSames', WHERE WHAT IT READS IS OF BULK AT MOST 1048576: true; the input reads as it did. -/
def shapeSamesUptoRow : OpenClaim := { program := "ytkehnmapnckdgaadoor", sum := "2063038d2b561ebbc1d503a469b0faba3894c22c433b053a587b6d1354522855", func := "pandect/pandectlaw07.ShapeSames", spec := "shapeSames", inPlace := ["internal/abi.NoEscape", "internal/bytealg.MakeNoZero"], unfollowed := true, recurses := true, named := ["pandect/shape.words"], loops := true, plainKeys := false, apart := false, laid := [("pandect/shape.words", laid_pandect_shape_words)], narrowed := true }
def ShapeSamesUptoSaid : Prop := shapeSamesUptoRow.holds Tryd.pinned (OpenSpec.upto shapeSamesSpec)

/-- 'pandectlaw07.ShapeShows', WHERE WHAT IT READS IS OF BULK AT MOST 1048576: true; the input reads as it did. -/
def shapeShowsUptoRow : OpenClaim := { program := "ytkehnmapnckdgaadoor", sum := "2063038d2b561ebbc1d503a469b0faba3894c22c433b053a587b6d1354522855", func := "pandect/pandectlaw07.ShapeShows", spec := "shapeShows", inPlace := ["internal/abi.NoEscape", "internal/bytealg.MakeNoZero"], unfollowed := true, recurses := true, named := ["pandect/shape.words"], loops := true, plainKeys := false, apart := false, laid := [("pandect/shape.words", laid_pandect_shape_words)], narrowed := true }
def ShapeShowsUptoSaid : Prop := shapeShowsUptoRow.holds Tryd.pinned (OpenSpec.upto shapeShowsSpec)

/-- 'pandectlaw07.ShapeTurned', WHERE WHAT IT READS IS OF BULK AT MOST 1048576: true; the input reads as it did. -/
def shapeTurnedUptoRow : OpenClaim := { program := "ytkehnmapnckdgaadoor", sum := "2063038d2b561ebbc1d503a469b0faba3894c22c433b053a587b6d1354522855", func := "pandect/pandectlaw07.ShapeTurned", spec := "shapeTurned", inPlace := ["internal/abi.NoEscape", "internal/bytealg.MakeNoZero"], unfollowed := true, recurses := true, named := ["pandect/shape.words"], loops := true, plainKeys := false, apart := false, laid := [("pandect/shape.words", laid_pandect_shape_words)], narrowed := true }
def ShapeTurnedUptoSaid : Prop := shapeTurnedUptoRow.holds Tryd.pinned (OpenSpec.upto shapeTurnedSpec)

/-- 'pandectlaw07.ShapeSame', WHERE WHAT IT READS IS OF BULK AT MOST 1048576: true; the input reads as it did. -/
def shapeSameUptoRow : OpenClaim := { program := "ytkehnmapnckdgaadoor", sum := "2063038d2b561ebbc1d503a469b0faba3894c22c433b053a587b6d1354522855", func := "pandect/pandectlaw07.ShapeSame", spec := "shapeSame", inPlace := ["internal/abi.NoEscape", "internal/bytealg.MakeNoZero"], unfollowed := true, recurses := true, named := ["pandect/shape.words"], loops := true, plainKeys := false, apart := false, laid := [("pandect/shape.words", laid_pandect_shape_words)], narrowed := true }
def ShapeSameUptoSaid : Prop := shapeSameUptoRow.holds Tryd.pinned (OpenSpec.upto shapeSameSpec)

end Rows
end Go.Proofs.YtkehnmapnckdgaaDoor
