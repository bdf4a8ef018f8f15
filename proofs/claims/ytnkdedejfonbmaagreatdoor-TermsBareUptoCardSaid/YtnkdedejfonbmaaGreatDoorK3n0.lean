/- What the proofs of TermsBare, TermsChecks, TermsSame want, part 0. -/
import Derived.Deep.DeepHandedRow
import Derived.LaidLaws
import Derived.WalkKit
import Derived.ProofKit
import Derived.OpenShut
import Derived.Lib.SmallJoins
import Derived.Test.YtnkdedejfonbmaaGreatDoorK2n0
set_option linter.unusedVariables false
set_option linter.unusedSimpArgs false
set_option maxRecDepth 100000
set_option maxHeartbeats 16000000
namespace Go.Proofs.YtnkdedejfonbmaaGreatDoor
open Go.RowKit Tms
open Shp (Sh)
theorem Z2J {H : Type} {enc : TypeId × Value -> H} {W : World} {base b0 : Nat} {held : Bool} {v : Value} {d : DataW H} {p : List MemPlace}
 (hv : Value.okWide Tryz.prog W .any b0 26 v) (h : DataW.Trod enc Tryz.prog W base (fun _ => true) held 26 v d p) :
 ∃ (t : Tm) (q : TP), v = .agg (Y7 t q) /\ TmAt W W.heap.size q t /\ weight t <= Rows.uptoBulk d := by
 obtain ⟨cs, rfl, hsz⟩ := Go.WideShapes.okWide_struct Tryz.underlying26 hv
 obtain ⟨n, hn⟩ := h
 obtain ⟨t, q, hcs, hat, hw⟩ := Z7j n hn
 refine ⟨t, q, ?_, hat, hw⟩
 congr 1
 apply Array.ext'
 exact hcs
end Go.Proofs.YtnkdedejfonbmaaGreatDoor
