/- A type that came in by value. -/
import Derived.Test.YtkehnmapnckdgaaDoorGShpM
import Derived.Lib.SmallJoins
namespace Go.Proofs.YtkehnmapnckdgaaDoor
open Go.RowKit Shp
set_option linter.unusedVariables false
set_option maxRecDepth 100000

theorem shape_open {H : Type} {enc : TypeId × Value → H} {W : World} {base b0 : Nat} {held : Bool} {v : Value} {d : DataW H} {p : List MemPlace}
    (hv : Value.okWide Tryd.prog W .any b0 25 v) (h : DataW.Trod enc Tryd.prog W base (fun _ => true) held 25 v d p) :
    ∃ (t : Sh) (q : Ptr), v = .agg #[.int .i64 t.kind, .string ⟨t.of_.toArray⟩, .string ⟨t.name.toArray⟩, .slice q.A t.names.length q.c, .slice q.P t.parts.length q.d] ∧ ShAt W W.heap.size q t := by
  obtain ⟨cs, rfl, hsz⟩ := Go.WideShapes.okWide_struct Tryd.underlying25 hv
  obtain ⟨n, hn⟩ := h
  obtain ⟨t, q, hcs, hat⟩ := shape_trod n hn
  refine ⟨t, q, ?_, hat⟩
  congr 1
  apply Array.ext'
  exact hcs
end Go.Proofs.YtkehnmapnckdgaaDoor
