/- The program's Cmp, all ways. -/
import Derived.Test.YtifblpbikngjeaaDoorSemCmpA
import Derived.Test.YtifblpbikngjeaaDoorSemCmpB
import Derived.Test.YtifblpbikngjeaaDoorSemCmpC
import Derived.Test.YtifblpbikngjeaaDoorSemCmpD
namespace Go.Proofs.YtifblpbikngjeaaDoor
open Go.RowKit

theorem cmp_walk (v u : Sem.Ver) (hv : v.pre.length ≤ 1000000) (hu : u.pre.length ≤ 1000000) (w : World) :
    Calls Tryd.prog 19 #[verV v, verV u] w fun e w' => e = .returned (.int .i64 (Sem.cmp v u)) ∧ Below w.heap.size w w' := by
  cases hx : (v.maj == u.maj)
  · exact cmp_walkB v u hv hu w hx
  · cases hy : (v.min == u.min)
    · exact cmp_walkC v u hv hu w hx hy
    · cases hz : (v.pat == u.pat)
      · exact cmp_walkD v u hv hu w hx hy hz
      · exact cmp_walkA v u hv hu w hx hy hz
end Go.Proofs.YtifblpbikngjeaaDoor
