/- What the proofs of GradualAlike, GradualPlain, GradualThrough want, part 0. -/
import Derived.Test.YtkhoflciahkphaaDoorK1n0
import Derived.Test.YtkhoflciahkphaaDoorK2n0
set_option linter.unusedVariables false
set_option linter.unusedSimpArgs false
set_option linter.unusedSectionVars false
set_option maxRecDepth 100000
set_option maxHeartbeats 16000000
namespace Grd
section
open Shp Sub Go.Proofs.YtkhoflciahkphaaDoor
theorem R.near {f:Nat}: ∀ {up:Bool} {a b:Sh},R false f up a b->R true f up a b:=by
 induction f with
 | zero=>intro up a b h; exact h.elim
 | succ f ih=>
  intro up a b h;rcases h with h | h | ⟨hk,h1,h2⟩
  {exact Or.inl h}
  {exact Or.inr (Or.inl h)}
  refine Or.inr (Or.inr ⟨hk,fun h=> ?_,fun h=> ?_⟩)
  {obtain ⟨g1,g2,g3⟩:=h1 h;exact ⟨fun n p q hp hq=>ih (g1 n p q hp hq),fun n p hp hq=>absurd (g2 n p hp hq).1 (by simp),fun n q hp hq=>absurd (g3 n q hp hq).1 (by simp)⟩}
  {obtain ⟨e1,e2,e3,e4⟩:=h2 h;exact ⟨e1,e2,e3,fun i p q hp hq=>ih (e4 i p q hp hq)⟩}
end
end Grd
