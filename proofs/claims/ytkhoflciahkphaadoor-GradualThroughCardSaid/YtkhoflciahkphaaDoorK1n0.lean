/- What the proofs of GradualAlike, GradualMoves, GradualPlain, GradualThrough want, part 0. -/
import Derived.Test.YtkhoflciahkphaaDoorK0n4
set_option linter.unusedVariables false
set_option linter.unusedSimpArgs false
set_option linter.unusedSectionVars false
set_option maxRecDepth 100000
set_option maxHeartbeats 16000000
namespace Grd
section
open Shp Sub Go.Proofs.YtkhoflciahkphaaDoor
theorem R.down {f:Nat}: ∀ {up:Bool} {c a b:Sh},V f up c a->R true f up a b->R true f up c b:=by
 induction f with
 | zero=>intro up c a b h; exact h.elim
 | succ f ih=>
  intro up c a b h k;obtain ⟨hk,h1,h2,h3⟩:=h;rcases k with k | k | ⟨kk,k1,k2⟩
  {exact Or.inl (hk.trans k)}
  {exact Or.inr (Or.inl k)}
  refine Or.inr (Or.inr ⟨hk.trans kk,fun h=> ?_,fun h=> ?_⟩)
  {obtain ⟨g1,g2,g3⟩:=k1 (hk▸h);rw[<-hk] at g2 g3;rcases Z13 h up with hw | hw
   {refine ⟨fun n p q hp hq=> ?_,fun n p hp hq=>⟨rfl,hw⟩,fun n q hp hq=> ?_⟩
    {cases ha:get a n with
     | none=>exact absurd (g3 n q ha hq).2 (Z0K hw)
     | some r=>
      obtain ⟨p',hp',v⟩:=h1 hw n r ha;rw[hp] at hp'; cases hp';exact ih v (g1 n r q ha hq)}
    {cases ha:get a n with
     | none=>exact absurd (g3 n q ha hq).2 (Z0K hw)
     | some r=>
      obtain ⟨p',hp',v⟩:=h1 hw n r ha;rw[hp] at hp'; cases hp'}}
   {refine ⟨fun n p q hp hq=> ?_,fun n p hp hq=> ?_,fun n q hp hq=>⟨rfl,hw⟩⟩
    {obtain ⟨r,ha,v⟩:=h2 hw n p hp;exact ih v (g1 n r q ha hq)}
    {obtain ⟨r,ha,v⟩:=h2 hw n p hp;exact absurd hw (Z0K (g2 n r ha hq).2)}}}
  {obtain ⟨e1,e2,e3,e4⟩:=h3 h;obtain ⟨f1,f2,f3,f4⟩:=k2 (hk▸h);refine ⟨e1.trans f1,e2.trans f2,e3.trans f3,fun i p q hp hq=> ?_⟩;have hi:i < c.parts.length:=(List.getElem?_eq_some_iff.1 hp).1;have hia:i < a.parts.length:=by omega
   have h5:=e4 i p _ hp (List.getElem?_eq_getElem hia);have h6:=f4 i _ q (List.getElem?_eq_getElem hia) hq;rw[<-e3] at h6;exact ih h5 h6}
end
end Grd
