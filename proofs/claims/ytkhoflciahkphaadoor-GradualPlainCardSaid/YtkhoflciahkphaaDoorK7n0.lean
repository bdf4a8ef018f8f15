/- What the proofs of GradualPlain, GradualWitness want, part 0. -/
import Derived.Test.YtkhoflciahkphaaDoorK0n4
set_option linter.unusedVariables false
set_option linter.unusedSimpArgs false
set_option linter.unusedSectionVars false
set_option maxRecDepth 100000
set_option maxHeartbeats 16000000
namespace Sub
section
open Shp
theorem Z7z (l:List Fld): (l.map Prod.fst).zip (l.map Prod.snd)=l:=by
 induction l with
 | nil=>rfl
 | cons a l ih=>rw[List.map_cons,List.map_cons,List.zip_cons_cons,ih]
theorem Z5y {l:List Fld} (hd: (l.map Prod.fst).Nodup) {n:List UInt8} {p:Sh}:look (l.map Prod.fst) (l.map Prod.snd) n=some p ↔ (n,p)∈l:=by
 rw[Z2i hd,Z7z]
theorem Z1Y {t:Sh} (h:fits t=true) (hk: ¬(t.kind=6\/t.kind=7)):t.names= []:=by
 rcases Z2Y h with h | h | h | h | h
 {exact h.2.2.1}
 {exact h.2.1}
 {exact absurd h.1 hk}
 {exact h.2.1}
 {exact h.2.1}
end
section
open Shp Go.Proofs.YtkhoflciahkphaaDoor
section
variable {ns : List (List UInt8)} {ps : List Sh} {f : Sh -> Sh}
include ns ps f
theorem Z2x {n:List UInt8} {x:Sh}: (n,x)∈ns.zip (ps.map f) ↔ ∃p,(n,p)∈ns.zip ps/\f p=x:=by
 induction ns generalizing ps with
 | nil=>simp
 | cons a ns ih=>
  cases ps with
  | nil=>simp
  | cons p ps=>
   rw[List.map_cons,List.zip_cons_cons,List.zip_cons_cons,List.mem_cons,ih];constructor
   {rintro (h | ⟨p',h,e⟩)
    {cases h; exact ⟨p,by simp,rfl⟩}
    {exact ⟨p',by simp[h],e⟩}}
   {rintro ⟨p',h,e⟩;rcases List.mem_cons.1 h with h | h
    {cases h; exact Or.inl (by rw[e])}
    {exact Or.inr ⟨p',h,e⟩}}
theorem Z2y (h:ns.length=ps.length): (ns.zip (ps.map f)).map Prod.fst=ns:=
 List.map_fst_zip (by rw[List.length_map,h]; exact Nat.le_refl _)
end
theorem Z4n {t:Sh} (h:Rec t) (n:List UInt8):get (Shp.sorted t) n=(get t n).map Shp.sorted:=by
 have h1:get (Shp.sorted t) n=look (t.names) (t.parts.map Shp.sorted) n:=by
  rw[Z0k];split
  {rename_i e
   have:t.parts= []:=List.eq_nil_of_length_eq_zero (by rw[<-h.l,e]; rfl);unfold get;simp[this,e]}
  {unfold get;simp only;have hnd: ((t.names.zip (t.parts.map Shp.sorted)).map Prod.fst).Nodup:=by rw[Z2y h.l]; exact h.nodup
   have hp:=Z0S (t.names.zip (t.parts.map Shp.sorted));have hnd2: ((sortF (t.names.zip (t.parts.map Shp.sorted))).map Prod.fst).Nodup:=((hp.map Prod.fst).nodup_iff).2 hnd;refine Option.ext (fun p=> ?_);rw[Z5y hnd2,Z2i h.nodup];exact hp.mem_iff}
 rw[h1];refine Option.ext (fun p=> ?_);rw[Z2i h.nodup,Z2x,Option.map_eq_some_iff];constructor
 {rintro ⟨q,hq,e⟩; exact ⟨q,h.get_iff.2 hq,e⟩}
 {rintro ⟨q,hq,e⟩; exact ⟨q,h.get_iff.1 hq,e⟩}
theorem Z6A (t:Sh): (Shp.sorted t).kind=t.kind/\(Shp.sorted t).of_=t.of_/\(Shp.sorted t).name=t.name:=by
 rw[Z0k]; split <;> exact ⟨rfl,rfl,rfl⟩
theorem Z5A {t:Sh} (h:t.names= []): (Shp.sorted t).parts=t.parts.map Shp.sorted:=by rw[Z0k,if_pos h]
theorem V.sorted {f:Nat}: ∀ {up:Bool} {a:Sh},right a=true->deep a<=f->V f up a (sorted a):=by
 induction f with
 | zero=>intro up a _ h; rw[Z0d] at h; omega
 | succ f ih=>
  intro up a ra h;have hp: ∀up,∀p∈a.parts,V f up p (Shp.sorted p):=fun up p hp=>ih (Z04 ra hp) (by have:=Z0t hp; rw[Z0d] at h; omega);obtain ⟨hk,ho,hn⟩:=Z6A a;refine ⟨hk.symm,fun h n q hq=> ?_,fun h n p hp'=> ?_,fun h=> ?_⟩
  {rw[Z4n (Z0s (Z08 ra) (Z0x h))] at hq;obtain ⟨p,e,rfl⟩:=Option.map_eq_some_iff.1 hq;exact ⟨p,e,hp _ p (Z06 e)⟩}
  {refine ⟨Shp.sorted p, ?_,hp _ p (Z06 hp')⟩;rw[Z4n (Z0s (Z08 ra) (Z0H h)),hp']; rfl}
  {have hz:=Z5A (Z1Y (Z08 ra) h);refine ⟨ho.symm,hn.symm,by rw[hz,List.length_map],fun i p q h1 h2=> ?_⟩;rw[hz,List.getElem?_map,h1] at h2;cases h2;exact hp _ p (List.mem_of_getElem? h1)}
theorem V.back {up:Bool} {f:Nat} {a:Sh} (h:right a=true) (hd:deep a<=f):V f up (Shp.sorted a) a:=by
 have:=(V.sorted (up:= !up) h hd).flip
 rwa [Bool.not_not] at this
end
end Sub
