/- What the proofs of SubtypeBoth, SubtypeGreatest, SubtypeLeast, SubtypeOrder want, part 0. -/
import Derived.Test.YtlomianlcnmfgaaDoorK0n4
set_option linter.unusedVariables false
set_option linter.unusedSimpArgs false
set_option linter.unusedSectionVars false
set_option maxRecDepth 100000
set_option maxHeartbeats 16000000
namespace Sub
section
open Shp
theorem Z87 (l:List Fld): (l.map Prod.fst).zip (l.map Prod.snd)=l:=by
 induction l with
 | nil=>rfl
 | cons a l ih=>rw[List.map_cons,List.map_cons,List.zip_cons_cons,ih]
theorem Z5U {l:List Fld} (hd: (l.map Prod.fst).Nodup) {n:List UInt8} {p:Sh}:look (l.map Prod.fst) (l.map Prod.snd) n=some p ↔ (n,p)∈l:=by
 rw[Z2x hd,Z87]
theorem Z2H {t:Sh} (h:fits t=true) (hk: ¬(t.kind=6\/t.kind=7)):t.names= []:=by
 rcases Z3j h with h | h | h | h | h
 {exact h.2.2.1}
 {exact h.2.1}
 {exact absurd h.1 hk}
 {exact h.2.1}
 {exact h.2.1}
theorem Z1U {k:Int} (h:k=6\/k=7) (up:Bool):Narrow up k\/Wide up k:=by
 unfold Narrow Wide;cases up <;> rcases h with h | h <;> simp[h]
end
section
open Shp Go.Proofs.YtlomianlcnmfgaaDoor
section
variable {ns : List (List UInt8)} {ps : List Sh} {f : Sh -> Sh}
include ns ps f
theorem Z2M {n:List UInt8} {x:Sh}: (n,x)∈ns.zip (ps.map f) ↔ ∃p,(n,p)∈ns.zip ps/\f p=x:=by
 induction ns generalizing ps with
 | nil=>simp
 | cons a ns ih=>
  cases ps with
  | nil=>simp
  | cons p ps=>
   rw[List.map_cons,List.zip_cons_cons,List.zip_cons_cons,List.mem_cons,ih];constructor
   {rintro (h | ⟨p',h,e⟩)
    {cases h; exact ⟨p,by simp,rfl⟩}
    {exact ⟨p',by simp[h],e⟩}}
   {rintro ⟨p',h,e⟩;rcases List.mem_cons.1 h with h | h
    {cases h; exact Or.inl (by rw[e])}
    {exact Or.inr ⟨p',h,e⟩}}
theorem Z2N (h:ns.length=ps.length): (ns.zip (ps.map f)).map Prod.fst=ns:=
 List.map_fst_zip (by rw[List.length_map,h]; exact Nat.le_refl _)
end
theorem Z4I {t:Sh} (h:Rec t) (n:List UInt8):get (Shp.sorted t) n=(get t n).map Shp.sorted:=by
 have h1:get (Shp.sorted t) n=look (t.names) (t.parts.map Shp.sorted) n:=by
  rw[Z0j];split
  {rename_i e
   have:t.parts= []:=List.eq_nil_of_length_eq_zero (by rw[<-h.l,e]; rfl);unfold get;simp[this,e]}
  {unfold get;simp only;have hnd: ((t.names.zip (t.parts.map Shp.sorted)).map Prod.fst).Nodup:=by rw[Z2N h.l]; exact h.nodup
   have hp:=Z0V (t.names.zip (t.parts.map Shp.sorted));have hnd2: ((sortF (t.names.zip (t.parts.map Shp.sorted))).map Prod.fst).Nodup:=((hp.map Prod.fst).nodup_iff).2 hnd;refine Option.ext (fun p=> ?_);rw[Z5U hnd2,Z2x h.nodup];exact hp.mem_iff}
 rw[h1];refine Option.ext (fun p=> ?_);rw[Z2x h.nodup,Z2M,Option.map_eq_some_iff];constructor
 {rintro ⟨q,hq,e⟩; exact ⟨q,h.get_iff.2 hq,e⟩}
 {rintro ⟨q,hq,e⟩; exact ⟨q,h.get_iff.1 hq,e⟩}
theorem Z6Z (t:Sh): (Shp.sorted t).kind=t.kind/\(Shp.sorted t).of_=t.of_/\(Shp.sorted t).name=t.name:=by
 rw[Z0j]; split <;> exact ⟨rfl,rfl,rfl⟩
theorem Z5X {t:Sh} (h:t.names= []): (Shp.sorted t).parts=t.parts.map Shp.sorted:=by rw[Z0j,if_pos h]
theorem V.sorted {f:Nat}: ∀ {up:Bool} {a:Sh},right a=true->deep a<=f->V f up a (sorted a):=by
 induction f with
 | zero=>intro up a _ h; rw[Z0q] at h; omega
 | succ f ih=>
  intro up a ra h;have hp: ∀up,∀p∈a.parts,V f up p (Shp.sorted p):=fun up p hp=>ih (Z05 ra hp) (by have:=Z0P hp; rw[Z0q] at h; omega);obtain ⟨hk,ho,hn⟩:=Z6Z a;refine ⟨hk.symm,fun h n q hq=> ?_,fun h n p hp'=> ?_,fun h=> ?_⟩
  {rw[Z4I (Z0n (Z08 ra) (Z0v h))] at hq;obtain ⟨p,e,rfl⟩:=Option.map_eq_some_iff.1 hq;exact ⟨p,e,hp _ p (Z06 e)⟩}
  {refine ⟨Shp.sorted p, ?_,hp _ p (Z06 hp')⟩;rw[Z4I (Z0n (Z08 ra) (Z0H h)),hp']; rfl}
  {have hz:=Z5X (Z2H (Z08 ra) h);refine ⟨ho.symm,hn.symm,by rw[hz,List.length_map],fun i p q h1 h2=> ?_⟩;rw[hz,List.getElem?_map,h1] at h2;cases h2;exact hp _ p (List.mem_of_getElem? h1)}
end
end Sub
namespace Go.Proofs.YtlomianlcnmfgaaDoor
section
open Shp
theorem Z5D {l m:List (List UInt8)} (h:l.Perm m):areNames l=areNames m:=by
 rw[Bool.eq_iff_iff,Z0F,Z0F];exact ⟨fun ⟨h1,h2⟩=>⟨fun x hx=>h1 x (h.mem_iff.2 hx),h.nodup_iff.1 h2⟩,fun ⟨h1,h2⟩=>⟨fun x hx=>h1 x (h.mem_iff.1 hx),h.nodup_iff.2 h2⟩⟩
theorem Z9P {t u:Sh} (hk:u.kind=t.kind) (ho:u.of_=t.of_) (hn:u.name=t.name) (hns:u.names.Perm t.names) (hp:u.parts.length=t.parts.length):fits u=fits t:=by
 have ha:=Z5D hns;unfold fits bare;rw[hk,ho,hn,hns.length_eq,hp,ha]
theorem Z8x {l m:List Sh} (h:l.Perm m):deeps l=deeps m:=by
 induction h with
 | nil=>rfl
 | cons x _ ih=>simp[deeps,ih]
 | swap x y l=>simp[deeps]; omega
 | trans _ _ ih1 ih2=>exact ih1.trans ih2
theorem Z9R {f:Sh->Sh} {l:List Sh} (h: ∀p∈l,deep (f p)=deep p):deeps (l.map f)=deeps l:=by
 induction l with
 | nil=>rfl
 | cons a l ih=>simp[deeps,h a (by simp),ih (fun p hp=>h p (by simp[hp]))]
theorem Like.deep {f:Sh->Sh} {t u:Sh} (h:Like f t u) (hp: ∀p∈t.parts,deep (f p)=deep p):deep u=deep t:=by
 rw[Z0q,Z0q,Z8x h.ps,Z9R hp]
theorem Like.right {f:Sh->Sh} {t u:Sh} (h:Like f t u) (ht:right t=true) (hp: ∀p∈t.parts,right (f p)=true):right u=true:=by
 refine Z2w ?_ (fun p hm=> ?_)
 {rw[Z9P h.k h.o h.n h.ns (by rw[h.ps.length_eq,List.length_map])];exact Z08 ht}
 {obtain ⟨x,hx,rfl⟩:=List.mem_map.1 (h.ps.mem_iff.1 hm);exact hp x hx}
theorem Z4b {t:Sh} (h:right t=true) (h0:t.names≠ []):t.names.length=t.parts.length/\t.names.Nodup:=(Z2i h).resolve_left h0
theorem Z1w {t:Sh} (h:right t=true):Like sorted t (sorted t):=by
 obtain ⟨h1,h2,h3⟩:=Z2Q t;refine ⟨h1,h2,h3, ?_, ?_⟩
 {rw[Z0j];split
  {rename_i h0; rw[h0]}
  {rename_i h0
   have:=(Z0V (t.names.zip (t.parts.map sorted))).map Prod.fst
   rwa [List.map_fst_zip (by rw[List.length_map,(Z4b h h0).1]; exact Nat.le_refl _)] at this}}
 {rw[Z0j];split
  {exact List.Perm.refl _}
  {rename_i h0
   have:=(Z0V (t.names.zip (t.parts.map sorted))).map Prod.snd
   rwa [List.map_snd_zip (by rw[List.length_map,(Z4b h h0).1]; exact Nat.le_refl _)] at this}}
theorem Z2T (t:Sh):right t=true->size (sorted t)=size t:=by
 induction t using Sh.ind with
 | h t ih=>exact fun h=>(Z1w h).size fun p hp=>ih p hp (Z05 h hp)
theorem Z2U (t:Sh):right t=true->deep (sorted t)=deep t:=by
 induction t using Sh.ind with
 | h t ih=>exact fun h=>(Z1w h).deep fun p hp=>ih p hp (Z05 h hp)
theorem Z68 (t:Sh):right t=true->right (sorted t)=true:=by
 induction t using Sh.ind with
 | h t ih=>exact fun h=>(Z1w h).right h fun p hp=>ih p hp (Z05 h hp)
theorem Z4u {t:Sh} (h1:size t<=400) (h2:deep t<=40) (h3:right t=true):check t=0:=by
 unfold check;rw[if_neg (by omega),if_neg (by omega),if_neg (by rw[h3]; decide)]
theorem Z2B {t:Sh} (h:check t=0):check (sorted t)=0:=by
 obtain ⟨h1,h2,h3⟩:=Z09 h;exact Z4u (by rw[Z2T t h3]; exact h1) (by rw[Z2U t h3]; exact h2) (Z68 t h3)
end
end Go.Proofs.YtlomianlcnmfgaaDoor
namespace Sub
section
open Shp Go.Proofs.YtlomianlcnmfgaaDoor
theorem V.back {up:Bool} {f:Nat} {a:Sh} (h:right a=true) (hd:deep a<=f):V f up (Shp.sorted a) a:=by
 have:=(V.sorted (up:= !up) h hd).flip
 rwa [Bool.not_not] at this
theorem Z0g {a b:Sh} (ca:check a=0) (cb:check b=0):below a b=true ↔ V 40 true a b:=by
 unfold below;simp only[ca,cb,decide_true,Bool.true_and];exact Z19 (Z09 ca).2.2 (Z09 cb).2.2
end
end Sub
