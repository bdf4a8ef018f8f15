/- GradualPlain: of types of which all is known near is below, and alike is the same; for all values that the row lets in, with the program's variable laid as its text lays it. -/
import Derived.Test.YtkhoflciahkphaaDoorTie
import Derived.Test.YtkhoflciahkphaaDoorCards
import Derived.LaidMore
import Derived.Lay
import Derived.Test.YtkhoflciahkphaaDoorK7n0
import Derived.Test.YtkhoflciahkphaaDoorK4n0
import Derived.Test.YtkhoflciahkphaaDoorK0n13
set_option linter.unusedVariables false
set_option linter.unusedSimpArgs false
set_option linter.unusedSectionVars false
set_option maxRecDepth 100000
set_option maxHeartbeats 16000000
namespace Shp
section
def same (t u:Sh):Bool:=decide (check t=0)&&decide (check u=0)&&eqB (sorted t) (sorted u)
end
end Shp
namespace Sub
section
open Shp Go.Proofs.YtkhoflciahkphaaDoor
theorem Z3y {l:List Fld} (h: (l.map Prod.fst).Nodup):l.Nodup:=by
 induction l with
 | nil=>exact List.nodup_nil
 | cons a l ih=>
  rw[List.map_cons,List.nodup_cons] at h;exact List.nodup_cons.2 ⟨fun hm=>h.1 (List.mem_map_of_mem hm),ih h.2⟩
theorem Z6z {l m:List Fld} (hl:l.Nodup) (hm:m.Nodup) (h: ∀x,x∈l ↔ x∈m):l.Perm m:=by
 induction l generalizing m with
 | nil=>
  cases m with
  | nil=>exact List.Perm.refl _
  | cons a m=>exact absurd ((h a).2 (by simp)) (by simp)
 | cons a l ih=>
  rw[List.nodup_cons] at hl;obtain ⟨s,t,rfl⟩:=List.append_of_mem ((h a).1 (by simp));have hp: (s++a::t).Perm (a::(s++t)):=List.perm_middle;have hn:=List.nodup_cons.1 (hp.nodup_iff.1 hm);refine List.Perm.trans (List.Perm.cons a (ih hl.2 hn.2 (fun x=> ?_))) hp.symm;constructor
  {intro hx;have:=hp.mem_iff.1 ((h x).1 (by simp[hx]));rcases List.mem_cons.1 this with rfl | h1
   {exact absurd hx hl.1}
   {exact h1}}
  {intro hx;have:=(h x).2 (hp.mem_iff.2 (by simp only[List.mem_cons]; exact Or.inr hx));rcases List.mem_cons.1 this with rfl | h1
   {exact absurd hx hn.1}
   {exact h1}}
theorem Z9J {l m:List Fld} (h1: (l.map Prod.fst).Nodup) (h2: (m.map Prod.fst).Nodup) (h: ∀x,x∈l ↔ x∈m):sortF l=sortF m:=
 Z1F ((Z0S l).trans (Z6z (Z3y h1) (Z3y h2) h)) (Z1E l) h2
theorem V.anti {f:Nat}: ∀ {up:Bool} {a b:Sh},right a=true->right b=true->V f up a b->V f up b a->Shp.sorted a=Shp.sorted b:=by
  induction f with
  | zero=>intro up a b _ _ h; exact h.elim
  | succ f ih=>
    intro up a b ra rb h k;obtain ⟨hk,h1,h2,h3⟩:=h;obtain ⟨_,k1,k2,k3⟩:=k;rw[<-hk] at k1 k2 k3;by_cases h6:a.kind=6\/a.kind=7
    · have A:=Z0s (Z08 ra) h6
      have B:=Z0s (Z08 rb) (hk▸h6);have hG: ∀n,(∀p,get a n=some p-> ∃q,get b n=some q/\Shp.sorted p=Shp.sorted q)/\(∀q,get b n=some q-> ∃p,get a n=some p/\Shp.sorted p=Shp.sorted q):=by
        intro n;rcases Z13 h6 up with hw | hw
        · refine ⟨fun p hp=> ?_,fun q hq=> ?_⟩
          · obtain ⟨q,hq,v1⟩:=k1 hw n p hp
            obtain ⟨p',hp',v2⟩:=h1 hw n q hq;rw[hp] at hp'; cases hp';exact ⟨q,hq,ih (Z04 ra (Z06 hp)) (Z04 rb (Z06 hq)) v2 v1⟩
          · obtain ⟨p,hp,v2⟩:=h1 hw n q hq
            obtain ⟨q',hq',v1⟩:=k1 hw n p hp;rw[hq] at hq'; cases hq';exact ⟨p,hp,ih (Z04 ra (Z06 hp)) (Z04 rb (Z06 hq)) v2 v1⟩
        · refine ⟨fun p hp=> ?_,fun q hq=> ?_⟩
          · obtain ⟨q,hq,v1⟩:=h2 hw n p hp
            obtain ⟨p',hp',v2⟩:=k2 hw n q hq;rw[hp] at hp'; cases hp';exact ⟨q,hq,ih (Z04 ra (Z06 hp)) (Z04 rb (Z06 hq)) v1 v2⟩
          · obtain ⟨p,hp,v2⟩:=k2 hw n q hq
            obtain ⟨q',hq',v1⟩:=h2 hw n p hp;rw[hq] at hq'; cases hq';exact ⟨p,hp,ih (Z04 ra (Z06 hp)) (Z04 rb (Z06 hq)) v1 v2⟩
      have ho:a.of_=b.of_:=by rw[((Z1u a).1 A.b).1,((Z1u b).1 B.b).1]
      have hn:a.name=b.name:=by rw[((Z1u a).1 A.b).2,((Z1u b).1 B.b).2]
      have hm: ∀x,x∈a.names.zip (a.parts.map Shp.sorted) ↔ x∈b.names.zip (b.parts.map Shp.sorted):=by
        rintro ⟨n,x⟩;rw[Z2x,Z2x];constructor
        · rintro ⟨p,hp,rfl⟩
          obtain ⟨q,hq,e⟩:=(hG n).1 p (A.get_iff.2 hp);exact ⟨q,B.get_iff.1 hq,e.symm⟩
        · rintro ⟨q,hq,rfl⟩
          obtain ⟨p,hp,e⟩:=(hG n).2 q (B.get_iff.2 hq);exact ⟨p,A.get_iff.1 hp,e⟩
      have hs:=Z9J (by rw[Z2y A.l]; exact A.nodup) (by rw[Z2y B.l]; exact B.nodup) hm;have hnil:a.names= [] ↔ b.names= []:=by
        constructor
        · intro e
          cases hb:b.names with
          | nil=>rfl
          | cons x l=>
            have hx:x∈b.names:=by rw[hb]; simp
            cases hg:get b x with
            | none=>exact absurd hx (B.get_none.1 hg)
            | some q=>
              obtain ⟨p,hp,_⟩:=(hG x).2 q hg;have:=Z0Q hp;rw[e] at this; cases this
        · intro e
          cases hb:a.names with
          | nil=>rfl
          | cons x l=>
            have hx:x∈a.names:=by rw[hb]; simp
            cases hg:get a x with
            | none=>exact absurd hx (A.get_none.1 hg)
            | some q=>
              obtain ⟨p,hp,_⟩:=(hG x).1 q hg;have:=Z0Q hp;rw[e] at this; cases this
      rw[Z0k a,Z0k b,hk,ho,hn,hs];by_cases e:a.names= []
      · have e':=hnil.1 e
        have p1:a.parts= []:=List.eq_nil_of_length_eq_zero (by rw[<-A.l,e]; rfl);have p2:b.parts= []:=List.eq_nil_of_length_eq_zero (by rw[<-B.l,e']; rfl);rw[if_pos e,if_pos e',p1,p2]
      · rw[if_neg e,if_neg (fun e'=>e (hnil.2 e'))]
    · obtain ⟨e1,e2,e3,e4⟩:=h3 h6
      obtain ⟨_,_,_,g4⟩:=k3 h6;have n1:=Z1Y (Z08 ra) h6;have n2:=Z1Y (Z08 rb) (hk▸h6);have hps:a.parts.map Shp.sorted=b.parts.map Shp.sorted:=by
        refine List.ext_getElem (by simp[e3]) (fun i h1 h2=> ?_);rw[List.length_map] at h1 h2;rw[List.getElem_map,List.getElem_map];have v1:=e4 i _ _ (List.getElem?_eq_getElem h1) (List.getElem?_eq_getElem h2);have v2:=g4 i _ _ (List.getElem?_eq_getElem h2) (List.getElem?_eq_getElem h1);rw[<-e3] at v2;exact ih (Z04 ra (List.getElem_mem _)) (Z04 rb (List.getElem_mem _)) v1 v2
      rw[Z0k a,Z0k b,if_pos n1,if_pos n2,hk,e1,e2,hps]
end
end Sub
namespace Go.Proofs.YtkhoflciahkphaaDoor
open Go.RowKit
section
variable {P : Program} {ops : Array Oper} {Q : Exit -> Act -> World -> Prop}
theorem Z0I {o:Oper} {a:Act} {W:World} {K':Act->World->Prop} {E:Prop} (hw:Region.wanted o (yielded ops a.tmps)=false) (hE:E):
 if Region.wanted o (yielded ops a.tmps)=true then Oper.wp P o a W K' Q else E:=by
 rw[if_neg (by rw[hw]; simp)];exact hE
end
end Go.Proofs.YtkhoflciahkphaaDoor
namespace Go.Proofs.YtkhoflciahkphaaDoor
section
open Shp
theorem Z1g (t u:Sh):same t u=true ↔ check t=0/\check u=0/\sorted t=sorted u:=by
 simp[same,Z2M,and_assoc]
theorem Z50 (t u:Sh):same t u=same u t:=by
 rw[Bool.eq_iff_iff,Z1g,Z1g];exact ⟨fun ⟨a,b,c⟩=>⟨b,a,c.symm⟩,fun ⟨a,b,c⟩=>⟨b,a,c.symm⟩⟩
theorem Z5N {t:Sh} (h:check t≠0) (u:Sh):same t u=false:=by simp[same,h]
end
end Go.Proofs.YtkhoflciahkphaaDoor
namespace Grd
section
open Shp Sub Go.Proofs.YtkhoflciahkphaaDoor
theorem R.of_both {f:Nat} {up:Bool} {a b:Sh} (h:V f true a b) (k:V f false a b) (hd:deep b<=f):R false f up a b:=R.same h k (R.refl hd)
theorem Z4v {s:Sh} (h:known s=true):s.kind≠4:=by rw[known_eq,Bool.and_eq_true,decide_eq_true_eq] at h; exact h.1
theorem Z1l {s p:Sh} (h:known s=true) (hp:p∈s.parts):known p=true:=by rw[known_eq,Bool.and_eq_true] at h; exact knowns_mem h.2 hp
theorem R.known {f:Nat}: ∀ {up:Bool} {a b:Sh},known a=true->known b=true->R true f up a b->V f up a b:=by
 induction f with
 | zero=>intro up a b _ _ h; exact h.elim
 | succ f ih=>
  intro up a b ka kb h;rcases h with h | h | ⟨hk,h1,h2⟩
  {exact absurd h (Z4v ka)}
  {exact absurd h (Z4v kb)}
  refine ⟨hk,fun hw n q hq=> ?_,fun hw n p hp=> ?_,fun h=> ?_⟩
  {obtain ⟨g1,g2,g3⟩:=h1 (Z0x hw);cases ha:get a n with
   | none=>exact absurd (g3 n q ha hq).2 (Z0K hw)
   | some p=>exact ⟨p,rfl,ih (Z1l ka (Z06 ha)) (Z1l kb (Z06 hq)) (g1 n p q ha hq)⟩}
  {obtain ⟨g1,g2,g3⟩:=h1 (Z0H hw);cases ha:get b n with
   | none=>exact absurd hw (Z0K (g2 n p hp ha).2)
   | some q=>exact ⟨q,rfl,ih (Z1l ka (Z06 hp)) (Z1l kb (Z06 ha)) (g1 n p q hp ha)⟩}
  {obtain ⟨e1,e2,e3,e4⟩:=h2 h;exact ⟨e1,e2,e3,fun i p q hp hq=>ih (Z1l ka (List.mem_of_getElem? hp)) (Z1l kb (List.mem_of_getElem? hq)) (e4 i p q hp hq)⟩}
section
variable {a b : Sh} (h1 : plain a = true) (h2 : plain b = true)
include a b h1 h2
theorem plain_near:near a b=below a b:=by
 unfold plain at h1 h2;rw[Bool.and_eq_true,decide_eq_true_eq] at h1 h2;rw[Bool.eq_iff_iff];refine ⟨fun h=> ?_,below_near⟩;obtain ⟨ca,cb,r⟩:=near_iff.1 h;exact Z1N.2 ⟨ca,cb,r.known h1.2 h2.2⟩
theorem plain_alike:alike a b=same a b:=by
 unfold plain at h1 h2;rw[Bool.and_eq_true,decide_eq_true_eq] at h1 h2;rw[Bool.eq_iff_iff,Z1g];constructor
 {intro h;obtain ⟨ca,cb,r⟩:=Z0V.1 h;refine ⟨ca,cb,V.anti (Z05 ca).2.2 (Z05 cb).2.2 (r.near.known h1.2 h2.2) (up:=true) ?_⟩;exact (R.symm (up':=true) r).near.known h2.2 h1.2}
 {rintro ⟨ca,cb,h⟩;obtain ⟨_,da,ra⟩:=Z05 ca;obtain ⟨_,db,rb⟩:=Z05 cb;have key: ∀up,V 40 up a b:=fun up=>by
   have v1:V 40 up a (sorted a):=V.sorted ra da;rw[h] at v1;exact v1.trans (V.back rb db)
  exact Z0V.2 ⟨ca,cb,R.of_both (key true) (key false) db⟩}
end
end
end Grd
namespace Go.Proofs.YtkhoflciahkphaaDoor
section
open Go.RowKit Shp Go.Sort
theorem Z4D (t:Sh) (q:Ptr) (w:World) (hq:ShAt w w.heap.size q t) (hg:WGlobs w) (hck:check t=0):
 Calls Tryd.prog 28 #[.agg (Y8 t q)] w fun e w'=> ∃q',e= .returned (.agg (Y8 (sorted t) q'))/\ShAt w' w'.heap.size q' (sorted t)/\Below w.heap.size w w':=
 (Z58 t q w hq hg hck).mono fun e w' ⟨q',F,h1,h2,_,h4⟩=>⟨q',h1,h2.at_ h2.lt,h4⟩
end
section
open Go.RowKit Shp
theorem Z9V {l m:List Sh} {i:Nat} (hi:i < l.length) (hm:i < m.length) (h:eqB (l[i]'hi) (m[i]'hm)=false):eqs l m=false:=by
 cases e:eqs l m with
 | false=>rfl
 | true=>
  have:=(Z4J l m).1 e;subst this;rw[Z44] at h; cases h
theorem Z67 (A B:Option Addr) (c d:Nat) (l m:List (List UInt8)) (w:World) (hA:Strs w w.heap.size A (strs l)) (hB:Strs w w.heap.size B (strs m)) (hl:l.length<=9223372036854775807) (hm:m.length<=9223372036854775807):
 Y9 41 #[.slice A l.length c,.slice B m.length d] w (.bool (l==m)):=by
 have HA:=Y1 hA;have HB:=Y1 hB;clear hA hB;by_cases hlm:l.length=m.length
 {have n0: ((l.length:Int) !=(m.length:Int))=false:=by rw[hlm]; simp
  have e0: ((l.length:Int)==(m.length:Int))=true:=by rw[hlm]; simp
  have HLM:=Y1 hlm;clear hlm;go_enter Tryd.func41,Tryd.ntmps41
  go_wp2_with fail
  go_loopw [13] (fun ii wr=> ∃i:Nat,ii= .int .i64 i/\i<=l.length/\Hid (∀j (h:j < l.length) (h':j < m.length),j < i->l[j]'h=m[j]'h')/\Below w.heap.size w wr) (fun i _=>l.length - (intOf i).toNat)
  case atStart=>exact ⟨0,rfl,Nat.zero_le _,Y1 (fun j _ _ hj=>absurd hj (by omega)),Below.refl _ _⟩
  case round=>
   obtain ⟨i,rfl,hi,HN,hb⟩:=hrel;by_cases hlt:i < l.length
   {have hi1: (i:Int) < (l.length:Int):=by omega
    have hi3:i < m.length:=by have:=HLM.out; omega
    have hi2: (i:Int) < (m.length:Int):=by omega
    rcases (HA.out.next hb).cell7 with h0 | ⟨g,off,rfl,hg,hc⟩
    {omega}
    {rcases (HB.out.next hb).cell7 with h0 | ⟨g',off',rfl,hg',hc'⟩
     {omega}
     {have p:=hc i hlt;have p':=hc' i hi3;obtain ⟨x,hx⟩: ∃x,x=l[i]'hlt:=⟨_,rfl⟩;obtain ⟨y,hy⟩: ∃y,y=m[i]'hi3:=⟨_,rfl⟩;rw[<-hx] at p;rw[<-hy] at p';have HX:=Y1 hx;have HY:=Y1 hy;clear hx hy hc hc';cases hxy: (x==y)
      {have HF:Hid ((l==m)=false):=Y1 (by
        rw[beq_eq_false_iff_ne];rintro rfl;rw[HX.out,HY.out] at hxy;simp at hxy)
       have n1: (x !=y)=true:=by unfold bne; rw[hxy]; rfl
       go_wp2_with fail
       go_quiet (fail)
       go_wp2;go_ret;exact ⟨by rw[HF.out]; rfl,Z0D hb _⟩}
      {have n1: (x !=y)=false:=by unfold bne; rw[hxy]; rfl
       have HE:Hid (l[i]'hlt=m[i]'hi3):=Y1 (by rw[<-HX.out, <-HY.out]; simpa using hxy)
       go_wp2_with fail
       go_quiet (fail)
       go_wp2
       go_roundw
       case rel=>exact ⟨i+1,by go_num,by omega,Y1 (fun j hj hj' hji=>by
        rcases Nat.lt_succ_iff_lt_or_eq.1 hji with h | rfl
        {exact HN.out j hj hj' h}
        · exact HE.out),Z0D hb _⟩
       case measure=>simp[intOf]; omega}}}}
   {have hi1: ¬(i:Int) < (l.length:Int):=by omega
    have HF:Hid ((l==m)=true):=Y1 (by
     rw[beq_iff_eq];exact List.ext_getElem HLM.out (fun j a b=>HN.out j a b (by omega)))
    go_wp2;go_ret;exact ⟨by rw[HF.out]; rfl,hb⟩}}
 {have n0: ((l.length:Int) !=(m.length:Int))=true:=by
   have: ((l.length:Int)==(m.length:Int))=false:=by rw[beq_eq_false_iff_ne]; omega
   unfold bne; rw[this]; rfl
  have e0: ((l.length:Int)==(m.length:Int))=false:=by rw[beq_eq_false_iff_ne]; omega
  have HF:Hid ((l==m)=false):=Y1 (by rw[beq_eq_false_iff_ne]; intro h; rw[h] at hlm; exact hlm rfl);clear hlm;go_enter Tryd.func41,Tryd.ntmps41;go_wp2;go_ret;exact ⟨by rw[HF.out]; rfl,Below.refl _ _⟩}
theorem ShAt.lies {w:World} {q:Ptr} {t:Sh} (h:ShAt w w.heap.size q t):Z3P w q.P t.parts:=by
 rcases h.part with h0 | ⟨g,off,qs,h1,h2,h3,h4⟩
 {exact ⟨0,0,fun _=>q,Or.inl h0⟩}
 {exact ⟨g,off,qs,Or.inr ⟨h1,h2,h3,h4⟩⟩}
theorem Z5i (P Q:Option Addr) (c d:Nat) (l m:List Sh) (w:World) (hP:Z3P w P l) (hQ:Z3P w Q m) (hl:l.length<=9223372036854775807) (hm:m.length<=9223372036854775807)
 (hf: ∀x∈l,∀(y:Sh) (q r:Ptr) (w:World),ShAt w w.heap.size q x->ShAt w w.heap.size r y->Y9 27 #[.agg (Y8 x q),.agg (Y8 y r)] w (.bool (eqB x y))):
 Y9 42 #[.slice P l.length c,.slice Q m.length d,.func (.func 27) #[] #[]] w (.bool (eqs l m)):=by
 have HP:=Y1 hP;have HQ:=Y1 hQ;have HF0:=Y1 hf;clear hP hQ hf;by_cases hlm:l.length=m.length
 {have n0: ((l.length:Int) !=(m.length:Int))=false:=by rw[hlm]; simp
  have e0: ((l.length:Int)==(m.length:Int))=true:=by rw[hlm]; simp
  have HLM:=Y1 hlm;clear hlm;go_enter Tryd.func42,Tryd.ntmps42
  go_wp2_with fail
  go_loopw [17] (fun ii wr=> ∃i:Nat,ii= .int .i64 i/\i<=l.length/\Hid (∀j (h:j < l.length) (h':j < m.length),j < i->eqB (l[j]'h) (m[j]'h')=true)/\Below w.heap.size w wr) (fun i _=>l.length - (intOf i).toNat)
  case atStart=>exact ⟨0,rfl,Nat.zero_le _,Y1 (fun j _ _ hj=>absurd hj (by omega)),Below.refl _ _⟩
  case round=>
   obtain ⟨i,rfl,hi,HN,hb⟩:=hrel;by_cases hlt:i < l.length
   {have hi1: (i:Int) < (l.length:Int):=by omega
    have hi3:i < m.length:=by have:=HLM.out; omega
    have hi2: (i:Int) < (m.length:Int):=by omega
    obtain ⟨g,off,qs,hPP⟩:=HP.out.next hb;obtain ⟨g',off',rs,hQQ⟩:=HQ.out.next hb;rcases hPP with h0 | ⟨rfl,hg,hc,hr⟩
    {omega}
    {rcases hQQ with h0 | ⟨rfl,hg',hc',hr'⟩
     {omega}
     {obtain ⟨x,hx⟩: ∃x,x=l[i]'hlt:=⟨_,rfl⟩;obtain ⟨y,hy⟩: ∃y,y=m[i]'hi3:=⟨_,rfl⟩;obtain ⟨p0,p1,p2,p3,p4⟩:=hc i hlt;have hs5:=(hc' i hi3);have hat:=hr i hlt;have hat':=hr' i hi3;have ihx:=HF0.out l[i] (List.getElem_mem _);rw[<-hx] at p0 p1 p2 p3 p4 hat ihx;rw[<-hy] at hs5 hat';have HS:=Y1 hs5;have HX:=Y1 hx;have HY:=Y1 hy;have hb1:=Z01 wr (.cells (Y8 x (qs i)) 25);have hb2:=Z0i hb1 (.cells (Y8 y (rs i)) 25);have IH:=ihx y (qs i) (rs i) _ (hat.next hb2) (hat'.next hb2);obtain ⟨s0,s1,s2,s3,s4⟩:=hs5.keep hg' hb1;have HBW:=Y1 (Z00 hb hb2);have HBB:=Y1 hb2;clear hx hy hc hc' hr hr' hat hat' ihx hs5 hb1 hb2;cases hxy:eqB x y
      {have HF:Hid (eqs l m=false):=Y1 (Z9V hlt hi3 (by rw[<-HX.out, <-HY.out]; exact hxy));rw[hxy] at IH;clear hxy
       go_wp2_with fail
       refine IH.mono ?_;rintro e w' ⟨rfl,hb'⟩;go_wp2;go_ret;exact ⟨by rw[HF.out]; rfl,Z00 HBW.out hb'⟩}
      {have HE:Hid (eqB (l[i]'hlt) (m[i]'hi3)=true):=Y1 (by rw[<-HX.out, <-HY.out]; exact hxy);rw[hxy] at IH;clear hxy
       go_wp2_with fail
       refine IH.mono ?_;rintro e w' ⟨rfl,hb'⟩;go_wp2
       go_roundw
       case rel=>exact ⟨i+1,by go_num,by omega,Y1 (fun j hj hj' hji=>by
        rcases Nat.lt_succ_iff_lt_or_eq.1 hji with h | rfl
        {exact HN.out j hj hj' h}
        · exact HE.out),Z00 HBW.out hb'⟩
       case measure=>simp[intOf]; omega}}}}
   {have hi1: ¬(i:Int) < (l.length:Int):=by omega
    have HF:Hid (eqs l m=true):=Y1 (Z7n HLM.out (fun j hj=>HN.out j hj (by have:=HLM.out; omega) (by omega)));go_wp2;go_ret;exact ⟨by rw[HF.out]; rfl,hb⟩}}
 {have n0: ((l.length:Int) !=(m.length:Int))=true:=by
   have: ((l.length:Int)==(m.length:Int))=false:=by rw[beq_eq_false_iff_ne]; omega
   unfold bne; rw[this]; rfl
  have e0: ((l.length:Int)==(m.length:Int))=false:=by rw[beq_eq_false_iff_ne]; omega
  have HF:Hid (eqs l m=false):=Y1 (by
   cases e:eqs l m with
   | false=>rfl
   | true=>exact absurd (congrArg List.length ((Z4J l m).1 e)) hlm)
  clear hlm;go_enter Tryd.func42,Tryd.ntmps42;go_wp2;go_ret;exact ⟨by rw[HF.out]; rfl,Below.refl _ _⟩}
theorem Z75 (t:Sh): ∀(u:Sh) (q r:Ptr) (w:World),ShAt w w.heap.size q t->ShAt w w.heap.size r u->
 Y9 27 #[.agg (Y8 t q),.agg (Y8 u r)] w (.bool (eqB t u)):=by
 induction t using Sh.ind with
 | h t ih=>
 intro u q r w hq hr;have hb0:=Z01 w (.cells (Y8 t q) 25);have hb1:=Z0i hb0 (.cells (Y8 u r) 25);have HB1:=Y1 hb1;have HB:=Y1 ((Z02 w t q).next (Z01 _ (.cells (Y8 u r) 25)));have hC:=Z02 (w.alloc (.cells (Y8 t q) 25)) u r;rw[World.size_alloc] at hC;have HC:=Y1 hC;obtain ⟨_,⟨c0,c1,c2,c3,c4⟩,_⟩:=HB.out;obtain ⟨_,⟨d0,d1,d2,d3,d4⟩,_⟩:=hC;have HS:=Y1 hq.small;have HT:=Y1 hr.small;have hns:=Z67 q.A r.A q.c r.c t.names u.names _ (hq.strs.next hb1) (hr.strs.next hb1) HS.out.l HT.out.l;have HPS:=Y1 (fun W (h:Below w.heap.size w W)=>Z5i q.P r.P q.d r.d t.parts u.parts W ((hq.next h).lies) ((hr.next h).lies) HS.out.m HT.out.m ih);have HH:Hid (eqB t u=(t.kind==u.kind&&t.of_==u.of_&&t.name==u.name&&t.names==u.names&&eqs t.parts u.parts)):=Y1 (Z5q t u);clear hb0 hb1 hq hr ih;cases e1: (t.kind==u.kind)
 {have HF:Hid (eqB t u=false):=Y1 (by rw[HH.out,e1]; rfl);go_enter Tryd.func27,Tryd.ntmps27;go_wp2;go_ret;exact ⟨by rw[HF.out]; rfl,HB1.out⟩}
 {cases e2: (t.of_==u.of_)
  {have HF:Hid (eqB t u=false):=Y1 (by rw[HH.out,e2]; simp);go_enter Tryd.func27,Tryd.ntmps27;go_wp2;go_ret;exact ⟨by rw[HF.out]; rfl,HB1.out⟩}
  {cases e3: (t.name==u.name)
   {have HF:Hid (eqB t u=false):=Y1 (by rw[HH.out,e3]; simp);go_enter Tryd.func27,Tryd.ntmps27;go_wp2;go_ret;exact ⟨by rw[HF.out]; rfl,HB1.out⟩}
   {cases e4: (t.names==u.names)
    {have HF:Hid (eqB t u=false):=Y1 (by rw[HH.out,e4]; simp);rw[e4] at hns;clear e4;go_enter Tryd.func27,Tryd.ntmps27
     go_wp2_with fail
     refine hns.mono ?_;rintro e w' ⟨rfl,hb'⟩;go_wp2;go_ret;exact ⟨by rw[HF.out]; rfl,Z00 HB1.out hb'⟩}
    {have HF:Hid (eqB t u=eqs t.parts u.parts):=Y1 (by rw[HH.out,e1,e2,e3,e4]; rfl);rw[e4] at hns;clear e4;go_enter Tryd.func27,Tryd.ntmps27
     go_wp2_with fail
     refine hns.mono ?_;rintro e w1 ⟨rfl,hb'⟩;have hbw:=Z00 HB1.out hb';have hp:=HPS.out w1 hbw;have hX:=HB.out.next hb';have hY:=HC.out.next hb';clear c0 c1 c2 c3 c4 d0 d1 d2 d3 d4 hns hb' e1 e2 e3;obtain ⟨_,⟨c0,c1,c2,c3,c4⟩,_⟩:=hX;obtain ⟨_,⟨d0,d1,d2,d3,d4⟩,_⟩:=hY
     go_wp2_with fail
     refine hp.mono ?_;rintro e w' ⟨rfl,hb2⟩;go_wp2;go_ret;exact ⟨by rw[HF.out]; rfl,Z00 hbw hb2⟩}}}}
def wantSh (t:Sh):Want:=⟨fun v W=> ∃q:Ptr,v= .agg (Y8 t q)/\ShAt W W.heap.size q t,fun v w w' hb ⟨q,hv,h⟩=>⟨q,hv,h.next hb⟩⟩
def Z9r (t u:Sh) (q r:Ptr):Nat->Want
 | 0=> .val (.agg (Y8 t q))
 | 1=> .val (.bool false)
 | 2=> .val (.bool false)
 | 5=> .val (.bool false)
 | 6=> .val (.bool false)
 | 12=> .val (.bool false)
 | 13=> .val (.bool false)
 | _=> .any
def Z76 (t u:Sh) (q r:Ptr):Nat->Want
 | 0=> .val (.agg (Y8 t q))
 | 1=> .val (.bool true)
 | 2=> .val (.bool true)
 | 3=> .val (.agg (Y8 u r))
 | 4=> .val (.bool false)
 | 5=> .val (.bool false)
 | 6=> .val (.bool false)
 | 12=> .val (.bool false)
 | 13=> .val (.bool false)
 | _=> .any
def Z8o (t u:Sh) (q r:Ptr):Nat->Want
 | 0=> .val (.agg (Y8 t q))
 | 1=> .val (.bool true)
 | 2=> .val (.bool true)
 | 3=> .val (.agg (Y8 u r))
 | 4=> .val (.bool true)
 | 5=> .val (.bool true)
 | 6=> .val (.bool true)
 | 7=> .val (.agg (Y8 t q))
 | 8=>wantSh (sorted t)
 | 9=> .val (.agg (Y8 u r))
 | 10=>wantSh (sorted u)
 | 11=> .val (.bool (eqB (sorted t) (sorted u)))
 | 12=> .val (.bool (eqB (sorted t) (sorted u)))
 | 13=> .val (.bool (eqB (sorted t) (sorted u)))
 | _=> .any
section
variable (t u : Sh) (q r : Ptr) (w : World) (hq : ShAt w w.heap.size q t) (hr : ShAt w w.heap.size r u) (hg : WGlobs w)
include t u q r w hq hr hg
theorem Z9X (hc:check t≠0):
 Y9 13 #[.agg (Y8 t q),.agg (Y8 u r)] w (.bool (same t u)):=by
 have HB1:=Y1 (((Z02 w t q).next (Z01 _ _)):Box5 ((w.alloc (.cells (Y8 t q) 25)).alloc (.cells (Y8 u r) 25)) w.heap.size t q);have HB2:Hid (Box5 ((w.alloc (.cells (Y8 t q) 25)).alloc (.cells (Y8 u r) 25)) (w.heap.size+1) u r):=by
  have h:=Z02 (w.alloc (.cells (Y8 t q) 25)) u r;have e: (w.alloc (.cells (Y8 t q) 25)).heap.size=w.heap.size+1:=by simp
  rw[e] at h;exact Y1 h
 have hb0:Below w.heap.size w ((w.alloc (.cells (Y8 t q) 25)).alloc (.cells (Y8 u r) 25)):=Z0i (Z01 _ _) _;have HQ:=Y1 (hq.next hb0);have HR:=Y1 (hr.next hb0);have HG:=Y1 (hg.next hb0);have HB0:=Y1 hb0;have HC:=Y1 hc;clear hq hr hg hb0 hc;go_enter Tryd.func13,Tryd.ntmps13
 go_wp2_with fail
 generalize (w.alloc (.cells (Y8 t q) 25)).alloc (.cells (Y8 u r) 25)=W0 at HB1 HB2 HQ HR HG HB0 ⊢;refine Z1A (rs:= [0,1,2,3,4,5,6,7,8,9,10,11,12,13])
  (fun u'=> { tmps:=#[.agg (Y8 t q),.agg (Y8 u r),.pointer (some { block:=w.heap.size,off:=0 }),.pointer (some { block:=w.heap.size+1,off:=0 }),u' 13,u' 0,u' 1,u' 2,u' 3,u' 4,u' 5,u' 6,u' 7,u' 8,u' 9,u' 10,u' 11,u' 12],defers:= [] })
  (fun j=>([undef,undef,undef,undef,undef,undef,undef,undef,undef,undef,undef,undef,undef,.bool false]:List Value).getD j undef) (Z9r t u q r) (fun W=>Below W0.heap.size W0 W) (by kernel_rfl) (by kernel_rfl) (by kernel_rfl) Y2.drew ?_ ?_
 refine StepsAt.cons _ rfl (fun u' W K' hJ hd hK=> ?_) ?_
 {obtain ⟨_,⟨y0,y1,y2,y3,y4⟩,_⟩:=HB1.out.next hJ;simp only[Nat.zero_add] at y0 y1 y2 y3 y4;refine Y0 hK hJ rfl rfl rfl ?_
  try dsimp only
  go_simp}
 refine StepsAt.cons _ rfl (fun u' W K' hJ hd hK=> ?_) ?_
 {have d0:_=_:=hd 0 (by kernel_rfl);refine Z0j (f:=26) (args:=#[.agg (Y8 t q)]) (W':=W) rfl ?_ ((mayBe_walk t q W (HQ.out.next hJ) (HG.out.next hJ)).mono fun e w' h=>⟨_,h.1,hK.out _ _ (by rw[decide_eq_false HC.out]; rfl) (Z00 hJ h.2) h.2⟩)
  try dsimp only
  go_simp}
 refine StepsAt.cons _ rfl (fun u' W K' hJ hd hK=> ?_) ?_
 {have d1:_=_:=hd 1 (by kernel_rfl);refine Y0 hK hJ rfl rfl rfl ?_
  try dsimp only
  go_simp}
 refine StepsAt.cons _ rfl (fun u' W K' hJ hd hK=> ?_) ?_
 {have dg:_=_:=hd 2 (by kernel_rfl);exact Z0I (by simp[Region.wanted,yielded,dg]) (hK.out _ _ trivial hJ Y2)}
 refine StepsAt.cons _ rfl (fun u' W K' hJ hd hK=> ?_) ?_
 {have dg:_=_:=hd 2 (by kernel_rfl);exact Z0I (by simp[Region.wanted,yielded,dg]) (hK.out _ _ trivial hJ Y2)}
 refine StepsAt.cons _ rfl (fun u' W K' hJ hd hK=> ?_) ?_
 {have d2:_=_:=hd 2 (by kernel_rfl);refine Y0 hK hJ rfl rfl rfl ?_
  try dsimp only
  go_simp}
 refine StepsAt.cons _ rfl (fun u' W K' hJ hd hK=> ?_) ?_
 {have d5:_=_:=hd 5 (by kernel_rfl);refine Y0 hK hJ rfl rfl rfl ?_
  try dsimp only
  go_simp}
 refine StepsAt.cons _ rfl (fun u' W K' hJ hd hK=> ?_) ?_
 {have dg:_=_:=hd 6 (by kernel_rfl);exact Z0I (by simp[Region.wanted,yielded,dg]) (hK.out _ _ trivial hJ Y2)}
 refine StepsAt.cons _ rfl (fun u' W K' hJ hd hK=> ?_) ?_
 {have dg:_=_:=hd 6 (by kernel_rfl);exact Z0I (by simp[Region.wanted,yielded,dg]) (hK.out _ _ trivial hJ Y2)}
 refine StepsAt.cons _ rfl (fun u' W K' hJ hd hK=> ?_) ?_
 {have dg:_=_:=hd 6 (by kernel_rfl);exact Z0I (by simp[Region.wanted,yielded,dg]) (hK.out _ _ trivial hJ Y2)}
 refine StepsAt.cons _ rfl (fun u' W K' hJ hd hK=> ?_) ?_
 {have dg:_=_:=hd 6 (by kernel_rfl);exact Z0I (by simp[Region.wanted,yielded,dg]) (hK.out _ _ trivial hJ Y2)}
 refine StepsAt.cons _ rfl (fun u' W K' hJ hd hK=> ?_) ?_
 {have dg:_=_:=hd 6 (by kernel_rfl);exact Z0I (by simp[Region.wanted,yielded,dg]) (hK.out _ _ trivial hJ Y2)}
 refine StepsAt.cons _ rfl (fun u' W K' hJ hd hK=> ?_) ?_
 {have d6:_=_:=hd 6 (by kernel_rfl);refine Y0 hK hJ rfl rfl rfl ?_
  try dsimp only
  go_simp}
 refine StepsAt.cons _ rfl (fun u' W K' hJ hd hK=> ?_) StepsAt.nil
 {have d12:_=_:=hd 12 (by kernel_rfl);refine Y0 hK hJ rfl rfl rfl ?_
  try dsimp only
  go_simp}
 intro u' W' hJ' hok
 try dsimp only
 rw[show u' 13= .bool false from hok 13 (by decide)];clear hok;go_wp2;go_ret;exact ⟨Z0w (by rw[Z5N HC.out u]),Z00 HB0.out hJ'⟩
theorem Z8p (hc:check t=0/\check u≠0):
 Y9 13 #[.agg (Y8 t q),.agg (Y8 u r)] w (.bool (same t u)):=by
 have HB1:=Y1 (((Z02 w t q).next (Z01 _ _)):Box5 ((w.alloc (.cells (Y8 t q) 25)).alloc (.cells (Y8 u r) 25)) w.heap.size t q);have HB2:Hid (Box5 ((w.alloc (.cells (Y8 t q) 25)).alloc (.cells (Y8 u r) 25)) (w.heap.size+1) u r):=by
  have h:=Z02 (w.alloc (.cells (Y8 t q) 25)) u r;have e: (w.alloc (.cells (Y8 t q) 25)).heap.size=w.heap.size+1:=by simp
  rw[e] at h;exact Y1 h
 have hb0:Below w.heap.size w ((w.alloc (.cells (Y8 t q) 25)).alloc (.cells (Y8 u r) 25)):=Z0i (Z01 _ _) _;have HQ:=Y1 (hq.next hb0);have HR:=Y1 (hr.next hb0);have HG:=Y1 (hg.next hb0);have HB0:=Y1 hb0;have HC:=Y1 hc;clear hq hr hg hb0 hc;go_enter Tryd.func13,Tryd.ntmps13
 go_wp2_with fail
 generalize (w.alloc (.cells (Y8 t q) 25)).alloc (.cells (Y8 u r) 25)=W0 at HB1 HB2 HQ HR HG HB0 ⊢;refine Z1A (rs:= [0,1,2,3,4,5,6,7,8,9,10,11,12,13])
  (fun u'=> { tmps:=#[.agg (Y8 t q),.agg (Y8 u r),.pointer (some { block:=w.heap.size,off:=0 }),.pointer (some { block:=w.heap.size+1,off:=0 }),u' 13,u' 0,u' 1,u' 2,u' 3,u' 4,u' 5,u' 6,u' 7,u' 8,u' 9,u' 10,u' 11,u' 12],defers:= [] })
  (fun j=>([undef,undef,undef,undef,undef,undef,undef,undef,undef,undef,undef,undef,undef,.bool false]:List Value).getD j undef) (Z76 t u q r) (fun W=>Below W0.heap.size W0 W) (by kernel_rfl) (by kernel_rfl) (by kernel_rfl) Y2.drew ?_ ?_
 refine StepsAt.cons _ rfl (fun u' W K' hJ hd hK=> ?_) ?_
 {obtain ⟨_,⟨y0,y1,y2,y3,y4⟩,_⟩:=HB1.out.next hJ;simp only[Nat.zero_add] at y0 y1 y2 y3 y4;refine Y0 hK hJ rfl rfl rfl ?_
  try dsimp only
  go_simp}
 refine StepsAt.cons _ rfl (fun u' W K' hJ hd hK=> ?_) ?_
 {have d0:_=_:=hd 0 (by kernel_rfl);refine Z0j (f:=26) (args:=#[.agg (Y8 t q)]) (W':=W) rfl ?_ ((mayBe_walk t q W (HQ.out.next hJ) (HG.out.next hJ)).mono fun e w' h=>⟨_,h.1,hK.out _ _ (by rw[decide_eq_true HC.out.1]; rfl) (Z00 hJ h.2) h.2⟩)
  try dsimp only
  go_simp}
 refine StepsAt.cons _ rfl (fun u' W K' hJ hd hK=> ?_) ?_
 {have d1:_=_:=hd 1 (by kernel_rfl);refine Y0 hK hJ rfl rfl rfl ?_
  try dsimp only
  go_simp}
 refine StepsAt.cons _ rfl (fun u' W K' hJ hd hK=> ?_) ?_
 {have dg:_=_:=hd 2 (by kernel_rfl);obtain ⟨_,⟨y0,y1,y2,y3,y4⟩,_⟩:=HB2.out.next hJ;simp only[Nat.zero_add] at y0 y1 y2 y3 y4;refine Y0 hK hJ rfl rfl ?_ ?_
  {simp[Region.wanted,yielded,dg]}
  {try dsimp only
   go_simp}}
 refine StepsAt.cons _ rfl (fun u' W K' hJ hd hK=> ?_) ?_
 {have dg:_=_:=hd 2 (by kernel_rfl);have d3:_=_:=hd 3 (by kernel_rfl);refine Z0j (f:=26) (args:=#[.agg (Y8 u r)]) (W':=W) ?_ ?_ ((mayBe_walk u r W (HR.out.next hJ) (HG.out.next hJ)).mono fun e w' h=>⟨_,h.1,hK.out _ _ (by rw[decide_eq_false HC.out.2]; rfl) (Z00 hJ h.2) h.2⟩)
  {simp[Region.wanted,yielded,dg]}
  {try dsimp only
   go_simp}}
 refine StepsAt.cons _ rfl (fun u' W K' hJ hd hK=> ?_) ?_
 {have d2:_=_:=hd 2 (by kernel_rfl);have d4:_=_:=hd 4 (by kernel_rfl);refine Y0 hK hJ rfl rfl rfl ?_
  try dsimp only
  go_simp}
 refine StepsAt.cons _ rfl (fun u' W K' hJ hd hK=> ?_) ?_
 {have d5:_=_:=hd 5 (by kernel_rfl);refine Y0 hK hJ rfl rfl rfl ?_
  try dsimp only
  go_simp}
 refine StepsAt.cons _ rfl (fun u' W K' hJ hd hK=> ?_) ?_
 {have dg:_=_:=hd 6 (by kernel_rfl);exact Z0I (by simp[Region.wanted,yielded,dg]) (hK.out _ _ trivial hJ Y2)}
 refine StepsAt.cons _ rfl (fun u' W K' hJ hd hK=> ?_) ?_
 {have dg:_=_:=hd 6 (by kernel_rfl);exact Z0I (by simp[Region.wanted,yielded,dg]) (hK.out _ _ trivial hJ Y2)}
 refine StepsAt.cons _ rfl (fun u' W K' hJ hd hK=> ?_) ?_
 {have dg:_=_:=hd 6 (by kernel_rfl);exact Z0I (by simp[Region.wanted,yielded,dg]) (hK.out _ _ trivial hJ Y2)}
 refine StepsAt.cons _ rfl (fun u' W K' hJ hd hK=> ?_) ?_
 {have dg:_=_:=hd 6 (by kernel_rfl);exact Z0I (by simp[Region.wanted,yielded,dg]) (hK.out _ _ trivial hJ Y2)}
 refine StepsAt.cons _ rfl (fun u' W K' hJ hd hK=> ?_) ?_
 {have dg:_=_:=hd 6 (by kernel_rfl);exact Z0I (by simp[Region.wanted,yielded,dg]) (hK.out _ _ trivial hJ Y2)}
 refine StepsAt.cons _ rfl (fun u' W K' hJ hd hK=> ?_) ?_
 {have d6:_=_:=hd 6 (by kernel_rfl);refine Y0 hK hJ rfl rfl rfl ?_
  try dsimp only
  go_simp}
 refine StepsAt.cons _ rfl (fun u' W K' hJ hd hK=> ?_) StepsAt.nil
 {have d12:_=_:=hd 12 (by kernel_rfl);refine Y0 hK hJ rfl rfl rfl ?_
  try dsimp only
  go_simp}
 intro u' W' hJ' hok
 try dsimp only
 rw[show u' 13= .bool false from hok 13 (by decide)];clear hok;go_wp2;go_ret;exact ⟨Z0w (by rw[Z50,Z5N HC.out.2 t]),Z00 HB0.out hJ'⟩
theorem Z9s (hc:check t=0/\check u=0):
 Y9 13 #[.agg (Y8 t q),.agg (Y8 u r)] w (.bool (same t u)):=by
 have HB1:=Y1 (((Z02 w t q).next (Z01 _ _)):Box5 ((w.alloc (.cells (Y8 t q) 25)).alloc (.cells (Y8 u r) 25)) w.heap.size t q);have HB2:Hid (Box5 ((w.alloc (.cells (Y8 t q) 25)).alloc (.cells (Y8 u r) 25)) (w.heap.size+1) u r):=by
  have h:=Z02 (w.alloc (.cells (Y8 t q) 25)) u r;have e: (w.alloc (.cells (Y8 t q) 25)).heap.size=w.heap.size+1:=by simp
  rw[e] at h;exact Y1 h
 have hb0:Below w.heap.size w ((w.alloc (.cells (Y8 t q) 25)).alloc (.cells (Y8 u r) 25)):=Z0i (Z01 _ _) _;have HQ:=Y1 (hq.next hb0);have HR:=Y1 (hr.next hb0);have HG:=Y1 (hg.next hb0);have HB0:=Y1 hb0;have HC:=Y1 hc;clear hq hr hg hb0 hc;go_enter Tryd.func13,Tryd.ntmps13
 go_wp2_with fail
 generalize (w.alloc (.cells (Y8 t q) 25)).alloc (.cells (Y8 u r) 25)=W0 at HB1 HB2 HQ HR HG HB0 ⊢;refine Z1A (rs:= [0,1,2,3,4,5,6,7,8,9,10,11,12,13])
  (fun u'=> { tmps:=#[.agg (Y8 t q),.agg (Y8 u r),.pointer (some { block:=w.heap.size,off:=0 }),.pointer (some { block:=w.heap.size+1,off:=0 }),u' 13,u' 0,u' 1,u' 2,u' 3,u' 4,u' 5,u' 6,u' 7,u' 8,u' 9,u' 10,u' 11,u' 12],defers:= [] })
  (fun j=>([undef,undef,undef,undef,undef,undef,undef,undef,undef,undef,undef,undef,undef,.bool false]:List Value).getD j undef) (Z8o t u q r) (fun W=>Below W0.heap.size W0 W) (by kernel_rfl) (by kernel_rfl) (by kernel_rfl) Y2.drew ?_ ?_
 refine StepsAt.cons _ rfl (fun u' W K' hJ hd hK=> ?_) ?_
 {obtain ⟨_,⟨y0,y1,y2,y3,y4⟩,_⟩:=HB1.out.next hJ;simp only[Nat.zero_add] at y0 y1 y2 y3 y4;refine Y0 hK hJ rfl rfl rfl ?_
  try dsimp only
  go_simp}
 refine StepsAt.cons _ rfl (fun u' W K' hJ hd hK=> ?_) ?_
 {have d0:_=_:=hd 0 (by kernel_rfl);refine Z0j (f:=26) (args:=#[.agg (Y8 t q)]) (W':=W) rfl ?_ ((mayBe_walk t q W (HQ.out.next hJ) (HG.out.next hJ)).mono fun e w' h=>⟨_,h.1,hK.out _ _ (by rw[decide_eq_true HC.out.1]; rfl) (Z00 hJ h.2) h.2⟩)
  try dsimp only
  go_simp}
 refine StepsAt.cons _ rfl (fun u' W K' hJ hd hK=> ?_) ?_
 {have d1:_=_:=hd 1 (by kernel_rfl);refine Y0 hK hJ rfl rfl rfl ?_
  try dsimp only
  go_simp}
 refine StepsAt.cons _ rfl (fun u' W K' hJ hd hK=> ?_) ?_
 {have dg:_=_:=hd 2 (by kernel_rfl);obtain ⟨_,⟨y0,y1,y2,y3,y4⟩,_⟩:=HB2.out.next hJ;simp only[Nat.zero_add] at y0 y1 y2 y3 y4;refine Y0 hK hJ rfl rfl ?_ ?_
  {simp[Region.wanted,yielded,dg]}
  {try dsimp only
   go_simp}}
 refine StepsAt.cons _ rfl (fun u' W K' hJ hd hK=> ?_) ?_
 {have dg:_=_:=hd 2 (by kernel_rfl);have d3:_=_:=hd 3 (by kernel_rfl);refine Z0j (f:=26) (args:=#[.agg (Y8 u r)]) (W':=W) ?_ ?_ ((mayBe_walk u r W (HR.out.next hJ) (HG.out.next hJ)).mono fun e w' h=>⟨_,h.1,hK.out _ _ (by rw[decide_eq_true HC.out.2]; rfl) (Z00 hJ h.2) h.2⟩)
  {simp[Region.wanted,yielded,dg]}
  {try dsimp only
   go_simp}}
 refine StepsAt.cons _ rfl (fun u' W K' hJ hd hK=> ?_) ?_
 {have d2:_=_:=hd 2 (by kernel_rfl);have d4:_=_:=hd 4 (by kernel_rfl);refine Y0 hK hJ rfl rfl rfl ?_
  try dsimp only
  go_simp}
 refine StepsAt.cons _ rfl (fun u' W K' hJ hd hK=> ?_) ?_
 {have d5:_=_:=hd 5 (by kernel_rfl);refine Y0 hK hJ rfl rfl rfl ?_
  try dsimp only
  go_simp}
 refine StepsAt.cons _ rfl (fun u' W K' hJ hd hK=> ?_) ?_
 {have dg:_=_:=hd 6 (by kernel_rfl);obtain ⟨_,⟨y0,y1,y2,y3,y4⟩,_⟩:=HB1.out.next hJ;simp only[Nat.zero_add] at y0 y1 y2 y3 y4;refine Y0 hK hJ rfl rfl ?_ ?_
  {simp[Region.wanted,yielded,dg]}
  {try dsimp only
   go_simp}}
 refine StepsAt.cons _ rfl (fun u' W K' hJ hd hK=> ?_) ?_
 {have dg:_=_:=hd 6 (by kernel_rfl);have d7:_=_:=hd 7 (by kernel_rfl);refine Z0j (f:=28) (args:=#[.agg (Y8 t q)]) (W':=W) ?_ ?_ ((Z4D t q W (HQ.out.next hJ) (HG.out.next hJ) HC.out.1).mono fun e w' ⟨q',he,ha,hb⟩=>⟨_,he,hK.out _ _ ⟨q',rfl,ha⟩ (Z00 hJ hb) hb⟩)
  {simp[Region.wanted,yielded,dg]}
  {try dsimp only
   go_simp}}
 refine StepsAt.cons _ rfl (fun u' W K' hJ hd hK=> ?_) ?_
 {have dg:_=_:=hd 6 (by kernel_rfl);obtain ⟨_,⟨y0,y1,y2,y3,y4⟩,_⟩:=HB2.out.next hJ;simp only[Nat.zero_add] at y0 y1 y2 y3 y4;refine Y0 hK hJ rfl rfl ?_ ?_
  {simp[Region.wanted,yielded,dg]}
  {try dsimp only
   go_simp}}
 refine StepsAt.cons _ rfl (fun u' W K' hJ hd hK=> ?_) ?_
 {have dg:_=_:=hd 6 (by kernel_rfl);have d9:_=_:=hd 9 (by kernel_rfl);refine Z0j (f:=28) (args:=#[.agg (Y8 u r)]) (W':=W) ?_ ?_ ((Z4D u r W (HR.out.next hJ) (HG.out.next hJ) HC.out.2).mono fun e w' ⟨q',he,ha,hb⟩=>⟨_,he,hK.out _ _ ⟨q',rfl,ha⟩ (Z00 hJ hb) hb⟩)
  {simp[Region.wanted,yielded,dg]}
  {try dsimp only
   go_simp}}
 refine StepsAt.cons _ rfl (fun u' W K' hJ hd hK=> ?_) ?_
 {have dg:_=_:=hd 6 (by kernel_rfl);obtain ⟨qt,d8,at1⟩:=hd 8 (by kernel_rfl);obtain ⟨qu,d10,au⟩:=hd 10 (by kernel_rfl);refine Z0j (f:=27) (args:=#[.agg (Y8 (sorted t) qt),.agg (Y8 (sorted u) qu)]) (W':=W) ?_ ?_ ((Z75 (sorted t) (sorted u) qt qu W at1 au).mono fun e w' h=>⟨_,h.1,hK.out _ _ rfl (Z00 hJ h.2) h.2⟩)
  {simp[Region.wanted,yielded,dg]}
  {try dsimp only
   go_simp}}
 refine StepsAt.cons _ rfl (fun u' W K' hJ hd hK=> ?_) ?_
 {have d6:_=_:=hd 6 (by kernel_rfl);have d11:_=_:=hd 11 (by kernel_rfl);refine Y0 hK hJ rfl rfl rfl ?_
  try dsimp only
  go_simp}
 refine StepsAt.cons _ rfl (fun u' W K' hJ hd hK=> ?_) StepsAt.nil
 {have d12:_=_:=hd 12 (by kernel_rfl);refine Y0 hK hJ rfl rfl rfl ?_
  try dsimp only
  go_simp}
 intro u' W' hJ' hok
 try dsimp only
 rw[show u' 13= .bool (eqB (sorted t) (sorted u)) from hok 13 (by decide)];clear hok;go_wp2;go_ret;exact ⟨Z0w (by unfold same; rw[decide_eq_true HC.out.1,decide_eq_true HC.out.2]; rfl),Z00 HB0.out hJ'⟩
theorem Z8q:
 Y9 13 #[.agg (Y8 t q),.agg (Y8 u r)] w (.bool (same t u)):=by
 by_cases h1:check t=0
 {by_cases h2:check u=0
  {exact Z9s t u q r w hq hr hg ⟨h1,h2⟩}
  {exact Z8p t u q r w hq hr hg ⟨h1,h2⟩}}
 {exact Z9X t u q r w hq hr hg h1}
end
end
end Go.Proofs.YtkhoflciahkphaaDoor
namespace Go.Proofs.YtkhoflciahkphaaDoor
open Go.RowKit Shp Sub
namespace SubM
def grdPlT (a:Sh) (pa:Ptr) (b:Sh) (pb:Ptr) (nb al:Bool):Nat->Want
 | 0=> .val (.agg (Y8 a pa))
 | 1=> .val (.agg (Y8 b pb))
 | 2=> .val (.bool nb)
 | 3=> .val (.agg (Y8 a pa))
 | 4=> .val (.agg (Y8 b pb))
 | 5=> .val (.bool nb)
 | 6=> .val (.bool true)
 | 7=> .val (.bool true)
 | 8=> .val (.agg (Y8 a pa))
 | 9=> .val (.agg (Y8 b pb))
 | 10=> .val (.bool al)
 | 11=> .val (.agg (Y8 a pa))
 | 12=> .val (.agg (Y8 b pb))
 | 13=> .val (.bool al)
 | 14=> .val (.bool true)
 | 15=> .val (.bool true)
 | 16=> .val (.bool true)
 | 17=> .val (.bool true)
 | 18=> .val (.bool true)
 | 19=> .val (.bool true)
 | _=> .any
theorem gradPlain_walk (a:Sh) (pa:Ptr) (b:Sh) (pb:Ptr) (w:World) (ha:ShAt w w.heap.size pa a) (hb:ShAt w w.heap.size pb b) (hg:WGlobs w):
 Y9 3 #[.agg (Y8 a pa),.agg (Y8 b pb)] w (.bool true):=by
 have hx1:=Z01 w (.cells (Y8 a pa) 25);obtain ⟨q1,hu1⟩: ∃z,w.alloc (.cells (Y8 a pa) 25)=z:=⟨_,rfl⟩;have hs1:q1.heap.size=w.heap.size+1:=by rw[<-hu1]; simp
 have hy1:=Z02 w a pa;rw[hu1] at hx1 hy1;have hx2:=Z01 q1 (.cells (Y8 b pb) 25);obtain ⟨q2,hu2⟩: ∃z,q1.alloc (.cells (Y8 b pb) 25)=z:=⟨_,rfl⟩;have hs2:q2.heap.size=w.heap.size+1+1:=by rw[<-hu2]; simp[hs1]
 have hy2:=Z02 q1 b pb;rw[hu2] at hx2 hy2;rw[hs1] at hy2;have hbw:=(Z00 hx1 hx2);have HXa:=Y1 (hy1.next hx2);have HAa:=Y1 (ha.next hbw);have HXb:=Y1 hy2;have HAb:=Y1 (hb.next hbw);have HG:=Y1 (hg.next hbw);have HB1:=Y1 hbw;have HB:=Y1 (Below.refl q2.heap.size q2);clear hbw hg hx1 hy1 ha hx2 hy2 hb;obtain ⟨_,⟨a0,a1,a2,a3,a4⟩,_⟩:=HXa.out.next HB.out;simp only[Nat.zero_add] at a0 a1 a2 a3 a4;have HU:=Y1 (Z1T a pa _ (HAa.out.next HB.out) (HG.out.next HB.out))
 try unfold sv at HU
 go_enter Tryd.func3,Tryd.ntmps3
 go_wp2_with fail
 refine HU.out.mono ?_;rintro e w1 ⟨rfl,hb1⟩;have HB:=Y1 (Z00 HB.out hb1);clear hb1 HU a0 a1 a2 a3 a4;clear hu1 hs1 hu2 hs2;cases h1:Grd.plain a with
 | false=>
  have K2:=Y1 h1;clear h1
  go_wp2_with fail
  refine (Z07 _ (HG.out.next HB.out)).mono ?_;rintro e w3 ⟨rfl,hb1⟩;have HB:=Y1 (Z00 HB1.out (Z00 HB.out hb1));clear hb1;go_wp2;go_ret;exact ⟨rfl,HB.out⟩
 | true=>
  have K2:=Y1 h1;clear h1;obtain ⟨_,⟨b0,b1,b2,b3,b4⟩,_⟩:=HXb.out.next HB.out;simp only[Nat.zero_add] at b0 b1 b2 b3 b4;have HU:=Y1 (Z1T b pb _ (HAb.out.next HB.out) (HG.out.next HB.out))
  try unfold sv at HU
  go_wp2_with fail
  refine HU.out.mono ?_;rintro e w4 ⟨rfl,hb1⟩;have HB:=Y1 (Z00 HB.out hb1);clear hb1 HU b0 b1 b2 b3 b4;cases h1:Grd.plain b with
  | false=>
   have K5:=Y1 h1;clear h1
   go_wp2_with fail
   refine (Z07 _ (HG.out.next HB.out)).mono ?_;rintro e w6 ⟨rfl,hb1⟩;have HB:=Y1 (Z00 HB1.out (Z00 HB.out hb1));clear hb1;go_wp2;go_ret;exact ⟨rfl,HB.out⟩
  | true=>
   have K5:=Y1 h1;clear h1;have HPA:Hid (Grd.near a b=Sub.below a b):=Y1 (Grd.plain_near K2.out K5.out);have HPB:Hid (Grd.alike a b=same a b):=Y1 (Grd.plain_alike K2.out K5.out);obtain ⟨nb,hnb⟩: ∃z,z=Grd.near a b:=⟨_,rfl⟩;obtain ⟨al,hal⟩: ∃z,z=Grd.alike a b:=⟨_,rfl⟩;have HNB:=Y1 hnb;have HAL:=Y1 hal;clear hnb hal
   go_wp2_with fail
   refine Z1A (rs:= [0,1,2,3,4,5,6,7,8,9,10,11,12,13,14,15,16,17,18,19])
    (fun u'=> { tmps:=#[.agg (Y8 a pa),.agg (Y8 b pb),.pointer (some { block:=w.heap.size,off:=0 }),.pointer (some { block:=w.heap.size+1,off:=0 }),u' 19,.agg (Y8 a pa),.bool true,.bool false,.bool false,.agg (Y8 b pb),.bool true,.bool false,.bool false,undef,u' 0,u' 1,u' 2,u' 3,u' 4,u' 5,u' 6,u' 7,u' 8,u' 9,u' 10,u' 11,u' 12,u' 13,u' 14,u' 15,u' 16,u' 17,u' 18],defers:= [] })
    (fun j=>([undef,undef,undef,undef,undef,undef,undef,undef,undef,undef,undef,undef,undef,undef,undef,undef,undef,undef,undef,.bool false]:List Value).getD j undef) (grdPlT a pa b pb nb al) (fun W=>Below w4.heap.size w4 W) (by kernel_rfl) (by kernel_rfl) (by kernel_rfl) Y2.drew ?_ ?_
   refine StepsAt.cons _ rfl (fun u' W K' hJ hd hK=> ?_) ?_
   {obtain ⟨_,⟨y0,y1,y2,y3,y4⟩,_⟩:=(HXa.out.next HB.out).next hJ;simp only[Nat.zero_add] at y0 y1 y2 y3 y4;refine Y0 hK hJ rfl rfl rfl ?_
    try dsimp only
    go_simp}
   refine StepsAt.cons _ rfl (fun u' W K' hJ hd hK=> ?_) ?_
   {obtain ⟨_,⟨y0,y1,y2,y3,y4⟩,_⟩:=(HXb.out.next HB.out).next hJ;simp only[Nat.zero_add] at y0 y1 y2 y3 y4;refine Y0 hK hJ rfl rfl rfl ?_
    try dsimp only
    go_simp}
   refine StepsAt.cons _ rfl (fun u' W K' hJ hd hK=> ?_) ?_
   {have d0:_=_:=hd 0 (by kernel_rfl);have d1:_=_:=hd 1 (by kernel_rfl);refine Z0j (f:=10) (args:=#[.agg (Y8 a pa),.agg (Y8 b pb)]) (W':=W) rfl ?_ ((Z0a a b pa pb W ((HAa.out.next HB.out).next hJ) ((HAb.out.next HB.out).next hJ) ((HG.out.next HB.out).next hJ)).mono fun e w' h=>⟨_,h.1,hK.out _ _ (by rw[HNB.out]; rfl) (Z00 hJ h.2) h.2⟩)
    try dsimp only
    go_simp}
   refine StepsAt.cons _ rfl (fun u' W K' hJ hd hK=> ?_) ?_
   {obtain ⟨_,⟨y0,y1,y2,y3,y4⟩,_⟩:=(HXa.out.next HB.out).next hJ;simp only[Nat.zero_add] at y0 y1 y2 y3 y4;refine Y0 hK hJ rfl rfl rfl ?_
    try dsimp only
    go_simp}
   refine StepsAt.cons _ rfl (fun u' W K' hJ hd hK=> ?_) ?_
   {obtain ⟨_,⟨y0,y1,y2,y3,y4⟩,_⟩:=(HXb.out.next HB.out).next hJ;simp only[Nat.zero_add] at y0 y1 y2 y3 y4;refine Y0 hK hJ rfl rfl rfl ?_
    try dsimp only
    go_simp}
   refine StepsAt.cons _ rfl (fun u' W K' hJ hd hK=> ?_) ?_
   {have d3:_=_:=hd 3 (by kernel_rfl);have d4:_=_:=hd 4 (by kernel_rfl);refine Z0j (f:=11) (args:=#[.agg (Y8 a pa),.agg (Y8 b pb)]) (W':=W) rfl ?_ ((Z0r a b pa pb W ((HAa.out.next HB.out).next hJ) ((HAb.out.next HB.out).next hJ) ((HG.out.next HB.out).next hJ)).mono fun e w' h=>⟨_,h.1,hK.out _ _ (by rw[HNB.out,HPA.out]; rfl) (Z00 hJ h.2) h.2⟩)
    try dsimp only
    go_simp}
   refine StepsAt.cons _ rfl (fun u' W K' hJ hd hK=> ?_) ?_
   {have d2:_=_:=hd 2 (by kernel_rfl);have d5:_=_:=hd 5 (by kernel_rfl);refine Y0 hK hJ rfl rfl rfl ?_
    try dsimp only
    go_simp}
   refine StepsAt.cons _ rfl (fun u' W K' hJ hd hK=> ?_) ?_
   {have d6:_=_:=hd 6 (by kernel_rfl);refine Y0 hK hJ rfl rfl rfl ?_
    try dsimp only
    go_simp}
   refine StepsAt.cons _ rfl (fun u' W K' hJ hd hK=> ?_) ?_
   {have dg:_=_:=hd 7 (by kernel_rfl);obtain ⟨_,⟨y0,y1,y2,y3,y4⟩,_⟩:=(HXa.out.next HB.out).next hJ;simp only[Nat.zero_add] at y0 y1 y2 y3 y4;refine Y0 hK hJ rfl rfl ?_ ?_
    {simp[Region.wanted,yielded,dg]}
    {try dsimp only
     go_simp}}
   refine StepsAt.cons _ rfl (fun u' W K' hJ hd hK=> ?_) ?_
   {have dg:_=_:=hd 7 (by kernel_rfl);obtain ⟨_,⟨y0,y1,y2,y3,y4⟩,_⟩:=(HXb.out.next HB.out).next hJ;simp only[Nat.zero_add] at y0 y1 y2 y3 y4;refine Y0 hK hJ rfl rfl ?_ ?_
    {simp[Region.wanted,yielded,dg]}
    {try dsimp only
     go_simp}}
   refine StepsAt.cons _ rfl (fun u' W K' hJ hd hK=> ?_) ?_
   {have dg:_=_:=hd 7 (by kernel_rfl);have d8:_=_:=hd 8 (by kernel_rfl);have d9:_=_:=hd 9 (by kernel_rfl);refine Z0j (f:=12) (args:=#[.agg (Y8 a pa),.agg (Y8 b pb)]) (W':=W) ?_ ?_ ((Z0h a b pa pb W ((HAa.out.next HB.out).next hJ) ((HAb.out.next HB.out).next hJ) ((HG.out.next HB.out).next hJ)).mono fun e w' h=>⟨_,h.1,hK.out _ _ (by rw[HAL.out]; rfl) (Z00 hJ h.2) h.2⟩)
    {simp[Region.wanted,yielded,dg]}
    {try dsimp only
     go_simp}}
   refine StepsAt.cons _ rfl (fun u' W K' hJ hd hK=> ?_) ?_
   {have dg:_=_:=hd 7 (by kernel_rfl);obtain ⟨_,⟨y0,y1,y2,y3,y4⟩,_⟩:=(HXa.out.next HB.out).next hJ;simp only[Nat.zero_add] at y0 y1 y2 y3 y4;refine Y0 hK hJ rfl rfl ?_ ?_
    {simp[Region.wanted,yielded,dg]}
    {try dsimp only
     go_simp}}
   refine StepsAt.cons _ rfl (fun u' W K' hJ hd hK=> ?_) ?_
   {have dg:_=_:=hd 7 (by kernel_rfl);obtain ⟨_,⟨y0,y1,y2,y3,y4⟩,_⟩:=(HXb.out.next HB.out).next hJ;simp only[Nat.zero_add] at y0 y1 y2 y3 y4;refine Y0 hK hJ rfl rfl ?_ ?_
    {simp[Region.wanted,yielded,dg]}
    {try dsimp only
     go_simp}}
   refine StepsAt.cons _ rfl (fun u' W K' hJ hd hK=> ?_) ?_
   {have dg:_=_:=hd 7 (by kernel_rfl);have d11:_=_:=hd 11 (by kernel_rfl);have d12:_=_:=hd 12 (by kernel_rfl);refine Z0j (f:=13) (args:=#[.agg (Y8 a pa),.agg (Y8 b pb)]) (W':=W) ?_ ?_ ((Z8q a b pa pb W ((HAa.out.next HB.out).next hJ) ((HAb.out.next HB.out).next hJ) ((HG.out.next HB.out).next hJ)).mono fun e w' h=>⟨_,h.1,hK.out _ _ (by rw[HAL.out,HPB.out]; rfl) (Z00 hJ h.2) h.2⟩)
    {simp[Region.wanted,yielded,dg]}
    {try dsimp only
     go_simp}}
   refine StepsAt.cons _ rfl (fun u' W K' hJ hd hK=> ?_) ?_
   {have dg:_=_:=hd 7 (by kernel_rfl);have d10:_=_:=hd 10 (by kernel_rfl);have d13:_=_:=hd 13 (by kernel_rfl);refine Y0 hK hJ rfl rfl ?_ ?_
    {simp[Region.wanted,yielded,dg]}
    {try dsimp only
     go_simp}}
   refine StepsAt.cons _ rfl (fun u' W K' hJ hd hK=> ?_) ?_
   {have d7:_=_:=hd 7 (by kernel_rfl);have d14:_=_:=hd 14 (by kernel_rfl);refine Y0 hK hJ rfl rfl rfl ?_
    try dsimp only
    go_simp}
   refine StepsAt.cons _ rfl (fun u' W K' hJ hd hK=> ?_) ?_
   {have d15:_=_:=hd 15 (by kernel_rfl);refine Y0 hK hJ rfl rfl rfl ?_
    try dsimp only
    go_simp}
   refine StepsAt.cons _ rfl (fun u' W K' hJ hd hK=> ?_) ?_
   {have dg:_=_:=hd 16 (by kernel_rfl);refine Z0j (f:=9) (args:=#[]) (W':=W) ?_ ?_ ((Z07 W ((HG.out.next HB.out).next hJ)).mono fun e w' h=>⟨_,h.1,hK.out _ _ rfl (Z00 hJ h.2) h.2⟩)
    {simp[Region.wanted,yielded,dg]}
    {try dsimp only
     go_simp}}
   refine StepsAt.cons _ rfl (fun u' W K' hJ hd hK=> ?_) ?_
   {have d16:_=_:=hd 16 (by kernel_rfl);have d17:_=_:=hd 17 (by kernel_rfl);refine Y0 hK hJ rfl rfl rfl ?_
    try dsimp only
    go_simp}
   refine StepsAt.cons _ rfl (fun u' W K' hJ hd hK=> ?_) StepsAt.nil
   {have d18:_=_:=hd 18 (by kernel_rfl);refine Y0 hK hJ rfl rfl rfl ?_
    try dsimp only
    go_simp}
   intro u' W' hJ' hok
   try dsimp only
   rw[show u' 19= .bool true from hok 19 (by decide)];clear hok;go_wp2;go_ret;exact ⟨rfl,Z00 HB1.out (Z00 HB.out hJ')⟩
end SubM
end Go.Proofs.YtkhoflciahkphaaDoor
namespace Go.Proofs.YtkhoflciahkphaaDoor.gradualPlain
section
open Go.ChangeShapes Go.WideShapes Go.ChangeAt Go.RowKit
open Go.ChangeMaps (open_string shut_string)
theorem walk (w:World) (u0:Shp.Sh) (p0:Ptr) (S0:ShAt w w.heap.size p0 u0) (u1:Shp.Sh) (p1:Ptr) (S1:ShAt w w.heap.size p1 u1) (hg:WGlobs w):Y9 3 #[.agg (Y8 u0 p0),.agg (Y8 u1 p1)] w (.bool true):=SubM.gradPlain_walk u0 p0 u1 p1 w S0 S1 hg
theorem own:ownKnob Tryd.prog.godebug=none:=by kernel_rfl
theorem laidOut:laidOutB Tryd.prog=true:=by kernel_rfl
theorem contract (H:Type) (enc:TypeId×Value->H) (W:World) (base:Nat) (args:Array Value) (ds gs:List (DataW H)) (before:List MemPlace)
 (hval0: ∀(j:Nat) t v,Tryd.f3.params[j]? =some t->args[j]? =some v->Value.okWide Tryd.prog W .any base t v)
 (hW:DataW.Whole enc Tryd.prog Tryd.f3.params.toList Rows.gradualPlainSpec.vars false W args.toList ds gs before) (hL:laidMetH Tryd.prog Rows.gradualPlainRow.laid W) (hsz0: (DataW.weightsEach Tryd.prog (Tryd.f3.params.toList++Rows.gradualPlainSpec.plain.varTypes Tryd.prog) (ds++gs)).all (· <=reachBytes)=true):
 Calls Tryd.prog 3 args W fun e W'=> ∃v,e= .returned v/\Rows.gradualPlainSpec.post enc Tryd.prog Tryd.f3 false true false false W args v W':=by
 have hval: ∀(j:Nat) t v,Tryd.f3.params[j]? =some t->args[j]? =some v->Value.okWide Tryd.prog W .any base t v:=hval0;have hsz: (DataW.weightsEach Tryd.prog (Tryd.f3.params.toList++Rows.gradualPlainSpec.plain.varTypes Tryd.prog) (ds++gs)).all (· <=reachBytes)=true:=hsz0
 have hW':=hW;obtain ⟨p,q,hA0,hV,rfl,hfz,hnd⟩:=hW;have hA:DataW.TrodAll enc Tryd.prog W 0 (fun _=>true) true Tryd.f3.params.toList args.toList ds p:=hA0;rw[Tryd.params3] at hA hval hsz;obtain ⟨v0,vs0,d0,ds0,p0,q0,hargs,rfl,rfl,h0,t0⟩:=trodAll_cons hA;obtain ⟨v1,vs1,d1,ds1,p1,q1,rfl,rfl,rfl,h1,t1⟩:=trodAll_cons t0;obtain ⟨rfl,rfl,rfl⟩:=trodAll_nil t1;obtain rfl:args=#[v0,v1]:=by cases args; simp_all
 obtain ⟨rfl,rfl⟩:=trodVars_none hV;have k0:=h0;have lt0: ∀x∈p0,x.block < W.heap.size:=by obtain ⟨m,hm⟩:=k0; exact DataW.trod_lt m _ _ _ hm
 obtain ⟨u0,y0,rfl,S0⟩:=Z0A (hval 0 25 v0 rfl rfl) h0;have k1:=h1;have lt1: ∀x∈p1,x.block < W.heap.size:=by obtain ⟨m,hm⟩:=k1; exact DataW.trod_lt m _ _ _ hm
 obtain ⟨u1,y1,rfl,S1⟩:=Z0A (hval 1 25 v1 rfl rfl) h1;clear hA0 hval0;rw[MakeChecks.laidMetH_plain _ _ _ (by kernel_rfl)] at hL;have hglob:WGlobs W:=Z22 hL (List.Mem.head _);refine (walk W u0 y0 S0 u1 y1 S1 hglob).mono fun e W' ⟨he,bel⟩=> ?_;subst he;exact ⟨_,rfl,_,_,_,[],_,[],hW',trodAll_mk1 (shut_bool Tryd.underlying4 _),(trodAll_cons_mk (Below.trod laidOut (by kernel_rfl) (of_decide_eq_true (by kernel_rfl)) k0 bel lt0) (trodAll_cons_mk (Below.trod laidOut (by kernel_rfl) (of_decide_eq_true (by kernel_rfl)) k1 bel lt1) trodAll_mk0)),rfl,bel.frame _,fun h=>by cases h⟩
theorem lifted (os:Os) (started:os.Started) (H:Type) (enc:TypeId×Value->H):
 ReturnsInHanded {} Tryd.checked os 3 .any (fun w args=>(Rows.gradualPlainSpec.pre enc Tryd.prog Tryd.f3 Rows.gradualPlainRow.domain false w args/\laidMetH Tryd.prog Rows.gradualPlainRow.laid w)/\sizedMet enc Tryd.prog Tryd.f3 (OpenSpec.ofChange Rows.gradualPlainSpec) false w args)
  (Rows.gradualPlainSpec.post enc Tryd.prog Tryd.f3 false true false false):=by
 refine returnsInHanded_of_change_and (C:=Tryd.checked) (X:=fun w _=>laidMetH Tryd.prog Rows.gradualPlainRow.laid w) (fun _ _ _ hh h=>h.of_heap hh) own started (by kernel_rfl) Tryd.func3
  (ChangeSpec.witness_shaped (enc:=enc) (C:=Tryd.checked) (os:=os) (X:=fun w _=>laidMetH Tryd.prog Rows.gradualPlainRow.laid w) false (World.laidAll Tryd.prog os Rows.gradualPlainRow.laid) #[(.agg #[.int .i64 0,.string ByteArray.empty,.string ByteArray.empty,.slice none 0 0,.slice none 0 0]),(.agg #[.int .i64 0,.string ByteArray.empty,.string ByteArray.empty,.slice none 0 0,.slice none 0 0])] 8 (World.laidAll_os _ _ _)
   (World.shaped_of_ZipB (by kernel_rfl) (by kernel_rfl)) (by kernel_rfl) (by kernel_rfl) (by kernel_rfl)
   (by rw[MakeChecks.laidMetH_plain _ _ _ (by kernel_rfl)]; exact laidMet_laidAll _ (by kernel_rfl) (by kernel_rfl))) ?_
 intro W base args ds gs before hval hW _ hsz hL _;exact contract H enc W base args ds gs before hval hW hL hsz
theorem proved:Rows.GradualPlainSaid:=
 OpenClaim.holds_of_wide 3 Tryd.f3 rfl rfl rfl rfl rfl rfl rfl ⟨rfl,rfl,rfl,rfl,rfl⟩ rfl rfl rfl rfl rfl (by kernel_rfl) Tryd.func3 (by kernel_rfl)
  (of_decide_eq_true (by kernel_rfl)) (by unfold Func.isWrapper; first | (rw[if_pos (by decide+kernel)]; kernel_rfl) | (rw[if_neg (by decide+kernel)]; exact ⟨rfl,rfl⟩))
  (fun os started H enc _=>lifted os started H enc)
theorem card:Rows.GradualPlainCardSaid:=
 Claim7.holds_tied_plain_at .later [] [.data] true _ false proved (fun _ h=>by cases h) (by kernel_rfl) (fun _ h=>by cases h) gradualPlain_row_tie rfl ⟨rfl,rfl⟩ (by kernel_rfl) rfl
  (fun f fn hf hfn=>by
   obtain rfl:f=3:=Option.some.inj ((show Tryd.prog.funcNamed "pandect/pandectlaw13.GradualPlain" =some 3 by kernel_rfl).symm.trans hf) |>.symm;obtain rfl:fn=Tryd.f3:=(Option.some.inj (Tryd.func3.symm.trans hfn)).symm;exact ⟨by kernel_rfl,fun j t ht=>by
    rw[Tryd.params3] at ht;have hm:t∈ [25,25]:=by simpa using Array.mem_of_getElem? ht
    have hall: ([25,25].all fun u=> !Tryd.prog.wantsStandIn u)=true:=by kernel_rfl
    exact (show Tryd.prog.wantsStandIn t=false by simpa using List.all_eq_true.1 hall t hm)⟩)
  (by kernel_rfl)
end
end Go.Proofs.YtkhoflciahkphaaDoor.gradualPlain
