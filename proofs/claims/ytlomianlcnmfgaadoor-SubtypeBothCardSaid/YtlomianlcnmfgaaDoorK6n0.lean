/- What the proofs of SubtypeBoth, SubtypeOrder want, part 0. -/
import Derived.Test.YtlomianlcnmfgaaDoorK1n0
import Derived.Test.YtlomianlcnmfgaaDoorK2n0
import Derived.Test.YtlomianlcnmfgaaDoorK0n8
set_option linter.unusedVariables false
set_option linter.unusedSimpArgs false
set_option linter.unusedSectionVars false
set_option maxRecDepth 100000
set_option maxHeartbeats 16000000
namespace Shp
section
def same (t u:Sh):Bool:=decide (check t=0)&&decide (check u=0)&&eqB (sorted t) (sorted u)
end
end Shp
namespace Sub
section
open Shp Go.Proofs.YtlomianlcnmfgaaDoor
theorem Z3V {l:List Fld} (h: (l.map Prod.fst).Nodup):l.Nodup:=by
 induction l with
 | nil=>exact List.nodup_nil
 | cons a l ih=>
  rw[List.map_cons,List.nodup_cons] at h;exact List.nodup_cons.2 ⟨fun hm=>h.1 (List.mem_map_of_mem hm),ih h.2⟩
theorem Z6Y {l m:List Fld} (hl:l.Nodup) (hm:m.Nodup) (h: ∀x,x∈l ↔ x∈m):l.Perm m:=by
 induction l generalizing m with
 | nil=>
  cases m with
  | nil=>exact List.Perm.refl _
  | cons a m=>exact absurd ((h a).2 (by simp)) (by simp)
 | cons a l ih=>
  rw[List.nodup_cons] at hl;obtain ⟨s,t,rfl⟩:=List.append_of_mem ((h a).1 (by simp));have hp: (s++a::t).Perm (a::(s++t)):=List.perm_middle;have hn:=List.nodup_cons.1 (hp.nodup_iff.1 hm);refine List.Perm.trans (List.Perm.cons a (ih hl.2 hn.2 (fun x=> ?_))) hp.symm;constructor
  {intro hx;have:=hp.mem_iff.1 ((h x).1 (by simp[hx]));rcases List.mem_cons.1 this with rfl | h1
   {exact absurd hx hl.1}
   {exact h1}}
  {intro hx;have:=(h x).2 (hp.mem_iff.2 (by simp only[List.mem_cons]; exact Or.inr hx));rcases List.mem_cons.1 this with rfl | h1
   {exact absurd hx hn.1}
   {exact h1}}
theorem ZaH {l m:List Fld} (h1: (l.map Prod.fst).Nodup) (h2: (m.map Prod.fst).Nodup) (h: ∀x,x∈l ↔ x∈m):sortF l=sortF m:=
 Z1M ((Z0V l).trans (Z6Y (Z3V h1) (Z3V h2) h)) (Z1L l) h2
theorem V.anti {f:Nat}: ∀ {up:Bool} {a b:Sh},right a=true->right b=true->V f up a b->V f up b a->Shp.sorted a=Shp.sorted b:=by
  induction f with
  | zero=>intro up a b _ _ h; exact h.elim
  | succ f ih=>
    intro up a b ra rb h k;obtain ⟨hk,h1,h2,h3⟩:=h;obtain ⟨_,k1,k2,k3⟩:=k;rw[<-hk] at k1 k2 k3;by_cases h6:a.kind=6\/a.kind=7
    · have A:=Z0n (Z08 ra) h6
      have B:=Z0n (Z08 rb) (hk▸h6);have hG: ∀n,(∀p,get a n=some p-> ∃q,get b n=some q/\Shp.sorted p=Shp.sorted q)/\(∀q,get b n=some q-> ∃p,get a n=some p/\Shp.sorted p=Shp.sorted q):=by
        intro n;rcases Z1U h6 up with hw | hw
        · refine ⟨fun p hp=> ?_,fun q hq=> ?_⟩
          · obtain ⟨q,hq,v1⟩:=k1 hw n p hp
            obtain ⟨p',hp',v2⟩:=h1 hw n q hq;rw[hp] at hp'; cases hp';exact ⟨q,hq,ih (Z05 ra (Z06 hp)) (Z05 rb (Z06 hq)) v2 v1⟩
          · obtain ⟨p,hp,v2⟩:=h1 hw n q hq
            obtain ⟨q',hq',v1⟩:=k1 hw n p hp;rw[hq] at hq'; cases hq';exact ⟨p,hp,ih (Z05 ra (Z06 hp)) (Z05 rb (Z06 hq)) v2 v1⟩
        · refine ⟨fun p hp=> ?_,fun q hq=> ?_⟩
          · obtain ⟨q,hq,v1⟩:=h2 hw n p hp
            obtain ⟨p',hp',v2⟩:=k2 hw n q hq;rw[hp] at hp'; cases hp';exact ⟨q,hq,ih (Z05 ra (Z06 hp)) (Z05 rb (Z06 hq)) v1 v2⟩
          · obtain ⟨p,hp,v2⟩:=k2 hw n q hq
            obtain ⟨q',hq',v1⟩:=h2 hw n p hp;rw[hq] at hq'; cases hq';exact ⟨p,hp,ih (Z05 ra (Z06 hp)) (Z05 rb (Z06 hq)) v1 v2⟩
      have ho:a.of_=b.of_:=by rw[((Z2v a).1 A.b).1,((Z2v b).1 B.b).1]
      have hn:a.name=b.name:=by rw[((Z2v a).1 A.b).2,((Z2v b).1 B.b).2]
      have hm: ∀x,x∈a.names.zip (a.parts.map Shp.sorted) ↔ x∈b.names.zip (b.parts.map Shp.sorted):=by
        rintro ⟨n,x⟩;rw[Z2M,Z2M];constructor
        · rintro ⟨p,hp,rfl⟩
          obtain ⟨q,hq,e⟩:=(hG n).1 p (A.get_iff.2 hp);exact ⟨q,B.get_iff.1 hq,e.symm⟩
        · rintro ⟨q,hq,rfl⟩
          obtain ⟨p,hp,e⟩:=(hG n).2 q (B.get_iff.2 hq);exact ⟨p,A.get_iff.1 hp,e⟩
      have hs:=ZaH (by rw[Z2N A.l]; exact A.nodup) (by rw[Z2N B.l]; exact B.nodup) hm;have hnil:a.names= [] ↔ b.names= []:=by
        constructor
        · intro e
          cases hb:b.names with
          | nil=>rfl
          | cons x l=>
            have hx:x∈b.names:=by rw[hb]; simp
            cases hg:get b x with
            | none=>exact absurd hx (B.get_none.1 hg)
            | some q=>
              obtain ⟨p,hp,_⟩:=(hG x).2 q hg;have:=Z1A hp;rw[e] at this; cases this
        · intro e
          cases hb:a.names with
          | nil=>rfl
          | cons x l=>
            have hx:x∈a.names:=by rw[hb]; simp
            cases hg:get a x with
            | none=>exact absurd hx (A.get_none.1 hg)
            | some q=>
              obtain ⟨p,hp,_⟩:=(hG x).1 q hg;have:=Z1A hp;rw[e] at this; cases this
      rw[Z0j a,Z0j b,hk,ho,hn,hs];by_cases e:a.names= []
      · have e':=hnil.1 e
        have p1:a.parts= []:=List.eq_nil_of_length_eq_zero (by rw[<-A.l,e]; rfl);have p2:b.parts= []:=List.eq_nil_of_length_eq_zero (by rw[<-B.l,e']; rfl);rw[if_pos e,if_pos e',p1,p2]
      · rw[if_neg e,if_neg (fun e'=>e (hnil.2 e'))]
    · obtain ⟨e1,e2,e3,e4⟩:=h3 h6
      obtain ⟨_,_,_,g4⟩:=k3 h6;have n1:=Z2H (Z08 ra) h6;have n2:=Z2H (Z08 rb) (hk▸h6);have hps:a.parts.map Shp.sorted=b.parts.map Shp.sorted:=by
        refine List.ext_getElem (by simp[e3]) (fun i h1 h2=> ?_);rw[List.length_map] at h1 h2;rw[List.getElem_map,List.getElem_map];have v1:=e4 i _ _ (List.getElem?_eq_getElem h1) (List.getElem?_eq_getElem h2);have v2:=g4 i _ _ (List.getElem?_eq_getElem h2) (List.getElem?_eq_getElem h1);rw[<-e3] at v2;exact ih (Z05 ra (List.getElem_mem _)) (Z05 rb (List.getElem_mem _)) v1 v2
      rw[Z0j a,Z0j b,if_pos n1,if_pos n2,hk,e1,e2,hps]
end
end Sub
namespace Go.Proofs.YtlomianlcnmfgaaDoor
open Go.RowKit
section
variable {P : Program} {ops : Array Oper} {Q : Exit -> Act -> World -> Prop}
theorem Z0e {o:Oper} {a:Act} {W:World} {K':Act->World->Prop} {E:Prop} (hw:Region.wanted o (yielded ops a.tmps)=false) (hE:E):
 if Region.wanted o (yielded ops a.tmps)=true then Oper.wp P o a W K' Q else E:=by
 rw[if_neg (by rw[hw]; simp)];exact hE
end
end Go.Proofs.YtlomianlcnmfgaaDoor
namespace Go.Proofs.YtlomianlcnmfgaaDoor
section
open Shp
theorem Z1m (t u:Sh):same t u=true ↔ check t=0/\check u=0/\sorted t=sorted u:=by
 simp[same,Z32,and_assoc]
theorem Z5m (t u:Sh):same t u=same u t:=by
 rw[Bool.eq_iff_iff,Z1m,Z1m];exact ⟨fun ⟨a,b,c⟩=>⟨b,a,c.symm⟩,fun ⟨a,b,c⟩=>⟨b,a,c.symm⟩⟩
theorem Z6b {t:Sh} (h:check t≠0) (u:Sh):same t u=false:=by simp[same,h]
end
section
open Go.RowKit Shp Go.Sort
theorem Z1r (t:Sh) (q:Ptr) (w:World) (hq:ShAt w w.heap.size q t) (hg:WGlobs w) (hck:check t=0):
 Calls Tryd.prog 12 #[.agg (Y8 t q)] w fun e w'=> ∃q',e= .returned (.agg (Y8 (sorted t) q'))/\ShAt w' w'.heap.size q' (sorted t)/\Below w.heap.size w w':=
 (Z5u t q w hq hg hck).mono fun e w' ⟨q',F,h1,h2,_,h4⟩=>⟨q',h1,h2.at_ h2.lt,h4⟩
end
section
open Go.RowKit Shp
theorem ZaU {l m:List Sh} {i:Nat} (hi:i < l.length) (hm:i < m.length) (h:eqB (l[i]'hi) (m[i]'hm)=false):eqs l m=false:=by
 cases e:eqs l m with
 | false=>rfl
 | true=>
  have:=(Z58 l m).1 e;subst this;rw[Z1l] at h; cases h
theorem Z6v (A B:Option Addr) (c d:Nat) (l m:List (List UInt8)) (w:World) (hA:Strs w w.heap.size A (strs l)) (hB:Strs w w.heap.size B (strs m)) (hl:l.length<=9223372036854775807) (hm:m.length<=9223372036854775807):
 Y9 51 #[.slice A l.length c,.slice B m.length d] w (.bool (l==m)):=by
 have HA:=Y1 hA;have HB:=Y1 hB;clear hA hB;by_cases hlm:l.length=m.length
 {have n0: ((l.length:Int) !=(m.length:Int))=false:=by rw[hlm]; simp
  have e0: ((l.length:Int)==(m.length:Int))=true:=by rw[hlm]; simp
  have HLM:=Y1 hlm;clear hlm;go_enter Tryd.func51,Tryd.ntmps51
  go_wp2_with fail
  go_loopw [13] (fun ii wr=> ∃i:Nat,ii= .int .i64 i/\i<=l.length/\Hid (∀j (h:j < l.length) (h':j < m.length),j < i->l[j]'h=m[j]'h')/\Below w.heap.size w wr) (fun i _=>l.length - (intOf i).toNat)
  case atStart=>exact ⟨0,rfl,Nat.zero_le _,Y1 (fun j _ _ hj=>absurd hj (by omega)),Below.refl _ _⟩
  case round=>
   obtain ⟨i,rfl,hi,HN,hb⟩:=hrel;by_cases hlt:i < l.length
   {have hi1: (i:Int) < (l.length:Int):=by omega
    have hi3:i < m.length:=by have:=HLM.out; omega
    have hi2: (i:Int) < (m.length:Int):=by omega
    rcases (HA.out.next hb).cell7 with h0 | ⟨g,off,rfl,hg,hc⟩
    {omega}
    {rcases (HB.out.next hb).cell7 with h0 | ⟨g',off',rfl,hg',hc'⟩
     {omega}
     {have p:=hc i hlt;have p':=hc' i hi3;obtain ⟨x,hx⟩: ∃x,x=l[i]'hlt:=⟨_,rfl⟩;obtain ⟨y,hy⟩: ∃y,y=m[i]'hi3:=⟨_,rfl⟩;rw[<-hx] at p;rw[<-hy] at p';have HX:=Y1 hx;have HY:=Y1 hy;clear hx hy hc hc';cases hxy: (x==y)
      {have HF:Hid ((l==m)=false):=Y1 (by
        rw[beq_eq_false_iff_ne];rintro rfl;rw[HX.out,HY.out] at hxy;simp at hxy)
       have n1: (x !=y)=true:=by unfold bne; rw[hxy]; rfl
       go_wp2_with fail
       go_quiet (fail)
       go_wp2;go_ret;exact ⟨by rw[HF.out]; rfl,Z0l hb _⟩}
      {have n1: (x !=y)=false:=by unfold bne; rw[hxy]; rfl
       have HE:Hid (l[i]'hlt=m[i]'hi3):=Y1 (by rw[<-HX.out, <-HY.out]; simpa using hxy)
       go_wp2_with fail
       go_quiet (fail)
       go_wp2
       go_roundw
       case rel=>exact ⟨i+1,by go_num,by omega,Y1 (fun j hj hj' hji=>by
        rcases Nat.lt_succ_iff_lt_or_eq.1 hji with h | rfl
        {exact HN.out j hj hj' h}
        · exact HE.out),Z0l hb _⟩
       case measure=>simp[intOf]; omega}}}}
   {have hi1: ¬(i:Int) < (l.length:Int):=by omega
    have HF:Hid ((l==m)=true):=Y1 (by
     rw[beq_iff_eq];exact List.ext_getElem HLM.out (fun j a b=>HN.out j a b (by omega)))
    go_wp2;go_ret;exact ⟨by rw[HF.out]; rfl,hb⟩}}
 {have n0: ((l.length:Int) !=(m.length:Int))=true:=by
   have: ((l.length:Int)==(m.length:Int))=false:=by rw[beq_eq_false_iff_ne]; omega
   unfold bne; rw[this]; rfl
  have e0: ((l.length:Int)==(m.length:Int))=false:=by rw[beq_eq_false_iff_ne]; omega
  have HF:Hid ((l==m)=false):=Y1 (by rw[beq_eq_false_iff_ne]; intro h; rw[h] at hlm; exact hlm rfl);clear hlm;go_enter Tryd.func51,Tryd.ntmps51;go_wp2;go_ret;exact ⟨by rw[HF.out]; rfl,Below.refl _ _⟩}
theorem ShAt.lies {w:World} {q:Ptr} {t:Sh} (h:ShAt w w.heap.size q t):Z4c w q.P t.parts:=by
 rcases h.part with h0 | ⟨g,off,qs,h1,h2,h3,h4⟩
 {exact ⟨0,0,fun _=>q,Or.inl h0⟩}
 {exact ⟨g,off,qs,Or.inr ⟨h1,h2,h3,h4⟩⟩}
theorem Z5I (P Q:Option Addr) (c d:Nat) (l m:List Sh) (w:World) (hP:Z4c w P l) (hQ:Z4c w Q m) (hl:l.length<=9223372036854775807) (hm:m.length<=9223372036854775807)
 (hf: ∀x∈l,∀(y:Sh) (q r:Ptr) (w:World),ShAt w w.heap.size q x->ShAt w w.heap.size r y->Y9 28 #[.agg (Y8 x q),.agg (Y8 y r)] w (.bool (eqB x y))):
 Y9 52 #[.slice P l.length c,.slice Q m.length d,.func (.func 28) #[] #[]] w (.bool (eqs l m)):=by
 have HP:=Y1 hP;have HQ:=Y1 hQ;have HF0:=Y1 hf;clear hP hQ hf;by_cases hlm:l.length=m.length
 {have n0: ((l.length:Int) !=(m.length:Int))=false:=by rw[hlm]; simp
  have e0: ((l.length:Int)==(m.length:Int))=true:=by rw[hlm]; simp
  have HLM:=Y1 hlm;clear hlm;go_enter Tryd.func52,Tryd.ntmps52
  go_wp2_with fail
  go_loopw [17] (fun ii wr=> ∃i:Nat,ii= .int .i64 i/\i<=l.length/\Hid (∀j (h:j < l.length) (h':j < m.length),j < i->eqB (l[j]'h) (m[j]'h')=true)/\Below w.heap.size w wr) (fun i _=>l.length - (intOf i).toNat)
  case atStart=>exact ⟨0,rfl,Nat.zero_le _,Y1 (fun j _ _ hj=>absurd hj (by omega)),Below.refl _ _⟩
  case round=>
   obtain ⟨i,rfl,hi,HN,hb⟩:=hrel;by_cases hlt:i < l.length
   {have hi1: (i:Int) < (l.length:Int):=by omega
    have hi3:i < m.length:=by have:=HLM.out; omega
    have hi2: (i:Int) < (m.length:Int):=by omega
    obtain ⟨g,off,qs,hPP⟩:=HP.out.next hb;obtain ⟨g',off',rs,hQQ⟩:=HQ.out.next hb;rcases hPP with h0 | ⟨rfl,hg,hc,hr⟩
    {omega}
    {rcases hQQ with h0 | ⟨rfl,hg',hc',hr'⟩
     {omega}
     {obtain ⟨x,hx⟩: ∃x,x=l[i]'hlt:=⟨_,rfl⟩;obtain ⟨y,hy⟩: ∃y,y=m[i]'hi3:=⟨_,rfl⟩;obtain ⟨p0,p1,p2,p3,p4⟩:=hc i hlt;have hs5:=(hc' i hi3);have hat:=hr i hlt;have hat':=hr' i hi3;have ihx:=HF0.out l[i] (List.getElem_mem _);rw[<-hx] at p0 p1 p2 p3 p4 hat ihx;rw[<-hy] at hs5 hat';have HS:=Y1 hs5;have HX:=Y1 hx;have HY:=Y1 hy;have hb1:=Z02 wr (.cells (Y8 x (qs i)) 25);have hb2:=Z0z hb1 (.cells (Y8 y (rs i)) 25);have IH:=ihx y (qs i) (rs i) _ (hat.next hb2) (hat'.next hb2);obtain ⟨s0,s1,s2,s3,s4⟩:=hs5.keep hg' hb1;have HBW:=Y1 (Z00 hb hb2);have HBB:=Y1 hb2;clear hx hy hc hc' hr hr' hat hat' ihx hs5 hb1 hb2;cases hxy:eqB x y
      {have HF:Hid (eqs l m=false):=Y1 (ZaU hlt hi3 (by rw[<-HX.out, <-HY.out]; exact hxy));rw[hxy] at IH;clear hxy
       go_wp2_with fail
       refine IH.mono ?_;rintro e w' ⟨rfl,hb'⟩;go_wp2;go_ret;exact ⟨by rw[HF.out]; rfl,Z00 HBW.out hb'⟩}
      {have HE:Hid (eqB (l[i]'hlt) (m[i]'hi3)=true):=Y1 (by rw[<-HX.out, <-HY.out]; exact hxy);rw[hxy] at IH;clear hxy
       go_wp2_with fail
       refine IH.mono ?_;rintro e w' ⟨rfl,hb'⟩;go_wp2
       go_roundw
       case rel=>exact ⟨i+1,by go_num,by omega,Y1 (fun j hj hj' hji=>by
        rcases Nat.lt_succ_iff_lt_or_eq.1 hji with h | rfl
        {exact HN.out j hj hj' h}
        · exact HE.out),Z00 HBW.out hb'⟩
       case measure=>simp[intOf]; omega}}}}
   {have hi1: ¬(i:Int) < (l.length:Int):=by omega
    have HF:Hid (eqs l m=true):=Y1 (Z7Y HLM.out (fun j hj=>HN.out j hj (by have:=HLM.out; omega) (by omega)));go_wp2;go_ret;exact ⟨by rw[HF.out]; rfl,hb⟩}}
 {have n0: ((l.length:Int) !=(m.length:Int))=true:=by
   have: ((l.length:Int)==(m.length:Int))=false:=by rw[beq_eq_false_iff_ne]; omega
   unfold bne; rw[this]; rfl
  have e0: ((l.length:Int)==(m.length:Int))=false:=by rw[beq_eq_false_iff_ne]; omega
  have HF:Hid (eqs l m=false):=Y1 (by
   cases e:eqs l m with
   | false=>rfl
   | true=>exact absurd (congrArg List.length ((Z58 l m).1 e)) hlm)
  clear hlm;go_enter Tryd.func52,Tryd.ntmps52;go_wp2;go_ret;exact ⟨by rw[HF.out]; rfl,Below.refl _ _⟩}
theorem Z7C (t:Sh): ∀(u:Sh) (q r:Ptr) (w:World),ShAt w w.heap.size q t->ShAt w w.heap.size r u->
 Y9 28 #[.agg (Y8 t q),.agg (Y8 u r)] w (.bool (eqB t u)):=by
 induction t using Sh.ind with
 | h t ih=>
 intro u q r w hq hr;have hb0:=Z02 w (.cells (Y8 t q) 25);have hb1:=Z0z hb0 (.cells (Y8 u r) 25);have HB1:=Y1 hb1;have HB:=Y1 ((Z03 w t q).next (Z02 _ (.cells (Y8 u r) 25)));have hC:=Z03 (w.alloc (.cells (Y8 t q) 25)) u r;rw[World.size_alloc] at hC;have HC:=Y1 hC;obtain ⟨_,⟨c0,c1,c2,c3,c4⟩,_⟩:=HB.out;obtain ⟨_,⟨d0,d1,d2,d3,d4⟩,_⟩:=hC;have HS:=Y1 hq.small;have HT:=Y1 hr.small;have hns:=Z6v q.A r.A q.c r.c t.names u.names _ (hq.strs.next hb1) (hr.strs.next hb1) HS.out.l HT.out.l;have HPS:=Y1 (fun W (h:Below w.heap.size w W)=>Z5I q.P r.P q.d r.d t.parts u.parts W ((hq.next h).lies) ((hr.next h).lies) HS.out.m HT.out.m ih);have HH:Hid (eqB t u=(t.kind==u.kind&&t.of_==u.of_&&t.name==u.name&&t.names==u.names&&eqs t.parts u.parts)):=Y1 (Z5O t u);clear hb0 hb1 hq hr ih;cases e1: (t.kind==u.kind)
 {have HF:Hid (eqB t u=false):=Y1 (by rw[HH.out,e1]; rfl);go_enter Tryd.func28,Tryd.ntmps28;go_wp2;go_ret;exact ⟨by rw[HF.out]; rfl,HB1.out⟩}
 {cases e2: (t.of_==u.of_)
  {have HF:Hid (eqB t u=false):=Y1 (by rw[HH.out,e2]; simp);go_enter Tryd.func28,Tryd.ntmps28;go_wp2;go_ret;exact ⟨by rw[HF.out]; rfl,HB1.out⟩}
  {cases e3: (t.name==u.name)
   {have HF:Hid (eqB t u=false):=Y1 (by rw[HH.out,e3]; simp);go_enter Tryd.func28,Tryd.ntmps28;go_wp2;go_ret;exact ⟨by rw[HF.out]; rfl,HB1.out⟩}
   {cases e4: (t.names==u.names)
    {have HF:Hid (eqB t u=false):=Y1 (by rw[HH.out,e4]; simp);rw[e4] at hns;clear e4;go_enter Tryd.func28,Tryd.ntmps28
     go_wp2_with fail
     refine hns.mono ?_;rintro e w' ⟨rfl,hb'⟩;go_wp2;go_ret;exact ⟨by rw[HF.out]; rfl,Z00 HB1.out hb'⟩}
    {have HF:Hid (eqB t u=eqs t.parts u.parts):=Y1 (by rw[HH.out,e1,e2,e3,e4]; rfl);rw[e4] at hns;clear e4;go_enter Tryd.func28,Tryd.ntmps28
     go_wp2_with fail
     refine hns.mono ?_;rintro e w1 ⟨rfl,hb'⟩;have hbw:=Z00 HB1.out hb';have hp:=HPS.out w1 hbw;have hX:=HB.out.next hb';have hY:=HC.out.next hb';clear c0 c1 c2 c3 c4 d0 d1 d2 d3 d4 hns hb' e1 e2 e3;obtain ⟨_,⟨c0,c1,c2,c3,c4⟩,_⟩:=hX;obtain ⟨_,⟨d0,d1,d2,d3,d4⟩,_⟩:=hY
     go_wp2_with fail
     refine hp.mono ?_;rintro e w' ⟨rfl,hb2⟩;go_wp2;go_ret;exact ⟨by rw[HF.out]; rfl,Z00 hbw hb2⟩}}}}
def Zag (t u:Sh) (q r:Ptr):Nat->Want
 | 0=> .val (.agg (Y8 t q))
 | 1=> .val (.bool false)
 | 2=> .val (.bool false)
 | 5=> .val (.bool false)
 | 6=> .val (.bool false)
 | 12=> .val (.bool false)
 | 13=> .val (.bool false)
 | _=> .any
def Z7D (t u:Sh) (q r:Ptr):Nat->Want
 | 0=> .val (.agg (Y8 t q))
 | 1=> .val (.bool true)
 | 2=> .val (.bool true)
 | 3=> .val (.agg (Y8 u r))
 | 4=> .val (.bool false)
 | 5=> .val (.bool false)
 | 6=> .val (.bool false)
 | 12=> .val (.bool false)
 | 13=> .val (.bool false)
 | _=> .any
def Z95 (t u:Sh) (q r:Ptr):Nat->Want
 | 0=> .val (.agg (Y8 t q))
 | 1=> .val (.bool true)
 | 2=> .val (.bool true)
 | 3=> .val (.agg (Y8 u r))
 | 4=> .val (.bool true)
 | 5=> .val (.bool true)
 | 6=> .val (.bool true)
 | 7=> .val (.agg (Y8 t q))
 | 8=>wantSh (sorted t)
 | 9=> .val (.agg (Y8 u r))
 | 10=>wantSh (sorted u)
 | 11=> .val (.bool (eqB (sorted t) (sorted u)))
 | 12=> .val (.bool (eqB (sorted t) (sorted u)))
 | 13=> .val (.bool (eqB (sorted t) (sorted u)))
 | _=> .any
section
variable (t u : Sh) (q r : Ptr) (w : World) (hq : ShAt w w.heap.size q t) (hr : ShAt w w.heap.size r u) (hg : WGlobs w)
include t u q r w hq hr hg
theorem ZaW (hc:check t≠0):
 Y9 13 #[.agg (Y8 t q),.agg (Y8 u r)] w (.bool (same t u)):=by
 have HB1:=Y1 (((Z03 w t q).next (Z02 _ _)):Box5 ((w.alloc (.cells (Y8 t q) 25)).alloc (.cells (Y8 u r) 25)) w.heap.size t q);have HB2:Hid (Box5 ((w.alloc (.cells (Y8 t q) 25)).alloc (.cells (Y8 u r) 25)) (w.heap.size+1) u r):=by
  have h:=Z03 (w.alloc (.cells (Y8 t q) 25)) u r;have e: (w.alloc (.cells (Y8 t q) 25)).heap.size=w.heap.size+1:=by simp
  rw[e] at h;exact Y1 h
 have hb0:Below w.heap.size w ((w.alloc (.cells (Y8 t q) 25)).alloc (.cells (Y8 u r) 25)):=Z0z (Z02 _ _) _;have HQ:=Y1 (hq.next hb0);have HR:=Y1 (hr.next hb0);have HG:=Y1 (hg.next hb0);have HB0:=Y1 hb0;have HC:=Y1 hc;clear hq hr hg hb0 hc;go_enter Tryd.func13,Tryd.ntmps13
 go_wp2_with fail
 generalize (w.alloc (.cells (Y8 t q) 25)).alloc (.cells (Y8 u r) 25)=W0 at HB1 HB2 HQ HR HG HB0 ⊢;refine Z0y (rs:= [0,1,2,3,4,5,6,7,8,9,10,11,12,13])
  (fun u'=> { tmps:=#[.agg (Y8 t q),.agg (Y8 u r),.pointer (some { block:=w.heap.size,off:=0 }),.pointer (some { block:=w.heap.size+1,off:=0 }),u' 13,u' 0,u' 1,u' 2,u' 3,u' 4,u' 5,u' 6,u' 7,u' 8,u' 9,u' 10,u' 11,u' 12],defers:= [] })
  (fun j=>([undef,undef,undef,undef,undef,undef,undef,undef,undef,undef,undef,undef,undef,.bool false]:List Value).getD j undef) (Zag t u q r) (fun W=>Below W0.heap.size W0 W) (by kernel_rfl) (by kernel_rfl) (by kernel_rfl) Y2.drew ?_ ?_
 refine StepsAt.cons _ rfl (fun u' W K' hJ hd hK=> ?_) ?_
 {obtain ⟨_,⟨y0,y1,y2,y3,y4⟩,_⟩:=HB1.out.next hJ;simp only[Nat.zero_add] at y0 y1 y2 y3 y4;refine Y0 hK hJ rfl rfl rfl ?_
  try dsimp only
  go_simp}
 refine StepsAt.cons _ rfl (fun u' W K' hJ hd hK=> ?_) ?_
 {have d0:_=_:=hd 0 (by kernel_rfl);refine Z04 (f:=26) (args:=#[.agg (Y8 t q)]) (W':=W) rfl ?_ ((mayBe_walk t q W (HQ.out.next hJ) (HG.out.next hJ)).mono fun e w' h=>⟨_,h.1,hK.out _ _ (by rw[decide_eq_false HC.out]; rfl) (Z00 hJ h.2) h.2⟩)
  try dsimp only
  go_simp}
 refine StepsAt.cons _ rfl (fun u' W K' hJ hd hK=> ?_) ?_
 {have d1:_=_:=hd 1 (by kernel_rfl);refine Y0 hK hJ rfl rfl rfl ?_
  try dsimp only
  go_simp}
 refine StepsAt.cons _ rfl (fun u' W K' hJ hd hK=> ?_) ?_
 {have dg:_=_:=hd 2 (by kernel_rfl);exact Z0e (by simp[Region.wanted,yielded,dg]) (hK.out _ _ trivial hJ Y2)}
 refine StepsAt.cons _ rfl (fun u' W K' hJ hd hK=> ?_) ?_
 {have dg:_=_:=hd 2 (by kernel_rfl);exact Z0e (by simp[Region.wanted,yielded,dg]) (hK.out _ _ trivial hJ Y2)}
 refine StepsAt.cons _ rfl (fun u' W K' hJ hd hK=> ?_) ?_
 {have d2:_=_:=hd 2 (by kernel_rfl);refine Y0 hK hJ rfl rfl rfl ?_
  try dsimp only
  go_simp}
 refine StepsAt.cons _ rfl (fun u' W K' hJ hd hK=> ?_) ?_
 {have d5:_=_:=hd 5 (by kernel_rfl);refine Y0 hK hJ rfl rfl rfl ?_
  try dsimp only
  go_simp}
 refine StepsAt.cons _ rfl (fun u' W K' hJ hd hK=> ?_) ?_
 {have dg:_=_:=hd 6 (by kernel_rfl);exact Z0e (by simp[Region.wanted,yielded,dg]) (hK.out _ _ trivial hJ Y2)}
 refine StepsAt.cons _ rfl (fun u' W K' hJ hd hK=> ?_) ?_
 {have dg:_=_:=hd 6 (by kernel_rfl);exact Z0e (by simp[Region.wanted,yielded,dg]) (hK.out _ _ trivial hJ Y2)}
 refine StepsAt.cons _ rfl (fun u' W K' hJ hd hK=> ?_) ?_
 {have dg:_=_:=hd 6 (by kernel_rfl);exact Z0e (by simp[Region.wanted,yielded,dg]) (hK.out _ _ trivial hJ Y2)}
 refine StepsAt.cons _ rfl (fun u' W K' hJ hd hK=> ?_) ?_
 {have dg:_=_:=hd 6 (by kernel_rfl);exact Z0e (by simp[Region.wanted,yielded,dg]) (hK.out _ _ trivial hJ Y2)}
 refine StepsAt.cons _ rfl (fun u' W K' hJ hd hK=> ?_) ?_
 {have dg:_=_:=hd 6 (by kernel_rfl);exact Z0e (by simp[Region.wanted,yielded,dg]) (hK.out _ _ trivial hJ Y2)}
 refine StepsAt.cons _ rfl (fun u' W K' hJ hd hK=> ?_) ?_
 {have d6:_=_:=hd 6 (by kernel_rfl);refine Y0 hK hJ rfl rfl rfl ?_
  try dsimp only
  go_simp}
 refine StepsAt.cons _ rfl (fun u' W K' hJ hd hK=> ?_) StepsAt.nil
 {have d12:_=_:=hd 12 (by kernel_rfl);refine Y0 hK hJ rfl rfl rfl ?_
  try dsimp only
  go_simp}
 intro u' W' hJ' hok
 try dsimp only
 rw[show u' 13= .bool false from hok 13 (by decide)];clear hok;go_wp2;go_ret;exact ⟨Z0o (by rw[Z6b HC.out u]),Z00 HB0.out hJ'⟩
theorem Z96 (hc:check t=0/\check u≠0):
 Y9 13 #[.agg (Y8 t q),.agg (Y8 u r)] w (.bool (same t u)):=by
 have HB1:=Y1 (((Z03 w t q).next (Z02 _ _)):Box5 ((w.alloc (.cells (Y8 t q) 25)).alloc (.cells (Y8 u r) 25)) w.heap.size t q);have HB2:Hid (Box5 ((w.alloc (.cells (Y8 t q) 25)).alloc (.cells (Y8 u r) 25)) (w.heap.size+1) u r):=by
  have h:=Z03 (w.alloc (.cells (Y8 t q) 25)) u r;have e: (w.alloc (.cells (Y8 t q) 25)).heap.size=w.heap.size+1:=by simp
  rw[e] at h;exact Y1 h
 have hb0:Below w.heap.size w ((w.alloc (.cells (Y8 t q) 25)).alloc (.cells (Y8 u r) 25)):=Z0z (Z02 _ _) _;have HQ:=Y1 (hq.next hb0);have HR:=Y1 (hr.next hb0);have HG:=Y1 (hg.next hb0);have HB0:=Y1 hb0;have HC:=Y1 hc;clear hq hr hg hb0 hc;go_enter Tryd.func13,Tryd.ntmps13
 go_wp2_with fail
 generalize (w.alloc (.cells (Y8 t q) 25)).alloc (.cells (Y8 u r) 25)=W0 at HB1 HB2 HQ HR HG HB0 ⊢;refine Z0y (rs:= [0,1,2,3,4,5,6,7,8,9,10,11,12,13])
  (fun u'=> { tmps:=#[.agg (Y8 t q),.agg (Y8 u r),.pointer (some { block:=w.heap.size,off:=0 }),.pointer (some { block:=w.heap.size+1,off:=0 }),u' 13,u' 0,u' 1,u' 2,u' 3,u' 4,u' 5,u' 6,u' 7,u' 8,u' 9,u' 10,u' 11,u' 12],defers:= [] })
  (fun j=>([undef,undef,undef,undef,undef,undef,undef,undef,undef,undef,undef,undef,undef,.bool false]:List Value).getD j undef) (Z7D t u q r) (fun W=>Below W0.heap.size W0 W) (by kernel_rfl) (by kernel_rfl) (by kernel_rfl) Y2.drew ?_ ?_
 refine StepsAt.cons _ rfl (fun u' W K' hJ hd hK=> ?_) ?_
 {obtain ⟨_,⟨y0,y1,y2,y3,y4⟩,_⟩:=HB1.out.next hJ;simp only[Nat.zero_add] at y0 y1 y2 y3 y4;refine Y0 hK hJ rfl rfl rfl ?_
  try dsimp only
  go_simp}
 refine StepsAt.cons _ rfl (fun u' W K' hJ hd hK=> ?_) ?_
 {have d0:_=_:=hd 0 (by kernel_rfl);refine Z04 (f:=26) (args:=#[.agg (Y8 t q)]) (W':=W) rfl ?_ ((mayBe_walk t q W (HQ.out.next hJ) (HG.out.next hJ)).mono fun e w' h=>⟨_,h.1,hK.out _ _ (by rw[decide_eq_true HC.out.1]; rfl) (Z00 hJ h.2) h.2⟩)
  try dsimp only
  go_simp}
 refine StepsAt.cons _ rfl (fun u' W K' hJ hd hK=> ?_) ?_
 {have d1:_=_:=hd 1 (by kernel_rfl);refine Y0 hK hJ rfl rfl rfl ?_
  try dsimp only
  go_simp}
 refine StepsAt.cons _ rfl (fun u' W K' hJ hd hK=> ?_) ?_
 {have dg:_=_:=hd 2 (by kernel_rfl);obtain ⟨_,⟨y0,y1,y2,y3,y4⟩,_⟩:=HB2.out.next hJ;simp only[Nat.zero_add] at y0 y1 y2 y3 y4;refine Y0 hK hJ rfl rfl ?_ ?_
  {simp[Region.wanted,yielded,dg]}
  {try dsimp only
   go_simp}}
 refine StepsAt.cons _ rfl (fun u' W K' hJ hd hK=> ?_) ?_
 {have dg:_=_:=hd 2 (by kernel_rfl);have d3:_=_:=hd 3 (by kernel_rfl);refine Z04 (f:=26) (args:=#[.agg (Y8 u r)]) (W':=W) ?_ ?_ ((mayBe_walk u r W (HR.out.next hJ) (HG.out.next hJ)).mono fun e w' h=>⟨_,h.1,hK.out _ _ (by rw[decide_eq_false HC.out.2]; rfl) (Z00 hJ h.2) h.2⟩)
  {simp[Region.wanted,yielded,dg]}
  {try dsimp only
   go_simp}}
 refine StepsAt.cons _ rfl (fun u' W K' hJ hd hK=> ?_) ?_
 {have d2:_=_:=hd 2 (by kernel_rfl);have d4:_=_:=hd 4 (by kernel_rfl);refine Y0 hK hJ rfl rfl rfl ?_
  try dsimp only
  go_simp}
 refine StepsAt.cons _ rfl (fun u' W K' hJ hd hK=> ?_) ?_
 {have d5:_=_:=hd 5 (by kernel_rfl);refine Y0 hK hJ rfl rfl rfl ?_
  try dsimp only
  go_simp}
 refine StepsAt.cons _ rfl (fun u' W K' hJ hd hK=> ?_) ?_
 {have dg:_=_:=hd 6 (by kernel_rfl);exact Z0e (by simp[Region.wanted,yielded,dg]) (hK.out _ _ trivial hJ Y2)}
 refine StepsAt.cons _ rfl (fun u' W K' hJ hd hK=> ?_) ?_
 {have dg:_=_:=hd 6 (by kernel_rfl);exact Z0e (by simp[Region.wanted,yielded,dg]) (hK.out _ _ trivial hJ Y2)}
 refine StepsAt.cons _ rfl (fun u' W K' hJ hd hK=> ?_) ?_
 {have dg:_=_:=hd 6 (by kernel_rfl);exact Z0e (by simp[Region.wanted,yielded,dg]) (hK.out _ _ trivial hJ Y2)}
 refine StepsAt.cons _ rfl (fun u' W K' hJ hd hK=> ?_) ?_
 {have dg:_=_:=hd 6 (by kernel_rfl);exact Z0e (by simp[Region.wanted,yielded,dg]) (hK.out _ _ trivial hJ Y2)}
 refine StepsAt.cons _ rfl (fun u' W K' hJ hd hK=> ?_) ?_
 {have dg:_=_:=hd 6 (by kernel_rfl);exact Z0e (by simp[Region.wanted,yielded,dg]) (hK.out _ _ trivial hJ Y2)}
 refine StepsAt.cons _ rfl (fun u' W K' hJ hd hK=> ?_) ?_
 {have d6:_=_:=hd 6 (by kernel_rfl);refine Y0 hK hJ rfl rfl rfl ?_
  try dsimp only
  go_simp}
 refine StepsAt.cons _ rfl (fun u' W K' hJ hd hK=> ?_) StepsAt.nil
 {have d12:_=_:=hd 12 (by kernel_rfl);refine Y0 hK hJ rfl rfl rfl ?_
  try dsimp only
  go_simp}
 intro u' W' hJ' hok
 try dsimp only
 rw[show u' 13= .bool false from hok 13 (by decide)];clear hok;go_wp2;go_ret;exact ⟨Z0o (by rw[Z5m,Z6b HC.out.2 t]),Z00 HB0.out hJ'⟩
theorem Zah (hc:check t=0/\check u=0):
 Y9 13 #[.agg (Y8 t q),.agg (Y8 u r)] w (.bool (same t u)):=by
 have HB1:=Y1 (((Z03 w t q).next (Z02 _ _)):Box5 ((w.alloc (.cells (Y8 t q) 25)).alloc (.cells (Y8 u r) 25)) w.heap.size t q);have HB2:Hid (Box5 ((w.alloc (.cells (Y8 t q) 25)).alloc (.cells (Y8 u r) 25)) (w.heap.size+1) u r):=by
  have h:=Z03 (w.alloc (.cells (Y8 t q) 25)) u r;have e: (w.alloc (.cells (Y8 t q) 25)).heap.size=w.heap.size+1:=by simp
  rw[e] at h;exact Y1 h
 have hb0:Below w.heap.size w ((w.alloc (.cells (Y8 t q) 25)).alloc (.cells (Y8 u r) 25)):=Z0z (Z02 _ _) _;have HQ:=Y1 (hq.next hb0);have HR:=Y1 (hr.next hb0);have HG:=Y1 (hg.next hb0);have HB0:=Y1 hb0;have HC:=Y1 hc;clear hq hr hg hb0 hc;go_enter Tryd.func13,Tryd.ntmps13
 go_wp2_with fail
 generalize (w.alloc (.cells (Y8 t q) 25)).alloc (.cells (Y8 u r) 25)=W0 at HB1 HB2 HQ HR HG HB0 ⊢;refine Z0y (rs:= [0,1,2,3,4,5,6,7,8,9,10,11,12,13])
  (fun u'=> { tmps:=#[.agg (Y8 t q),.agg (Y8 u r),.pointer (some { block:=w.heap.size,off:=0 }),.pointer (some { block:=w.heap.size+1,off:=0 }),u' 13,u' 0,u' 1,u' 2,u' 3,u' 4,u' 5,u' 6,u' 7,u' 8,u' 9,u' 10,u' 11,u' 12],defers:= [] })
  (fun j=>([undef,undef,undef,undef,undef,undef,undef,undef,undef,undef,undef,undef,undef,.bool false]:List Value).getD j undef) (Z95 t u q r) (fun W=>Below W0.heap.size W0 W) (by kernel_rfl) (by kernel_rfl) (by kernel_rfl) Y2.drew ?_ ?_
 refine StepsAt.cons _ rfl (fun u' W K' hJ hd hK=> ?_) ?_
 {obtain ⟨_,⟨y0,y1,y2,y3,y4⟩,_⟩:=HB1.out.next hJ;simp only[Nat.zero_add] at y0 y1 y2 y3 y4;refine Y0 hK hJ rfl rfl rfl ?_
  try dsimp only
  go_simp}
 refine StepsAt.cons _ rfl (fun u' W K' hJ hd hK=> ?_) ?_
 {have d0:_=_:=hd 0 (by kernel_rfl);refine Z04 (f:=26) (args:=#[.agg (Y8 t q)]) (W':=W) rfl ?_ ((mayBe_walk t q W (HQ.out.next hJ) (HG.out.next hJ)).mono fun e w' h=>⟨_,h.1,hK.out _ _ (by rw[decide_eq_true HC.out.1]; rfl) (Z00 hJ h.2) h.2⟩)
  try dsimp only
  go_simp}
 refine StepsAt.cons _ rfl (fun u' W K' hJ hd hK=> ?_) ?_
 {have d1:_=_:=hd 1 (by kernel_rfl);refine Y0 hK hJ rfl rfl rfl ?_
  try dsimp only
  go_simp}
 refine StepsAt.cons _ rfl (fun u' W K' hJ hd hK=> ?_) ?_
 {have dg:_=_:=hd 2 (by kernel_rfl);obtain ⟨_,⟨y0,y1,y2,y3,y4⟩,_⟩:=HB2.out.next hJ;simp only[Nat.zero_add] at y0 y1 y2 y3 y4;refine Y0 hK hJ rfl rfl ?_ ?_
  {simp[Region.wanted,yielded,dg]}
  {try dsimp only
   go_simp}}
 refine StepsAt.cons _ rfl (fun u' W K' hJ hd hK=> ?_) ?_
 {have dg:_=_:=hd 2 (by kernel_rfl);have d3:_=_:=hd 3 (by kernel_rfl);refine Z04 (f:=26) (args:=#[.agg (Y8 u r)]) (W':=W) ?_ ?_ ((mayBe_walk u r W (HR.out.next hJ) (HG.out.next hJ)).mono fun e w' h=>⟨_,h.1,hK.out _ _ (by rw[decide_eq_true HC.out.2]; rfl) (Z00 hJ h.2) h.2⟩)
  {simp[Region.wanted,yielded,dg]}
  {try dsimp only
   go_simp}}
 refine StepsAt.cons _ rfl (fun u' W K' hJ hd hK=> ?_) ?_
 {have d2:_=_:=hd 2 (by kernel_rfl);have d4:_=_:=hd 4 (by kernel_rfl);refine Y0 hK hJ rfl rfl rfl ?_
  try dsimp only
  go_simp}
 refine StepsAt.cons _ rfl (fun u' W K' hJ hd hK=> ?_) ?_
 {have d5:_=_:=hd 5 (by kernel_rfl);refine Y0 hK hJ rfl rfl rfl ?_
  try dsimp only
  go_simp}
 refine StepsAt.cons _ rfl (fun u' W K' hJ hd hK=> ?_) ?_
 {have dg:_=_:=hd 6 (by kernel_rfl);obtain ⟨_,⟨y0,y1,y2,y3,y4⟩,_⟩:=HB1.out.next hJ;simp only[Nat.zero_add] at y0 y1 y2 y3 y4;refine Y0 hK hJ rfl rfl ?_ ?_
  {simp[Region.wanted,yielded,dg]}
  {try dsimp only
   go_simp}}
 refine StepsAt.cons _ rfl (fun u' W K' hJ hd hK=> ?_) ?_
 {have dg:_=_:=hd 6 (by kernel_rfl);have d7:_=_:=hd 7 (by kernel_rfl);refine Z04 (f:=12) (args:=#[.agg (Y8 t q)]) (W':=W) ?_ ?_ ((Z1r t q W (HQ.out.next hJ) (HG.out.next hJ) HC.out.1).mono fun e w' ⟨q',he,ha,hb⟩=>⟨_,he,hK.out _ _ ⟨q',rfl,ha⟩ (Z00 hJ hb) hb⟩)
  {simp[Region.wanted,yielded,dg]}
  {try dsimp only
   go_simp}}
 refine StepsAt.cons _ rfl (fun u' W K' hJ hd hK=> ?_) ?_
 {have dg:_=_:=hd 6 (by kernel_rfl);obtain ⟨_,⟨y0,y1,y2,y3,y4⟩,_⟩:=HB2.out.next hJ;simp only[Nat.zero_add] at y0 y1 y2 y3 y4;refine Y0 hK hJ rfl rfl ?_ ?_
  {simp[Region.wanted,yielded,dg]}
  {try dsimp only
   go_simp}}
 refine StepsAt.cons _ rfl (fun u' W K' hJ hd hK=> ?_) ?_
 {have dg:_=_:=hd 6 (by kernel_rfl);have d9:_=_:=hd 9 (by kernel_rfl);refine Z04 (f:=12) (args:=#[.agg (Y8 u r)]) (W':=W) ?_ ?_ ((Z1r u r W (HR.out.next hJ) (HG.out.next hJ) HC.out.2).mono fun e w' ⟨q',he,ha,hb⟩=>⟨_,he,hK.out _ _ ⟨q',rfl,ha⟩ (Z00 hJ hb) hb⟩)
  {simp[Region.wanted,yielded,dg]}
  {try dsimp only
   go_simp}}
 refine StepsAt.cons _ rfl (fun u' W K' hJ hd hK=> ?_) ?_
 {have dg:_=_:=hd 6 (by kernel_rfl);obtain ⟨qt,d8,at1⟩:=hd 8 (by kernel_rfl);obtain ⟨qu,d10,au⟩:=hd 10 (by kernel_rfl);refine Z04 (f:=28) (args:=#[.agg (Y8 (sorted t) qt),.agg (Y8 (sorted u) qu)]) (W':=W) ?_ ?_ ((Z7C (sorted t) (sorted u) qt qu W at1 au).mono fun e w' h=>⟨_,h.1,hK.out _ _ rfl (Z00 hJ h.2) h.2⟩)
  {simp[Region.wanted,yielded,dg]}
  {try dsimp only
   go_simp}}
 refine StepsAt.cons _ rfl (fun u' W K' hJ hd hK=> ?_) ?_
 {have d6:_=_:=hd 6 (by kernel_rfl);have d11:_=_:=hd 11 (by kernel_rfl);refine Y0 hK hJ rfl rfl rfl ?_
  try dsimp only
  go_simp}
 refine StepsAt.cons _ rfl (fun u' W K' hJ hd hK=> ?_) StepsAt.nil
 {have d12:_=_:=hd 12 (by kernel_rfl);refine Y0 hK hJ rfl rfl rfl ?_
  try dsimp only
  go_simp}
 intro u' W' hJ' hok
 try dsimp only
 rw[show u' 13= .bool (eqB (sorted t) (sorted u)) from hok 13 (by decide)];clear hok;go_wp2;go_ret;exact ⟨Z0o (by unfold same; rw[decide_eq_true HC.out.1,decide_eq_true HC.out.2]; rfl),Z00 HB0.out hJ'⟩
theorem Z0N:
 Y9 13 #[.agg (Y8 t q),.agg (Y8 u r)] w (.bool (same t u)):=by
 by_cases h1:check t=0
 {by_cases h2:check u=0
  {exact Zah t u q r w hq hr hg ⟨h1,h2⟩}
  {exact Z96 t u q r w hq hr hg ⟨h1,h2⟩}}
 {exact ZaW t u q r w hq hr hg h1}
end
end
end Go.Proofs.YtlomianlcnmfgaaDoor
