/- What the proofs of ExpandDeclares want, part 17. -/
import Derived.Test.YtmeiijjpomcgcaaDoorK0n16
set_option linter.unusedVariables false
set_option linter.unusedSimpArgs false
set_option linter.unusedSectionVars false
set_option maxRecDepth 100000
set_option maxHeartbeats 16000000
namespace Go.Proofs.YtmeiijjpomcgcaaDoor
section
open Go.RowKit Shp
section
variable (t : Sh) (q : Ptr) (w : World) (hq : ShAt w w.heap.size q t)
include t q w hq
theorem Z8d (hk: ¬(t.kind=9\/t.kind=10)):
 Calls Tryd.prog 53 #[.agg (Y8 t q)] w
  fun e w'=>e= .returned (.bool (fits t))/\Below w.heap.size w w':=by
 have HS:=Y1 hq.small;have HA:=Y1 hq.strs;have hB:=Z07 w t q;have HB:=Y1 hB;have hb0:=Z01 w (.cells (Y8 t q) 25);have HB0:=Y1 hb0;have h9: (t.kind==9)=false:=by rw[beq_eq_false_iff_ne]; omega
 have h10: (t.kind==10)=false:=by rw[beq_eq_false_iff_ne]; omega
 have HK:=Y1 hk;clear hB hb0 hq hk;obtain ⟨_,⟨c0,c1,c2,c3,c4⟩,_⟩:=HB.out;cases ho: (t.of_== [])
 {have HF:=Y1 (Z0Z HK.out (ZbV ho));have hoe:=Z0H ho;clear ho;go_enter Tryd.func53,Tryd.ntmps53;go_wp2;go_ret;exact ⟨by rw[HF.out]; rfl,HB0.out⟩}
 {have hoe:=Z0H ho;cases hn: (t.name== [])
  {have HF:=Y1 (Z0Z HK.out (Z9Z hn));have hne:=Z0H hn;clear ho hn;go_enter Tryd.func53,Tryd.ntmps53;go_wp2;go_ret;exact ⟨by rw[HF.out]; rfl,HB0.out⟩}
  {have hne:=Z0H hn;have HBA:Hid (bare t=true):=Y1 ((Z2p t).2 ⟨by simpa using ho,by simpa using hn⟩);clear ho hn;by_cases h67:t.kind=6\/t.kind=7
   {have HF:=Y1 (Z2o HBA.out h67);have h6: (t.kind==6)=true\/(t.kind==6)=false/\(t.kind==7)=true:=by rcases h67 with h | h <;> simp[h]
    have hA:=(HA.out.next HB0.out);have hr:=fun W h=>Z7m q.A q.c t.names t.parts.length W h HS.out.l HS.out.ns;have hw:=hr _ hA;clear h67 hA hr;rcases h6 with h6 | ⟨h6,h7⟩
    all_goals
     go_enter Tryd.func53,Tryd.ntmps53
     go_wp2_with fail
     refine hw.mono ?_;rintro e w' ⟨rfl,hb'⟩;go_wp2;go_ret;exact ⟨by rw[HF.out]; rfl,Z03 HB0.out hb'⟩}
   {have H67:=Y1 h67;have h6: (t.kind==6)=false:=by rw[beq_eq_false_iff_ne]; omega
    have h7: (t.kind==7)=false:=by rw[beq_eq_false_iff_ne]; omega
    clear h67;by_cases hz:0 < t.names.length
    {have HF:=Y1 (Z1E HK.out HBA.out H67.out hz);have hz2: (0:Int) < (t.names.length:Int):=by omega
     go_enter Tryd.func53,Tryd.ntmps53;go_wp2;go_ret;exact ⟨by rw[HF.out]; rfl,HB0.out⟩}
    {have HZ:=Y1 hz;have hz2: ¬(0:Int) < (t.names.length:Int):=by omega
     have hz3: ¬0 < t.names.length:=hz;by_cases hk8:t.kind=8
     {have HF:=Y1 (Z4B HBA.out hk8 HZ.out);have h8: (t.kind==8)=true:=by simp[hk8]
      clear hk8;go_enter Tryd.func53,Tryd.ntmps53;go_wp2;go_ret;exact ⟨Z0p (by rw[HF.out,Bool.eq_iff_iff]; simp; try omega),HB0.out⟩}
     {have h8: (t.kind==8)=false:=by rw[beq_eq_false_iff_ne]; omega
      by_cases hk5:t.kind=5
      {have HF:=Y1 (Z3R HBA.out hk5 HZ.out);have h5: (t.kind==5)=true:=by simp[hk5]
       clear hk8 hk5;go_enter Tryd.func53,Tryd.ntmps53;go_wp2;go_ret;exact ⟨Z0p (by rw[HF.out,Bool.eq_iff_iff]; simp; try omega),HB0.out⟩}
      {have h5: (t.kind==5)=false:=by rw[beq_eq_false_iff_ne]; omega
       have HF:=Y1 (Z2C HBA.out HK.out H67.out HZ.out hk8 hk5);clear hk8 hk5;cases e1:decide (1<=t.kind)
       {have HF2:Hid (fits t=false):=Y1 (by rw[HF.out,e1]; rfl);go_enter Tryd.func53,Tryd.ntmps53;go_wp2;go_ret;exact ⟨by rw[HF2.out]; rfl,HB0.out⟩}
       {cases e2:decide (t.kind<=4)
        {have HF2:Hid (fits t=false):=Y1 (by rw[HF.out,e1,e2]; rfl);go_enter Tryd.func53,Tryd.ntmps53;go_wp2;go_ret;exact ⟨by rw[HF2.out]; rfl,HB0.out⟩}
        {have HF2:Hid (fits t=decide (t.parts.length=0)):=Y1 (by rw[HF.out,e1,e2]; rfl);go_enter Tryd.func53,Tryd.ntmps53;go_wp2;go_ret;exact ⟨Z0p (by rw[HF2.out,Bool.eq_iff_iff]; simp),HB0.out⟩}}}}}}}}
theorem Z9C:
 Calls Tryd.prog 53 #[.agg (Y8 t q)] w
  fun e w'=>e= .returned (.bool (fits t))/\Below w.heap.size w w':=by
 by_cases hk:t.kind=9\/t.kind=10
 {exact Z7Z t q w hq hk}
 {exact Z8d t q w hq hk}
end
theorem Z8e (t:Sh): ∀(q:Ptr) (w:World),ShAt w w.heap.size q t->
 Calls Tryd.prog 38 #[.agg (Y8 t q)] w
  fun e w'=>e= .returned (.bool (right t))/\Below w.heap.size w w':=by
 induction t using Sh.ind with
 | h t ih=>
 intro q w hq;have HM:=Y1 hq.small.m;have HP:=Y1 hq.part;have HD:Hid (right t=(fits t&&rights t.parts)):=Y1 (Z1v t);have hB:=Z07 w t q;have HB:=Y1 hB;have hb0:=Z01 w (.cells (Y8 t q) 25);have HB0:=Y1 hb0;have hf:=Z9C t q _ (hq.next hb0);have HQ:=Y1 hq;clear hb0 hq;obtain ⟨_,⟨c0,c1,c2,c3,c4⟩,_⟩:=hB;have ih:=ih;cases hft:fits t with
 | false=>
  have HF:Hid (right t=false):=Y1 (by rw[HD.out,hft]; rfl);rw[hft] at hf;clear hft ih;go_enter Tryd.func38,Tryd.ntmps38
  go_wp2_with fail
  refine hf.mono ?_;rintro e w' ⟨rfl,hb'⟩;go_wp2;go_ret;exact ⟨by rw[HF.out]; rfl,Z03 HB0.out hb'⟩
 | true=>
  have HFT:=Y1 hft;rw[hft] at hf;clear hft;go_enter Tryd.func38,Tryd.ntmps38
  go_wp2_with fail
  refine hf.mono ?_;rintro e W0 ⟨rfl,hb'⟩;have HB1:=Y1 (HB.out.next hb');have HBW:Hid (Below w.heap.size w W0):=Y1 (Z03 HB0.out hb');clear hf hb' c0 c1 c2 c3 c4 HB HB0
  go_wp2_with fail
  go_loopw [3] (fun ii wr=> ∃i:Nat,ii= .int .i64 i/\i<=t.parts.length/\Hid (∀j (h:j < t.parts.length),j < i->right (t.parts[j]'h)=true)/\Below W0.heap.size W0 wr) (fun i _=>t.parts.length - (intOf i).toNat)
  case atStart=>exact ⟨0,rfl,Nat.zero_le _,Y1 (fun j _ hj=>absurd hj (by omega)),Below.refl _ _⟩
  case round=>
   obtain ⟨i,rfl,hi,HN,hb⟩:=hrel;have hm:=HM.out;obtain ⟨_,⟨c0,_,_,_,c4⟩,_⟩:=HB1.out.next hb;by_cases hlt:i < t.parts.length
   {rcases HP.out with h0 | ⟨g,off,qs,hqP,hg,hc,hr⟩
    {omega}
    {have hbw:Below w.heap.size w wr:=HBW.out.trans (hb.mono HBW.out.size);obtain ⟨x,hx⟩: ∃x,x=t.parts[i]:=⟨_,rfl⟩;obtain ⟨p0,p1,p2,p3,p4⟩:=(hc i hlt).keep hg hbw;have hat:ShAt wr wr.heap.size (qs i) x:=by rw[hx]; exact (hr i hlt).next hbw
     have ihx:=ih t.parts[i] (List.getElem_mem _) (qs i) wr;rw[<-hx] at p0 p1 p2 p3 p4 ihx;have IH:=ihx hat;rw[hqP] at c4;have HX:=Y1 hx;clear hx hc hr hat ihx ih hqP;have hi1: (i:Int) < (t.parts.length:Int):=by omega
     cases hox:right x with
     | false=>
      rw[hox] at IH;have HF:Hid (right t=false):=Y1 (Za0 (p:=x) (by rw[HX.out]; exact List.getElem_mem _) hox);clear hox
      go_wp2_with (refine IH.mono ?_; rintro e w' ⟨rfl,hb'⟩)
      go_ret;exact ⟨by rw[HF.out]; rfl,hbw.trans (hb'.mono hbw.size)⟩
     | true=>
      rw[hox] at IH;have HO:=Y1 hox;clear hox
      go_wp2_with (refine IH.mono ?_; rintro e w' ⟨rfl,hb'⟩)
      go_roundw
      case rel=>exact ⟨i+1,by go_num,by omega,Y1 (fun j hj hji=>by
       rcases Nat.lt_succ_iff_lt_or_eq.1 hji with h | rfl
       {exact HN.out j hj h}
       · rw[<-HX.out]; exact HO.out),hb.trans (hb'.mono hb.size)⟩
      case measure=>simp[intOf]; omega}}
   {have HF:Hid (right t=true):=Y1 (Z2q HFT.out (fun p hp=>by
     obtain ⟨j,hj,rfl⟩:=List.getElem_of_mem hp;exact HN.out j hj (by omega)))
    go_wp2;go_ret;exact ⟨by rw[HF.out]; rfl,HBW.out.trans (hb.mono HBW.out.size)⟩}
theorem Z9D {t:Sh} (h:400 < size t):sizeTo 400 t=401:=by unfold sizeTo; omega
theorem Zb2 {t:Sh} (h: ¬400 < size t):sizeTo 400 t=size t:=by unfold sizeTo; omega
theorem Z2z (t:Sh) (q:Ptr) (w:World) (hq:ShAt w w.heap.size q t):
 Calls Tryd.prog 23 #[.agg (Y8 t q)] w
  fun e w'=>e= .returned (.int .i64 (check t))/\Below w.heap.size w w':=by
 have hB:=Z07 w t q;have HB:=Y1 hB;have hb0:=Z01 w (.cells (Y8 t q) 25);have HB0:=Y1 hb0;have hs:=Z5i t q 400 _ (hq.next hb0) (by omega);rw[show (((400:Nat):Int))=(400:Int) from rfl] at hs;have HQ:=Y1 hq;have HC:Hid (check t=if 400 < size t then 3 else if 40 < deep t then 91 else if right t=false then 70 else 0):=Y1 rfl;clear hb0 hq;obtain ⟨_,⟨c0,c1,c2,c3,c4⟩,_⟩:=hB;by_cases h4:400 < size t
 {rw[Z9D h4] at hs;have HF:Hid (check t=3):=Y1 (by rw[HC.out,if_pos h4]);clear h4;go_enter Tryd.func23,Tryd.ntmps23
  go_wp2_with fail
  refine hs.mono ?_;rintro e w' ⟨rfl,hb'⟩;go_wp2;go_ret;exact ⟨Z17 HF.out.symm,Z03 HB0.out hb'⟩}
 {rw[Zb2 h4] at hs;have h4': ¬(400:Int) < (size t:Int):=by omega
  have hdd:=Z1i t;go_enter Tryd.func23,Tryd.ntmps23
  go_wp2_with fail
  refine hs.mono ?_;rintro e w1 ⟨rfl,hb1⟩;have hbw:=Z03 HB0.out hb1;have HBW:=Y1 hbw;have HB1:=Y1 (HB.out.next hb1);have hd:=Z9B t q w1 (HQ.out.next hbw) (by omega);clear hs hb1 hbw c0 c1 c2 c3 c4;obtain ⟨_,⟨c0,c1,c2,c3,c4⟩,_⟩:=HB1.out;by_cases h40:40 < deep t
  {have HF:Hid (check t=91):=Y1 (by rw[HC.out,if_neg h4,if_pos h40]);have h40': (40:Int) < (deep t:Int):=by omega
   clear h4 h40 hdd
   go_wp2_with fail
   refine hd.mono ?_;rintro e w' ⟨rfl,hb'⟩;go_wp2;go_ret;exact ⟨Z17 HF.out.symm,Z03 HBW.out hb'⟩}
  {have h40': ¬(40:Int) < (deep t:Int):=by omega
   have HF:Hid (check t=if right t=false then 70 else 0):=Y1 (by rw[HC.out,if_neg h4,if_neg h40]);clear h4 h40 hdd
   go_wp2_with fail
   refine hd.mono ?_;rintro e w2 ⟨rfl,hb2⟩;have hbw:=Z03 HBW.out hb2;have HBW2:=Y1 hbw;have HB2:=Y1 (HB1.out.next hb2);have hr:=Z8e t q w2 (HQ.out.next hbw);clear hd hb2 hbw c0 c1 c2 c3 c4;obtain ⟨_,⟨c0,c1,c2,c3,c4⟩,_⟩:=HB2.out;cases hrt:right t
   all_goals
    rw[hrt] at hr HF;clear hrt
    go_wp2_with fail
    refine hr.mono ?_;rintro e w' ⟨rfl,hb'⟩;go_wp2;go_ret;exact ⟨Z17 (by rw[HF.out]; rfl),Z03 HBW2.out hb'⟩}}
theorem Zch {l m:List Sh} (hl:l.length=m.length) (h: ∀j (hj:j < l.length),eqB (l[j]'hj) (m[j]'(by omega))=true):eqs l m=true:=
 (Z8h l m).2 (List.ext_getElem hl (fun j h1 h2=>(Z35 _ _).1 (h j h1)))
def headB (t u:Sh):Bool:=t.kind==u.kind&&t.of_==u.of_&&t.name==u.name&&decide (t.names.length=u.names.length)&&decide (t.parts.length=u.parts.length)
theorem ZbO {t u:Sh} (h:headB t u=false):eqB t u=false:=by
 apply Z5n;rintro rfl;simp[headB] at h
theorem Zb3 {t u:Sh} {i:Nat} (hi:i < t.names.length) (hm:i < u.names.length) (h:t.names[i]'hi≠u.names[i]'hm):eqB t u=false:=by
 apply Z5n;rintro rfl;exact h rfl
theorem Zb4 {t u:Sh} {i:Nat} (hi:i < t.parts.length) (hm:i < u.parts.length) (h:eqB (t.parts[i]'hi) (u.parts[i]'hm)=false):eqB t u=false:=by
 apply Z5n;rintro rfl;rw[Z3n] at h; cases h
theorem Zci {t u:Sh} (h:headB t u=true) (hn: ∀j (hj:j < t.names.length) (hj':j < u.names.length),t.names[j]'hj=u.names[j]'hj') (hp: ∀j (hj:j < t.parts.length) (hj':j < u.parts.length),eqB (t.parts[j]'hj) (u.parts[j]'hj')=true):eqB t u=true:=by
 simp only[headB,Bool.and_eq_true,beq_iff_eq,decide_eq_true_eq] at h;obtain ⟨⟨⟨⟨h1,h2⟩,h3⟩,h4⟩,h5⟩:=h;rw[Z9S,h1,h2,h3];simp only[beq_self_eq_true,Bool.true_and,Bool.and_eq_true];exact ⟨beq_iff_eq.2 (List.ext_getElem h4 (fun j a b=>hn j a b)),Zch h5 (fun j hj=>hp j hj (by omega))⟩
theorem Z8f (t u:Sh) (q r:Ptr) (w:World) (hq:ShAt w w.heap.size q t) (hr:ShAt w w.heap.size r u) (hh:headB t u=false):
 Y9 11 #[.agg (Y8 t q),.agg (Y8 u r)] w (.bool (eqB t u)):=by
 have HF:=Y1 (ZbO hh);have hb0:=Z01 w (.cells (Y8 t q) 25);have hb1:=Z0h hb0 (.cells (Y8 u r) 25);have HB1:=Y1 hb1;have hB:=(Z07 w t q).next (Z01 _ (.cells (Y8 u r) 25));have hC:=Z07 (w.alloc (.cells (Y8 t q) 25)) u r;obtain ⟨_,⟨c0,c1,c2,c3,c4⟩,_⟩:=hB;obtain ⟨_,⟨d0,d1,d2,d3,d4⟩,_⟩:=hC;clear hb0 hb1;rw[World.size_alloc] at d0 d1 d2 d3 d4;have HH:=Y1 hh;clear hh;have h4: ((t.names.length:Int)==(u.names.length:Int))=decide (t.names.length=u.names.length):=by rw[Bool.eq_iff_iff,beq_iff_eq,decide_eq_true_eq]; omega
 have h5: ((t.parts.length:Int)==(u.parts.length:Int))=decide (t.parts.length=u.parts.length):=by rw[Bool.eq_iff_iff,beq_iff_eq,decide_eq_true_eq]; omega
 unfold headB at HH;rw[<-h4, <-h5] at HH;clear h4 h5;cases e1: (t.kind==u.kind)
 {have n1: (t.kind !=u.kind)=true:=by unfold bne; rw[e1]; rfl
  go_enter Tryd.func11,Tryd.ntmps11;go_wp2;go_ret;exact ⟨by rw[HF.out]; rfl,HB1.out⟩}
 {have n1: (t.kind !=u.kind)=false:=by unfold bne; rw[e1]; rfl
  rw[e1,Bool.true_and] at HH;cases e2: (t.of_==u.of_)
  {have n2: (t.of_ !=u.of_)=true:=by unfold bne; rw[e2]; rfl
   go_enter Tryd.func11,Tryd.ntmps11;go_wp2;go_ret;exact ⟨by rw[HF.out]; rfl,HB1.out⟩}
  {have n2: (t.of_ !=u.of_)=false:=by unfold bne; rw[e2]; rfl
   rw[e2,Bool.true_and] at HH;cases e3: (t.name==u.name)
   {have n3: (t.name !=u.name)=true:=by unfold bne; rw[e3]; rfl
    go_enter Tryd.func11,Tryd.ntmps11;go_wp2;go_ret;exact ⟨by rw[HF.out]; rfl,HB1.out⟩}
   {have n3: (t.name !=u.name)=false:=by unfold bne; rw[e3]; rfl
    rw[e3,Bool.true_and] at HH;cases e4: ((t.names.length:Int)==(u.names.length:Int))
    {have n4: ((t.names.length:Int) !=(u.names.length:Int))=true:=by unfold bne; rw[e4]; rfl
     go_enter Tryd.func11,Tryd.ntmps11;go_wp2;go_ret;exact ⟨by rw[HF.out]; rfl,HB1.out⟩}
    {have n4: ((t.names.length:Int) !=(u.names.length:Int))=false:=by unfold bne; rw[e4]; rfl
     rw[e4,Bool.true_and] at HH;have e5:=HH.out;have n5: ((t.parts.length:Int) !=(u.parts.length:Int))=true:=by unfold bne; rw[e5]; rfl
     go_enter Tryd.func11,Tryd.ntmps11;go_wp2;go_ret;exact ⟨by rw[HF.out]; rfl,HB1.out⟩}}}}
def Z69 (w:World) (P:Option Addr) (l:List Sh):Prop:=
 ∃(g off:Nat) (qs:Nat->Ptr),l.length=0\/P=some ⟨g,off,none⟩/\g < w.heap.size/\(∀i (h:i < l.length),Sh5 w g (off+i * 5) (l[i]'h) (qs i))/\ ∀i (h:i < l.length),ShAt w w.heap.size (qs i) (l[i]'h)
theorem Z69.next {w w':World} {P:Option Addr} {l:List Sh} (h:Z69 w P l) (hb:Below w.heap.size w w'):Z69 w' P l:=by
 obtain ⟨g,off,qs,h⟩:=h;rcases h with h | ⟨h1,h2,h3,h4⟩
 {exact ⟨g,off,qs,Or.inl h⟩}
 {exact ⟨g,off,qs,Or.inr ⟨h1,Nat.lt_of_lt_of_le h2 hb.size,fun i hi=>(h3 i hi).keep h2 hb,fun i hi=>(h4 i hi).next hb⟩⟩}
theorem Z4v (t:Sh): ∀(u:Sh) (q r:Ptr) (w:World),ShAt w w.heap.size q t->ShAt w w.heap.size r u->
 Y9 11 #[.agg (Y8 t q),.agg (Y8 u r)] w (.bool (eqB t u)):=by
 induction t using Sh.ind with
 | h t ih=>
 intro u q r w hq hr;cases hh:headB t u with
 | false=>exact Z8f t u q r w hq hr hh
 | true=>
 have HH:=Y1 hh;have hs:=hh;simp only[headB,Bool.and_eq_true,beq_iff_eq,decide_eq_true_eq] at hs;obtain ⟨⟨⟨⟨g1,g2⟩,g3⟩,g4⟩,g5⟩:=hs;have HG4:=Y1 g4;have HG5:=Y1 g5;have HL:=Y1 hq.small.l;have HM:=Y1 hq.small.m;have HP:=Y1 hq.part;have HR:=Y1 hr.part;have HSN:=Y1 hq.strs;have HSM:=Y1 hr.strs;have hb0:=Z01 w (.cells (Y8 t q) 25);have hb1:=Z0h hb0 (.cells (Y8 u r) 25);have HB1:=Y1 hb1;have hB:=(Z07 w t q).next (Z01 _ (.cells (Y8 u r) 25));have hC:=Z07 (w.alloc (.cells (Y8 t q) 25)) u r;rw[World.size_alloc] at hC;have HB:=Y1 hB;have HC:=Y1 hC;obtain ⟨_,⟨c0,c1,c2,c3,c4⟩,_⟩:=hB;obtain ⟨_,⟨d0,d1,d2,d3,d4⟩,_⟩:=hC;have n1: (t.kind !=u.kind)=false:=by rw[g1]; simp
 have n2: (t.of_ !=u.of_)=false:=by rw[g2]; simp
 have n3: (t.name !=u.name)=false:=by rw[g3]; simp
 have n4: ((t.names.length:Int) !=(u.names.length:Int))=false:=by rw[g4]; simp
 have n5: ((t.parts.length:Int) !=(u.parts.length:Int))=false:=by rw[g5]; simp
 have e1: (t.kind==u.kind)=true:=by rw[g1]; simp
 have e2: (t.of_==u.of_)=true:=by rw[g2]; simp
 have e3: (t.name==u.name)=true:=by rw[g3]; simp
 have e4: ((t.names.length:Int)==(u.names.length:Int))=true:=by rw[g4]; simp
 have e5: ((t.parts.length:Int)==(u.parts.length:Int))=true:=by rw[g5]; simp
 clear hb0 hb1 hq hr hh g1 g2 g3 g4 g5;go_enter Tryd.func11,Tryd.ntmps11
 go_wp2_with fail
 generalize hW0: (w.alloc (.cells (Y8 t q) 25)).alloc (.cells (Y8 u r) 25)=W0 at HB HC HB1 ⊢;clear hW0 c0 c1 c2 c3 c4 d0 d1 d2 d3 d4 n1 n2 n3 n4 n5 e1 e2 e3 e4 e5
 go_loopw [5] (fun ii wr=> ∃i:Nat,ii= .int .i64 i/\i<=t.names.length/\Hid (∀j (h:j < t.names.length) (h':j < u.names.length),j < i->t.names[j]'h=u.names[j]'h')/\Below W0.heap.size W0 wr) (fun i _=>t.names.length - (intOf i).toNat)
 case atStart=>exact ⟨0,rfl,Nat.zero_le _,Y1 (fun j _ _ hj=>absurd hj (by omega)),Below.refl _ _⟩
 case round=>
  obtain ⟨i,rfl,hi,HN,hb⟩:=hrel;have hbw:Below w.heap.size w wr:=HB1.out.trans (hb.mono HB1.out.size);have hl:=HL.out;obtain ⟨_,⟨c0,_,_,c3,c4⟩,_⟩:=HB.out.next hb;obtain ⟨_,⟨d0,_,_,d3,d4⟩,_⟩:=HC.out.next hb;by_cases hlt:i < t.names.length
  {have hi1: (i:Int) < (t.names.length:Int):=by omega
   have hi2: (i:Int) < (u.names.length:Int):=by have:=HG4.out; omega
   have hi3:i < u.names.length:=by omega
   rcases (HSN.out.next hbw).cell7 with h0 | ⟨g,off,hqA,hg,hc⟩
   {omega}
   {rcases (HSM.out.next hbw).cell7 with h0 | ⟨g',off',hrA,hg',hc'⟩
    {omega}
    {have p:=hc i hlt;have p':=hc' i hi3;obtain ⟨x,hx⟩: ∃x,x=t.names[i]'hlt:=⟨_,rfl⟩;obtain ⟨y,hy⟩: ∃y,y=u.names[i]'hi3:=⟨_,rfl⟩;rw[<-hx] at p;rw[<-hy] at p';have HX:=Y1 hx;have HY:=Y1 hy;rw[hqA] at c3;rw[hrA] at d3;clear hx hy hc hc' hqA hrA;cases hxy: (x==y)
     {have HF:Hid (eqB t u=false):=Y1 (Zb3 hlt hi3 (by rw[<-HX.out, <-HY.out]; intro h; rw[h] at hxy; simp at hxy));have n1: (x !=y)=true:=by unfold bne; rw[hxy]; rfl
      go_wp2_with fail
      go_quiet (fail)
      go_wp2;go_ret;exact ⟨by rw[HF.out]; rfl,Z0Q hbw _⟩}
     {have n1: (x !=y)=false:=by unfold bne; rw[hxy]; rfl
      have HE:Hid (t.names[i]'hlt=u.names[i]'hi3):=Y1 (by rw[<-HX.out, <-HY.out]; simpa using hxy)
      go_wp2_with fail
      go_quiet (fail)
      go_wp2
      go_roundw
      case rel=>exact ⟨i+1,by go_num,by omega,Y1 (fun j hj hj' hji=>by
       rcases Nat.lt_succ_iff_lt_or_eq.1 hji with h | rfl
       {exact HN.out j hj hj' h}
       · exact HE.out),Z0Q hb _⟩
      case measure=>simp[intOf]; omega}}}}
  {have HNN:Hid (∀j (h:j < t.names.length) (h':j < u.names.length),t.names[j]'h=u.names[j]'h'):=Y1 (fun j h h'=>HN.out j h h' (by omega));have HBW:=Y1 hb;clear hbw hb HN
   go_wp2_with fail
   go_loopw [6] (fun ii wx=> ∃k:Nat,ii= .int .i64 k/\k<=t.parts.length/\Hid (∀j (h:j < t.parts.length) (h':j < u.parts.length),j < k->eqB (t.parts[j]'h) (u.parts[j]'h')=true)/\Hid (Below W0.heap.size W0 wx)) (fun i _=>t.parts.length - (intOf i).toNat)
   case atStart=>exact ⟨0,rfl,Nat.zero_le _,Y1 (fun j _ _ hj=>absurd hj (by omega)),HBW⟩
   case round=>
    obtain ⟨k,rfl,hk,HN,HBX⟩:=hrel;have hb:=HBX.out;have hbw:Below w.heap.size w wr:=HB1.out.trans (hb.mono HB1.out.size);have hm:=HM.out;clear c0 c3 c4 d0 d3 d4;obtain ⟨_,⟨c0,_,_,c3,c4⟩,_⟩:=HB.out.next hb;obtain ⟨_,⟨d0,_,_,d3,d4⟩,_⟩:=HC.out.next hb;by_cases hlt2:k < t.parts.length
    {have hi1: (k:Int) < (t.parts.length:Int):=by omega
     have hi2: (k:Int) < (u.parts.length:Int):=by have:=HG5.out; omega
     have hi3:k < u.parts.length:=by omega
     rcases HP.out with h0 | ⟨g,off,qs,hqP,hg,hc,hra⟩
     {omega}
     {rcases HR.out with h0 | ⟨g',off',qs',hrP,hg',hc',hra'⟩
      {omega}
      {obtain ⟨x,hx⟩: ∃x,x=t.parts[k]:=⟨_,rfl⟩;obtain ⟨y,hy⟩: ∃y,y=u.parts[k]:=⟨_,rfl⟩;obtain ⟨p0,p1,p2,p3,p4⟩:=(hc k hlt2).keep hg hbw;obtain ⟨s0,s1,s2,s3,s4⟩:=(hc' k hi3).keep hg' hbw;have hat:ShAt wr wr.heap.size (qs k) x:=by rw[hx]; exact (hra k hlt2).next hbw
       have hat':ShAt wr wr.heap.size (qs' k) y:=by rw[hy]; exact (hra' k hi3).next hbw
       have ihx:=ih t.parts[k] (List.getElem_mem _) y (qs k) (qs' k) wr.drew;rw[<-hx] at p0 p1 p2 p3 p4 ihx;rw[<-hy] at s0 s1 s2 s3 s4;have IH:=ihx (hat.next Y2.drew) (hat'.next Y2.drew);rw[hqP] at c4;rw[hrP] at d4;have HX:=Y1 hx;have HY:=Y1 hy;clear hx hy hc hc' hra hra' hat hat' ihx ih hqP hrP
       go_wp2_with fail
       cases hxy:eqB x y
       {have HF:Hid (eqB t u=false):=Y1 (Zb4 hlt2 hi3 (by rw[<-HX.out, <-HY.out]; exact hxy));rw[hxy] at IH;clear hxy
        go_still_tail 10,(by kernel_rfl)
        change wpList _ _ _ _ _ wr.drew
        go_wp2_with fail
        refine IH.mono ?_;rintro e w2 ⟨rfl,hb2⟩;go_wp2;go_ret;exact ⟨by rw[HF.out]; rfl,Z03 hbw.drew hb2⟩}
       {have HE:Hid (eqB (t.parts[k]'hlt2) (u.parts[k]'hi3)=true):=Y1 (by rw[<-HX.out, <-HY.out]; exact hxy);rw[hxy] at IH;clear hxy
        go_still_tail 10,(by kernel_rfl)
        change wpList _ _ _ _ _ wr.drew
        go_wp2_with fail
        refine IH.mono ?_;rintro e w2 ⟨rfl,hb2⟩;go_wp2
        go_roundw
        case rel=>exact ⟨k+1,by go_num,by omega,Y1 (fun j hj hj' hji=>by
         rcases Nat.lt_succ_iff_lt_or_eq.1 hji with h | rfl
         {exact HN.out j hj hj' h}
         · exact HE.out),Y1 (Z03 hb.drew hb2)⟩
        case measure=>simp[intOf]; omega}}}}
    {have HF:Hid (eqB t u=true):=Y1 (Zci HH.out HNN.out (fun j hj hj'=>HN.out j hj hj' (by omega)));go_wp2;go_ret;exact ⟨by rw[HF.out]; rfl,hbw⟩}}
theorem Z5R (t:Sh) (q:Ptr) (w:World) (hq:ShAt w w.heap.size q t) (hck:check t=0):
 Calls Tryd.prog 25 #[.agg (Y8 t q)] w fun e w'=> ∃q' F,e= .returned (.agg (Y8 (sorted t) q'))/\Own w' q' (sorted t) F/\(∀b∈F,w.heap.size<=b)/\Below w.heap.size w w':=by
 obtain ⟨hz,_,hr⟩:=Z0f hck;have HS:=Y1 (Z18 w t q);have HB:=Y1 (Z6D w t q);have HE:=Y1 (Z41 w t q);have hc:=Z2z t q (sW w t q) (hq.next (Z18 w t q));rw[hck] at hc;have HC:=Y1 hc;have HQ:=Y1 hq;have HR:=Y1 hr;have HB0:=Y1 (Z07 w t q);obtain ⟨b1,⟨c0,c1,c2,c3,c4⟩,b2⟩:=HB0.out;clear hq hr hck hc b1 b2;go_enter Tryd.func25,Tryd.ntmps25
 go_wp2_with fail
 clear c0 c1 c2 c3 c4 HB0;change Calls _ _ _ (sW w t q) _;generalize sW w t q=W at HS HB HE HC ⊢;refine HC.out.mono ?_;rintro e w1 ⟨rfl,hb1⟩;have HS1:=Y1 (Z03 HS.out hb1);have HB1:=Y1 (HB.out.next hb1);have HE1:=Y1 (HE.out.next hb1);have HW:=Y1 (Z7a t q w1 (HQ.out.next HS1.out) HR.out hz);obtain ⟨b1,⟨c0,c1,c2,c3,c4⟩,b2⟩:=HB1.out;clear hb1 HC b1 b2
 go_wp2_with fail
 refine HW.out.mono ?_;rintro e w2 ⟨q',F,rfl,ho,hF,hb2⟩;have HS2:=Y1 (Z03 HS1.out hb2);have HE2:=Y1 (HE1.out.next hb2);have HO:=Y1 ho;have HNF:Hid (∀b∈F,w.heap.size+1≠b):=Y1 (fun b hb e=>by have:=hF b hb; have:=HE1.out.1; omega);have HGE:Hid (∀b∈F,w.heap.size<=b):=Y1 (fun b hb=>by have:=hF b hb; have:=HS1.out.size; omega);obtain ⟨z,hz'⟩: ∃z,z=sorted t:=⟨_,rfl⟩;rw[<-hz'] at HO ⊢;have HZ:=Y1 hz';obtain ⟨b1,⟨r0,r1,r2,r3,r4⟩,f0,f1,f2,f3,f4⟩:=HE2.out;simp only[Nat.zero_add] at r0 r1 r2 r3 r4;clear ho hF hb2 HW c0 c1 c2 c3 c4 b1 hz';go_wp2;refine bodyPost_ret (v:= .agg (Y8 z q')) (by simp[results,Tryd.results25,go_sem,r0,r1,r2,r3,r4]) rfl ?_;have h5:=Z19 (b:=w.heap.size+1) HO.out HNF.out (.int .i64 z.kind) (.string ⟨z.of_.toArray⟩) (.string ⟨z.name.toArray⟩) (.slice q'.A z.names.length q'.c) (.slice q'.P z.parts.length q'.d);have h6:=Z0j (b:=w.heap.size+1) HS2.out (by omega) (.int .i64 z.kind) (.string ⟨z.of_.toArray⟩) (.string ⟨z.name.toArray⟩) (.slice q'.A z.names.length q'.c) (.slice q'.P z.parts.length q'.d);refine ⟨q',F,by rw[<-HZ.out], ?_,HGE.out,h6⟩;rw[<-HZ.out];exact h5
end
section
open Go.RowKit Shp
open Expd (Bd fill keys find put Z0L)
section
variable (t : Sh) (q : Ptr) (L : List Bd) (A : Option Addr) (cap : Nat) (w : World) (hq : ShAt w w.heap.size q t)
include t q L A cap w hq
theorem Zb5 (hz:size t<=400) (hL:BdsAt w w.heap.size A L) (hl:L.length<=1000):
 Calls Tryd.prog 24 #[shV t q,.slice A L.length cap] w fun e w'=> ∃(u:Sh) (q':Ptr) (ok:Bool),e= .returned (.tuple #[shV u q',.bool ok])/\ok=(put (find L) t).isSome/\(ok=true->put (find L) t=some u)/\(ok=true->ShAt w' w'.heap.size q' u)/\Below w.heap.size w w':=by
 refine (SubM.put_walk (deep t) t q L A cap w.heap.size w (Nat.le_refl _) hz hq hL hl (Nat.le_refl _)).mono ?_;rintro e w' ⟨u,q',he,hb,hj⟩;refine ⟨u,q',_,he,rfl,fun h=> ?_,fun h=> ?_,hb⟩
 {obtain ⟨j,e1⟩:=Option.isSome_iff_exists.1 h;rw[e1,(hj j e1).1]}
 {obtain ⟨j,e1⟩:=Option.isSome_iff_exists.1 h;obtain ⟨e2,hk⟩:=hj j e1;subst e2;exact hk.here}
theorem Z65 (hL:BdsAt w w.heap.size A L) (hl:L.length<=1000):
 Calls Tryd.prog 10 #[shV t q,.slice A L.length cap] w (ResIs w L t):=by
 have hb0:Below w.heap.size w (fdW w t q):=Z0h (Z01 _ _) _;have c0:Sh5 (fdW w t q) w.heap.size 0 t q:=⟨by simp[fdW,go_sem],by simp[fdW,go_sem],by simp[fdW,go_sem],by simp[fdW,go_sem],by simp[fdW,go_sem]⟩;have hz0:w.heap.size+1 < (fdW w t q).heap.size:=by simp[fdW]
 have HB0:=Y1 hb0;have HZ0:=Y1 hz0;have HQ:=Y1 (hq.next hb0);have HC0:=Y1 c0;have HR0:=Y1 (Z5t w t q);have HLL:=Y1 (hL.next hb0);have HLN:=Y1 hl;obtain ⟨e0,e1,e2,e3,e4⟩:=c0;clear hb0 hq hL hl hz0;unfold shV;go_enter Tryd.func10,Tryd.ntmps10
 go_wp2_with fail
 change Calls _ _ _ (fdW w t q) _;generalize fdW w t q=W0 at HB0 HZ0 HQ HC0 HR0 HLL e0 e1 e2 e3 e4 ⊢;refine (Z2z t q W0 HQ.out).mono ?_;rintro e W1 ⟨rfl,hb1⟩;have hz1:=hb1.size;have HB1:=Y1 (HB0.out.trans (hb1.mono (by have:=HB0.out.size; omega)));have hR1:=HR0.out.keep hb1 HZ0.out;have HC1:=Y1 (HC0.out.keep (show w.heap.size < W0.heap.size by have:=HZ0.out; omega) hb1);have HQ1:=Y1 (HQ.out.next hb1);have HL1:=Y1 (HLL.out.next hb1);have HR1:=Y1 hR1;have HZ1:=Y1 (show w.heap.size+1 < W1.heap.size by have:=HZ0.out; omega);clear hb1 hR1 hz1 e0 e1 e2 e3 e4 HB0 HZ0 HQ HC0 HR0 HLL;by_cases hc:check t=0
 {rw[hc];obtain ⟨hz,_,hr⟩:=Z0f hc;have HCK:=Y1 hc;obtain ⟨x0,x1,x2,x3,x4⟩:=HC1.out;simp only[Nat.zero_add] at x0 x1 x2 x3 x4;have HF:=Y1 (Zb5 t q L A cap W1 HQ1.out hz HL1.out HLN.out);clear hc hz hr;unfold shV at HF
  go_wp2_with fail
  refine HF.out.mono ?_;rintro e W2 ⟨u,q',ok,rfl,hok,hu,hat,hb2⟩;have hb3:=Z03 hb2 (Z01 W2 (.cells (Y8 u q') 25));have hB3:=Z07 W2 u q';have hlt:=Nat.lt_of_lt_of_le HZ1.out hb2.size;have hat3:=fun h=>(hat h).next (Z01 W2 (.cells (Y8 u q') 25));have hR2:=HR1.out.keep hb2 HZ1.out;have hR3:=HR1.out.keep hb3 HZ1.out;have hne:w.heap.size+1≠W2.heap.size:=by omega
  have HOK:=Y1 hok;have HU:=Y1 hu;clear hok hu hat hb2 HF x0 x1 x2 x3 x4;simp only;cases ok with
  | false=>
   obtain ⟨W3,hW3⟩: ∃W3,W2.alloc (.cells (Y8 u q') 25)=W3:=⟨_,rfl⟩;rw[hW3] at hR3 hb3;obtain ⟨⟨r0,r1,r2,r3,r4⟩,rf⟩:=hR3;have y0:=rf 0;have y1:=rf 1;have y2:=rf 2;have y3:=rf 3;have y4:=rf 4;have HB3:=Y1 hb3;clear rf hat3 hB3 hb3 hR2;go_wp2;have hn:put (find L) t=none:=by
    have:=HOK.out;cases e:put (find L) t with
    | none=>rfl
    | some y=>rw[e] at this; cases this
   have hr:=Expd.resolve_name HCK.out hn;refine bodyPost_ret (v:= .tuple #[.agg #[.int .i64 0,.string ⟨#[]⟩,.string ⟨#[]⟩,.slice none 0 0,.slice none 0 0],.int .i64 110]) (by simp[results,Tryd.results10,go_sem,r0,r1,r2,r3,r4]) rfl ?_;refine ⟨⟨none,0,none,0⟩, ?_, ?_, ?_⟩
   {rw[hr]; rfl}
   {rw[hr]; exact Z1I _ _}
   {exact Z0j (HB1.out.trans (HB3.out.mono (by have:=HB1.out.size; omega))) (Nat.le_succ _) _ _ _ _ _}
  | true=>
   have hput:=HU.out rfl;have HP:=Y1 hput;have HB3:=Y1 hb3;have HR3:=Y1 hR3;have HA3:=Y1 (hat3 rfl);have HBX:=Y1 hB3;obtain ⟨_,⟨b0,b1,b2,b3,b4⟩,_⟩:=hB3;clear hput hb3 hR3 hR2 hat3 HOK HU;have HL3:=Y1 (show w.heap.size+1 < (W2.alloc (.cells (Y8 u q') 25)).heap.size from by simp; omega);have HW2:=Y1 hlt;clear hlt hne
   go_wp2_with fail
   generalize W2.alloc (.cells (Y8 u q') 25)=W3 at HB3 HR3 HA3 HBX HL3 b0 b1 b2 b3 b4 ⊢;refine (Z2z u q' W3 HA3.out).mono ?_;rintro e W4 ⟨rfl,hb4⟩;have hR4:=HR3.out.keep hb4 HL3.out;have HB4:=Y1 ((HB1.out.trans (HB3.out.mono (by have:=HB1.out.size; omega))).trans (hb4.mono (by have:=HB1.out.size; have:=HB3.out.size; omega)));have HA4:=Y1 (HA3.out.next hb4);have HL4:=Y1 (Nat.lt_of_lt_of_le HL3.out hb4.size);have HR4:=Y1 hR4;clear b0 b1 b2 b3 b4;obtain ⟨_,⟨b0,b1,b2,b3,b4⟩,_⟩:=HBX.out.next hb4;clear hR4 hb4 HB3 HR3 HA3 HBX HL3;by_cases hcu:check u=0
   {rw[hcu];have HCU:=Y1 hcu;have HS:=Y1 (Z5R u q' W4 HA4.out hcu);clear hcu
    go_wp2_with fail
    refine HS.out.mono ?_;rintro e W5 ⟨q5,F5,rfl,ho5,hF5,hb5⟩;obtain ⟨⟨r0,r1,r2,r3,r4⟩,rf⟩:=HR4.out.keep hb5 HL4.out;have y0:=rf 0;have y1:=rf 1;have y2:=rf 2;have y3:=rf 3;have y4:=rf 4;have HO5:=Y1 ho5;have HF5:=Y1 hF5;have HB5:=Y1 (HB4.out.trans (hb5.mono (by have:=HB4.out.size; omega)));obtain ⟨z,hz'⟩: ∃z,z=sorted u:=⟨_,rfl⟩;rw[<-hz'] at HO5 ⊢;have HZ:=Y1 hz';clear rf ho5 hF5 hb5 hz' b0 b1 b2 b3 b4;go_wp2;refine bodyPost_ret (v:= .tuple #[.agg (Y8 z q5),.int .i64 0]) (by simp[results,Tryd.results10,go_sem,r0,r1,r2,r3,r4]) rfl ?_;have hr:=Expd.resolve_ok HCK.out HP.out HCU.out;rw[<-HZ.out] at hr;have h5:=Z19 (b:=w.heap.size+1) HO5.out (fun x hx e=>by have:=HF5.out x hx; have:=HL4.out; omega) (.int .i64 z.kind) (.string ⟨z.of_.toArray⟩) (.string ⟨z.name.toArray⟩) (.slice q5.A z.names.length q5.c) (.slice q5.P z.parts.length q5.d);refine ⟨q5, ?_, ?_, ?_⟩
    {rw[hr]}
    {rw[hr]; exact h5.at_ h5.lt}
    {exact Z0j HB5.out (Nat.le_succ _) _ _ _ _ _}}
   {have hcu': (check u !=0)=true:=by simpa using hcu
    have HCU:=Y1 hcu;obtain ⟨⟨r0,r1,r2,r3,r4⟩,rf⟩:=HR4.out;have y0:=rf 0;have y1:=rf 1;have y2:=rf 2;have y3:=rf 3;have y4:=rf 4;clear rf hcu;go_wp2;refine bodyPost_ret (v:= .tuple #[.agg #[.int .i64 0,.string ⟨#[]⟩,.string ⟨#[]⟩,.slice none 0 0,.slice none 0 0],.int .i64 (check u)]) (by simp[results,Tryd.results10,go_sem,r0,r1,r2,r3,r4]) rfl ?_;have hr:=Expd.resolve_great HCK.out HP.out HCU.out;refine ⟨⟨none,0,none,0⟩, ?_, ?_, ?_⟩
    {rw[hr]; rfl}
    {rw[hr]; exact Z1I _ _}
    {exact Z0j HB4.out (Nat.le_succ _) _ _ _ _ _}}}
 {have hc': (check t !=0)=true:=by simpa using hc
  have HCK:=Y1 hc;obtain ⟨⟨r0,r1,r2,r3,r4⟩,rf⟩:=HR1.out;have y0:=rf 0;have y1:=rf 1;have y2:=rf 2;have y3:=rf 3;have y4:=rf 4;clear rf hc;go_wp2;refine bodyPost_ret (v:= .tuple #[.agg #[.int .i64 0,.string ⟨#[]⟩,.string ⟨#[]⟩,.slice none 0 0,.slice none 0 0],.int .i64 (check t)]) (by simp[results,Tryd.results10,go_sem,r0,r1,r2,r3,r4]) rfl ?_;refine ⟨⟨none,0,none,0⟩, ?_, ?_, ?_⟩
  {rw[Expd.resolve_bad HCK.out]; rfl}
  {rw[Expd.resolve_bad HCK.out]; exact Z1I _ _}
  {exact Z0j HB1.out (Nat.le_succ _) _ _ _ _ _}}
end
end
end Go.Proofs.YtmeiijjpomcgcaaDoor
