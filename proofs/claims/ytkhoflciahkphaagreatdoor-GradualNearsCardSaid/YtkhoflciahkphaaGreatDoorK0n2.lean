/- What the proofs of GradualNears want, part 2. -/
import Derived.Test.YtkhoflciahkphaaGreatDoorK0n1
set_option linter.unusedVariables false
set_option linter.unusedSimpArgs false
set_option linter.unusedSectionVars false
set_option maxRecDepth 100000
set_option maxHeartbeats 16000000
namespace Go.Proofs.YtkhoflciahkphaaGreatDoor
section
open Go.RowKit Shp
section
variable (t : Sh) (q : Ptr) (w : World) (hq : ShAt w w.heap.size q t)
include t q w hq
theorem ZaX (hk: ¬(t.kind=9\/t.kind=10)):
 Calls Tryz.prog 72 #[.agg (Y8 t q)] w
  fun e w'=>e= .returned (.bool (fits t))/\Below w.heap.size w w':=by
 have HS:=Y1 hq.small;have HA:=Y1 hq.strs;have hB:=Z02 w t q;have HB:=Y1 hB;have hb0:=Z01 w (.cells (Y8 t q) 25);have HB0:=Y1 hb0;have h9: (t.kind==9)=false:=by rw[beq_eq_false_iff_ne]; omega
 have h10: (t.kind==10)=false:=by rw[beq_eq_false_iff_ne]; omega
 have HK:=Y1 hk;clear hB hb0 hq hk;obtain ⟨_,⟨c0,c1,c2,c3,c4⟩,_⟩:=HB.out;cases ho: (t.of_== [])
 {have HF:=Y1 (Z1e HK.out (Zbw ho));have hoe:=Z1H ho;clear ho;go_enter Tryz.func72,Tryz.ntmps72;go_wp2;go_ret;exact ⟨by rw[HF.out]; rfl,HB0.out⟩}
 {have hoe:=Z1H ho;cases hn: (t.name== [])
  {have HF:=Y1 (Z1e HK.out (Zbg hn));have hne:=Z1H hn;clear ho hn;go_enter Tryz.func72,Tryz.ntmps72;go_wp2;go_ret;exact ⟨by rw[HF.out]; rfl,HB0.out⟩}
  {have hne:=Z1H hn;have HBA:Hid (bare t=true):=Y1 ((Z1u t).2 ⟨by simpa using ho,by simpa using hn⟩);clear ho hn;by_cases h67:t.kind=6\/t.kind=7
   {have HF:=Y1 (Z2W HBA.out h67);have h6: (t.kind==6)=true\/(t.kind==6)=false/\(t.kind==7)=true:=by rcases h67 with h | h <;> simp[h]
    have hA:=(HA.out.next HB0.out);have hr:=fun W h=>ZaU q.A q.c t.names t.parts.length W h HS.out.l HS.out.ns;have hw:=hr _ hA;clear h67 hA hr;rcases h6 with h6 | ⟨h6,h7⟩
    all_goals
     go_enter Tryz.func72,Tryz.ntmps72
     go_wp2_with fail
     refine hw.mono ?_;rintro e w' ⟨rfl,hb'⟩;go_wp2;go_ret;exact ⟨by rw[HF.out]; rfl,Z00 HB0.out hb'⟩}
   {have H67:=Y1 h67;have h6: (t.kind==6)=false:=by rw[beq_eq_false_iff_ne]; omega
    have h7: (t.kind==7)=false:=by rw[beq_eq_false_iff_ne]; omega
    clear h67;by_cases hz:0 < t.names.length
    {have HF:=Y1 (Z1X HK.out HBA.out H67.out hz);have hz2: (0:Int) < (t.names.length:Int):=by omega
     go_enter Tryz.func72,Tryz.ntmps72;go_wp2;go_ret;exact ⟨by rw[HF.out]; rfl,HB0.out⟩}
    {have HZ:=Y1 hz;have hz2: ¬(0:Int) < (t.names.length:Int):=by omega
     have hz3: ¬0 < t.names.length:=hz;by_cases hk8:t.kind=8
     {have HF:=Y1 (Z5s HBA.out hk8 HZ.out);have h8: (t.kind==8)=true:=by simp[hk8]
      clear hk8;go_enter Tryz.func72,Tryz.ntmps72;go_wp2;go_ret;exact ⟨Z0w (by rw[HF.out,Bool.eq_iff_iff]; simp; try omega),HB0.out⟩}
     {have h8: (t.kind==8)=false:=by rw[beq_eq_false_iff_ne]; omega
      by_cases hk5:t.kind=5
      {have HF:=Y1 (Z4R HBA.out hk5 HZ.out);have h5: (t.kind==5)=true:=by simp[hk5]
       clear hk8 hk5;go_enter Tryz.func72,Tryz.ntmps72;go_wp2;go_ret;exact ⟨Z0w (by rw[HF.out,Bool.eq_iff_iff]; simp; try omega),HB0.out⟩}
      {have h5: (t.kind==5)=false:=by rw[beq_eq_false_iff_ne]; omega
       have HF:=Y1 (Z3t HBA.out HK.out H67.out HZ.out hk8 hk5);clear hk8 hk5;cases e1:decide (1<=t.kind)
       {have HF2:Hid (fits t=false):=Y1 (by rw[HF.out,e1]; rfl);go_enter Tryz.func72,Tryz.ntmps72;go_wp2;go_ret;exact ⟨by rw[HF2.out]; rfl,HB0.out⟩}
       {cases e2:decide (t.kind<=4)
        {have HF2:Hid (fits t=false):=Y1 (by rw[HF.out,e1,e2]; rfl);go_enter Tryz.func72,Tryz.ntmps72;go_wp2;go_ret;exact ⟨by rw[HF2.out]; rfl,HB0.out⟩}
        {have HF2:Hid (fits t=decide (t.parts.length=0)):=Y1 (by rw[HF.out,e1,e2]; rfl);go_enter Tryz.func72,Tryz.ntmps72;go_wp2;go_ret;exact ⟨Z0w (by rw[HF2.out,Bool.eq_iff_iff]; simp),HB0.out⟩}}}}}}}}
theorem Zb9:
 Calls Tryz.prog 72 #[.agg (Y8 t q)] w
  fun e w'=>e= .returned (.bool (fits t))/\Below w.heap.size w w':=by
 by_cases hk:t.kind=9\/t.kind=10
 {exact ZaV t q w hq hk}
 {exact ZaX t q w hq hk}
end
theorem ZaY (t:Sh): ∀(q:Ptr) (w:World),ShAt w w.heap.size q t->
 Calls Tryz.prog 50 #[.agg (Y8 t q)] w
  fun e w'=>e= .returned (.bool (right t))/\Below w.heap.size w w':=by
 induction t using Sh.ind with
 | h t ih=>
 intro q w hq;have HM:=Y1 hq.small.m;have HP:=Y1 hq.part;have HD:Hid (right t=(fits t&&rights t.parts)):=Y1 (Z2U t);have hB:=Z02 w t q;have HB:=Y1 hB;have hb0:=Z01 w (.cells (Y8 t q) 25);have HB0:=Y1 hb0;have hf:=Zb9 t q _ (hq.next hb0);have HQ:=Y1 hq;clear hb0 hq;obtain ⟨_,⟨c0,c1,c2,c3,c4⟩,_⟩:=hB;have ih:=ih;cases hft:fits t with
 | false=>
  have HF:Hid (right t=false):=Y1 (by rw[HD.out,hft]; rfl);rw[hft] at hf;clear hft ih;go_enter Tryz.func50,Tryz.ntmps50
  go_wp2_with fail
  refine hf.mono ?_;rintro e w' ⟨rfl,hb'⟩;go_wp2;go_ret;exact ⟨by rw[HF.out]; rfl,Z00 HB0.out hb'⟩
 | true=>
  have HFT:=Y1 hft;rw[hft] at hf;clear hft;go_enter Tryz.func50,Tryz.ntmps50
  go_wp2_with fail
  refine hf.mono ?_;rintro e W0 ⟨rfl,hb'⟩;have HB1:=Y1 (HB.out.next hb');have HBW:Hid (Below w.heap.size w W0):=Y1 (Z00 HB0.out hb');clear hf hb' c0 c1 c2 c3 c4 HB HB0
  go_wp2_with fail
  go_loopw [3] (fun ii wr=> ∃i:Nat,ii= .int .i64 i/\i<=t.parts.length/\Hid (∀j (h:j < t.parts.length),j < i->right (t.parts[j]'h)=true)/\Below W0.heap.size W0 wr) (fun i _=>t.parts.length - (intOf i).toNat)
  case atStart=>exact ⟨0,rfl,Nat.zero_le _,Y1 (fun j _ hj=>absurd hj (by omega)),Below.refl _ _⟩
  case round=>
   obtain ⟨i,rfl,hi,HN,hb⟩:=hrel;have hm:=HM.out;obtain ⟨_,⟨c0,_,_,_,c4⟩,_⟩:=HB1.out.next hb;by_cases hlt:i < t.parts.length
   {rcases HP.out with h0 | ⟨g,off,qs,hqP,hg,hc,hr⟩
    {omega}
    {have hbw:Below w.heap.size w wr:=HBW.out.trans (hb.mono HBW.out.size);obtain ⟨x,hx⟩: ∃x,x=t.parts[i]:=⟨_,rfl⟩;obtain ⟨p0,p1,p2,p3,p4⟩:=(hc i hlt).keep hg hbw;have hat:ShAt wr wr.heap.size (qs i) x:=by rw[hx]; exact (hr i hlt).next hbw
     have ihx:=ih t.parts[i] (List.getElem_mem _) (qs i) wr;rw[<-hx] at p0 p1 p2 p3 p4 ihx;have IH:=ihx hat;rw[hqP] at c4;have HX:=Y1 hx;clear hx hc hr hat ihx ih hqP;have hi1: (i:Int) < (t.parts.length:Int):=by omega
     cases hox:right x with
     | false=>
      rw[hox] at IH;have HF:Hid (right t=false):=Y1 (Zbh (p:=x) (by rw[HX.out]; exact List.getElem_mem _) hox);clear hox
      go_wp2_with (refine IH.mono ?_; rintro e w' ⟨rfl,hb'⟩)
      go_ret;exact ⟨by rw[HF.out]; rfl,hbw.trans (hb'.mono hbw.size)⟩
     | true=>
      rw[hox] at IH;have HO:=Y1 hox;clear hox
      go_wp2_with (refine IH.mono ?_; rintro e w' ⟨rfl,hb'⟩)
      go_roundw
      case rel=>exact ⟨i+1,by go_num,by omega,Y1 (fun j hj hji=>by
       rcases Nat.lt_succ_iff_lt_or_eq.1 hji with h | rfl
       {exact HN.out j hj h}
       · rw[<-HX.out]; exact HO.out),hb.trans (hb'.mono hb.size)⟩
      case measure=>simp[intOf]; omega}}
   {have HF:Hid (right t=true):=Y1 (Z1L HFT.out (fun p hp=>by
     obtain ⟨j,hj,rfl⟩:=List.getElem_of_mem hp;exact HN.out j hj (by omega)))
    go_wp2;go_ret;exact ⟨by rw[HF.out]; rfl,HBW.out.trans (hb.mono HBW.out.size)⟩}
theorem Zba {t:Sh} (h:400 < size t):sizeTo 400 t=401:=by unfold sizeTo; omega
theorem Zbl {t:Sh} (h: ¬400 < size t):sizeTo 400 t=size t:=by unfold sizeTo; omega
theorem ZaB (t:Sh) (q:Ptr) (w:World) (hq:ShAt w w.heap.size q t):
 Calls Tryz.prog 26 #[.agg (Y8 t q)] w
  fun e w'=>e= .returned (.int .i64 (check t))/\Below w.heap.size w w':=by
 have hB:=Z02 w t q;have HB:=Y1 hB;have hb0:=Z01 w (.cells (Y8 t q) 25);have HB0:=Y1 hb0;have hs:=Zb8 t q 400 _ (hq.next hb0) (by omega);rw[show (((400:Nat):Int))=(400:Int) from rfl] at hs;have HQ:=Y1 hq;have HC:Hid (check t=if 400 < size t then 3 else if 40 < deep t then 91 else if right t=false then 70 else 0):=Y1 rfl;clear hb0 hq;obtain ⟨_,⟨c0,c1,c2,c3,c4⟩,_⟩:=hB;by_cases h4:400 < size t
 {rw[Zba h4] at hs;have HF:Hid (check t=3):=Y1 (by rw[HC.out,if_pos h4]);clear h4;go_enter Tryz.func26,Tryz.ntmps26
  go_wp2_with fail
  refine hs.mono ?_;rintro e w' ⟨rfl,hb'⟩;go_wp2;go_ret;exact ⟨Z1x HF.out.symm,Z00 HB0.out hb'⟩}
 {rw[Zbl h4] at hs;have h4': ¬(400:Int) < (size t:Int):=by omega
  have hdd:=Z1W t;go_enter Tryz.func26,Tryz.ntmps26
  go_wp2_with fail
  refine hs.mono ?_;rintro e w1 ⟨rfl,hb1⟩;have hbw:=Z00 HB0.out hb1;have HBW:=Y1 hbw;have HB1:=Y1 (HB.out.next hb1);have hd:=Zb7 t q w1 (HQ.out.next hbw) (by omega);clear hs hb1 hbw c0 c1 c2 c3 c4;obtain ⟨_,⟨c0,c1,c2,c3,c4⟩,_⟩:=HB1.out;by_cases h40:40 < deep t
  {have HF:Hid (check t=91):=Y1 (by rw[HC.out,if_neg h4,if_pos h40]);have h40': (40:Int) < (deep t:Int):=by omega
   clear h4 h40 hdd
   go_wp2_with fail
   refine hd.mono ?_;rintro e w' ⟨rfl,hb'⟩;go_wp2;go_ret;exact ⟨Z1x HF.out.symm,Z00 HBW.out hb'⟩}
  {have h40': ¬(40:Int) < (deep t:Int):=by omega
   have HF:Hid (check t=if right t=false then 70 else 0):=Y1 (by rw[HC.out,if_neg h4,if_neg h40]);clear h4 h40 hdd
   go_wp2_with fail
   refine hd.mono ?_;rintro e w2 ⟨rfl,hb2⟩;have hbw:=Z00 HBW.out hb2;have HBW2:=Y1 hbw;have HB2:=Y1 (HB1.out.next hb2);have hr:=ZaY t q w2 (HQ.out.next hbw);clear hd hb2 hbw c0 c1 c2 c3 c4;obtain ⟨_,⟨c0,c1,c2,c3,c4⟩,_⟩:=HB2.out;cases hrt:right t
   all_goals
    rw[hrt] at hr HF;clear hrt
    go_wp2_with fail
    refine hr.mono ?_;rintro e w' ⟨rfl,hb'⟩;go_wp2;go_ret;exact ⟨Z1x (by rw[HF.out]; rfl),Z00 HBW2.out hb'⟩}}
theorem Z7n {l m:List Sh} (hl:l.length=m.length) (h: ∀j (hj:j < l.length),eqB (l[j]'hj) (m[j]'(by omega))=true):eqs l m=true:=
 (Z4J l m).2 (List.ext_getElem hl (fun j h1 h2=>(Z2M _ _).1 (h j h1)))
def headB (t u:Sh):Bool:=t.kind==u.kind&&t.of_==u.of_&&t.name==u.name&&decide (t.names.length=u.names.length)&&decide (t.parts.length=u.parts.length)
theorem Z9W {t u:Sh} (h:headB t u=false):eqB t u=false:=by
 apply Z4K;rintro rfl;simp[headB] at h
theorem Z9p {t u:Sh} {i:Nat} (hi:i < t.names.length) (hm:i < u.names.length) (h:t.names[i]'hi≠u.names[i]'hm):eqB t u=false:=by
 apply Z4K;rintro rfl;exact h rfl
theorem Z9q {t u:Sh} {i:Nat} (hi:i < t.parts.length) (hm:i < u.parts.length) (h:eqB (t.parts[i]'hi) (u.parts[i]'hm)=false):eqB t u=false:=by
 apply Z4K;rintro rfl;rw[Z44] at h; cases h
theorem Zae {t u:Sh} (h:headB t u=true) (hn: ∀j (hj:j < t.names.length) (hj':j < u.names.length),t.names[j]'hj=u.names[j]'hj') (hp: ∀j (hj:j < t.parts.length) (hj':j < u.parts.length),eqB (t.parts[j]'hj) (u.parts[j]'hj')=true):eqB t u=true:=by
 simp only[headB,Bool.and_eq_true,beq_iff_eq,decide_eq_true_eq] at h;obtain ⟨⟨⟨⟨h1,h2⟩,h3⟩,h4⟩,h5⟩:=h;rw[Z5q,h1,h2,h3];simp only[beq_self_eq_true,Bool.true_and,Bool.and_eq_true];exact ⟨beq_iff_eq.2 (List.ext_getElem h4 (fun j a b=>hn j a b)),Z7n h5 (fun j hj=>hp j hj (by omega))⟩
theorem Z74 (t u:Sh) (q r:Ptr) (w:World) (hq:ShAt w w.heap.size q t) (hr:ShAt w w.heap.size r u) (hh:headB t u=false):
 Y9 18 #[.agg (Y8 t q),.agg (Y8 u r)] w (.bool (eqB t u)):=by
 have HF:=Y1 (Z9W hh);have hb0:=Z01 w (.cells (Y8 t q) 25);have hb1:=Z0i hb0 (.cells (Y8 u r) 25);have HB1:=Y1 hb1;have hB:=(Z02 w t q).next (Z01 _ (.cells (Y8 u r) 25));have hC:=Z02 (w.alloc (.cells (Y8 t q) 25)) u r;obtain ⟨_,⟨c0,c1,c2,c3,c4⟩,_⟩:=hB;obtain ⟨_,⟨d0,d1,d2,d3,d4⟩,_⟩:=hC;clear hb0 hb1;rw[World.size_alloc] at d0 d1 d2 d3 d4;have HH:=Y1 hh;clear hh;have h4: ((t.names.length:Int)==(u.names.length:Int))=decide (t.names.length=u.names.length):=by rw[Bool.eq_iff_iff,beq_iff_eq,decide_eq_true_eq]; omega
 have h5: ((t.parts.length:Int)==(u.parts.length:Int))=decide (t.parts.length=u.parts.length):=by rw[Bool.eq_iff_iff,beq_iff_eq,decide_eq_true_eq]; omega
 unfold headB at HH;rw[<-h4, <-h5] at HH;clear h4 h5;cases e1: (t.kind==u.kind)
 {have n1: (t.kind !=u.kind)=true:=by unfold bne; rw[e1]; rfl
  go_enter Tryz.func18,Tryz.ntmps18;go_wp2;go_ret;exact ⟨by rw[HF.out]; rfl,HB1.out⟩}
 {have n1: (t.kind !=u.kind)=false:=by unfold bne; rw[e1]; rfl
  rw[e1,Bool.true_and] at HH;cases e2: (t.of_==u.of_)
  {have n2: (t.of_ !=u.of_)=true:=by unfold bne; rw[e2]; rfl
   go_enter Tryz.func18,Tryz.ntmps18;go_wp2;go_ret;exact ⟨by rw[HF.out]; rfl,HB1.out⟩}
  {have n2: (t.of_ !=u.of_)=false:=by unfold bne; rw[e2]; rfl
   rw[e2,Bool.true_and] at HH;cases e3: (t.name==u.name)
   {have n3: (t.name !=u.name)=true:=by unfold bne; rw[e3]; rfl
    go_enter Tryz.func18,Tryz.ntmps18;go_wp2;go_ret;exact ⟨by rw[HF.out]; rfl,HB1.out⟩}
   {have n3: (t.name !=u.name)=false:=by unfold bne; rw[e3]; rfl
    rw[e3,Bool.true_and] at HH;cases e4: ((t.names.length:Int)==(u.names.length:Int))
    {have n4: ((t.names.length:Int) !=(u.names.length:Int))=true:=by unfold bne; rw[e4]; rfl
     go_enter Tryz.func18,Tryz.ntmps18;go_wp2;go_ret;exact ⟨by rw[HF.out]; rfl,HB1.out⟩}
    {have n4: ((t.names.length:Int) !=(u.names.length:Int))=false:=by unfold bne; rw[e4]; rfl
     rw[e4,Bool.true_and] at HH;have e5:=HH.out;have n5: ((t.parts.length:Int) !=(u.parts.length:Int))=true:=by unfold bne; rw[e5]; rfl
     go_enter Tryz.func18,Tryz.ntmps18;go_wp2;go_ret;exact ⟨by rw[HF.out]; rfl,HB1.out⟩}}}}
def Z3P (w:World) (P:Option Addr) (l:List Sh):Prop:=
 ∃(g off:Nat) (qs:Nat->Ptr),l.length=0\/P=some ⟨g,off,none⟩/\g < w.heap.size/\(∀i (h:i < l.length),Sh5 w g (off+i * 5) (l[i]'h) (qs i))/\ ∀i (h:i < l.length),ShAt w w.heap.size (qs i) (l[i]'h)
theorem Z3P.next {w w':World} {P:Option Addr} {l:List Sh} (h:Z3P w P l) (hb:Below w.heap.size w w'):Z3P w' P l:=by
 obtain ⟨g,off,qs,h⟩:=h;rcases h with h | ⟨h1,h2,h3,h4⟩
 {exact ⟨g,off,qs,Or.inl h⟩}
 {exact ⟨g,off,qs,Or.inr ⟨h1,Nat.lt_of_lt_of_le h2 hb.size,fun i hi=>(h3 i hi).keep h2 hb,fun i hi=>(h4 i hi).next hb⟩⟩}
end
end Go.Proofs.YtkhoflciahkphaaGreatDoor
namespace Go.Proofs.YtkhoflciahkphaaGreatDoor
open Go.RowKit Shp Sub
namespace SubM
theorem mayBe_walk (t:Sh) (q:Ptr) (w:World) (hq:ShAt w w.heap.size q t) (hg:WGlobs w):
 Y9 61 #[sv t q] w (.bool (decide (check t=0))):=by
 have hb0:=Z01 w (.cells (Y8 t q) 25);have HB0:=Y1 hb0;have HB:=Y1 (Z02 w t q);have HQ:=Y1 (hq.next hb0);have HG:=Y1 (hg.next hb0);obtain ⟨_,⟨c0,c1,c2,c3,c4⟩,_⟩:=HB.out;simp only[Nat.zero_add] at c0 c1 c2 c3 c4;clear hb0 hq hg;unfold sv;go_enter Tryz.func61,Tryz.ntmps61
 go_wp2_with fail
 refine (Z1r t q _ HQ.out HG.out).mono ?_;rintro e W1 ⟨rfl,hb1⟩;have HB1:=Y1 (Z00 HB0.out hb1);clear hb1;go_wp2;go_ret;exact ⟨Z0w (by rw[Bool.eq_iff_iff,beq_iff_eq,decide_eq_true_eq]),HB1.out⟩
end SubM
end Go.Proofs.YtkhoflciahkphaaGreatDoor
namespace Go.Proofs.YtkhoflciahkphaaGreatDoor
open Go.RowKit Shp Sub
namespace SubM
theorem Z1S (t:Sh) (q:Ptr) (w:World) (hq:ShAt w w.heap.size q t) (hg:WGlobs w):
 Y9 24 #[sv t q] w (.bool (decide (check t=0))):=by
 have hb0:=Z01 w (.cells (Y8 t q) 25);have HB0:=Y1 hb0;have HB:=Y1 (Z02 w t q);have HQ:=Y1 (hq.next hb0);have HG:=Y1 (hg.next hb0);obtain ⟨_,⟨c0,c1,c2,c3,c4⟩,_⟩:=HB.out;simp only[Nat.zero_add] at c0 c1 c2 c3 c4;clear hb0 hq hg;unfold sv;go_enter Tryz.func24,Tryz.ntmps24
 go_wp2_with fail
 refine (Z1r t q _ HQ.out HG.out).mono ?_;rintro e W1 ⟨rfl,hb1⟩;have HB1:=Y1 (Z00 HB0.out hb1);clear hb1;go_wp2;go_ret;exact ⟨Z0w (by rw[Bool.eq_iff_iff,beq_iff_eq,decide_eq_true_eq]),HB1.out⟩
theorem Z3F (F S:Int) (W:World):
 Calls Tryz.prog 51 #[.int .i64 F,.int .i64 S] W fun e W'=>e= .returned (rv W.heap.size (W.heap.size+1))/\W.heap.size+1 < W'.heap.size/\W'.cell? ⟨W.heap.size,0,none⟩=some (.int .i64 F)/\W'.cell? ⟨W.heap.size+1,0,none⟩=some (.int .i64 S)/\Below W.heap.size W W':=by
 have hb1:=Z01 W (.cells #[.int .i64 F] 3);obtain ⟨w1,hw1⟩: ∃w1,w1=W.alloc (.cells #[.int .i64 F] 3):=⟨_,rfl⟩;have hb2:=Z01 w1 (.cells #[.int .i64 S] 3);obtain ⟨w2,hw2⟩: ∃w2,w2=w1.alloc (.cells #[.int .i64 S] 3):=⟨_,rfl⟩;have hb3:=Z01 w2 (.cells #[fv W.heap.size (W.heap.size+1)] 34);obtain ⟨w3,hw3⟩: ∃w3,w3=w2.alloc (.cells #[fv W.heap.size (W.heap.size+1)] 34):=⟨_,rfl⟩;have hs1:w1.heap.size=W.heap.size+1:=by rw[hw1]; simp
 have hs2:w2.heap.size=W.heap.size+1+1:=by rw[hw2]; simp[hs1]
 have hs3:w3.heap.size=W.heap.size+1+1+1:=by rw[hw3]; simp[hs2]
 rw[<-hw1] at hb1;rw[<-hw2] at hb2;rw[<-hw3] at hb3;have c0:w1.cell? ⟨W.heap.size,0,none⟩=some (.int .i64 F):=by rw[hw1]; simp[go_sem]
 have c1:w2.cell? ⟨W.heap.size+1,0,none⟩=some (.int .i64 S):=by rw[hw2, <-hs1]; simp[go_sem]
 have c2:w3.cell? ⟨W.heap.size+1+1,0,none⟩=some (fv W.heap.size (W.heap.size+1)):=by rw[hw3, <-hs2]; simp[go_sem]
 have HF:Hid (W.heap.size+1 < w3.heap.size/\w3.cell? ⟨W.heap.size,0,none⟩=some (.int .i64 F)/\w3.cell? ⟨W.heap.size+1,0,none⟩=some (.int .i64 S)/\Below W.heap.size W w3):=Y1
  ⟨by omega,((Z00 hb2 hb3).cell (p:=⟨W.heap.size,0,none⟩) (by show W.heap.size < w1.heap.size; omega)).trans c0,(hb3.cell (p:=⟨W.heap.size+1,0,none⟩) (by show W.heap.size+1 < w2.heap.size; omega)).trans c1,Z00 hb1 (Z00 hb2 hb3)⟩
 have HW:Hid (((W.alloc (.cells #[.int .i64 F] 3)).alloc (.cells #[.int .i64 S] 3)).alloc (.cells #[fv W.heap.size (W.heap.size+1)] 34)=w3):=Y1 (by rw[hw3,hw2,hw1]);clear hb1 hb2 hb3 hw1 hw2 hw3 c0 c1 hs1 hs2 hs3;go_enter Tryz.func51,Tryz.ntmps51;go_wp2;rw[HW.out];refine bodyPost_ret (v:=rv W.heap.size (W.heap.size+1)) (by simp[results,Tryz.results51,go_sem,c2]) rfl ?_;exact ⟨rfl,HF.out⟩
def wantRl (w:Bool):Want:=⟨fun v W=> ∃i0 i1,v=rv i0 i1/\Rl w W W.heap.size i0 i1,fun v w w' hb ⟨i0,i1,hv,h⟩=>⟨i0,i1,hv,⟨Nat.lt_of_lt_of_le h.l0 hb.size,Nat.lt_of_lt_of_le h.l1 hb.size,(hb.cell (p:=⟨i0,0,none⟩) h.l0).trans h.c0,(hb.cell (p:=⟨i1,0,none⟩) h.l1).trans h.c1⟩⟩⟩
theorem Z4O (W:World):Calls Tryz.prog 31 #[] W fun e W'=> ∃i0 i1,e= .returned (rv i0 i1)/\Rl true W' W'.heap.size i0 i1/\Below W.heap.size W W':=by
 have hb1:=Z01 W (.cells #[Value.nilFunc] 34);obtain ⟨w1,hw1⟩: ∃w1,w1=W.alloc (.cells #[Value.nilFunc] 34):=⟨_,rfl⟩;have hs1:w1.heap.size=W.heap.size+1:=by rw[hw1]; simp
 have c0:w1.cell? ⟨W.heap.size,0,none⟩=some Value.nilFunc:=by rw[hw1]; simp[go_sem]
 have f0:w1.frozen? ⟨W.heap.size,0,none⟩=false:=by rw[hw1]; simp[go_sem]
 rw[<-hw1] at hb1;have hw1':=hw1.symm;have HB1:=Y1 hb1;clear hw1 hb1;go_enter Tryz.func31,Tryz.ntmps31
 go_wp2_with fail
 refine (Z3F 6 7 w1).mono ?_;rintro e w2 ⟨rfl,hlt,c1,c2,hb2⟩;have hl:W.heap.size < w1.heap.size:=by omega
 have y0:w2.cell? ⟨W.heap.size,0,none⟩=some Value.nilFunc:=(hb2.cell (p:=⟨W.heap.size,0,none⟩) hl).trans c0;have z0:w2.frozen? ⟨W.heap.size,0,none⟩=false:=(hb2.frozen (p:=⟨W.heap.size,0,none⟩) hl).trans f0;have hu:=Upd.set (Upd.refl (fun b=>b=W.heap.size) w2) ⟨W.heap.size,0,none⟩ (fun _=>rfl) (fv w1.heap.size (w1.heap.size+1));have u0: (w2.setCell ⟨W.heap.size,0,none⟩ (fv w1.heap.size (w1.heap.size+1))).cell? ⟨W.heap.size,0,none⟩=some (fv w1.heap.size (w1.heap.size+1)):=World.cell?_setCell_same _ _ _ y0;have HF:Hid (∃i0 i1,Ending.returned (rv w1.heap.size (w1.heap.size+1))= .returned (rv i0 i1)/\Rl true (w2.setCell ⟨W.heap.size,0,none⟩ (fv w1.heap.size (w1.heap.size+1))) (w2.setCell ⟨W.heap.size,0,none⟩ (fv w1.heap.size (w1.heap.size+1))).heap.size i0 i1/\Below W.heap.size W (w2.setCell ⟨W.heap.size,0,none⟩ (fv w1.heap.size (w1.heap.size+1)))):=Y1 (by
  have hbw:=Z00 HB1.out hb2;have hsz:=hu.size;exact ⟨_,_,rfl,⟨by omega,by omega,(hu.cell (by omega) (by omega)).trans c1,(hu.cell (by omega) (by omega)).trans c2⟩,hbw.trans (hu.below hbw.size (fun x hx=>by omega))⟩)
 clear hu c0 f0 c1 c2 hlt hb2 hl;go_wp2;rw[hs1] at HF u0;refine bodyPost_ret (v:=rv (W.heap.size+1) (W.heap.size+1+1)) (by simp[results,Tryz.results31,go_sem,u0,hs1]) rfl ?_;exact HF.out
theorem Z4E (W:World):Calls Tryz.prog 28 #[] W fun e W'=> ∃i0 i1,e= .returned (rv i0 i1)/\Rl false W' W'.heap.size i0 i1/\Below W.heap.size W W':=by
 have hb1:=Z01 W (.cells #[Value.nilFunc] 34);obtain ⟨w1,hw1⟩: ∃w1,w1=W.alloc (.cells #[Value.nilFunc] 34):=⟨_,rfl⟩;have hs1:w1.heap.size=W.heap.size+1:=by rw[hw1]; simp
 have c0:w1.cell? ⟨W.heap.size,0,none⟩=some Value.nilFunc:=by rw[hw1]; simp[go_sem]
 have f0:w1.frozen? ⟨W.heap.size,0,none⟩=false:=by rw[hw1]; simp[go_sem]
 rw[<-hw1] at hb1;have hw1':=hw1.symm;have HB1:=Y1 hb1;clear hw1 hb1;go_enter Tryz.func28,Tryz.ntmps28
 go_wp2_with fail
 refine (Z3F 0 0 w1).mono ?_;rintro e w2 ⟨rfl,hlt,c1,c2,hb2⟩;have hl:W.heap.size < w1.heap.size:=by omega
 have y0:w2.cell? ⟨W.heap.size,0,none⟩=some Value.nilFunc:=(hb2.cell (p:=⟨W.heap.size,0,none⟩) hl).trans c0;have z0:w2.frozen? ⟨W.heap.size,0,none⟩=false:=(hb2.frozen (p:=⟨W.heap.size,0,none⟩) hl).trans f0;have hu:=Upd.set (Upd.refl (fun b=>b=W.heap.size) w2) ⟨W.heap.size,0,none⟩ (fun _=>rfl) (fv w1.heap.size (w1.heap.size+1));have u0: (w2.setCell ⟨W.heap.size,0,none⟩ (fv w1.heap.size (w1.heap.size+1))).cell? ⟨W.heap.size,0,none⟩=some (fv w1.heap.size (w1.heap.size+1)):=World.cell?_setCell_same _ _ _ y0;have HF:Hid (∃i0 i1,Ending.returned (rv w1.heap.size (w1.heap.size+1))= .returned (rv i0 i1)/\Rl false (w2.setCell ⟨W.heap.size,0,none⟩ (fv w1.heap.size (w1.heap.size+1))) (w2.setCell ⟨W.heap.size,0,none⟩ (fv w1.heap.size (w1.heap.size+1))).heap.size i0 i1/\Below W.heap.size W (w2.setCell ⟨W.heap.size,0,none⟩ (fv w1.heap.size (w1.heap.size+1)))):=Y1 (by
  have hbw:=Z00 HB1.out hb2;have hsz:=hu.size;exact ⟨_,_,rfl,⟨by omega,by omega,(hu.cell (by omega) (by omega)).trans c1,(hu.cell (by omega) (by omega)).trans c2⟩,hbw.trans (hu.below hbw.size (fun x hx=>by omega))⟩)
 clear hu c0 f0 c1 c2 hlt hb2 hl;go_wp2;rw[hs1] at HF u0;refine bodyPost_ret (v:=rv (W.heap.size+1) (W.heap.size+1+1)) (by simp[results,Tryz.results28,go_sem,u0,hs1]) rfl ?_;exact HF.out
theorem Z68 (w:Bool) (a b:Sh) (pa pb:Ptr) (i0 i1:Nat) (W:World) (ha:ShAt W W.heap.size pa a) (hb:ShAt W W.heap.size pb b) (hr:Rl w W W.heap.size i0 i1) (hg:WGlobs W):
 Y9 29 #[rv i0 i1,sv a pa,sv b pb] W (.bool (decide (check a=0)&&decide (check b=0)&&Grd.hold w 40 a b)):=by
 have hbr:=Z01 W (.cells #[fv i0 i1] 34);obtain ⟨w0,hw0⟩: ∃w0,w0=W.alloc (.cells #[fv i0 i1] 34):=⟨_,rfl⟩;have cr0:w0.cell? ⟨W.heap.size,0,none⟩=some (fv i0 i1):=by rw[hw0]; simp[go_sem]
 have hs0:w0.heap.size=W.heap.size+1:=by rw[hw0]; simp
 rw[<-hw0] at hbr;have hb1:=Z01 w0 (.cells (Y8 a pa) 25);obtain ⟨w1,hw1⟩: ∃w1,w1=w0.alloc (.cells (Y8 a pa) 25):=⟨_,rfl⟩;have hb2:=Z01 w1 (.cells (Y8 b pb) 25);obtain ⟨w2,hw2⟩: ∃w2,w2=w1.alloc (.cells (Y8 b pb) 25):=⟨_,rfl⟩;have hs1:w1.heap.size=W.heap.size+1+1:=by rw[hw1]; simp[hs0]
 rw[<-hw1] at hb1;rw[<-hw2] at hb2;have hB1:Box5 w1 w0.heap.size a pa:=by rw[hw1]; exact Z02 w0 a pa
 have hB2:Box5 w2 w1.heap.size b pb:=by rw[hw2]; exact Z02 w1 b pb
 have hBA:=hB1.next hb2;rw[hs0] at hBA;rw[hs1] at hB2;have hbw:=Z00 hbr (Z00 hb1 hb2);have cr2:w2.cell? ⟨W.heap.size,0,none⟩=some (fv i0 i1):=((Z00 hb1 hb2).cell (p:=⟨W.heap.size,0,none⟩) (by rw[hs0]; exact Nat.lt_succ_self _)).trans cr0;have hlt:W.heap.size < w2.heap.size:=by have:=hb2.size; omega
 have HBA:=Y1 hBA;have HBB:=Y1 hB2;have HA:=Y1 (ha.next hbw);have HB:=Y1 (hb.next hbw);have HG:=Y1 (hg.next hbw);have HRL:=Y1 ((wantRl w).keep _ _ _ hbw ⟨i0,i1,rfl,hr⟩);have HCR:=Y1 cr2;have HLT:=Y1 hlt;have HW:=Y1 hbw;obtain ⟨_,⟨a0,a1,a2,a3,a4⟩,_⟩:=hBA;simp only[Nat.zero_add] at a0 a1 a2 a3 a4;have hw0':=hw0.symm;have hw1':=hw1.symm;have hw2':=hw2.symm;clear hw0 hw1 hw2 hbr hb1 hb2 hB1 hB2 hbw ha hb hg hr cr0 cr2 hlt;unfold sv;go_enter Tryz.func29,Tryz.ntmps29
 go_wp2_with fail
 refine (Z1S a pa w2 HA.out HG.out).mono ?_;rintro e w3 ⟨rfl,hb3⟩;have HB3:=Y1 hb3;clear hb3 a0 a1 a2 a3 a4;by_cases ca:check a=0
 {have HCA:=Y1 ca;rw[decide_eq_true ca];clear ca;obtain ⟨_,⟨b0,b1,b2,b3,b4⟩,_⟩:=HBB.out.next HB3.out;simp only[Nat.zero_add] at b0 b1 b2 b3 b4
  go_wp2_with fail
  refine (Z1S b pb w3 (HB.out.next HB3.out) (HG.out.next HB3.out)).mono ?_;rintro e w4 ⟨rfl,hb4⟩;have HB4:=Y1 (Z00 HB3.out hb4);clear hb4 b0 b1 b2 b3 b4;by_cases cb:check b=0
  {have HCB:=Y1 cb;rw[decide_eq_true cb];clear cb;obtain ⟨_,⟨a0,a1,a2,a3,a4⟩,_⟩:=HBA.out.next HB4.out;obtain ⟨_,⟨b0,b1,b2,b3,b4⟩,_⟩:=HBB.out.next HB4.out;simp only[Nat.zero_add] at a0 a1 a2 a3 a4 b0 b1 b2 b3 b4;have hta:Two 40 a b:=⟨(Z05 HCA.out).2.2,(Z05 HCB.out).2.2,(Z05 HCA.out).2.1,(Z05 HCB.out).2.1,(Z05 HCA.out).1,(Z05 HCB.out).1⟩;obtain ⟨j0,j1,hj,hrl⟩:=(wantRl w).keep _ _ _ HB4.out HRL.out;have hcr:w4.cell? ⟨W.heap.size,0,none⟩=some (fv i0 i1):=(HB4.out.cell (p:=⟨W.heap.size,0,none⟩) HLT.out).trans HCR.out;have hjj:i0=j0/\i1=j1:=by simpa[rv,fv] using hj
   rw[<-hjj.1, <-hjj.2] at hrl;have HU:=Y1 (Z9d w 40 a b pa pb w4.heap.size i0 i1 w4 hta (HA.out.next HB4.out) (HB.out.next HB4.out) (Nat.le_refl _) hrl);unfold sv at HU;clear hta hrl hj hjj
   go_wp2_with fail
   refine HU.out.mono ?_;rintro e w5 ⟨rfl,hb5⟩;have HB5:=Y1 (Z00 HW.out (Z00 HB4.out hb5));clear hb5 HU a0 a1 a2 a3 a4 b0 b1 b2 b3 b4 hcr;go_wp2;go_ret;exact ⟨by rw[decide_eq_true HCA.out,decide_eq_true HCB.out]; rfl,HB5.out⟩}
  {have HCB:=Y1 cb;rw[decide_eq_false cb];clear cb;go_wp2;go_ret;exact ⟨by rw[decide_eq_false HCB.out,Bool.and_false,Bool.false_and]; rfl,Z00 HW.out HB4.out⟩}}
 {have HCA:=Y1 ca;rw[decide_eq_false ca];clear ca;go_wp2;go_ret;exact ⟨by rw[decide_eq_false HCA.out,Bool.false_and,Bool.false_and]; rfl,Z00 HW.out HB3.out⟩}
def nearT (w:Bool) (a:Sh) (pa:Ptr) (b:Sh) (pb:Ptr) (r:Bool):Nat->Want
 | 0=>wantRl w
 | 1=> .val (sv a pa)
 | 2=> .val (sv b pb)
 | 3=> .val (.bool r)
 | 4=> .val (.bool r)
 | _=> .any
section
variable (a b : Sh) (pa pb : Ptr) (w : World) (ha : ShAt w w.heap.size pa a) (hb : ShAt w w.heap.size pb b) (hg : WGlobs w)
include a b pa pb w ha hb hg
theorem Z0a:
 Y9 11 #[sv a pa,sv b pb] w (.bool (Grd.near a b)):=by
 have hb1:=Z01 w (.cells (Y8 a pa) 25);obtain ⟨w1,hw1⟩: ∃w1,w1=w.alloc (.cells (Y8 a pa) 25):=⟨_,rfl⟩;have hb2:=Z01 w1 (.cells (Y8 b pb) 25);obtain ⟨w2,hw2⟩: ∃w2,w2=w1.alloc (.cells (Y8 b pb) 25):=⟨_,rfl⟩;have hs1:w1.heap.size=w.heap.size+1:=by rw[hw1]; simp
 rw[<-hw1] at hb1;rw[<-hw2] at hb2;have hB1:Box5 w1 w.heap.size a pa:=by rw[hw1]; exact Z02 w a pa
 have hB2:Box5 w2 w1.heap.size b pb:=by rw[hw2]; exact Z02 w1 b pb
 have hBA:=hB1.next hb2;rw[hs1] at hB2;have HBA:=Y1 hBA;have HBB:=Y1 hB2;have hbw:=Z00 hb1 hb2;have HA:=Y1 (ha.next hbw);have HB:=Y1 (hb.next hbw);have HG:=Y1 (hg.next hbw);have HW:=Y1 hbw;have hw1':=hw1.symm;have hw2':=hw2.symm;have hen:=enters_of Tryz.func31 (by kernel_rfl) rfl;have hen2:=enters_of Tryz.func29 (by kernel_rfl) rfl;clear hw1 hw2 hb1 hb2 hB1 hB2 hbw ha hb hg hBA;unfold sv;go_enter Tryz.func11,Tryz.ntmps11
 go_wp2_with fail
 refine Z1A (rs:= [0,1,2,3,4])
  (fun u'=> { tmps:=#[.agg (Y8 a pa),.agg (Y8 b pb),.pointer (some ⟨w.heap.size,0,none⟩),.pointer (some ⟨w.heap.size+1,0,none⟩),u' 4,u' 0,u' 1,u' 2,u' 3],defers:= [] })
  (fun j=>([undef,undef,undef,undef,.bool false]:List Value).getD j undef) (nearT true a pa b pb (Grd.near a b)) (fun W=>Below w2.heap.size w2 W) (by kernel_rfl) (by kernel_rfl) (by kernel_rfl) Y2.drew ?_ ?_
 refine StepsAt.cons _ rfl (fun u' W K' hJ hd hK=> ?_) ?_
 {refine Z0j (f:=31) (args:=#[]) (W':=W) rfl ?_ ((Z4O W).mono fun e w' ⟨i0,i1,he,hr,hb⟩=>⟨_,he,hK.out _ _ ⟨i0,i1,rfl,hr⟩ (Z00 hJ hb) hb⟩)
  try dsimp only
  go_simp}
 refine StepsAt.cons _ rfl (fun u' W K' hJ hd hK=> ?_) ?_
 {obtain ⟨_,⟨y0,y1,y2,y3,y4⟩,_⟩:=HBA.out.next hJ;simp only[Nat.zero_add] at y0 y1 y2 y3 y4;refine Y0 hK hJ rfl rfl rfl ?_
  try dsimp only
  go_simp}
 refine StepsAt.cons _ rfl (fun u' W K' hJ hd hK=> ?_) ?_
 {obtain ⟨_,⟨y0,y1,y2,y3,y4⟩,_⟩:=HBB.out.next hJ;simp only[Nat.zero_add] at y0 y1 y2 y3 y4;refine Y0 hK hJ rfl rfl rfl ?_
  try dsimp only
  go_simp}
 refine StepsAt.cons _ rfl (fun u' W K' hJ hd hK=> ?_) ?_
 {obtain ⟨i0,i1,d0,hr⟩:=hd 0 (by kernel_rfl);have d1:_=_:=hd 1 (by kernel_rfl);have d2:_=_:=hd 2 (by kernel_rfl);refine Z0j (f:=29) (args:=#[rv i0 i1,.agg (Y8 a pa),.agg (Y8 b pb)]) (W':=W) rfl ?_ ((Z68 true a b pa pb i0 i1 W (HA.out.next hJ) (HB.out.next hJ) hr (HG.out.next hJ)).mono fun e w' ⟨he,hb⟩=>⟨_,he,hK.out _ _ rfl (Z00 hJ hb) hb⟩)
  try dsimp only
  go_simp}
 refine StepsAt.cons _ rfl (fun u' W K' hJ hd hK=> ?_) StepsAt.nil
 {have d3:_=_:=hd 3 (by kernel_rfl);refine Y0 hK hJ rfl rfl rfl ?_
  try dsimp only
  go_simp}
 intro u' W' hJ' hok
 try dsimp only
 rw[show u' 4= .bool (Grd.near a b) from hok 4 (by decide)];clear hok;go_wp2;go_ret;exact ⟨rfl,Z00 HW.out hJ'⟩
theorem Z0h:
 Y9 9 #[sv a pa,sv b pb] w (.bool (Grd.alike a b)):=by
 have hb1:=Z01 w (.cells (Y8 a pa) 25);obtain ⟨w1,hw1⟩: ∃w1,w1=w.alloc (.cells (Y8 a pa) 25):=⟨_,rfl⟩;have hb2:=Z01 w1 (.cells (Y8 b pb) 25);obtain ⟨w2,hw2⟩: ∃w2,w2=w1.alloc (.cells (Y8 b pb) 25):=⟨_,rfl⟩;have hs1:w1.heap.size=w.heap.size+1:=by rw[hw1]; simp
 rw[<-hw1] at hb1;rw[<-hw2] at hb2;have hB1:Box5 w1 w.heap.size a pa:=by rw[hw1]; exact Z02 w a pa
 have hB2:Box5 w2 w1.heap.size b pb:=by rw[hw2]; exact Z02 w1 b pb
 have hBA:=hB1.next hb2;rw[hs1] at hB2;have HBA:=Y1 hBA;have HBB:=Y1 hB2;have hbw:=Z00 hb1 hb2;have HA:=Y1 (ha.next hbw);have HB:=Y1 (hb.next hbw);have HG:=Y1 (hg.next hbw);have HW:=Y1 hbw;have hw1':=hw1.symm;have hw2':=hw2.symm;have hen:=enters_of Tryz.func28 (by kernel_rfl) rfl;have hen2:=enters_of Tryz.func29 (by kernel_rfl) rfl;clear hw1 hw2 hb1 hb2 hB1 hB2 hbw ha hb hg hBA;unfold sv;go_enter Tryz.func9,Tryz.ntmps9
 go_wp2_with fail
 refine Z1A (rs:= [0,1,2,3,4])
  (fun u'=> { tmps:=#[.agg (Y8 a pa),.agg (Y8 b pb),.pointer (some ⟨w.heap.size,0,none⟩),.pointer (some ⟨w.heap.size+1,0,none⟩),u' 4,u' 0,u' 1,u' 2,u' 3],defers:= [] })
  (fun j=>([undef,undef,undef,undef,.bool false]:List Value).getD j undef) (nearT false a pa b pb (Grd.alike a b)) (fun W=>Below w2.heap.size w2 W) (by kernel_rfl) (by kernel_rfl) (by kernel_rfl) Y2.drew ?_ ?_
 refine StepsAt.cons _ rfl (fun u' W K' hJ hd hK=> ?_) ?_
 {refine Z0j (f:=28) (args:=#[]) (W':=W) rfl ?_ ((Z4E W).mono fun e w' ⟨i0,i1,he,hr,hb⟩=>⟨_,he,hK.out _ _ ⟨i0,i1,rfl,hr⟩ (Z00 hJ hb) hb⟩)
  try dsimp only
  go_simp}
 refine StepsAt.cons _ rfl (fun u' W K' hJ hd hK=> ?_) ?_
 {obtain ⟨_,⟨y0,y1,y2,y3,y4⟩,_⟩:=HBA.out.next hJ;simp only[Nat.zero_add] at y0 y1 y2 y3 y4;refine Y0 hK hJ rfl rfl rfl ?_
  try dsimp only
  go_simp}
 refine StepsAt.cons _ rfl (fun u' W K' hJ hd hK=> ?_) ?_
 {obtain ⟨_,⟨y0,y1,y2,y3,y4⟩,_⟩:=HBB.out.next hJ;simp only[Nat.zero_add] at y0 y1 y2 y3 y4;refine Y0 hK hJ rfl rfl rfl ?_
  try dsimp only
  go_simp}
 refine StepsAt.cons _ rfl (fun u' W K' hJ hd hK=> ?_) ?_
 {obtain ⟨i0,i1,d0,hr⟩:=hd 0 (by kernel_rfl);have d1:_=_:=hd 1 (by kernel_rfl);have d2:_=_:=hd 2 (by kernel_rfl);refine Z0j (f:=29) (args:=#[rv i0 i1,.agg (Y8 a pa),.agg (Y8 b pb)]) (W':=W) rfl ?_ ((Z68 false a b pa pb i0 i1 W (HA.out.next hJ) (HB.out.next hJ) hr (HG.out.next hJ)).mono fun e w' ⟨he,hb⟩=>⟨_,he,hK.out _ _ rfl (Z00 hJ hb) hb⟩)
  try dsimp only
  go_simp}
 refine StepsAt.cons _ rfl (fun u' W K' hJ hd hK=> ?_) StepsAt.nil
 {have d3:_=_:=hd 3 (by kernel_rfl);refine Y0 hK hJ rfl rfl rfl ?_
  try dsimp only
  go_simp}
 intro u' W' hJ' hok
 try dsimp only
 rw[show u' 4= .bool (Grd.alike a b) from hok 4 (by decide)];clear hok;go_wp2;go_ret;exact ⟨rfl,Z00 HW.out hJ'⟩
end
end SubM
end Go.Proofs.YtkhoflciahkphaaGreatDoor
namespace Go.Proofs.YtkhoflciahkphaaGreatDoor
open Go.RowKit Shp Sub
namespace SubM
def rowB (A:Option Addr):Option Nat:=A.map (·.block)
theorem Z3c (A:Option Addr) (n c:Nat):Value.ownBlock (.slice A n c)=rowB A:=by cases A <;> rfl
section
variable {W : World} {A : Option Addr} {m c B e s : Nat} {xs : List Value} (h : W.ownsRow B e s (.slice A m c) m xs)
include W A m c B e s xs h
theorem Z09: ∀b,rowB A=some b->B<=b/\b < W.heap.size:=fun b hb=>h.lt b (by rw[Z3c]; exact hb)
theorem Z4F: (A=none/\m=0/\c=0)\/ ∃g,A=some ⟨g,0,none⟩/\m<=c:=by
 rcases h.2 with ⟨h1,h2⟩ | ⟨g,cap,cur,h1,_,_,h2,_⟩
 {simp only[Value.slice.injEq] at h1; exact Or.inl ⟨h1.1,h2,h1.2.2⟩}
 {simp only[Value.slice.injEq] at h1;obtain ⟨h3,_,rfl⟩:=h1;exact Or.inr ⟨g,h3,h2⟩}
end
theorem Z0l {S:Nat->Prop} {W W':World} {A:Option Addr} {m c B e s n:Nat} {xs:List Value} (h:W.ownsRow B e s (.slice A m c) n xs) (hu:Upd S W W') (hS: ∀b,rowB A=some b-> ¬S b):W'.ownsRow B e s (.slice A m c) n xs:=by
 obtain ⟨h1,h2⟩:=h;refine ⟨h1, ?_⟩;rcases h2 with h2 | ⟨g,cap,cur,hv,hb,hg,hc⟩
 {exact Or.inl h2}
 {refine Or.inr ⟨g,cap,cur,hv,hb, ?_,hc⟩;have hgl:g < W.heap.size:=(Array.getElem?_eq_some_iff.1 hg).1;rw[hu.block g hgl (hS g (by simp only[Value.slice.injEq] at hv; rw[hv.1]; rfl))];exact hg}
theorem Z69 {W:World} {g m c B e s n:Nat} {xs:List Value} (h:W.ownsRow B e s (.slice (some ⟨g,0,none⟩) m c) n xs) {j:Nat} {u:Value} (hu:xs[j]? =some u):W.cell? ⟨g,j,none⟩=some u:=by
 have:=h.cells (g:=g) rfl j u hu
 rwa [Z1k,Nat.zero_add] at this
abbrev El:=Sh×Ptr
def Z0m (x:El):List Value:= [.int .i64 x.1.kind,.string ⟨x.1.of_.toArray⟩,.string ⟨x.1.name.toArray⟩,.slice x.2.A x.1.names.length x.2.c,.slice x.2.P x.1.parts.length x.2.d]
def cellsE (l:List El):List Value:=l.flatMap Z0m
def namesE (l:List (List UInt8)):List Value:=l.map fun n=> .string ⟨n.toArray⟩
theorem Z19 (l m:List El):cellsE (l++m)=cellsE l++cellsE m:=by simp[cellsE]
theorem Z2f (x:El):cellsE [x]=Z0m x:=by simp[cellsE]
theorem Z10 (l:List El): (cellsE l).length=l.length * 5:=by
 induction l with
 | nil=>rfl
 | cons a l ih=>rw[show a::l= [a]++l from rfl,Z19,List.length_append,ih,Z2f]; simp[Z0m]; omega
theorem Z5j (l m:List (List UInt8)):namesE (l++m)=namesE l++namesE m:=by simp[namesE]
theorem Z8r (x:El): ∀u∈Z0m x,u.oneCell'=true:=by
 intro u hu;simp only[Z0m,List.mem_cons,List.not_mem_nil,or_false] at hu;rcases hu with rfl | rfl | rfl | rfl | rfl <;> rfl
theorem Z9t {l:List El} {i c:Nat} (hi:i < l.length) (hc:c < 5): (cellsE l)[i * 5+c]? =(Z0m (l[i]'hi))[c]? :=by
 have h1:l=l.take i++([l[i]'hi]++l.drop (i+1)):=by rw[List.singleton_append,List.getElem_cons_drop,List.take_append_drop]
 have h2: (cellsE (l.take i)).length=i * 5:=by rw[Z10,List.length_take]; omega
 have h3: (Z0m (l[i]'hi)).length=5:=rfl
 conv=>lhs; rw[h1]
 rw[Z19,Z19,Z2f,List.getElem?_append_right (by omega),h2,Nat.add_sub_cancel_left,List.getElem?_append_left (by omega)]
def Kept (S:Nat->Prop) (W:World) (x:El):Prop:= ∀W',W.heap.size<=W'.heap.size->(∀b,b < W.heap.size->S b->W'.heap[b]? =W.heap[b]?)->ShAt W' W'.heap.size x.2 x.1
section
variable {S T : Nat -> Prop} {W W' : World} {x : El}
section
variable (h : Kept S W x)
include h
theorem Kept.here:ShAt W W.heap.size x.2 x.1:=h W (Nat.le_refl _) (fun _ _ _=>rfl)
theorem Kept.upd (hu:Upd T W W') (hd: ∀b,b < W.heap.size->S b-> ¬T b):Kept S W' x:=fun W2 h1 h2=>
 h W2 (Nat.le_trans hu.size h1) (fun b hb hs=>(h2 b (Nat.lt_of_lt_of_le hb hu.size) hs).trans (hu.block b hb (hd b hb hs)))
theorem Kept.more (hs: ∀b,b < W.heap.size->S b->T b):Kept T W x:=fun W2 h1 h2=>h W2 h1 (fun b hb hS=>h2 b hb (hs b hb hS))
end
theorem Kept.old {n0:Nat} (h:ShAt W n0 x.2 x.1) (hn:n0<=W.heap.size) (hS: ∀b,b < n0->S b):Kept S W x:=fun W2 h1 h2=>
 h.of (Nat.le_trans hn h1) (fun g k hg=>World.cell?_of_block (w:=W) (h2 g (by omega) (hS g hg)))
end
structure Mk (w0:World) (gm hi:Nat) (k:Int) (o nm:List UInt8) (nl:List (List UInt8)) (l:List El) (AN:Option Addr) (cN:Nat) (AP:Option Addr) (cP:Nat) (W:World):Prop where
 up:Below w0.heap.size w0 W
 lo:w0.heap.size<=gm
 gh:gm < hi
 hw:hi<=W.heap.size
 c0:W.cell? ⟨gm,0,none⟩=some (.int .i64 k)
 c1:W.cell? ⟨gm,1,none⟩=some (.string ⟨o.toArray⟩)
 c2:W.cell? ⟨gm,2,none⟩=some (.string ⟨nm.toArray⟩)
 c3:W.cell? ⟨gm,3,none⟩=some (.slice AN nl.length cN)
 c4:W.cell? ⟨gm,4,none⟩=some (.slice AP l.length cP)
 fz: ∀j,W.frozen? ⟨gm,j,none⟩=false
 rN:W.ownsRow hi 9 1 (.slice AN nl.length cN) nl.length (namesE nl)
 rP:W.ownsRow hi 25 5 (.slice AP l.length cP) l.length (cellsE l)
 ne:rowB AN=none\/rowB AN≠rowB AP
def Free (n0 hi:Nat) (AN AP:Option Addr) (b:Nat):Prop:=b < n0\/(hi<=b/\rowB AN≠some b/\rowB AP≠some b)
section
variable {w0 W W' : World} {gm hi : Nat} {k : Int} {o nm : List UInt8} {nl : List (List UInt8)} {l : List El} {AN AP : Option Addr} {cN cP : Nat}
theorem Mk.upd {S:Nat->Prop} (h:Mk w0 gm hi k o nm nl l AN cN AP cP W) (hu:Upd S W W') (h0: ∀b,b < w0.heap.size-> ¬S b) (h1: ¬S gm) (h2: ∀b,rowB AN=some b-> ¬S b) (h3: ∀b,rowB AP=some b-> ¬S b):
 Mk w0 gm hi k o nm nl l AN cN AP cP W':=by
 have hg:gm < W.heap.size:=Nat.lt_of_lt_of_le h.gh h.hw;refine ⟨h.up.trans (hu.below h.up.size (fun b hb=> ?_)),h.lo,h.gh,Nat.le_trans h.hw hu.size,(hu.cell hg h1).trans h.c0,(hu.cell hg h1).trans h.c1,(hu.cell hg h1).trans h.c2,(hu.cell hg h1).trans h.c3,(hu.cell hg h1).trans h.c4,
  fun j=>(hu.frozen hg h1).trans (h.fz j),Z0l h.rN hu h2,Z0l h.rP hu h3,h.ne⟩
 exact Nat.le_of_not_lt (fun hlt=>h0 b hlt hb)
theorem Mk.new (h:Mk w0 gm hi k o nm nl l AN cN AP cP W) (hb:Below W.heap.size W W'):Mk w0 gm hi k o nm nl l AN cN AP cP W':=
 h.upd (S:=fun _=>False) (Upd.new hb) (fun _ _ h=>h) (fun h=>h) (fun _ _ h=>h) (fun _ _ h=>h)
end
theorem Mk.at_ {w0 W:World} {gm hi n0:Nat} {k:Int} {o nm:List UInt8} {nl:List (List UInt8)} {l:List El} {AN AP:Option Addr} {cN cP:Nat} (h:Mk w0 gm hi k o nm nl l AN cN AP cP W)
 (hk: ∀x∈l,Kept (Free n0 hi AN AP) W x) (ho:o.length<=9223372036854775807) (hnm:nm.length<=9223372036854775807) (hnl: ∀x∈nl,x.length<=9223372036854775807) (hl:nl.length<=1000000) (hm:l.length<=1000000):
 Kept (fun b=>b < n0\/hi<=b) W (⟨k,o,nm,nl,l.map Prod.fst⟩,⟨AN,cN,AP,cP⟩):=by
 intro W' hz hs;have hN:=Z4F h.rN;have hP:=Z4F h.rP;have kept: ∀x∈l,ShAt W' W'.heap.size x.2 x.1:=fun x hx=>hk x hx W' hz (fun b hb hf=>hs b hb (by
  rcases hf with h | h
  {exact Or.inl h}
  · exact Or.inr h.1))
 refine .mk _ _ ((rowB AP).getD 0) 0 (fun i=>(l[i]?.map Prod.snd).getD ⟨none,0,none,0⟩) ⟨ho,hnm,hnl,by show nl.length<=_; omega,by show (l.map Prod.fst).length<=_; rw[List.length_map]; omega, ?_, ?_, ?_, ?_⟩ ?_ ?_ ?_ ?_
 {show nl.length<=cN;rcases hN with ⟨_,h1,h2⟩ | ⟨_,_,h1⟩ <;> omega}
 {show (l.map Prod.fst).length<=cP;rw[List.length_map];rcases hP with ⟨_,h1,h2⟩ | ⟨_,_,h1⟩ <;> omega}
 {intro (e:AN=none);show cN=0;rcases hN with ⟨_,h1,h2⟩ | ⟨g,h1,_⟩
  {exact h2}
  {rw[e] at h1; cases h1}}
 {intro (e:AP=none);show cP=0;rcases hP with ⟨_,h1,h2⟩ | ⟨g,h1,_⟩
  {exact h2}
  {rw[e] at h1; cases h1}}
 {show Strs W' W'.heap.size AN (strs nl);rcases hN with ⟨_,h1,_⟩ | ⟨g,rfl,_⟩
  {exact Or.inl (by unfold strs; simp[h1])}
  {have hg:=Z09 h.rN g rfl;refine Or.inr ⟨g,0,rfl,Nat.lt_of_lt_of_le hg.2 hz,fun i hi=> ?_⟩;have hi':i < nl.length:=by simpa[strs] using hi
   have e1:W'.cell? ⟨g,i,none⟩=W.cell? ⟨g,i,none⟩:=World.cell?_of_block (w:=W) (hs g hg.2 (Or.inr hg.1));rw[Nat.zero_add,e1,Z69 h.rN (u:= .string ⟨(nl[i]'hi').toArray⟩) (by unfold namesE; rw[List.getElem?_map,List.getElem?_eq_getElem hi']; rfl)];simp[strs]}}
 {show (l.map Prod.fst).length=0\/_;rcases hP with ⟨_,h1,_⟩ | ⟨g,rfl,_⟩
  {exact Or.inl (by rw[List.length_map]; exact h1)}
  {exact Or.inr ⟨rfl,Nat.lt_of_lt_of_le (Z09 h.rP g rfl).2 hz⟩}}
 {intro i hi;have hi':i < l.length:=by simpa using hi
  rcases hP with ⟨_,h1,_⟩ | ⟨g,rfl,_⟩
  {omega}
  {have hg:=Z09 h.rP g rfl;have e1: ∀j,W'.cell? ⟨g,j,none⟩=W.cell? ⟨g,j,none⟩:=fun j=>World.cell?_of_block (w:=W) (hs g hg.2 (Or.inr hg.1));have e2: ∀c v,c < 5->(Z0m (l[i]'hi'))[c]? =some v->W'.cell? ⟨g,0+i * 5+c,none⟩=some v:=fun c v hc hv=>by
    rw[Nat.zero_add,e1];exact Z69 h.rP (by rw[Z9t hi' hc]; exact hv)
   simp only[List.getElem_map];rw[List.getElem?_eq_getElem hi'];exact ⟨e2 0 _ (by omega) rfl,e2 1 _ (by omega) rfl,e2 2 _ (by omega) rfl,e2 3 _ (by omega) rfl,e2 4 _ (by omega) rfl⟩}}
 {intro i hi;have hi':i < l.length:=by simpa using hi
  simp only[List.getElem_map];rw[List.getElem?_eq_getElem hi'];exact kept _ (List.getElem_mem _)}
end SubM
end Go.Proofs.YtkhoflciahkphaaGreatDoor
namespace Go.Proofs.YtkhoflciahkphaaGreatDoor
open Go.RowKit
def also (d:Nat->Bool) (i:Nat):Nat->Bool:=fun j=>cond (Nat.beq j i) true (d j)
section
variable {P : Program} {ops : Array Oper} {Q : Exit -> Act -> World -> Prop}
def StepInv (P:Program) (ops:Array Oper) (Q:Exit->Act->World->Prop) (A: (Nat->Value)->Act) (I: (Nat->Bool)->(Nat->Value)->World->Prop) (i:Nat):Prop:=
 ∀o,ops[i]? =some o-> ∀(d:Nat->Bool) (u:Nat->Value) (W:World),I d u W->d i=false->(∀j,waits o j=true->d j=true)->
  wpOp P ops Q i (fun a' w'=> ∃v,a'=A (upd u i v)/\I (also d i) (upd u i v) w') (A u) W
def StepsInv (P:Program) (ops:Array Oper) (Q:Exit->Act->World->Prop) (A: (Nat->Value)->Act) (I: (Nat->Bool)->(Nat->Value)->World->Prop) (rs:List Nat):Prop:=
 ∀i∈rs,StepInv P ops Q A I i
section
variable {A : (Nat -> Value) -> Act} {I : (Nat -> Bool) -> (Nat -> Value) -> World -> Prop}
include A I
theorem StepsInv.nil:StepsInv P ops Q A I []:=fun _ h=>by cases h
theorem StepsInv.cons {i:Nat} {rs:List Nat} (o:Oper) (ho:ops[i]? =some o)
 (h: ∀(d:Nat->Bool) (u:Nat->Value) (W:World) (K':Act->World->Prop),I d u W->d i=false->(∀j,waits o j=true->d j=true)->
  Shut (∀v w',I (also d i) (upd u i v) w'->K' (A (upd u i v)) w')->
  if Region.wanted o (yielded ops (A u).tmps)=true then Oper.wp P o (A u) W K' Q else K' ((A u).put o.dst undef) W)
 (hs:StepsInv P ops Q A I rs):StepsInv P ops Q A I (i::rs):=fun j hj=>by
 rcases List.mem_cons.1 hj with rfl | hj
 {intro o' ho' d u W hI hd hw;rw[ho] at ho';obtain rfl:o=o':=Option.some.inj ho';exact wpOp_step ho (fun K' hK=>h d u W K' hI hd hw (fun v w' h1=>hK _ _ ⟨v,rfl,h1⟩))}
 {exact hs j hj}
end
theorem Z77 (listed:Array Bool) {i:Nat} (hi:i < listed.size): (fun j=>(listed.setIfInBounds i true).getD j false)=also (fun j=>listed.getD j false) i:=by
 funext j;unfold also;by_cases h:j=i
 {subst h;have:Nat.beq j j=true:=Nat.beq_refl j;rw[this];simp[hi]}
 {have hb:Nat.beq j i=false:=by cases hb:Nat.beq j i <;> first | rfl | exact absurd (Nat.eq_of_beq_eq_true hb) h
  rw[hb];exact getD_set_ne false (Ne.symm h)}
theorem Zap (A: (Nat->Value)->Act) (I: (Nat->Bool)->(Nat->Value)->World->Prop) (hl:lowAfter ops=true)
 (hstep:StepsInv P ops Q A I (List.range ops.size))
 (hdone: ∀d u W,I d u W->(∀j,j < ops.size->d j=true)->Q .normal (A u) W):
 ∀(fuel:Nat) (listed:Array Bool) (u:Nat->Value) (W:World),listed.size=ops.size->listed.toList.count false<=fuel->I (fun j=>listed.getD j false) u W->
  wpAny P .any ops Q fuel listed (A u) W:=by
 intro fuel;induction fuel with
 | zero=>
  intro listed u W hsz hc hI;have hr:Region.ready .any ops listed= []:=by
   refine List.eq_nil_iff_forall_not_mem.2 fun j hj=> ?_;obtain ⟨h1,o,ho,_⟩:=mem_ready.1 hj;have hjs:j < listed.size:=by
    rw[hsz];rcases Nat.lt_or_ge j ops.size with h | h
    {exact h}
    {rw[Array.getElem?_eq_none h] at ho; cases ho}
   refine Z4o listed.toList (by omega) j ?_;simp[hjs] at h1 ⊢;exact h1
  exact ⟨hr,hdone _ u W hI fun j hj=>Z27 hl listed hr hsz (j+1) j (by omega) hj⟩
 | succ fuel ih=>
  intro listed u W hsz hc hI;refine ⟨fun hr=>hdone _ u W hI fun j hj=>Z27 hl listed hr hsz (j+1) j (by omega) hj,fun i hi=> ?_⟩;obtain ⟨h1,o,ho,hall⟩:=mem_ready.1 hi;have his:i < ops.size:=by
   rcases Nat.lt_or_ge i ops.size with h | h
   {exact h}
   {rw[Array.getElem?_eq_none h] at ho; cases ho}
  have hil:i < listed.size:=by omega
  have hdi:listed.getD i false=false:=by simp[hil] at h1 ⊢; exact h1
  have hdep: ∀j,waits o j=true->listed.getD j false=true:=fun j hj=>by
   obtain ⟨e,he,hb⟩:=Array.any_eq_true'.1 hj;simp only[Bool.and_eq_true,beq_iff_eq] at hb;obtain ⟨hb,rfl⟩:=hb;exact hall e he hb
  refine wpOp_mono (fun a' w' h=> ?_) (hstep i (List.mem_range.2 his) o ho (fun j=>listed.getD j false) u W hI hdi hdep);obtain ⟨v,rfl,hI'⟩:=h;rw[<-Z77 listed hil] at hI';refine ih _ _ _ (by simpa using hsz) ?_ hI';have h2:listed.toList[i]? =some false:=by simp[hil] at h1 ⊢; exact h1
  have:=Z4U listed.toList i h2;rw[Array.toList_setIfInBounds];omega
theorem Zaq {id:Nat} {w:World} {rs:List Nat} (A: (Nat->Value)->Act) (u0:Nat->Value) (I: (Nat->Bool)->(Nat->Value)->World->Prop) (hm:P.follows .mixedOrders=true) (hl:lowAfter ops=true)
 (hrs:List.range ops.size=rs) (hI:I (fun _=>false) u0 w.drew) (hstep:StepsInv P ops Q A I rs)
 (hdone: ∀d u W,I d u W->(∀j,j < ops.size->d j=true)->Q .normal (A u) W):
 (Code.region id ops true).wp P Q (A u0) w:=by
 subst hrs;refine wp_region_any hm (Zap A I hl hstep hdone _ _ _ _ (by simp) ?_ ?_)
 {exact Nat.le_trans List.count_le_length (by simp)}
 {have e: (fun j=>(Array.replicate ops.size false).getD j false)=fun _=>false:=by
   funext j;rcases Nat.lt_or_ge j ops.size with h | h
   {simp[h]}
   {simp[h]}
  rw[e];exact hI}
theorem Z2u {o:Oper} {a:Act} {W W':World} {K':Act->World->Prop} {E:Prop} (hw:Region.wanted o (yielded ops a.tmps)=true)
 (hrun: (execOp a.eval o).run P W= .ok .skip W') (hK:K' (a.put o.dst undef) W'):
 if Region.wanted o (yielded ops a.tmps)=true then Oper.wp P o a W K' Q else E:=by
 rw[if_pos hw,Oper.wp,hrun,Oper.upon_skip];exact hK
end
end Go.Proofs.YtkhoflciahkphaaGreatDoor
namespace Go.Proofs.YtkhoflciahkphaaGreatDoor
open Go.RowKit
def Shutd (ops:Array Oper) (d:Nat->Bool):Prop:= ∀k o,ops[k]? =some o->d k=true-> ∀m,waits o m=true->d m=true
section
variable {P : Program} {ops : Array Oper} {Q : Exit -> Act -> World -> Prop} {d : Nat -> Bool}
theorem Z59 (i:Nat) {k:Nat} (h:d k=true):also d i k=true:=by
 unfold also;cases Nat.beq k i
 {exact h}
 {rfl}
theorem Shutd.also (h:Shutd ops d) {i:Nat} {o:Oper} (ho:ops[i]? =some o) (hw: ∀j,waits o j=true->d j=true):Shutd ops (also d i):=by
 intro k o2 hk hd m hm;by_cases e:k=i
 {subst e;rw[ho] at hk;obtain rfl:=Option.some.inj hk;exact Z59 _ (hw m hm)}
 {have:Go.Proofs.YtkhoflciahkphaaGreatDoor.also d i k=d k:=by
   unfold Go.Proofs.YtkhoflciahkphaaGreatDoor.also;have:Nat.beq k i=false:=by cases hb:Nat.beq k i <;> first | rfl | exact absurd (Nat.eq_of_beq_eq_true hb) e
   rw[this]; rfl
  rw[this] at hd;exact Z59 _ (h k o2 hk hd m hm)}
theorem StepsInv.cons2 {A: (Nat->Value)->Act} {I: (Nat->Bool)->(Nat->Value)->World->Prop} {i:Nat} {rs:List Nat} (o:Oper) (ho:ops[i]? =some o)
 (h: ∀(d:Nat->Bool) (u:Nat->Value) (W:World) (K':Act->World->Prop),Shutd ops d->I d u W->d i=false->(∀j,waits o j=true->d j=true)->
  Shut (∀v w',I (also d i) (upd u i v) w'->K' (A (upd u i v)) w')->
  if Region.wanted o (yielded ops (A u).tmps)=true then Oper.wp P o (A u) W K' Q else K' ((A u).put o.dst undef) W)
 (hs:StepsInv P ops Q A (fun d u W=>Shutd ops d/\I d u W) rs):StepsInv P ops Q A (fun d u W=>Shutd ops d/\I d u W) (i::rs):=
 StepsInv.cons o ho (fun d u W K' hI hd hw hK=>h d u W K' hI.1 hI.2 hd hw (fun v w' hv=>hK _ _ ⟨hI.1.also ho hw,hv⟩)) hs
theorem Z7o {id:Nat} {w:World} {rs:List Nat} (A: (Nat->Value)->Act) (u0:Nat->Value) (I: (Nat->Bool)->(Nat->Value)->World->Prop) (hm:P.follows .mixedOrders=true) (hl:lowAfter ops=true)
 (hrs:List.range ops.size=rs) (hI:I (fun _=>false) u0 w.drew) (hstep:StepsInv P ops Q A (fun d u W=>Shutd ops d/\I d u W) rs)
 (hdone: ∀d u W,I d u W->(∀j,j < ops.size->d j=true)->Q .normal (A u) W):
 (Code.region id ops true).wp P Q (A u0) w:=
 Zaq A u0 (fun d u W=>Shutd ops d/\I d u W) hm hl hrs ⟨fun _ _ _ h=>(by cases h),hI⟩ hstep (fun d u W h=>hdone d u W h.2)
end
end Go.Proofs.YtkhoflciahkphaaGreatDoor
namespace Go.Proofs.YtkhoflciahkphaaGreatDoor
open Go.RowKit Shp Sub
namespace SubM
theorem Z4P {P:Program} {e:TypeId} {z:Value} {size bytes:Nat} (h: (P.info? e).map (fun i=>(i.zero,i.size,i.bytes))=some (some z,size,bytes)): ∃i,P.info? e=some i/\i.zero=some z/\i.size=size/\i.bytes=bytes:=by
 cases hi:P.info? e with
 | none=>rw[hi] at h; cases h
 | some i=>
  rw[hi] at h;simp only[Option.map_some,Option.some.injEq,Prod.mk.injEq] at h;exact ⟨i,rfl,h.1,h.2.1,h.2.2⟩
theorem Z7p: (Tryz.prog.info? 25).map (fun i=>(i.zero,i.size,i.bytes))=some (some (.agg #[.int .i64 0,.string ByteArray.empty,.string ByteArray.empty,.slice none 0 0,.slice none 0 0]),5,88):=by kernel_rfl
theorem Zaf: (Tryz.prog.info? 9).map (fun i=>(i.zero,i.size,i.bytes))=some (some (.string ByteArray.empty),1,16):=by kernel_rfl
theorem Z0g (d:Nat->Bool) {i j:Nat} (h:j≠i):also d i j=d j:=by
 unfold also;have:Nat.beq j i=false:=by cases hb:Nat.beq j i <;> first | rfl | exact absurd (Nat.eq_of_beq_eq_true hb) h
 rw[this]; rfl
theorem Z0o (d:Nat->Bool) (i:Nat):also d i i=true:=by unfold also; rw[Nat.beq_refl]; rfl
structure PX where
 W0:World
 gm:Nat
 hi:Nat
 pb:Nat
 AN:Option Addr
 cN:Nat
 AP:Option Addr
 cP:Nat
 nl:List (List UInt8)
 l:List El
 nm:List UInt8
 x:El
namespace PX
variable (X : PX)
def val (j:Nat):Option Value:=match j with
 | 0 | 1 | 2 | 3 | 9 | 10 | 16 | 19=>some (.pointer (some ⟨X.gm,0,none⟩))
 | 4 | 17=>some (.pointer (some ⟨X.gm,3,none⟩))
 | 11 | 20=>some (.pointer (some ⟨X.gm,4,none⟩))
 | 5=>some (.slice X.AN X.nl.length X.cN)
 | 6=>some (.string ⟨X.nm.toArray⟩)
 | 12=>some (.slice X.AP X.l.length X.cP)
 | 13=>some (sv X.x.1 X.x.2)
 | _=>none
def set (b:Nat):Prop:=b=X.gm\/rowB X.AN=some b\/rowB X.AP=some b
structure Good:Prop where
 gh:X.gm < X.hi
 hw:X.hi<=X.pb
 pw:X.pb < X.W0.heap.size
 c3:X.W0.cell? ⟨X.gm,3,none⟩=some (.slice X.AN X.nl.length X.cN)
 c4:X.W0.cell? ⟨X.gm,4,none⟩=some (.slice X.AP X.l.length X.cP)
 fz: ∀j,X.W0.frozen? ⟨X.gm,j,none⟩=false
 rN:X.W0.ownsRow X.hi 9 1 (.slice X.AN X.nl.length X.cN) X.nl.length (namesE X.nl)
 rP:X.W0.ownsRow X.hi 25 5 (.slice X.AP X.l.length X.cP) X.l.length (cellsE X.l)
 ne:rowB X.AN=none\/rowB X.AN≠rowB X.AP
 bn:rowB X.AN≠some X.pb
 bp:rowB X.AP≠some X.pb
 box:Sh5 X.W0 X.pb 0 X.x.1 X.x.2
 ln:X.nl.length<=1000
 ll:X.l.length<=1000
structure PI (d:Nat->Bool) (u:Nat->Value) (W:World):Prop where
 vals: ∀j,d j=true-> ∀v,X.val j=some v->u j=v
 up:Upd X.set X.W0 W
 f7:d 7=true-> ∃z,u 7= .slice (some ⟨z,0,none⟩) 1 1/\X.W0.heap.size<=z/\z < W.heap.size/\W.cell? ⟨z,0,none⟩=some (.string ⟨X.nm.toArray⟩)
 f14:d 14=true-> ∃z,u 14= .slice (some ⟨z,0,none⟩) 1 1/\X.W0.heap.size<=z/\z < W.heap.size/\ ∀(j:Nat) v,(Z0m X.x)[j]? =some v->W.cell? ⟨z,j,none⟩=some v
 n0:d 8=false->W.ownsRow X.hi 9 1 (.slice X.AN X.nl.length X.cN) X.nl.length (namesE X.nl)
 n1:d 8=true-> ∃g c,u 8= .slice (some ⟨g,0,none⟩) (X.nl.length+1) c/\W.ownsRow X.hi 9 1 (.slice (some ⟨g,0,none⟩) (X.nl.length+1) c) (X.nl.length+1) (namesE X.nl++ [.string ⟨X.nm.toArray⟩])/\(rowB X.AN=some g\/X.W0.heap.size<=g)
 p0:d 15=false->W.ownsRow X.hi 25 5 (.slice X.AP X.l.length X.cP) X.l.length (cellsE X.l)
 p1:d 15=true-> ∃g c,u 15= .slice (some ⟨g,0,none⟩) (X.l.length+1) c/\W.ownsRow X.hi 25 5 (.slice (some ⟨g,0,none⟩) (X.l.length+1) c) (X.l.length+1) (cellsE X.l++Z0m X.x)/\(rowB X.AP=some g\/X.W0.heap.size<=g)/\
  ∀g8 n c8,u 8= .slice (some ⟨g8,0,none⟩) n c8->g8≠g
 c3:W.cell? ⟨X.gm,3,none⟩=some (if d 18=true then u 8 else .slice X.AN X.nl.length X.cN)
 c4:W.cell? ⟨X.gm,4,none⟩=some (if d 21=true then u 15 else .slice X.AP X.l.length X.cP)
 cr: ∀j,j < 3->W.cell? ⟨X.gm,j,none⟩=X.W0.cell? ⟨X.gm,j,none⟩
 fz: ∀j,W.frozen? ⟨X.gm,j,none⟩=false
variable {X : PX} {d : Nat -> Bool} {u : Nat -> Value} {W W' : World}
theorem PI.vals' (h:X.PI d u W) {i:Nat} {v:Value} (hv: ∀v',X.val i=some v'->v=v'): ∀j,also d i j=true-> ∀v',X.val j=some v'->upd u i v j=v':=fun j hj v' hv'=>by
 by_cases hij:j=i
 {subst hij; rw[Z0q]; exact hv v' hv'}
 {rw[Z0g d hij] at hj; rw[Z0b u v hij]; exact h.vals j hj v' hv'}
theorem Good.start (h:X.Good):X.PI (fun _=>false) u X.W0.drew:=
 ⟨nofun,(Upd.refl _ _).drew,nofun,nofun,fun _=>h.rN,nofun,fun _=>h.rP,nofun,h.c3,h.c4,fun _ _=>rfl,h.fz⟩
theorem PI.pure (h:X.PI d u W) {i:Nat} (hi:i≠7/\i≠8/\i≠14/\i≠15/\i≠18/\i≠21) {v:Value} (hv: ∀v',X.val i=some v'->v=v'):X.PI (also d i) (upd u i v) W:=by
 have k: ∀j,j=7\/j=8\/j=14\/j=15\/j=18\/j=21->also d i j=d j/\upd u i v j=u j:=fun j hj=>⟨Z0g d (by omega),Z0b u v (by omega)⟩;refine ⟨h.vals' hv,h.up, ?_, ?_, ?_, ?_, ?_, ?_, ?_, ?_,h.cr,h.fz⟩
 {rw[(k 7 (by omega)).1,(k 7 (by omega)).2]; exact h.f7}
 {rw[(k 14 (by omega)).1,(k 14 (by omega)).2]; exact h.f14}
 {rw[(k 8 (by omega)).1]; exact h.n0}
 {rw[(k 8 (by omega)).1,(k 8 (by omega)).2]; exact h.n1}
 {rw[(k 15 (by omega)).1]; exact h.p0}
 {rw[(k 15 (by omega)).1,(k 15 (by omega)).2,(k 8 (by omega)).2]; exact h.p1}
 {rw[(k 18 (by omega)).1,(k 8 (by omega)).2]; exact h.c3}
 {rw[(k 21 (by omega)).1,(k 15 (by omega)).2]; exact h.c4}
theorem Good.set_lt (h:X.Good) {b:Nat} (hb:X.set b):b < X.W0.heap.size:=by
 rcases hb with rfl | hb | hb
 {have:=h.gh; have:=h.hw; have:=h.pw; omega}
 {exact (Z09 h.rN b hb).2}
 {exact (Z09 h.rP b hb).2}
theorem PI.box (h:X.PI d u W) (hX:X.Good):Sh5 W X.pb 0 X.x.1 X.x.2:=
 hX.box.of (fun k=>h.up.cell hX.pw (fun hs=>by
  rcases hs with hs | hs | hs
  {have:=hX.gh; have:=hX.hw; omega}
  {exact hX.bn hs}
  · exact hX.bp hs))
theorem PI.new (h:X.PI d u W) (hX:X.Good) (hb:Below W.heap.size W W'):X.PI d u W':=by
 have hgm:X.gm < W.heap.size:=by have:=hX.gh; have:=hX.hw; have:=hX.pw; have:=h.up.size; omega
 have hu:Upd (fun _=>False) W W':=Upd.new hb;refine ⟨h.vals,h.up.trans (hu.mono (fun _ _ h=>h.elim)),fun h7=> ?_,fun h14=> ?_,fun h8=>Z0l (h.n0 h8) hu (fun _ _ h=>h),fun h8=> ?_,fun h15=>Z0l (h.p0 h15) hu (fun _ _ h=>h),fun h15=> ?_,
  (hu.cell hgm (fun h=>h)).trans h.c3,(hu.cell hgm (fun h=>h)).trans h.c4,fun j hj=>(hu.cell hgm (fun h=>h)).trans (h.cr j hj),fun j=>(hu.frozen hgm (fun h=>h)).trans (h.fz j)⟩
 {obtain ⟨z,e,z1,z2,z3⟩:=h.f7 h7;exact ⟨z,e,z1,Nat.lt_of_lt_of_le z2 hu.size,(hu.cell z2 (fun h=>h)).trans z3⟩}
 {obtain ⟨z,e,z1,z2,z3⟩:=h.f14 h14;exact ⟨z,e,z1,Nat.lt_of_lt_of_le z2 hu.size,fun j v hv=>(hu.cell z2 (fun h=>h)).trans (z3 j v hv)⟩}
 {obtain ⟨g,c,e,r,n⟩:=h.n1 h8;exact ⟨g,c,e,Z0l r hu (fun _ _ h=>h),n⟩}
 {obtain ⟨g,c,e,r,n⟩:=h.p1 h15;exact ⟨g,c,e,Z0l r hu (fun _ _ h=>h),n⟩}
theorem PI.s7 (h:X.PI d u W) (hX:X.Good):X.PI (also d 7) (upd u 7 (.slice (some ⟨W.heap.size,0,none⟩) 1 1)) (W.alloc (.cells #[.string ⟨X.nm.toArray⟩] 9)):=by
 have hn:=h.new hX (Z01 W (.cells #[.string ⟨X.nm.toArray⟩] 9));have k: ∀j,j≠7->also d 7 j=d j/\ ∀v,upd u 7 v j=u j:=fun j hj=>⟨Z0g d hj,fun v=>Z0b u v hj⟩;have hs:=h.up.size;refine ⟨hn.vals' (fun v' h=>by cases h),hn.up,fun _=>⟨W.heap.size,Z0q _ _ _,hs,by simp,by simp[go_sem]⟩, ?_, ?_, ?_, ?_, ?_, ?_, ?_,hn.cr,hn.fz⟩
 {rw[(k 14 (by omega)).1,(k 14 (by omega)).2]; exact hn.f14}
 {rw[(k 8 (by omega)).1]; exact hn.n0}
 {rw[(k 8 (by omega)).1,(k 8 (by omega)).2]; exact hn.n1}
 {rw[(k 15 (by omega)).1]; exact hn.p0}
 {rw[(k 15 (by omega)).1,(k 15 (by omega)).2,(k 8 (by omega)).2]; exact hn.p1}
 {rw[(k 18 (by omega)).1,(k 8 (by omega)).2]; exact hn.c3}
 {rw[(k 21 (by omega)).1,(k 15 (by omega)).2]; exact hn.c4}
theorem PI.s8 (h:X.PI d u W) (hX:X.Good) (h8:d 8=false) (h15:d 15=false) (h18:d 18=false) {g c:Nat} (hown:W'.ownsRow X.hi 9 1 (.slice (some ⟨g,0,none⟩) (X.nl.length+1) c) (X.nl.length+1) (namesE X.nl++ [.string ⟨X.nm.toArray⟩]))
 (hg:W.grownBy W' (rowB X.AN)) (hat:rowB X.AN=some g\/g=W.heap.size):X.PI (also d 8) (upd u 8 (.slice (some ⟨g,0,none⟩) (X.nl.length+1) c)) W':=by
 have k: ∀j,j≠8->also d 8 j=d j/\ ∀v,upd u 8 v j=u j:=fun j hj=>⟨Z0g d hj,fun v=>Z0b u v hj⟩;have hu:Upd (fun b=>rowB X.AN=some b) W W':=(Upd.refl _ W).grown hg (fun k h _=>h);have hgm:X.gm < W.heap.size:=by have:=hX.gh; have:=hX.hw; have:=hX.pw; have:=h.up.size; omega
 have hgN: ¬rowB X.AN=some X.gm:=fun e=>by have:=(Z09 hX.rN _ e).1; have:=hX.gh; omega
 have hnz: ∀z,X.W0.heap.size<=z-> ¬rowB X.AN=some z:=fun z hz e=>by have:=(Z09 hX.rN _ e).2; omega
 have hs:=h.up.size;refine ⟨h.vals' (fun v' h=>by cases h),h.up.trans (hu.mono (fun b _ hb=>Or.inr (Or.inl hb))), ?_, ?_, ?_, ?_, ?_, ?_, ?_, ?_,fun j hj=>(hu.cell hgm hgN).trans (h.cr j hj),fun j=>(hu.frozen hgm hgN).trans (h.fz j)⟩
 {rw[(k 7 (by omega)).1,(k 7 (by omega)).2];intro h7;obtain ⟨z,e,z1,z2,z3⟩:=h.f7 h7;exact ⟨z,e,z1,Nat.lt_of_lt_of_le z2 hu.size,(hu.cell z2 (hnz z z1)).trans z3⟩}
 {rw[(k 14 (by omega)).1,(k 14 (by omega)).2];intro h14;obtain ⟨z,e,z1,z2,z3⟩:=h.f14 h14;exact ⟨z,e,z1,Nat.lt_of_lt_of_le z2 hu.size,fun j v hv=>(hu.cell z2 (hnz z z1)).trans (z3 j v hv)⟩}
 {rw[Z0o]; nofun}
 {exact fun _=>⟨g,c,Z0q _ _ _,hown,hat.imp id (fun e=>by omega)⟩}
 {exact fun _=>Z0l (h.p0 h15) hu (fun b hb e=>by
   rcases hX.ne with hne | hne
   {rw[hne] at e; cases e}
   · exact hne (e.trans hb.symm))}
 {rw[(k 15 (by omega)).1,h15]; nofun}
 {rw[(k 18 (by omega)).1,h18];have:=h.c3;rw[h18] at this;exact (hu.cell hgm hgN).trans this}
 {rw[(k 21 (by omega)).1,(k 15 (by omega)).2];exact (hu.cell hgm hgN).trans h.c4}
theorem not_gm (hX:X.Good) {W':World} {g n c e s m:Nat} {xs:List Value} (r:W'.ownsRow X.hi e s (.slice (some ⟨g,0,none⟩) n c) m xs) {b:Nat} (hb:rowB (some ⟨g,0,none⟩)=some b) (he:b=X.gm):False:=by
 have e1:g=b:=by simpa[rowB] using hb
 have h1:=(r.lt g rfl).1;have:=hX.gh;omega
theorem PI.sto (h:X.PI d u W) (hX:X.Good) (h8:d 8=true) (h15:d 15=true) (i f:Nat) (hi:i=18/\f=3\/i=21/\f=4) (hd:d i=false):X.PI (also d i) (upd u i undef) (W.setCell ⟨X.gm,f,none⟩ (if i=18 then u 8 else u 15)):=by
 have k: ∀j,j≠i->also d i j=d j/\ ∀v,upd u i v j=u j:=fun j hj=>⟨Z0g d hj,fun v=>Z0b u v hj⟩;have hgm:X.gm < W.heap.size:=by have:=hX.gh; have:=hX.hw; have:=hX.pw; have:=h.up.size; omega
 obtain ⟨g8,c8,e8,r8,n8⟩:=h.n1 h8;obtain ⟨g15,c15,e15,r15,n15,m15⟩:=h.p1 h15;have hu:Upd (fun b=>b=X.gm) W (W.setCell ⟨X.gm,f,none⟩ (if i=18 then u 8 else u 15)):=Upd.set (Upd.refl (fun b=>b=X.gm) W) ⟨X.gm,f,none⟩ (fun _=>rfl) _;have far: ∀j,j≠f->(W.setCell ⟨X.gm,f,none⟩ (if i=18 then u 8 else u 15)).cell? ⟨X.gm,j,none⟩=W.cell? ⟨X.gm,j,none⟩:=fun j hj=>World.cell?_setCell_other _ _ _ _ (fun e=>by have:=congrArg Addr.off e; simp at this; omega);have hz: ∀z,X.W0.heap.size<=z-> ¬z=X.gm:=fun z hz e=>by have:=hX.gh; have:=hX.hw; have:=hX.pw; omega
 refine ⟨h.vals' (fun v' h=>by rcases hi with ⟨rfl,_⟩ | ⟨rfl,_⟩ <;> cases h),h.up.trans (hu.mono (fun b _ hb=>Or.inl hb)), ?_, ?_, ?_, ?_, ?_, ?_, ?_, ?_,fun j hj=>(far j (by omega)).trans (h.cr j hj),fun j=>(World.frozen?_setCell ..).trans (h.fz j)⟩
 {rw[(k 7 (by omega)).1,(k 7 (by omega)).2];intro h7;obtain ⟨z,e,z1,z2,z3⟩:=h.f7 h7;exact ⟨z,e,z1,Nat.lt_of_lt_of_le z2 hu.size,(hu.cell z2 (hz z z1)).trans z3⟩}
 {rw[(k 14 (by omega)).1,(k 14 (by omega)).2];intro h14;obtain ⟨z,e,z1,z2,z3⟩:=h.f14 h14;exact ⟨z,e,z1,Nat.lt_of_lt_of_le z2 hu.size,fun j v hv=>(hu.cell z2 (hz z z1)).trans (z3 j v hv)⟩}
 {rw[(k 8 (by omega)).1,h8]; nofun}
 {rw[(k 8 (by omega)).2];exact fun _=>⟨g8,c8,e8,Z0l r8 hu (fun b hb e=>not_gm hX r8 hb e),n8⟩}
 {rw[(k 15 (by omega)).1,h15]; nofun}
 {rw[(k 15 (by omega)).2,(k 8 (by omega)).2];exact fun _=>⟨g15,c15,e15,Z0l r15 hu (fun b hb e=>not_gm hX r15 hb e),n15,m15⟩}
 {rw[(k 8 (by omega)).2];rcases hi with ⟨rfl,rfl⟩ | ⟨rfl,rfl⟩
  {rw[Z0o,if_pos rfl,if_pos rfl];exact World.cell?_setCell_same _ _ _ h.c3}
  {rw[(k 18 (by omega)).1];exact (far 3 (by omega)).trans h.c3}}
 {rw[(k 15 (by omega)).2];rcases hi with ⟨rfl,rfl⟩ | ⟨rfl,rfl⟩
  {rw[(k 21 (by omega)).1];exact (far 4 (by omega)).trans h.c4}
  {rw[Z0o,if_pos rfl,if_neg (by omega)];exact World.cell?_setCell_same _ _ _ h.c4}}
end PX
end SubM
end Go.Proofs.YtkhoflciahkphaaGreatDoor
namespace Go.Proofs.YtkhoflciahkphaaGreatDoor
open Go.RowKit Shp Sub
namespace SubM
theorem Z0z {ops:Array Oper} {d:Nat->Bool} (hs:Shutd ops d) {k m:Nat} {o:Oper} (ho:ops[k]? =some o) (hw:waits o m=true) (hm:d m=false):d k=false:=by
 cases h:d k with
 | false=>rfl
 | true=>rw[hs k o ho h m hw] at hm; cases hm
def PutOk (W:World) (gm:Nat) (AN AP:Option Addr) (AN' AP':Option Addr) (W':World):Prop:=
 Upd (fun b=>b=gm\/rowB AN=some b\/rowB AP=some b) W W'/\(∀b,rowB AN'=some b->rowB AN=some b\/W.heap.size<=b)/\(∀b,rowB AP'=some b->rowB AP=some b\/W.heap.size<=b)
end SubM
end Go.Proofs.YtkhoflciahkphaaGreatDoor
namespace Go.Proofs.YtkhoflciahkphaaGreatDoor
open Go.RowKit Shp Sub
namespace SubM
namespace RX
def lay (W:World) (g:Nat) (t:Sh) (q:Ptr):World:=
 ((((W.setCell ⟨g,0,none⟩ (.int .i64 t.kind)).setCell ⟨g,1,none⟩ (.string ⟨t.of_.toArray⟩)).setCell ⟨g,2,none⟩ (.string ⟨t.name.toArray⟩)).setCell ⟨g,3,none⟩ (.slice q.A t.names.length q.c)).setCell ⟨g,4,none⟩ (.slice q.P t.parts.length q.d)
section
variable (W : World) (g : Nat) (t : Sh) (q : Ptr)
include W g t q
theorem lay_upd:Upd (fun b=>b=g) W (lay W g t q):=
 Upd.set (Upd.set (Upd.set (Upd.set (Upd.set (Upd.refl (fun b=>b=g) W) ⟨g,0,none⟩ (fun _=>rfl) _) ⟨g,1,none⟩ (fun _=>rfl) _) ⟨g,2,none⟩ (fun _=>rfl) _) ⟨g,3,none⟩ (fun _=>rfl) _) ⟨g,4,none⟩ (fun _=>rfl) _
theorem lay_size: (lay W g t q).heap.size=W.heap.size:=by simp[lay,World.setCell]
theorem lay_fz (j:Nat): (lay W g t q).frozen? ⟨g,j,none⟩=W.frozen? ⟨g,j,none⟩:=by
 unfold lay; rw[World.frozen?_setCell,World.frozen?_setCell,World.frozen?_setCell,World.frozen?_setCell,World.frozen?_setCell]
end
theorem soc {W:World} {b x y:Nat} {v:Value} (h:x≠y): (W.setCell ⟨b,x,none⟩ v).cell? ⟨b,y,none⟩=W.cell? ⟨b,y,none⟩:=World.cell?_setCell_other _ _ _ _ (fun e=>by have:=congrArg Addr.off e; simp at this; omega)
theorem lay_at {W:World} {g:Nat} (t:Sh) (q:Ptr) (h: ∀j,j < 5-> ∃v,W.cell? ⟨g,j,none⟩=some v):Sh5 (lay W g t q) g 0 t q:=by
 obtain ⟨v0,h0⟩:=h 0 (by omega);obtain ⟨v1,h1⟩:=h 1 (by omega);obtain ⟨v2,h2⟩:=h 2 (by omega);obtain ⟨v3,h3⟩:=h 3 (by omega);obtain ⟨v4,h4⟩:=h 4 (by omega);unfold lay Sh5;simp only[Nat.zero_add];refine ⟨?_, ?_, ?_, ?_, ?_⟩
 {rw[soc (by omega),soc (by omega),soc (by omega),soc (by omega)]; exact World.cell?_setCell_same _ _ _ h0}
 {rw[soc (by omega),soc (by omega),soc (by omega)]; exact World.cell?_setCell_same _ _ _ (by rw[soc (by omega)]; exact h1)}
 {rw[soc (by omega),soc (by omega)]; exact World.cell?_setCell_same _ _ _ (by rw[soc (by omega),soc (by omega)]; exact h2)}
 {rw[soc (by omega)]; exact World.cell?_setCell_same _ _ _ (by rw[soc (by omega),soc (by omega),soc (by omega)]; exact h3)}
 {exact World.cell?_setCell_same _ _ _ (by rw[soc (by omega),soc (by omega),soc (by omega),soc (by omega)]; exact h4)}
end RX
theorem Zar {t' t:Sh} {q' q:Ptr} (h:sv t' q'=sv t q):t'.kind=t.kind/\t'.of_=t.of_/\t'.name=t.name/\q'.A=q.A/\t'.names.length=t.names.length/\q'.c=q.c/\q'.P=q.P/\t'.parts.length=t.parts.length/\q'.d=q.d:=by
 simp[sv] at h;exact ⟨h.1,h.2.1,h.2.2.1,h.2.2.2.1.1,h.2.2.2.1.2.1,h.2.2.2.1.2.2,h.2.2.2.2.1,h.2.2.2.2.2.1,h.2.2.2.2.2.2⟩
theorem Kept.move {S S' T:Nat->Prop} {W W':World} {x:El} (h:Kept S W x) (hu:Upd T W W') (hd: ∀b,b < W.heap.size->S b-> ¬T b/\S' b):Kept S' W' x:=fun W2 h1 h2=>
 h W2 (Nat.le_trans hu.size h1) (fun b hb hs=>(h2 b (Nat.lt_of_lt_of_le hb hu.size) (hd b hb hs).2).trans (hu.block b hb (hd b hb hs).1))
structure KNs (w0:World) (n0 gm hi pf:Nat) (fv:Value) (k:Int) (ok:Bool) (L:List Fld) (l:List El) (AN:Option Addr) (cN:Nat) (AP:Option Addr) (cP:Nat) (W:World):Prop where
 mm:Mk w0 gm hi k [] [] (L.map Prod.fst) l AN cN AP cP W
 eq:l.map Prod.fst=L.map Prod.snd
 kp:ok=true-> ∀x∈l,Kept (Free n0 hi AN AP) W x
 fc:W.cell? ⟨pf,0,none⟩=some fv
def KN (w0:World) (n0 gm hi pf:Nat) (fv:Value) (k:Int) (ok:Bool) (L:List Fld) (W:World):Prop:= ∃l AN cN AP cP,KNs w0 n0 gm hi pf fv k ok L l AN cN AP cP W
section
variable {w0 W W' : World} {n0 gm hi pf : Nat} {fv : Value} {k : Int} {ok : Bool} {L : List Fld} {l : List El} {AN AP : Option Addr} {cN cP : Nat}
theorem KNs.len (h:KNs w0 n0 gm hi pf fv k ok L l AN cN AP cP W):l.length=L.length:=by have:=congrArg List.length h.eq; simpa using this
theorem KNs.new (h:KNs w0 n0 gm hi pf fv k ok L l AN cN AP cP W) (hpf:pf < hi) (hb:Below W.heap.size W W'):KNs w0 n0 gm hi pf fv k ok L l AN cN AP cP W':=
 ⟨h.mm.new hb,h.eq,fun ho x hx=>(h.kp ho x hx).upd (T:=fun _=>False) (Upd.new hb) (fun _ _ _ h=>h),(hb.cell (p:=⟨pf,0,none⟩) (Nat.lt_of_lt_of_le hpf h.mm.hw)).trans h.fc⟩
theorem KNs.mid {T:Nat->Prop} (h:KNs w0 n0 gm hi pf fv k ok L l AN cN AP cP W) (hu:Upd T W W') (hT: ∀b,T b->gm < b/\pf < b/\b < hi) (hn:n0<=gm) (hpf:pf < hi):KNs w0 n0 gm hi pf fv k ok L l AN cN AP cP W':=by
 have hg:=h.mm.gh;refine ⟨h.mm.upd hu (fun b hb ht=> ?_) (fun ht=> ?_) (fun b hb ht=> ?_) (fun b hb ht=> ?_),h.eq,fun ho x hx=>(h.kp ho x hx).upd hu (fun b hb hf ht=> ?_),(hu.cell (Nat.lt_of_lt_of_le hpf h.mm.hw) (fun ht=> ?_)).trans h.fc⟩
 {have:=(hT b ht).1; have:=h.mm.lo; omega}
 {have:=(hT gm ht).1; omega}
 {have:=(hT b ht).2.2; have:=(Z09 h.mm.rN b hb).1; omega}
 {have:=(hT b ht).2.2; have:=(Z09 h.mm.rP b hb).1; omega}
 {have:=hT b ht;rcases hf with hf | hf
  {omega}
  {have:=hf.1; omega}}
 {have:=(hT pf ht).2.1; omega}
theorem KN.mid {T:Nat->Prop} (h:KN w0 n0 gm hi pf fv k ok L W) (hu:Upd T W W') (hT: ∀b,T b->gm < b/\pf < b/\b < hi) (hn:n0<=gm) (hpf:pf < hi):KN w0 n0 gm hi pf fv k ok L W':=by
 obtain ⟨l,AN,cN,AP,cP,h⟩:=h;exact ⟨l,AN,cN,AP,cP,h.mid hu hT hn hpf⟩
theorem KNs.put (h:KNs w0 n0 gm hi pf fv k ok L l AN cN AP cP W) (hn:n0<=gm) (hpf:pf < hi) (hpg:pf≠gm) {nm:List UInt8} {t:Sh} {q:Ptr} {ok':Bool} (hok:ok'=true->ok=true) (hkp:ok'=true->Kept (Free n0 hi AN AP) W (t,q))
 {AN' AP':Option Addr} {cN' cP':Nat} (hm:Mk w0 gm hi k [] [] (L.map Prod.fst++ [nm]) (l++ [(t,q)]) AN' cN' AP' cP' W') (hp:PutOk W gm AN AP AN' AP' W'):KN w0 n0 gm hi pf fv k ok' (L++ [(nm,t)]) W':=by
 obtain ⟨hu,h1,h2⟩:=hp;have hg:=h.mm.gh;have key: ∀x,Kept (Free n0 hi AN AP) W x->Kept (Free n0 hi AN' AP') W' x:=fun x hx=>hx.move hu (fun b hb hf=>by
  refine ⟨fun ht=> ?_, ?_⟩
  {rcases hf with hf | ⟨hf,f1,f2⟩
   {rcases ht with ht | ht | ht
    {omega}
    {have:=(Z09 h.mm.rN b ht).1; omega}
    {have:=(Z09 h.mm.rP b ht).1; omega}}
   {rcases ht with ht | ht | ht
    {omega}
    {exact f1 ht}
    {exact f2 ht}}}
  · rcases hf with hf | ⟨hf,f1,f2⟩
    {exact Or.inl hf}
    · exact Or.inr ⟨hf,fun e=>(h1 b e).elim f1 (fun h=>by omega),fun e=>(h2 b e).elim f2 (fun h=>by omega)⟩)
 refine ⟨l++ [(t,q)],AN',cN',AP',cP',⟨by rw[List.map_append]; exact hm,by rw[List.map_append,List.map_append,h.eq]; rfl,fun ho x hx=> ?_, ?_⟩⟩
 {rcases List.mem_append.1 hx with hx | hx
  {exact key x (h.kp (hok ho) x hx)}
  {rw[List.mem_singleton.1 hx]; exact key _ (hkp ho)}}
 {refine (hu.cell (Nat.lt_of_lt_of_le hpf h.mm.hw) (fun ht=> ?_)).trans h.fc;rcases ht with ht | ht | ht
  {exact hpg ht}
  {have:=(Z09 h.mm.rN pf ht).1; omega}
  {have:=(Z09 h.mm.rP pf ht).1; omega}}
end
abbrev noneQ12:Ptr:=⟨none,0,none,0⟩
structure St0 (w0:World) (gm pf:Nat) (fv:Value) (k:Int) (W:World):Prop where
 up:Below w0.heap.size w0 W
 lo:w0.heap.size<=gm
 gw:gm < W.heap.size
 c5:Sh5 W gm 0 ⟨k,[],[],[],[]⟩ noneQ12
 fz: ∀j,W.frozen? ⟨gm,j,none⟩=false
 pw:pf < W.heap.size
 fc:W.cell? ⟨pf,0,none⟩=some fv
section
variable {w0 W W' : World} {n0 gm hi pf : Nat} {fv : Value} {k : Int}
theorem St0.mid {T:Nat->Prop} (h:St0 w0 gm pf fv k W) (hu:Upd T W W') (hT: ∀b,T b->gm < b/\pf < b):St0 w0 gm pf fv k W':=by
 have h1: ¬T gm:=fun ht=>by have:=(hT gm ht).1; omega
 have h2: ¬T pf:=fun ht=>by have:=(hT pf ht).2; omega
 exact ⟨h.up.trans (hu.below h.up.size (fun b hb=>by have:=(hT b hb).1; have:=h.lo; omega)),h.lo,Nat.lt_of_lt_of_le h.gw hu.size,h.c5.of (fun k=>hu.cell h.gw h1),fun j=>(hu.frozen h.gw h1).trans (h.fz j),Nat.lt_of_lt_of_le h.pw hu.size,(hu.cell h.pw h2).trans h.fc⟩
theorem St0.kn (h:St0 w0 gm pf fv k W) (hg:gm < hi) (hw:hi<=W.heap.size) (ok:Bool):KN w0 n0 gm hi pf fv k ok [] W:=by
 obtain ⟨c0,c1,c2,c3,c4⟩:=h.c5;simp only[Nat.zero_add] at c0 c1 c2 c3 c4;exact ⟨[],none,0,none,0,⟨⟨h.up,h.lo,hg,hw,c0,c1,c2,c3,c4,h.fz,World.ownsRow_nil _ _ _ _,World.ownsRow_nil _ _ _ _,Or.inl rfl⟩,rfl,fun _ x hx=>absurd hx (by simp),h.fc⟩⟩
theorem St0.fin (h:St0 w0 gm pf fv k W) (S:Nat->Prop):Sh5 W gm 0 (made k []) noneQ12/\Kept S W (made k [],noneQ12):=
 ⟨h.c5,fun W' _ _=> .mk _ _ 0 0 (fun _=>noneQ12) ⟨by simp[made],by simp[made],by simp[made],by simp[made],by simp[made],by simp[made],by simp[made],fun _=>rfl,fun _=>rfl⟩ (Or.inl rfl) (Or.inl rfl) (fun i hi=>by simp[made] at hi) (fun i hi=>by simp[made] at hi)⟩
section
variable {ok : Bool} {L : List Fld} (h : KN w0 n0 gm hi pf fv k ok L W)
include ok L h
theorem KN.fin: ∃q,Sh5 W gm 0 (made k L) q/\(ok=true->(∀x∈L.map Prod.fst,x.length<=1000)->L.length<=1000->Kept (fun b=>b < n0\/hi<=b) W (made k L,q)):=by
 obtain ⟨l,AN,cN,AP,cP,h⟩:=h;have he: (⟨k,[],[],L.map Prod.fst,l.map Prod.fst⟩:Sh)=made k L:=by rw[h.eq]; rfl
 refine ⟨⟨AN,cN,AP,cP⟩, ?_,fun ho hx hl=> ?_⟩
 {have hlen:=h.len;refine ⟨h.mm.c0,h.mm.c1,h.mm.c2,h.mm.c3, ?_⟩;have:=h.mm.c4;simp only[made,List.length_map];rw[hlen] at this;exact this}
 {have hlen:=h.len;have:=h.mm.at_ (n0:=n0) (h.kp ho) (by simp) (by simp) (fun x hm=>by have:=hx x hm; omega) (by rw[List.length_map]; omega) (by omega);rw[he] at this;exact this}
theorem KN.below:Below w0.heap.size w0 W/\gm < W.heap.size/\hi<=W.heap.size:=by
 obtain ⟨l,AN,cN,AP,cP,h⟩:=h;exact ⟨h.mm.up,Nat.lt_of_lt_of_le h.mm.gh h.mm.hw,h.mm.hw⟩
end
end
theorem Z9u {a b:Sh} (A:Rec a) (B:Rec b): (calls a b).length<=a.names.length+b.names.length:=by
 unfold calls;rw[List.length_append,Z2e A];have: (callsB a b).length<=b.names.length:=by
  unfold callsB;rw[List.length_map];exact Nat.le_trans (List.length_filter_le _ _) (by rw[List.length_zip]; omega)
 omega
theorem Two.ln {f:Nat} {a b:Sh} (h:Two f a b) (A:Rec a):a.names.length<=400:=by rw[A.l]; have:=h.sa; have:=Z0O a.parts; rw[size_eq] at *; omega
theorem Z6a {n:List UInt8} (h:Lex.isName n=true):n.length<=1000:=by have:=Z2X h; omega
structure Rc (rc:Nat) (W:World):Prop where
 lt:rc < W.heap.size
 ex: ∀j,j < 5-> ∃v,W.cell? ⟨rc,j,none⟩=some v
 fz: ∀j,W.frozen? ⟨rc,j,none⟩=false
theorem Rc.upd {T:Nat->Prop} {rc:Nat} {W W':World} (h:Rc rc W) (hu:Upd T W W') (hT: ¬T rc):Rc rc W':=
 ⟨Nat.lt_of_lt_of_le h.lt hu.size,fun j hj=>by
  obtain ⟨v,hv⟩:=h.ex j hj;exact ⟨v,(hu.cell h.lt hT).trans hv⟩,fun j=>(hu.frozen h.lt hT).trans (h.fz j)⟩
theorem Z3G {W W':World} (h:W'=W.alloc (.cells Yb 25)):Rc W.heap.size W':=by
 subst h;refine ⟨by simp,fun j hj=> ?_,fun j=>by simp[go_sem]⟩;rcases j with _ | _ | _ | _ | _ | j
 {exact ⟨.int .i64 0,by simp[go_sem]⟩}
 {exact ⟨.string ⟨#[]⟩,by simp[go_sem]⟩}
 {exact ⟨.string ⟨#[]⟩,by simp[go_sem]⟩}
 {exact ⟨.slice none 0 0,by simp[go_sem]⟩}
 {exact ⟨.slice none 0 0,by simp[go_sem]⟩}
 {omega}
end SubM
end Go.Proofs.YtkhoflciahkphaaGreatDoor
namespace Go.Proofs.YtkhoflciahkphaaGreatDoor
open Go.RowKit Shp Sub
namespace SubM
def Z0u:List Value:= [.int .i64 0,.string ⟨#[]⟩,.string ⟨#[]⟩,.slice none 0 0,.slice none 0 0]
theorem Z8s: ∀u∈Z0u,u.oneCell'=true:=by
 intro u hu;simp only[Z0u,List.mem_cons,List.not_mem_nil,or_false] at hu;rcases hu with rfl | rfl | rfl | rfl | rfl <;> rfl
def layO (W:World) (g i:Nat) (x:El):World:=(((((W).setCell ⟨g,i+0,none⟩ (.int .i64 x.1.kind)).setCell ⟨g,i+1,none⟩ (.string ⟨x.1.of_.toArray⟩)).setCell ⟨g,i+2,none⟩ (.string ⟨x.1.name.toArray⟩)).setCell ⟨g,i+3,none⟩ (.slice x.2.A x.1.names.length x.2.c)).setCell ⟨g,i+4,none⟩ (.slice x.2.P x.1.parts.length x.2.d)
theorem Z3d {a b c:World} {r:Option Nat} (h:a.grownBy b r) (k:b.grownBy c r):a.grownBy c r:=
 ⟨k.os.trans h.os,k.tape.trans h.tape,k.output.trans h.output,Nat.le_trans h.size k.size,fun j hj hr=>(k.block j (Nat.lt_of_lt_of_le hj h.size) hr).trans (h.block j hj hr)⟩
theorem Z7q {W:World} (x:El) {g cp n B:Nat} {ys:List Value} (hn:ys.length=n * 5) (h:W.ownsRow B 25 5 (.slice (some ⟨g,0,none⟩) (n+1) cp) (n+1) (ys++Z0u)):
 (layO W g (n * 5) x).ownsRow B 25 5 (.slice (some ⟨g,0,none⟩) (n+1) cp) (n+1) (ys++Z0m x)/\W.grownBy (layO W g (n * 5) x) (some g):=by
 obtain ⟨h0,g0⟩:=World.ownsRow.stored h (n * 5+0) (.int .i64 x.1.kind);obtain ⟨h1,g1⟩:=World.ownsRow.stored h0 (n * 5+1) (.string ⟨x.1.of_.toArray⟩);obtain ⟨h2,g2⟩:=World.ownsRow.stored h1 (n * 5+2) (.string ⟨x.1.name.toArray⟩);obtain ⟨h3,g3⟩:=World.ownsRow.stored h2 (n * 5+3) (.slice x.2.A x.1.names.length x.2.c);obtain ⟨h4,g4⟩:=World.ownsRow.stored h3 (n * 5+4) (.slice x.2.P x.1.parts.length x.2.d);refine ⟨?_,(Z3d (Z3d (Z3d (Z3d g0 g1) g2) g3) g4)⟩;have hs: ∀(zs:List Value) (k:Nat) (v:Value),(ys++zs).set (n * 5+k) v=ys++zs.set k v:=fun zs k v=>by rw[<-hn,List.set_append_right _ _ (by omega),Nat.add_sub_cancel_left]
 rw[hs,hs,hs,hs,hs] at h4;exact h4
theorem Z2r {W:World} {g cp n B:Nat} {ys:List Value} (hn:ys.length=n * 5) (h:W.ownsRow B 25 5 (.slice (some ⟨g,0,none⟩) (n+1) cp) (n+1) (ys++Z0u)) (k:Nat) (hk:k < 5): ∃v,W.cell? ⟨g,n * 5+k,none⟩=some v/\W.frozen? ⟨g,n * 5+k,none⟩=false:=by
 have h1:=h.cellAt (n * 5+k) (by rw[Nat.add_mul]; omega);rw[List.getElem?_append_right (by omega),hn,Nat.add_sub_cancel_left] at h1;have h2:k < Z0u.length:=hk;rw[List.getElem?_eq_getElem h2] at h1;exact ⟨_,h1,h.frozenAt _⟩
structure QX where
 W0:World
 gm:Nat
 hi:Nat
 gp:Nat
 AP:Option Addr
 cP:Nat
 l:List El
 x:El
namespace QX
variable (X : QX)
def val (j:Nat):Option Value:=match j with
 | 0 | 8=>some (.pointer (some ⟨X.gm,4,none⟩))
 | 1=>some (.slice X.AP X.l.length X.cP)
 | 2=>some (sv X.x.1 X.x.2)
 | 3=>some (.int .i64 (X.l.length:Int))
 | _=>none
def set (b:Nat):Prop:=b=X.gm\/rowB X.AP=some b
structure Good:Prop where
 gh:X.gm < X.hi
 hw:X.hi<=X.gp
 pw:X.gp < X.W0.heap.size
 c4:X.W0.cell? ⟨X.gm,4,none⟩=some (.slice X.AP X.l.length X.cP)
 fz: ∀j,X.W0.frozen? ⟨X.gm,j,none⟩=false
 rP:X.W0.ownsRow X.hi 25 5 (.slice X.AP X.l.length X.cP) X.l.length (cellsE X.l)
 bp:rowB X.AP≠some X.gp
 box:Sh5 X.W0 X.gp 0 X.x.1 X.x.2
 ll:X.l.length<=1000
structure QI (d:Nat->Bool) (u:Nat->Value) (W:World):Prop where
 vals: ∀j,d j=true-> ∀v,X.val j=some v->u j=v
 up:Upd X.set X.W0 W
 f4:d 4=true->d 5=false-> ∃z,u 4= .slice (some ⟨z,0,none⟩) 1 1/\X.W0.heap.size<=z/\z < W.heap.size/\ ∀(j:Nat) v,Z0u[j]? =some v->W.cell? ⟨z,j,none⟩=some v
 p0:d 5=false->W.ownsRow X.hi 25 5 (.slice X.AP X.l.length X.cP) X.l.length (cellsE X.l)
 p1:d 5=true-> ∃g c,u 5= .slice (some ⟨g,0,none⟩) (X.l.length+1) c/\W.ownsRow X.hi 25 5 (.slice (some ⟨g,0,none⟩) (X.l.length+1) c) (X.l.length+1) (cellsE X.l++if d 7=true then Z0m X.x else Z0u)/\(rowB X.AP=some g\/X.W0.heap.size<=g)/\
  (d 6=true->u 6= .pointer (some ⟨g,X.l.length * 5,none⟩))
 c4:W.cell? ⟨X.gm,4,none⟩=some (if d 9=true then u 5 else .slice X.AP X.l.length X.cP)
 cr: ∀j,j < 4->W.cell? ⟨X.gm,j,none⟩=X.W0.cell? ⟨X.gm,j,none⟩
 fz: ∀j,W.frozen? ⟨X.gm,j,none⟩=false
variable {X : QX} {d : Nat -> Bool} {u : Nat -> Value} {W W' : World}
theorem QI.vals' (h:X.QI d u W) {i:Nat} {v:Value} (hv: ∀v',X.val i=some v'->v=v'): ∀j,also d i j=true-> ∀v',X.val j=some v'->upd u i v j=v':=fun j hj v' hv'=>by
 by_cases hij:j=i
 {subst hij; rw[Z0q]; exact hv v' hv'}
 {rw[Z0g d hij] at hj; rw[Z0b u v hij]; exact h.vals j hj v' hv'}
theorem Good.start (h:X.Good):X.QI (fun _=>false) u X.W0.drew:=
 ⟨nofun,(Upd.refl _ _).drew,nofun,fun _=>h.rP,nofun,h.c4,fun _ _=>rfl,h.fz⟩
theorem QI.pure (h:X.QI d u W) {i:Nat} (hi:i≠4/\i≠5/\i≠6/\i≠7/\i≠9) {v:Value} (hv: ∀v',X.val i=some v'->v=v'):X.QI (also d i) (upd u i v) W:=by
 have k: ∀j,j=4\/j=5\/j=6\/j=7\/j=9->also d i j=d j/\upd u i v j=u j:=fun j hj=>⟨Z0g d (by omega),Z0b u v (by omega)⟩;refine ⟨h.vals' hv,h.up, ?_, ?_, ?_, ?_,h.cr,h.fz⟩
 {rw[(k 4 (by omega)).1,(k 4 (by omega)).2,(k 5 (by omega)).1]; exact h.f4}
 {rw[(k 5 (by omega)).1]; exact h.p0}
 {rw[(k 5 (by omega)).1,(k 5 (by omega)).2,(k 7 (by omega)).1,(k 6 (by omega)).1,(k 6 (by omega)).2]; exact h.p1}
 {rw[(k 9 (by omega)).1,(k 5 (by omega)).2]; exact h.c4}
theorem QI.box (h:X.QI d u W) (hX:X.Good):Sh5 W X.gp 0 X.x.1 X.x.2:=
 hX.box.of (fun k=>h.up.cell hX.pw (fun hs=>by
  rcases hs with hs | hs
  {have:=hX.gh; have:=hX.hw; omega}
  · exact hX.bp hs))
theorem QI.gmw (h:X.QI d u W) (hX:X.Good):X.gm < W.heap.size:=by have:=hX.gh; have:=hX.hw; have:=hX.pw; have:=h.up.size; omega
theorem not_gm (hX:X.Good) {W':World} {g n c e s m:Nat} {xs:List Value} (r:W'.ownsRow X.hi e s (.slice (some ⟨g,0,none⟩) n c) m xs):g≠X.gm:=by
 have h1:=(r.lt g rfl).1;have:=hX.gh;omega
section
variable (h : X.QI d u W) (hX : X.Good)
include h hX
theorem QI.s4:X.QI (also d 4) (upd u 4 (.slice (some ⟨W.heap.size,0,none⟩) 1 1)) (W.alloc (.cells Yb 25)):=by
 have hb:=Z01 W (.cells Yb 25);have hu:Upd (fun _=>False) W (W.alloc (.cells Yb 25)):=Upd.new hb;have k: ∀j,j≠4->also d 4 j=d j/\ ∀v,upd u 4 v j=u j:=fun j hj=>⟨Z0g d hj,fun v=>Z0b u v hj⟩;have hs:=h.up.size;have hgm:=h.gmw hX;refine ⟨h.vals' (fun v' h=>by cases h),h.up.trans (hu.mono (fun _ _ h=>h.elim)),fun _ _=>⟨W.heap.size,Z0q _ _ _,hs,by simp, ?_⟩, ?_, ?_, ?_,fun j hj=>(hu.cell hgm (fun h=>h)).trans (h.cr j hj),fun j=>(hu.frozen hgm (fun h=>h)).trans (h.fz j)⟩
 {intro j v hv;rcases j with _ | _ | _ | _ | _ | j
  {simp[Z0u] at hv; subst hv; simp[go_sem]}
  {simp[Z0u] at hv; subst hv; simp[go_sem]}
  {simp[Z0u] at hv; subst hv; simp[go_sem]}
  {simp[Z0u] at hv; subst hv; simp[go_sem]}
  {simp[Z0u] at hv; subst hv; simp[go_sem]}
  {simp[Z0u] at hv}}
 {rw[(k 5 (by omega)).1]; exact fun h5=>Z0l (h.p0 h5) hu (fun _ _ h=>h)}
 {rw[(k 5 (by omega)).1,(k 5 (by omega)).2,(k 7 (by omega)).1,(k 6 (by omega)).1,(k 6 (by omega)).2];intro h5;obtain ⟨g,c,e,r,n,m⟩:=h.p1 h5;exact ⟨g,c,e,Z0l r hu (fun _ _ h=>h),n,m⟩}
 {rw[(k 9 (by omega)).1,(k 5 (by omega)).2]; exact (hu.cell hgm (fun h=>h)).trans h.c4}
theorem QI.s6 (h5:d 5=true) {v:Value} (hv: ∀g c,u 5= .slice (some ⟨g,0,none⟩) (X.l.length+1) c->v= .pointer (some ⟨g,X.l.length * 5,none⟩)):X.QI (also d 6) (upd u 6 v) W:=by
 have k: ∀j,j≠6->also d 6 j=d j/\ ∀v,upd u 6 v j=u j:=fun j hj=>⟨Z0g d hj,fun v=>Z0b u v hj⟩;refine ⟨h.vals' (fun v' h=>by cases h),h.up, ?_, ?_, ?_, ?_,h.cr,h.fz⟩
 {rw[(k 5 (by omega)).1,h5]; nofun}
 {rw[(k 5 (by omega)).1]; exact h.p0}
 {rw[(k 5 (by omega)).1,(k 5 (by omega)).2,(k 7 (by omega)).1,Z0q];intro h5;obtain ⟨g,c,e,r,n,m⟩:=h.p1 h5;exact ⟨g,c,e,r,n,fun _=>hv g c e⟩}
 {rw[(k 9 (by omega)).1,(k 5 (by omega)).2]; exact h.c4}
theorem QI.s7 (h5:d 5=true) (h7:d 7=false) {g c:Nat} (e5:u 5= .slice (some ⟨g,0,none⟩) (X.l.length+1) c):X.QI (also d 7) (upd u 7 undef) (layO W g (X.l.length * 5) X.x):=by
 have k: ∀j,j≠7->also d 7 j=d j/\ ∀v,upd u 7 v j=u j:=fun j hj=>⟨Z0g d hj,fun v=>Z0b u v hj⟩;obtain ⟨g',c',e,r,n,m⟩:=h.p1 h5;have ee:=e.symm.trans e5;simp only[Value.slice.injEq,Option.some.injEq,Addr.mk.injEq,and_true] at ee;obtain ⟨rfl,_,rfl⟩:=ee;rw[h7] at r;simp only[Bool.false_eq_true,if_false] at r;obtain ⟨r',hg⟩:=Z7q X.x (Z10 X.l) r;have hu:Upd (fun b=>b=g') W (layO W g' (X.l.length * 5) X.x):=(Upd.refl _ W).grown hg (fun k h _=>by cases h; rfl);have hgm:=h.gmw hX;have hne: ¬X.gm=g':=fun e=>not_gm hX r e.symm;have hs:=h.up.size;have hz: ∀z,X.W0.heap.size<=z->z=g'->X.W0.heap.size<=g':=fun z h1 h2=>by omega
 refine ⟨h.vals' (fun v' h=>by cases h), ?_, ?_, ?_, ?_, ?_,fun j hj=>(hu.cell hgm hne).trans (h.cr j hj),fun j=>(hu.frozen hgm hne).trans (h.fz j)⟩
 {refine ⟨hu.os.trans h.up.os,hu.tape.trans h.up.tape,hu.output.trans h.up.output,Nat.le_trans h.up.size hu.size,fun x h1 h2=>(hu.block x (by omega) (fun e=> ?_)).trans (h.up.block x h1 h2)⟩;have e:x=g':=e;rcases n with n | n
  {exact h2 (Or.inr (by rw[e]; exact n))}
  {omega}}
 {rw[(k 5 (by omega)).1,h5]; nofun}
 {rw[(k 5 (by omega)).1,h5]; nofun}
 {rw[(k 5 (by omega)).2,(k 6 (by omega)).1,(k 6 (by omega)).2,Z0o];exact fun _=>⟨g',c',e,by simpa using r',n,m⟩}
 {rw[(k 9 (by omega)).1,(k 5 (by omega)).2]; exact (hu.cell hgm hne).trans h.c4}
theorem QI.s9 (h5:d 5=true) (h9:d 9=false):X.QI (also d 9) (upd u 9 undef) (W.setCell ⟨X.gm,4,none⟩ (u 5)):=by
 have k: ∀j,j≠9->also d 9 j=d j/\ ∀v,upd u 9 v j=u j:=fun j hj=>⟨Z0g d hj,fun v=>Z0b u v hj⟩;have hgm:=h.gmw hX;obtain ⟨g,c,e,r,n,m⟩:=h.p1 h5;have hu:Upd (fun b=>b=X.gm) W (W.setCell ⟨X.gm,4,none⟩ (u 5)):=Upd.set (Upd.refl (fun b=>b=X.gm) W) ⟨X.gm,4,none⟩ (fun _=>rfl) _;refine ⟨h.vals' (fun v' h=>by cases h),h.up.trans (hu.mono (fun b _ hb=>Or.inl hb)), ?_, ?_, ?_, ?_,fun j hj=>(World.cell?_setCell_other _ _ _ _ (fun e=>by have:=congrArg Addr.off e; simp at this; omega)).trans (h.cr j hj),fun j=>(World.frozen?_setCell ..).trans (h.fz j)⟩
 {rw[(k 5 (by omega)).1,h5]; nofun}
 {rw[(k 5 (by omega)).1,h5]; nofun}
 {rw[(k 5 (by omega)).2,(k 7 (by omega)).1,(k 6 (by omega)).1,(k 6 (by omega)).2];exact fun _=>⟨g,c,e,Z0l r hu (fun b hb e2=>not_gm hX r (Eq.trans (show g=b by simpa[rowB] using hb) e2)),n,m⟩}
 {rw[Z0o,if_pos rfl,(k 5 (by omega)).2];exact World.cell?_setCell_same _ _ _ h.c4}
end
end QX
end SubM
end Go.Proofs.YtkhoflciahkphaaGreatDoor
namespace Go.Proofs.YtkhoflciahkphaaGreatDoor
open Go.RowKit Shp Sub
namespace SubM
structure KPs (w0:World) (n0 gm hi p1 p2:Nat) (f1 f2:Value) (k:Int) (o nm:List UInt8) (ok:Bool) (ps:List Sh) (l:List El) (AP:Option Addr) (cP:Nat) (W:World):Prop where
 mm:Mk w0 gm hi k o nm [] l none 0 AP cP W
 eq:l.map Prod.fst=ps
 kp:ok=true-> ∀x∈l,Kept (Free n0 hi none AP) W x
 fa:W.cell? ⟨p1,0,none⟩=some f1
 fr:W.cell? ⟨p2,0,none⟩=some f2
def KP (w0:World) (n0 gm hi p1 p2:Nat) (f1 f2:Value) (k:Int) (o nm:List UInt8) (ok:Bool) (ps:List Sh) (W:World):Prop:= ∃l AP cP,KPs w0 n0 gm hi p1 p2 f1 f2 k o nm ok ps l AP cP W
section
variable {w0 W W' : World} {n0 gm hi p1 p2 : Nat} {f1 f2 : Value} {k : Int} {o nm : List UInt8} {ok : Bool} {ps : List Sh} {l : List El} {AP : Option Addr} {cP : Nat}
theorem KPs.len (h:KPs w0 n0 gm hi p1 p2 f1 f2 k o nm ok ps l AP cP W):l.length=ps.length:=by have:=congrArg List.length h.eq; simpa using this
theorem KPs.new (h:KPs w0 n0 gm hi p1 p2 f1 f2 k o nm ok ps l AP cP W) (h1:p1 < hi) (h2:p2 < hi) (hb:Below W.heap.size W W'):KPs w0 n0 gm hi p1 p2 f1 f2 k o nm ok ps l AP cP W':=
 ⟨h.mm.new hb,h.eq,fun ho x hx=>(h.kp ho x hx).upd (T:=fun _=>False) (Upd.new hb) (fun _ _ _ h=>h),(hb.cell (p:=⟨p1,0,none⟩) (Nat.lt_of_lt_of_le h1 h.mm.hw)).trans h.fa,(hb.cell (p:=⟨p2,0,none⟩) (Nat.lt_of_lt_of_le h2 h.mm.hw)).trans h.fr⟩
theorem KPs.mid {T:Nat->Prop} (h:KPs w0 n0 gm hi p1 p2 f1 f2 k o nm ok ps l AP cP W) (hu:Upd T W W') (hT: ∀b,T b->gm < b/\p1 < b/\p2 < b/\b < hi) (hn:n0<=gm) (h1:p1 < hi) (h2:p2 < hi):KPs w0 n0 gm hi p1 p2 f1 f2 k o nm ok ps l AP cP W':=by
 have hg:=h.mm.gh;refine ⟨h.mm.upd hu (fun b hb ht=> ?_) (fun ht=> ?_) (fun b hb ht=> ?_) (fun b hb ht=> ?_),h.eq,fun ho x hx=>(h.kp ho x hx).upd hu (fun b hb hf ht=> ?_),(hu.cell (Nat.lt_of_lt_of_le h1 h.mm.hw) (fun ht=> ?_)).trans h.fa,(hu.cell (Nat.lt_of_lt_of_le h2 h.mm.hw) (fun ht=> ?_)).trans h.fr⟩
 {have:=(hT b ht).1; have:=h.mm.lo; omega}
 {have:=(hT gm ht).1; omega}
 {cases hb}
 {have:=(hT b ht).2.2.2; have:=(Z09 h.mm.rP b hb).1; omega}
 {have:=hT b ht;rcases hf with hf | hf
  {omega}
  {have:=hf.1; omega}}
 {have:=(hT p1 ht).2.1; omega}
 {have:=(hT p2 ht).2.2.1; omega}
theorem KPs.put (h:KPs w0 n0 gm hi p1 p2 f1 f2 k o nm ok ps l AP cP W) (hn:n0<=gm) (h1:p1 < hi) (h2:p2 < hi) (g1:p1≠gm) (g2:p2≠gm) {t:Sh} {q:Ptr} {ok':Bool} (hok:ok'=true->ok=true) (hkp:ok'=true->Kept (Free n0 hi none AP) W (t,q))
 {AP':Option Addr} {cP':Nat} (hm:Mk w0 gm hi k o nm [] (l++ [(t,q)]) none 0 AP' cP' W') (hu:Upd (fun b=>b=gm\/rowB AP=some b) W W') (hr: ∀b,rowB AP'=some b->rowB AP=some b\/W.heap.size<=b):
 KP w0 n0 gm hi p1 p2 f1 f2 k o nm ok' (ps++ [t]) W':=by
 have hg:=h.mm.gh;have key: ∀x,Kept (Free n0 hi none AP) W x->Kept (Free n0 hi none AP') W' x:=fun x hx=>hx.move hu (fun b hb hf=>by
  refine ⟨fun ht=> ?_, ?_⟩
  {rcases hf with hf | ⟨hf,_,f2⟩
   {rcases ht with ht | ht
    {omega}
    {have:=(Z09 h.mm.rP b ht).1; omega}}
   {rcases ht with ht | ht
    {omega}
    {exact f2 ht}}}
  · rcases hf with hf | ⟨hf,_,f2⟩
    {exact Or.inl hf}
    · exact Or.inr ⟨hf,nofun,fun e=>(hr b e).elim f2 (fun h=>by omega)⟩)
 refine ⟨l++ [(t,q)],AP',cP',hm,by rw[List.map_append,h.eq]; rfl,fun ho x hx=> ?_, ?_, ?_⟩
 {rcases List.mem_append.1 hx with hx | hx
  {exact key x (h.kp (hok ho) x hx)}
  {rw[List.mem_singleton.1 hx]; exact key _ (hkp ho)}}
 {refine (hu.cell (Nat.lt_of_lt_of_le h1 h.mm.hw) (fun ht=> ?_)).trans h.fa;rcases ht with ht | ht
  {exact g1 ht}
  {have:=(Z09 h.mm.rP p1 ht).1; omega}}
 {refine (hu.cell (Nat.lt_of_lt_of_le h2 h.mm.hw) (fun ht=> ?_)).trans h.fr;rcases ht with ht | ht
  {exact g2 ht}
  {have:=(Z09 h.mm.rP p2 ht).1; omega}}
end
section
variable {n0 gm p1 p2 : Nat}
structure St0p (w0:World) (gm p1 p2:Nat) (f1 f2:Value) (k:Int) (o nm:List UInt8) (W:World):Prop where
 up:Below w0.heap.size w0 W
 lo:w0.heap.size<=gm
 gw:gm < W.heap.size
 c5:Sh5 W gm 0 ⟨k,o,nm,[],[]⟩ noneQ12
 fz: ∀j,W.frozen? ⟨gm,j,none⟩=false
 pw:p1 < W.heap.size
 qw:p2 < W.heap.size
 fa:W.cell? ⟨p1,0,none⟩=some f1
 fr:W.cell? ⟨p2,0,none⟩=some f2
theorem St0p.mid {T:Nat->Prop} {w0 W W':World} {f1 f2:Value} {k:Int} {o nm:List UInt8} (h:St0p w0 gm p1 p2 f1 f2 k o nm W) (hu:Upd T W W') (hT: ∀b,T b->gm < b/\p1 < b/\p2 < b):St0p w0 gm p1 p2 f1 f2 k o nm W':=by
 have h1: ¬T gm:=fun ht=>by have:=(hT gm ht).1; omega
 have h2: ¬T p1:=fun ht=>by have:=(hT p1 ht).2.1; omega
 have h3: ¬T p2:=fun ht=>by have:=(hT p2 ht).2.2; omega
 exact ⟨h.up.trans (hu.below h.up.size (fun b hb=>by have:=(hT b hb).1; have:=h.lo; omega)),h.lo,Nat.lt_of_lt_of_le h.gw hu.size,h.c5.of (fun k=>hu.cell h.gw h1),fun j=>(hu.frozen h.gw h1).trans (h.fz j),Nat.lt_of_lt_of_le h.pw hu.size,Nat.lt_of_lt_of_le h.qw hu.size,(hu.cell h.pw h2).trans h.fa,(hu.cell h.qw h3).trans h.fr⟩
section
variable {w0 W : World} {hi : Nat} {f1 f2 : Value} {k : Int} {o nm : List UInt8}
include w0 W hi f1 f2 k o nm
theorem St0p.kp (h:St0p w0 gm p1 p2 f1 f2 k o nm W) (hg:gm < hi) (hw:hi<=W.heap.size) (ok:Bool):KP w0 n0 gm hi p1 p2 f1 f2 k o nm ok [] W:=by
 obtain ⟨c0,c1,c2,c3,c4⟩:=h.c5;simp only[Nat.zero_add] at c0 c1 c2 c3 c4;exact ⟨[],none,0,⟨h.up,h.lo,hg,hw,c0,c1,c2,c3,c4,h.fz,World.ownsRow_nil _ _ _ _,World.ownsRow_nil _ _ _ _,Or.inl rfl⟩,rfl,fun _ x hx=>absurd hx (by simp),h.fa,h.fr⟩
theorem KP.fin {ok:Bool} {ps:List Sh} (h:KP w0 n0 gm hi p1 p2 f1 f2 k o nm ok ps W): ∃q,Sh5 W gm 0 ⟨k,o,nm,[],ps⟩ q/\
 (ok=true->o.length<=9223372036854775807->nm.length<=9223372036854775807->ps.length<=1000->Kept (fun b=>b < n0\/hi<=b) W (⟨k,o,nm,[],ps⟩,q)):=by
 obtain ⟨l,AP,cP,h⟩:=h;have hlen:=h.len;refine ⟨⟨none,0,AP,cP⟩,⟨h.mm.c0,h.mm.c1,h.mm.c2,h.mm.c3, ?_⟩,fun ho h1 h2 hl=> ?_⟩
 {have:=h.mm.c4;rw[hlen] at this;exact this}
 {have:=h.mm.at_ (n0:=n0) (h.kp ho) h1 h2 (by simp) (by simp) (by omega);rw[h.eq] at this;exact this}
theorem KP.below {ok:Bool} {ps:List Sh} (h:KP w0 n0 gm hi p1 p2 f1 f2 k o nm ok ps W):Below w0.heap.size w0 W:=by
 obtain ⟨l,AP,cP,h⟩:=h;exact h.mm.up
end
end
end SubM
end Go.Proofs.YtkhoflciahkphaaGreatDoor
namespace Go.Proofs.YtkhoflciahkphaaGreatDoor
open Go.RowKit Shp Sub
namespace SubM
theorem Z3H {t:Sh} {q q':Ptr} (h:sv t q=sv t q'):q=q':=by
 obtain ⟨_,_,_,h1,_,h2,h3,_,h4⟩:=Zar h;cases q; cases q';simp only at h1 h2 h3 h4;subst h1 h2 h3 h4;rfl
def NIs (r:Sh) (n0:Nat) (W:World) (e:Ending) (W':World):Prop:=
 ∃qr,e= .returned (sv r qr)/\Below W.heap.size W W'/\Kept (fun b=>b < n0\/W.heap.size<=b) W' (r,qr)
structure GX where
 W0:World
 gm:Nat
 hi:Nat
 AN:Option Addr
 cN:Nat
 AP:Option Addr
 cP:Nat
 nl:List (List UInt8)
 l:List El
 nm:List UInt8
 xv:Value
 gb:Nat
 ob:Nat
 q:Sh
 qy:Ptr
 r:Sh
 n0:Nat
namespace GX
variable (X : GX)
def val (j:Nat):Option Value:=match j with
 | 0 | 14=>some (.pointer (some ⟨X.gm,3,none⟩))
 | 5 | 16=>some (.pointer (some ⟨X.gm,4,none⟩))
 | 1=>some (.slice X.AN X.nl.length X.cN)
 | 2=>some (.string ⟨X.nm.toArray⟩)
 | 6=>some (.slice X.AP X.l.length X.cP)
 | 7=>some X.xv
 | 8 | 9=>some (.pointer (some ⟨X.gb,X.ob,none⟩))
 | 10=>some (sv X.q X.qy)
 | _=>none
def set (b:Nat):Prop:=b=X.gm\/rowB X.AN=some b\/rowB X.AP=some b
structure Good:Prop where
 ng:X.n0<=X.gm
 gh:X.gm < X.hi
 hw:X.hi<=X.W0.heap.size
 c3:X.W0.cell? ⟨X.gm,3,none⟩=some (.slice X.AN X.nl.length X.cN)
 c4:X.W0.cell? ⟨X.gm,4,none⟩=some (.slice X.AP X.l.length X.cP)
 fz: ∀j,X.W0.frozen? ⟨X.gm,j,none⟩=false
 rN:X.W0.ownsRow X.hi 9 1 (.slice X.AN X.nl.length X.cN) X.nl.length (namesE X.nl)
 rP:X.W0.ownsRow X.hi 25 5 (.slice X.AP X.l.length X.cP) X.l.length (cellsE X.l)
 ne:rowB X.AN=none\/rowB X.AN≠rowB X.AP
 gbn:X.gb < X.n0
 box:Sh5 X.W0 X.gb X.ob X.q X.qy
 ln:X.nl.length<=1000
 ll:X.l.length<=1000
 ok: ∀W,Upd X.set X.W0 W->Calls Tryz.prog 57 #[X.xv,sv X.q X.qy] W (NIs X.r X.n0 W)
structure GI (d:Nat->Bool) (u:Nat->Value) (W:World):Prop where
 vals: ∀j,d j=true-> ∀v,X.val j=some v->u j=v
 up:Upd X.set X.W0 W
 f3:d 3=true->d 4=false-> ∃z,u 3= .slice (some ⟨z,0,none⟩) 1 1/\X.W0.heap.size<=z/\z < W.heap.size/\W.cell? ⟨z,0,none⟩=some (.string ⟨X.nm.toArray⟩)
 n0:d 4=false->W.ownsRow X.hi 9 1 (.slice X.AN X.nl.length X.cN) X.nl.length (namesE X.nl)
 n1:d 4=true-> ∃g c,u 4= .slice (some ⟨g,0,none⟩) (X.nl.length+1) c/\W.ownsRow X.hi 9 1 (.slice (some ⟨g,0,none⟩) (X.nl.length+1) c) (X.nl.length+1) (namesE X.nl++ [.string ⟨X.nm.toArray⟩])/\(rowB X.AN=some g\/X.W0.heap.size<=g)
 ca:d 11=true-> ∃qr s e,u 11=sv X.r qr/\X.W0.heap.size<=s/\s<=e/\e<=W.heap.size/\Kept (fun b=>b < X.n0\/(s<=b/\b < e)) W (X.r,qr)/\(∀g n c,u 4= .slice (some ⟨g,0,none⟩) n c->g < s)/\
  (d 12=true->d 13=false-> ∃z,u 12= .slice (some ⟨z,0,none⟩) 1 1/\e<=z/\z < W.heap.size/\ ∀(j:Nat) v,(Z0m (X.r,qr))[j]? =some v->W.cell? ⟨z,j,none⟩=some v)/\
  (d 13=true-> ∃g c,u 13= .slice (some ⟨g,0,none⟩) (X.l.length+1) c/\W.ownsRow X.hi 25 5 (.slice (some ⟨g,0,none⟩) (X.l.length+1) c) (X.l.length+1) (cellsE X.l++Z0m (X.r,qr))/\(rowB X.AP=some g\/e<=g))
 p0:d 13=false->W.ownsRow X.hi 25 5 (.slice X.AP X.l.length X.cP) X.l.length (cellsE X.l)
 c3:W.cell? ⟨X.gm,3,none⟩=some (if d 15=true then u 4 else .slice X.AN X.nl.length X.cN)
 c4:W.cell? ⟨X.gm,4,none⟩=some (if d 17=true then u 13 else .slice X.AP X.l.length X.cP)
 cr: ∀j,j < 3->W.cell? ⟨X.gm,j,none⟩=X.W0.cell? ⟨X.gm,j,none⟩
 fz: ∀j,W.frozen? ⟨X.gm,j,none⟩=false
variable {X : GX} {d : Nat -> Bool} {u : Nat -> Value} {W W' : World}
theorem GI.vals' (h:X.GI d u W) {i:Nat} {v:Value} (hv: ∀v',X.val i=some v'->v=v'): ∀j,also d i j=true-> ∀v',X.val j=some v'->upd u i v j=v':=fun j hj v' hv'=>by
 by_cases hij:j=i
 {subst hij; rw[Z0q]; exact hv v' hv'}
 {rw[Z0g d hij] at hj; rw[Z0b u v hij]; exact h.vals j hj v' hv'}
theorem Good.start (h:X.Good):X.GI (fun _=>false) u X.W0.drew:=
 ⟨nofun,(Upd.refl _ _).drew,nofun,fun _=>h.rN,nofun,nofun,fun _=>h.rP,h.c3,h.c4,fun _ _=>rfl,h.fz⟩
theorem GI.pure (h:X.GI d u W) {i:Nat} (hi:i≠3/\i≠4/\i≠11/\i≠12/\i≠13/\i≠15/\i≠17) {v:Value} (hv: ∀v',X.val i=some v'->v=v'):X.GI (also d i) (upd u i v) W:=by
 have k: ∀j,j=3\/j=4\/j=11\/j=12\/j=13\/j=15\/j=17->also d i j=d j/\upd u i v j=u j:=fun j hj=>⟨Z0g d (by omega),Z0b u v (by omega)⟩;refine ⟨h.vals' hv,h.up, ?_, ?_, ?_, ?_, ?_, ?_, ?_,h.cr,h.fz⟩
 {rw[(k 3 (by omega)).1,(k 3 (by omega)).2,(k 4 (by omega)).1]; exact h.f3}
 {rw[(k 4 (by omega)).1]; exact h.n0}
 {rw[(k 4 (by omega)).1,(k 4 (by omega)).2]; exact h.n1}
 {rw[(k 11 (by omega)).1,(k 11 (by omega)).2,(k 4 (by omega)).2,(k 12 (by omega)).1,(k 12 (by omega)).2,(k 13 (by omega)).1,(k 13 (by omega)).2]; exact h.ca}
 {rw[(k 13 (by omega)).1]; exact h.p0}
 {rw[(k 15 (by omega)).1,(k 4 (by omega)).2]; exact h.c3}
 {rw[(k 17 (by omega)).1,(k 13 (by omega)).2]; exact h.c4}
theorem Good.set_lt (h:X.Good) {b:Nat} (hb:X.set b):X.gm<=b/\b < X.W0.heap.size:=by
 have h1:=h.gh;have h2:=h.hw;rcases hb with rfl | hb | hb
 {omega}
 {have:=Z09 h.rN b hb; omega}
 {have:=Z09 h.rP b hb; omega}
theorem GI.box (h:X.GI d u W) (hX:X.Good):Sh5 W X.gb X.ob X.q X.qy:=
 hX.box.of (fun k=>h.up.cell (by have:=hX.gbn; have:=hX.ng; have:=hX.gh; have:=hX.hw; omega) (fun hs=>by have:=(hX.set_lt hs).1; have:=hX.gbn; have:=hX.ng; omega))
theorem GI.gmw (h:X.GI d u W) (hX:X.Good):X.gm < W.heap.size:=by have:=hX.gh; have:=hX.hw; have:=h.up.size; omega
theorem kept_set (hX:X.Good) {S:Nat->Prop} (hu:Upd S W W') (hS: ∀b,S b->X.set b) {s e:Nat} {x:El} (hs:X.W0.heap.size<=s) (hk:Kept (fun b=>b < X.n0\/(s<=b/\b < e)) W x):Kept (fun b=>b < X.n0\/(s<=b/\b < e)) W' x:=
 hk.upd hu (fun b hb hb2 hb3=>by
  have:=hX.set_lt (hS b hb3);have:=hX.ng;rcases hb2 with h | h <;> omega)
theorem GI.new (h:X.GI d u W) (hX:X.Good) (hb:Below W.heap.size W W'):X.GI d u W':=by
 have hgm:=h.gmw hX;have hu:Upd (fun _=>False) W W':=Upd.new hb;refine ⟨h.vals,h.up.trans (hu.mono (fun _ _ h=>h.elim)),fun h3 h4=> ?_,fun h4=>Z0l (h.n0 h4) hu (fun _ _ h=>h),fun h4=> ?_,fun h11=> ?_,fun h13=>Z0l (h.p0 h13) hu (fun _ _ h=>h),
  (hu.cell hgm (fun h=>h)).trans h.c3,(hu.cell hgm (fun h=>h)).trans h.c4,fun j hj=>(hu.cell hgm (fun h=>h)).trans (h.cr j hj),fun j=>(hu.frozen hgm (fun h=>h)).trans (h.fz j)⟩
 {obtain ⟨z,e,z1,z2,z3⟩:=h.f3 h3 h4;exact ⟨z,e,z1,Nat.lt_of_lt_of_le z2 hu.size,(hu.cell z2 (fun h=>h)).trans z3⟩}
 {obtain ⟨g,c,e,r,n⟩:=h.n1 h4;exact ⟨g,c,e,Z0l r hu (fun _ _ h=>h),n⟩}
 {obtain ⟨qr,s,e,e11,s1,s2,s3,hk,hg,h12,h13⟩:=h.ca h11;refine ⟨qr,s,e,e11,s1,s2,Nat.le_trans s3 hu.size,hk.upd hu (fun _ _ _ h=>h),hg,fun a b=> ?_,fun a=> ?_⟩
  {obtain ⟨z,e,z1,z2,z3⟩:=h12 a b;exact ⟨z,e,z1,Nat.lt_of_lt_of_le z2 hu.size,fun j v hv=>(hu.cell z2 (fun h=>h)).trans (z3 j v hv)⟩}
  {obtain ⟨g,c,e,r,n⟩:=h13 a;exact ⟨g,c,e,Z0l r hu (fun _ _ h=>h),n⟩}}
section
variable (h : X.GI d u W) (hX : X.Good)
include h hX
theorem GI.s3:X.GI (also d 3) (upd u 3 (.slice (some ⟨W.heap.size,0,none⟩) 1 1)) (W.alloc (.cells #[.string ⟨X.nm.toArray⟩] 9)):=by
 have hn:=h.new hX (Z01 W (.cells #[.string ⟨X.nm.toArray⟩] 9));have k: ∀j,j≠3->also d 3 j=d j/\ ∀v,upd u 3 v j=u j:=fun j hj=>⟨Z0g d hj,fun v=>Z0b u v hj⟩;have hs:=h.up.size;refine ⟨hn.vals' (fun v' h=>by cases h),hn.up,fun _ _=>⟨W.heap.size,Z0q _ _ _,hs,by simp,by simp[go_sem]⟩, ?_, ?_, ?_, ?_, ?_, ?_,hn.cr,hn.fz⟩
 {rw[(k 4 (by omega)).1]; exact hn.n0}
 {rw[(k 4 (by omega)).1,(k 4 (by omega)).2]; exact hn.n1}
 {rw[(k 11 (by omega)).1,(k 11 (by omega)).2,(k 4 (by omega)).2,(k 12 (by omega)).1,(k 12 (by omega)).2,(k 13 (by omega)).1,(k 13 (by omega)).2]; exact hn.ca}
 {rw[(k 13 (by omega)).1]; exact hn.p0}
 {rw[(k 15 (by omega)).1,(k 4 (by omega)).2]; exact hn.c3}
 {rw[(k 17 (by omega)).1,(k 13 (by omega)).2]; exact hn.c4}
theorem GI.s4 (h11:d 11=false) (h13:d 13=false) (h15:d 15=false) (h17:d 17=false) {g c:Nat} (hown:W'.ownsRow X.hi 9 1 (.slice (some ⟨g,0,none⟩) (X.nl.length+1) c) (X.nl.length+1) (namesE X.nl++ [.string ⟨X.nm.toArray⟩]))
 (hg:W.grownBy W' (rowB X.AN)) (hat:rowB X.AN=some g\/g=W.heap.size):X.GI (also d 4) (upd u 4 (.slice (some ⟨g,0,none⟩) (X.nl.length+1) c)) W':=by
 have k: ∀j,j≠4->also d 4 j=d j/\ ∀v,upd u 4 v j=u j:=fun j hj=>⟨Z0g d hj,fun v=>Z0b u v hj⟩;have hu:Upd (fun b=>rowB X.AN=some b) W W':=(Upd.refl _ W).grown hg (fun k h _=>h);have hgm:=h.gmw hX;have hgN: ¬rowB X.AN=some X.gm:=fun e=>by have:=(Z09 hX.rN _ e).1; have:=hX.gh; omega
 have hs:=h.up.size;refine ⟨h.vals' (fun v' h=>by cases h),h.up.trans (hu.mono (fun b _ hb=>Or.inr (Or.inl hb))), ?_, ?_, ?_, ?_, ?_, ?_, ?_,fun j hj=>(hu.cell hgm hgN).trans (h.cr j hj),fun j=>(hu.frozen hgm hgN).trans (h.fz j)⟩
 {rw[Z0o]; nofun}
 {rw[Z0o]; nofun}
 {exact fun _=>⟨g,c,Z0q _ _ _,hown,hat.imp id (fun e=>by omega)⟩}
 {rw[(k 11 (by omega)).1,h11]; nofun}
 {exact fun _=>Z0l (h.p0 h13) hu (fun b hb e=>by
   rcases hX.ne with hne | hne
   {rw[hne] at e; cases e}
   · exact hne (e.trans hb.symm))}
 {rw[(k 15 (by omega)).1,h15];have:=h.c3;rw[h15] at this;exact (hu.cell hgm hgN).trans this}
 {rw[(k 17 (by omega)).1,h17];have:=h.c4;rw[h17] at this;exact (hu.cell hgm hgN).trans this}
theorem GI.s11 (h4:d 4=true) (h12:d 12=false) (h13:d 13=false) (h17:d 17=false) {e:Ending} (hb:NIs X.r X.n0 W e W'): ∃v,e= .returned v/\X.GI (also d 11) (upd u 11 v) W':=by
 obtain ⟨qr,rfl,hbl,hkp⟩:=hb;have k: ∀j,j≠11->also d 11 j=d j/\ ∀v,upd u 11 v j=u j:=fun j hj=>⟨Z0g d hj,fun v=>Z0b u v hj⟩;have hn:=h.new hX hbl;have hs:=h.up.size;refine ⟨_,rfl,hn.vals' (fun v' h=>by cases h),hn.up, ?_, ?_, ?_,fun _=>⟨qr,W.heap.size,W'.heap.size,Z0q _ _ _,hs,hbl.size,Nat.le_refl _,hkp.more (fun b hb hS=>hS.imp id (fun h=>⟨h,hb⟩)), ?_, ?_, ?_⟩, ?_, ?_, ?_,hn.cr,hn.fz⟩
 {rw[(k 3 (by omega)).1,(k 3 (by omega)).2,(k 4 (by omega)).1]; exact hn.f3}
 {rw[(k 4 (by omega)).1]; exact hn.n0}
 {rw[(k 4 (by omega)).1,(k 4 (by omega)).2]; exact hn.n1}
 {rw[(k 4 (by omega)).2];intro g n c e;obtain ⟨g',c',e',r,_⟩:=h.n1 h4;rw[e'] at e;simp only[Value.slice.injEq,Option.some.injEq,Addr.mk.injEq,and_true] at e;have:=(Z09 r g' rfl).2;omega}
 {rw[(k 12 (by omega)).1,h12]; nofun}
 {rw[(k 13 (by omega)).1,h13]; nofun}
 {rw[(k 13 (by omega)).1]; exact hn.p0}
 {rw[(k 15 (by omega)).1,(k 4 (by omega)).2]; exact hn.c3}
 {rw[(k 17 (by omega)).1,(k 13 (by omega)).2]; exact hn.c4}
theorem GI.s12 (h11:d 11=true) {qr:Ptr} (e11:u 11=sv X.r qr):X.GI (also d 12) (upd u 12 (.slice (some ⟨W.heap.size,0,none⟩) 1 1)) (W.alloc (.cells #[.int .i64 X.r.kind,.string ⟨X.r.of_.toArray⟩,.string ⟨X.r.name.toArray⟩,.slice qr.A X.r.names.length qr.c,.slice qr.P X.r.parts.length qr.d] 25)):=by
 have hn:=h.new hX (Z01 W (.cells #[.int .i64 X.r.kind,.string ⟨X.r.of_.toArray⟩,.string ⟨X.r.name.toArray⟩,.slice qr.A X.r.names.length qr.c,.slice qr.P X.r.parts.length qr.d] 25));have k: ∀j,j≠12->also d 12 j=d j/\ ∀v,upd u 12 v j=u j:=fun j hj=>⟨Z0g d hj,fun v=>Z0b u v hj⟩;refine ⟨hn.vals' (fun v' h=>by cases h),hn.up, ?_, ?_, ?_, ?_, ?_, ?_, ?_,hn.cr,hn.fz⟩
 {rw[(k 3 (by omega)).1,(k 3 (by omega)).2,(k 4 (by omega)).1]; exact hn.f3}
 {rw[(k 4 (by omega)).1]; exact hn.n0}
 {rw[(k 4 (by omega)).1,(k 4 (by omega)).2]; exact hn.n1}
 {rw[(k 11 (by omega)).1,(k 11 (by omega)).2,(k 4 (by omega)).2,(k 13 (by omega)).1,(k 13 (by omega)).2];intro h11;obtain ⟨qr',s,e,y11,s1,s2,s3,hk,hg,h12,h13⟩:=h.ca h11;obtain rfl:=Z3H (y11.symm.trans e11);have hu:Upd (fun _=>False) W (W.alloc (.cells #[.int .i64 X.r.kind,.string ⟨X.r.of_.toArray⟩,.string ⟨X.r.name.toArray⟩,.slice qr'.A X.r.names.length qr'.c,.slice qr'.P X.r.parts.length qr'.d] 25)):=Upd.new (Z01 _ _);refine ⟨qr',s,e,e11,s1,s2,Nat.le_trans s3 hu.size,hk.upd hu (fun _ _ _ h=>h),hg,fun _ _=>⟨W.heap.size,Z0q _ _ _,s3,by simp, ?_⟩,fun a=>by
   obtain ⟨g,c,e,r,n⟩:=h13 a;exact ⟨g,c,e,Z0l r hu (fun _ _ h=>h),n⟩⟩
  intro j v hv;rcases j with _ | _ | _ | _ | _ | j
  {simp[Z0m] at hv; subst hv; simp[go_sem]}
  {simp[Z0m] at hv; subst hv; simp[go_sem]}
  {simp[Z0m] at hv; subst hv; simp[go_sem]}
  {simp[Z0m] at hv; subst hv; simp[go_sem]}
  {simp[Z0m] at hv; subst hv; simp[go_sem]}
  {simp[Z0m] at hv}}
 {rw[(k 13 (by omega)).1]; exact hn.p0}
 {rw[(k 15 (by omega)).1,(k 4 (by omega)).2]; exact hn.c3}
 {rw[(k 17 (by omega)).1,(k 13 (by omega)).2]; exact hn.c4}
theorem GI.s13 (h4:d 4=true) (h12:d 12=true) (h13:d 13=false) (h15:d 15=false) (h17:d 17=false) {qr:Ptr} (e11:u 11=sv X.r qr) {g c:Nat} (hown:W'.ownsRow X.hi 25 5 (.slice (some ⟨g,0,none⟩) (X.l.length+1) c) (X.l.length+1) (cellsE X.l++Z0m (X.r,qr)))
 (hg:W.grownBy W' (rowB X.AP)) (hat:rowB X.AP=some g\/g=W.heap.size):X.GI (also d 13) (upd u 13 (.slice (some ⟨g,0,none⟩) (X.l.length+1) c)) W':=by
 have k: ∀j,j≠13->also d 13 j=d j/\ ∀v,upd u 13 v j=u j:=fun j hj=>⟨Z0g d hj,fun v=>Z0b u v hj⟩;have hu:Upd (fun b=>rowB X.AP=some b) W W':=(Upd.refl _ W).grown hg (fun k h _=>h);have hgm:=h.gmw hX;have hgN: ¬rowB X.AP=some X.gm:=fun e=>by have:=(Z09 hX.rP _ e).1; have:=hX.gh; omega
 have hnz: ∀z,X.W0.heap.size<=z-> ¬rowB X.AP=some z:=fun z hz e=>by have:=(Z09 hX.rP _ e).2; omega
 obtain ⟨g8,c8,e8,r8,n8⟩:=h.n1 h4;have hg8: ¬rowB X.AP=some g8:=fun e=>by
  rcases n8 with n8 | n8
  {rcases hX.ne with hne | hne
   {rw[hne] at n8; cases n8}
   {exact hne (n8.trans e.symm)}}
  {exact hnz g8 n8 e}
 refine ⟨h.vals' (fun v' h=>by cases h),h.up.trans (hu.mono (fun b _ hb=>Or.inr (Or.inr hb))), ?_, ?_, ?_, ?_, ?_, ?_, ?_,fun j hj=>(hu.cell hgm hgN).trans (h.cr j hj),fun j=>(hu.frozen hgm hgN).trans (h.fz j)⟩
 {rw[(k 4 (by omega)).1,h4]; nofun}
 {rw[(k 4 (by omega)).1,h4]; nofun}
 {rw[(k 4 (by omega)).2];exact fun _=>⟨g8,c8,e8,Z0l r8 hu (fun b hb=>by cases hb; exact hg8),n8⟩}
 {rw[(k 11 (by omega)).1,(k 11 (by omega)).2,(k 4 (by omega)).2,Z0o,Z0q];intro h11;obtain ⟨qr',s,e,y11,s1,s2,s3,hk,hgs,_,_⟩:=h.ca h11;obtain rfl:=Z3H (y11.symm.trans e11);refine ⟨qr',s,e,e11,s1,s2,Nat.le_trans s3 hu.size,kept_set hX hu (fun b hb=>Or.inr (Or.inr hb)) s1 hk,hgs,nofun,fun _=>⟨g,c,rfl,hown,hat.imp id (fun e=>by omega)⟩⟩}
 {rw[Z0o]; nofun}
 {rw[(k 15 (by omega)).1,h15];have:=h.c3;rw[h15] at this;exact (hu.cell hgm hgN).trans this}
 {rw[(k 17 (by omega)).1,h17];have:=h.c4;rw[h17] at this;exact (hu.cell hgm hgN).trans this}
end
theorem not_gm (hX:X.Good) {W':World} {g n c e s m:Nat} {xs:List Value} (r:W'.ownsRow X.hi e s (.slice (some ⟨g,0,none⟩) n c) m xs) {b:Nat} (hb:rowB (some ⟨g,0,none⟩)=some b) (he:b=X.gm):False:=by
 have e1:g=b:=by simpa[rowB] using hb
 have h1:=(r.lt g rfl).1;have:=hX.gh;omega
theorem GI.sto (h:X.GI d u W) (hX:X.Good) (h4:d 4=true) (h13:d 13=true) (i f:Nat) (hi:i=15/\f=3\/i=17/\f=4) (hd:d i=false):X.GI (also d i) (upd u i undef) (W.setCell ⟨X.gm,f,none⟩ (if i=15 then u 4 else u 13)):=by
 have k: ∀j,j≠i->also d i j=d j/\ ∀v,upd u i v j=u j:=fun j hj=>⟨Z0g d hj,fun v=>Z0b u v hj⟩;have hgm:=h.gmw hX;obtain ⟨g8,c8,e8,r8,n8⟩:=h.n1 h4;have hu:Upd (fun b=>b=X.gm) W (W.setCell ⟨X.gm,f,none⟩ (if i=15 then u 4 else u 13)):=Upd.set (Upd.refl (fun b=>b=X.gm) W) ⟨X.gm,f,none⟩ (fun _=>rfl) _;have far: ∀j,j≠f->(W.setCell ⟨X.gm,f,none⟩ (if i=15 then u 4 else u 13)).cell? ⟨X.gm,j,none⟩=W.cell? ⟨X.gm,j,none⟩:=fun j hj=>World.cell?_setCell_other _ _ _ _ (fun e=>by have:=congrArg Addr.off e; simp at this; omega);refine ⟨h.vals' (fun v' h=>by rcases hi with ⟨rfl,_⟩ | ⟨rfl,_⟩ <;> cases h),h.up.trans (hu.mono (fun b _ hb=>Or.inl hb)), ?_, ?_, ?_, ?_, ?_, ?_, ?_,fun j hj=>(far j (by omega)).trans (h.cr j hj),fun j=>(World.frozen?_setCell ..).trans (h.fz j)⟩
 {rw[(k 4 (by omega)).1,h4]; nofun}
 {rw[(k 4 (by omega)).1,h4]; nofun}
 {rw[(k 4 (by omega)).2];exact fun _=>⟨g8,c8,e8,Z0l r8 hu (fun b hb e=>not_gm hX r8 hb e),n8⟩}
 {rw[(k 11 (by omega)).1,(k 11 (by omega)).2,(k 4 (by omega)).2,(k 13 (by omega)).1,(k 13 (by omega)).2];intro h11;obtain ⟨qr,s,e,e11,s1,s2,s3,hk,hgs,_,hp⟩:=h.ca h11;obtain ⟨g,c,e13,r13,n13⟩:=hp h13;refine ⟨qr,s,e,e11,s1,s2,Nat.le_trans s3 hu.size,kept_set hX hu (fun b hb=>Or.inl hb) s1 hk,hgs,fun _ hf=>absurd (h13.symm.trans hf) (by decide),fun _=>⟨g,c,e13,Z0l r13 hu (fun b hb e=>not_gm hX r13 hb e),n13⟩⟩}
 {rw[(k 13 (by omega)).1,h13]; nofun}
 {rw[(k 4 (by omega)).2];rcases hi with ⟨rfl,rfl⟩ | ⟨rfl,rfl⟩
  {rw[Z0o,if_pos rfl,if_pos rfl];exact World.cell?_setCell_same _ _ _ h.c3}
  {rw[(k 15 (by omega)).1];exact (far 3 (by omega)).trans h.c3}}
 {rw[(k 13 (by omega)).2];rcases hi with ⟨rfl,rfl⟩ | ⟨rfl,rfl⟩
  {rw[(k 17 (by omega)).1];exact (far 4 (by omega)).trans h.c4}
  {rw[Z0o,if_pos rfl,if_neg (by omega)];exact World.cell?_setCell_same _ _ _ h.c4}}
end GX
end SubM
end Go.Proofs.YtkhoflciahkphaaGreatDoor
namespace Go.Proofs.YtkhoflciahkphaaGreatDoor
open Go.RowKit Shp Sub
namespace SubM
structure GQ where
 W0:World
 gm:Nat
 hi:Nat
 AP:Option Addr
 cP:Nat
 l:List El
 b1:Nat
 b2:Nat
 p:Sh
 px:Ptr
 q:Sh
 qx:Ptr
 r:Sh
 n0:Nat
namespace GQ
variable (X : GQ)
def val (j:Nat):Option Value:=match j with
 | 0 | 10=>some (.pointer (some ⟨X.gm,4,none⟩))
 | 1=>some (.slice X.AP X.l.length X.cP)
 | 2=>some (sv X.p X.px)
 | 3=>some (sv X.q X.qx)
 | 5=>some (.int .i64 (X.l.length:Int))
 | _=>none
def set (b:Nat):Prop:=b=X.gm\/rowB X.AP=some b
structure Good:Prop where
 ng:X.n0<=X.gm
 gh:X.gm < X.hi
 hw:X.hi<=X.W0.heap.size
 c4:X.W0.cell? ⟨X.gm,4,none⟩=some (.slice X.AP X.l.length X.cP)
 fz: ∀j,X.W0.frozen? ⟨X.gm,j,none⟩=false
 rP:X.W0.ownsRow X.hi 25 5 (.slice X.AP X.l.length X.cP) X.l.length (cellsE X.l)
 l1:X.gm < X.b1/\X.b1 < X.W0.heap.size/\rowB X.AP≠some X.b1
 l2:X.gm < X.b2/\X.b2 < X.W0.heap.size/\rowB X.AP≠some X.b2
 x1:Sh5 X.W0 X.b1 0 X.p X.px
 x2:Sh5 X.W0 X.b2 0 X.q X.qx
 ll:X.l.length<=1000
 ok: ∀W,Upd X.set X.W0 W->Calls Tryz.prog 34 #[sv X.p X.px,sv X.q X.qx] W (NIs X.r X.n0 W)
structure GI (d:Nat->Bool) (u:Nat->Value) (W:World):Prop where
 vals: ∀j,d j=true-> ∀v,X.val j=some v->u j=v
 up:Upd X.set X.W0 W
 f6:d 6=true->d 7=false-> ∃z,u 6= .slice (some ⟨z,0,none⟩) 1 1/\X.W0.heap.size<=z/\z < W.heap.size/\ ∀(j:Nat) v,Z0u[j]? =some v->W.cell? ⟨z,j,none⟩=some v
 ca:d 4=true-> ∃qr s e,u 4=sv X.r qr/\X.W0.heap.size<=s/\s<=e/\e<=W.heap.size/\Kept (fun b=>b < X.n0\/(s<=b/\b < e)) W (X.r,qr)/\
  (d 7=true-> ∃g c,u 7= .slice (some ⟨g,0,none⟩) (X.l.length+1) c/\W.ownsRow X.hi 25 5 (.slice (some ⟨g,0,none⟩) (X.l.length+1) c) (X.l.length+1) (cellsE X.l++if d 9=true then Z0m (X.r,qr) else Z0u)/\(rowB X.AP=some g\/e<=g)/\
   (d 8=true->u 8= .pointer (some ⟨g,X.l.length * 5,none⟩)))
 p0:d 7=false->W.ownsRow X.hi 25 5 (.slice X.AP X.l.length X.cP) X.l.length (cellsE X.l)
 c4:W.cell? ⟨X.gm,4,none⟩=some (if d 11=true then u 7 else .slice X.AP X.l.length X.cP)
 cr: ∀j,j < 4->W.cell? ⟨X.gm,j,none⟩=X.W0.cell? ⟨X.gm,j,none⟩
 fz: ∀j,W.frozen? ⟨X.gm,j,none⟩=false
variable {X : GQ} {d : Nat -> Bool} {u : Nat -> Value} {W W' : World}
theorem GI.vals' (h:X.GI d u W) {i:Nat} {v:Value} (hv: ∀v',X.val i=some v'->v=v'): ∀j,also d i j=true-> ∀v',X.val j=some v'->upd u i v j=v':=fun j hj v' hv'=>by
 by_cases hij:j=i
 {subst hij; rw[Z0q]; exact hv v' hv'}
 {rw[Z0g d hij] at hj; rw[Z0b u v hij]; exact h.vals j hj v' hv'}
theorem Good.start (h:X.Good):X.GI (fun _=>false) u X.W0.drew:=
 ⟨nofun,(Upd.refl _ _).drew,nofun,nofun,fun _=>h.rP,h.c4,fun _ _=>rfl,h.fz⟩
theorem GI.pure (h:X.GI d u W) {i:Nat} (hi:i≠4/\i≠6/\i≠7/\i≠8/\i≠9/\i≠11) {v:Value} (hv: ∀v',X.val i=some v'->v=v'):X.GI (also d i) (upd u i v) W:=by
 have k: ∀j,j=4\/j=6\/j=7\/j=8\/j=9\/j=11->also d i j=d j/\upd u i v j=u j:=fun j hj=>⟨Z0g d (by omega),Z0b u v (by omega)⟩;refine ⟨h.vals' hv,h.up, ?_, ?_, ?_, ?_,h.cr,h.fz⟩
 {rw[(k 6 (by omega)).1,(k 6 (by omega)).2,(k 7 (by omega)).1]; exact h.f6}
 {rw[(k 4 (by omega)).1,(k 4 (by omega)).2,(k 7 (by omega)).1,(k 7 (by omega)).2,(k 8 (by omega)).1,(k 8 (by omega)).2,(k 9 (by omega)).1]; exact h.ca}
 {rw[(k 7 (by omega)).1]; exact h.p0}
 {rw[(k 11 (by omega)).1,(k 7 (by omega)).2]; exact h.c4}
theorem Good.set_lt (h:X.Good) {b:Nat} (hb:X.set b):X.gm<=b/\b < X.W0.heap.size:=by
 have h1:=h.gh;have h2:=h.hw;rcases hb with rfl | hb
 {omega}
 {have:=Z09 h.rP b hb; omega}
theorem GI.box (h:X.GI d u W) (hX:X.Good):Sh5 W X.b1 0 X.p X.px/\Sh5 W X.b2 0 X.q X.qx:=
 ⟨hX.x1.of (fun k=>h.up.cell hX.l1.2.1 (fun hs=>by
  rcases hs with hs | hs
  {have:=hX.l1.1; omega}
  · exact hX.l1.2.2 hs)),hX.x2.of (fun k=>h.up.cell hX.l2.2.1 (fun hs=>by
  rcases hs with hs | hs
  {have:=hX.l2.1; omega}
  · exact hX.l2.2.2 hs))⟩
theorem GI.gmw (h:X.GI d u W) (hX:X.Good):X.gm < W.heap.size:=by have:=hX.gh; have:=hX.hw; have:=h.up.size; omega
theorem kept_set (hX:X.Good) {S:Nat->Prop} (hu:Upd S W W') {e:Nat} (hS: ∀b,S b->X.gm<=b/\(b < X.W0.heap.size\/e<=b)) {s:Nat} {x:El} (hs:X.W0.heap.size<=s) (hk:Kept (fun b=>b < X.n0\/(s<=b/\b < e)) W x):Kept (fun b=>b < X.n0\/(s<=b/\b < e)) W' x:=
 hk.upd hu (fun b hb hb2 hb3=>by
  have:=hS b hb3;have:=hX.ng;rcases hb2 with h | h <;> omega)
theorem GI.new (h:X.GI d u W) (hX:X.Good) (hb:Below W.heap.size W W'):X.GI d u W':=by
 have hgm:=h.gmw hX;have hu:Upd (fun _=>False) W W':=Upd.new hb;refine ⟨h.vals,h.up.trans (hu.mono (fun _ _ h=>h.elim)),fun h6 h7=> ?_,fun h4=> ?_,fun h7=>Z0l (h.p0 h7) hu (fun _ _ h=>h),
  (hu.cell hgm (fun h=>h)).trans h.c4,fun j hj=>(hu.cell hgm (fun h=>h)).trans (h.cr j hj),fun j=>(hu.frozen hgm (fun h=>h)).trans (h.fz j)⟩
 {obtain ⟨z,e,z1,z2,z3⟩:=h.f6 h6 h7;exact ⟨z,e,z1,Nat.lt_of_lt_of_le z2 hu.size,fun j v hv=>(hu.cell z2 (fun h=>h)).trans (z3 j v hv)⟩}
 {obtain ⟨qr,s,e,e4,s1,s2,s3,hk,h7⟩:=h.ca h4;refine ⟨qr,s,e,e4,s1,s2,Nat.le_trans s3 hu.size,hk.upd hu (fun _ _ _ h=>h),fun a=> ?_⟩;obtain ⟨g,c,e,r,n,m⟩:=h7 a;exact ⟨g,c,e,Z0l r hu (fun _ _ h=>h),n,m⟩}
section
variable (h : X.GI d u W) (hX : X.Good)
include h hX
theorem GI.s6:X.GI (also d 6) (upd u 6 (.slice (some ⟨W.heap.size,0,none⟩) 1 1)) (W.alloc (.cells Yb 25)):=by
 have hn:=h.new hX (Z01 W (.cells Yb 25));have k: ∀j,j≠6->also d 6 j=d j/\ ∀v,upd u 6 v j=u j:=fun j hj=>⟨Z0g d hj,fun v=>Z0b u v hj⟩;have hs:=h.up.size;refine ⟨hn.vals' (fun v' h=>by cases h),hn.up,fun _ _=>⟨W.heap.size,Z0q _ _ _,hs,by simp, ?_⟩, ?_, ?_, ?_,hn.cr,hn.fz⟩
 {intro j v hv;rcases j with _ | _ | _ | _ | _ | j
  {simp[Z0u] at hv; subst hv; simp[go_sem]}
  {simp[Z0u] at hv; subst hv; simp[go_sem]}
  {simp[Z0u] at hv; subst hv; simp[go_sem]}
  {simp[Z0u] at hv; subst hv; simp[go_sem]}
  {simp[Z0u] at hv; subst hv; simp[go_sem]}
  {simp[Z0u] at hv}}
 {rw[(k 4 (by omega)).1,(k 4 (by omega)).2,(k 7 (by omega)).1,(k 7 (by omega)).2,(k 8 (by omega)).1,(k 8 (by omega)).2,(k 9 (by omega)).1]; exact hn.ca}
 {rw[(k 7 (by omega)).1]; exact hn.p0}
 {rw[(k 11 (by omega)).1,(k 7 (by omega)).2]; exact hn.c4}
theorem GI.s4 (h7:d 7=false) {e:Ending} (hb:NIs X.r X.n0 W e W'): ∃v,e= .returned v/\X.GI (also d 4) (upd u 4 v) W':=by
 obtain ⟨qr,rfl,hbl,hkp⟩:=hb;have k: ∀j,j≠4->also d 4 j=d j/\ ∀v,upd u 4 v j=u j:=fun j hj=>⟨Z0g d hj,fun v=>Z0b u v hj⟩;have hn:=h.new hX hbl;have hs:=h.up.size;refine ⟨_,rfl,hn.vals' (fun v' h=>by cases h),hn.up, ?_,fun _=>⟨qr,W.heap.size,W'.heap.size,Z0q _ _ _,hs,hbl.size,Nat.le_refl _,hkp.more (fun b hb hS=>hS.imp id (fun h=>⟨h,hb⟩)), ?_⟩, ?_, ?_,hn.cr,hn.fz⟩
 {rw[(k 6 (by omega)).1,(k 6 (by omega)).2,(k 7 (by omega)).1]; exact hn.f6}
 {rw[(k 7 (by omega)).1,h7]; nofun}
 {rw[(k 7 (by omega)).1]; exact hn.p0}
 {rw[(k 11 (by omega)).1,(k 7 (by omega)).2]; exact hn.c4}
theorem GI.s7 (h4:d 4=true) (h7:d 7=false) (h8:d 8=false) (h9:d 9=false) (h11:d 11=false) {g c:Nat} (hown:W'.ownsRow X.hi 25 5 (.slice (some ⟨g,0,none⟩) (X.l.length+1) c) (X.l.length+1) (cellsE X.l++Z0u))
 (hg:W.grownBy W' (rowB X.AP)) (hat:rowB X.AP=some g\/g=W.heap.size):X.GI (also d 7) (upd u 7 (.slice (some ⟨g,0,none⟩) (X.l.length+1) c)) W':=by
 have k: ∀j,j≠7->also d 7 j=d j/\ ∀v,upd u 7 v j=u j:=fun j hj=>⟨Z0g d hj,fun v=>Z0b u v hj⟩;have hu:Upd (fun b=>rowB X.AP=some b) W W':=(Upd.refl _ W).grown hg (fun k h _=>h);have hgm:=h.gmw hX;have hgN: ¬rowB X.AP=some X.gm:=fun e=>by have:=(Z09 hX.rP _ e).1; have:=hX.gh; omega
 refine ⟨h.vals' (fun v' h=>by cases h),h.up.trans (hu.mono (fun b _ hb=>Or.inr hb)), ?_, ?_, ?_, ?_,fun j hj=>(hu.cell hgm hgN).trans (h.cr j hj),fun j=>(hu.frozen hgm hgN).trans (h.fz j)⟩
 {rw[Z0o]; nofun}
 {rw[(k 4 (by omega)).1,(k 4 (by omega)).2,(k 8 (by omega)).1,(k 8 (by omega)).2,(k 9 (by omega)).1,Z0o,Z0q,h9,h8];intro _;obtain ⟨qr,s,e,e4,s1,s2,s3,hk,_⟩:=h.ca h4;exact ⟨qr,s,e,e4,s1,s2,Nat.le_trans s3 hu.size,kept_set hX hu (fun b hb=>by have:=hX.set_lt (Or.inr hb); exact ⟨this.1,Or.inl this.2⟩) s1 hk,fun _=>⟨g,c,rfl,hown,hat.imp id (fun e=>by omega),nofun⟩⟩}
 {rw[Z0o]; nofun}
 {rw[(k 11 (by omega)).1,h11];have:=h.c4;rw[h11] at this;exact (hu.cell hgm hgN).trans this}
theorem GI.s8 (h7:d 7=true) {v:Value} (hv: ∀g c,u 7= .slice (some ⟨g,0,none⟩) (X.l.length+1) c->v= .pointer (some ⟨g,X.l.length * 5,none⟩)):X.GI (also d 8) (upd u 8 v) W:=by
 have k: ∀j,j≠8->also d 8 j=d j/\ ∀v,upd u 8 v j=u j:=fun j hj=>⟨Z0g d hj,fun v=>Z0b u v hj⟩;refine ⟨h.vals' (fun v' h=>by cases h),h.up, ?_, ?_, ?_, ?_,h.cr,h.fz⟩
 {rw[(k 7 (by omega)).1,h7]; exact fun _ h=>by cases h}
 {rw[(k 4 (by omega)).1,(k 4 (by omega)).2,(k 7 (by omega)).1,(k 7 (by omega)).2,(k 9 (by omega)).1,Z0q];intro h4;obtain ⟨qr,s,e,e4,s1,s2,s3,hk,hp⟩:=h.ca h4;exact ⟨qr,s,e,e4,s1,s2,s3,hk,fun a=>by
   obtain ⟨g,c,e7,r,n,m⟩:=hp a;exact ⟨g,c,e7,r,n,fun _=>hv g c e7⟩⟩}
 {rw[(k 7 (by omega)).1]; exact h.p0}
 {rw[(k 11 (by omega)).1,(k 7 (by omega)).2]; exact h.c4}
end
theorem not_gm (hX:X.Good) {W':World} {g n c e s m:Nat} {xs:List Value} (r:W'.ownsRow X.hi e s (.slice (some ⟨g,0,none⟩) n c) m xs):g≠X.gm:=by
 have h1:=(r.lt g rfl).1;have:=hX.gh;omega
section
variable (h : X.GI d u W) (hX : X.Good) (h4 : d 4 = true) (h7 : d 7 = true)
include h hX h4 h7
theorem GI.s9 (h9:d 9=false) {qr:Ptr} (e4:u 4=sv X.r qr) {g c:Nat} (e7:u 7= .slice (some ⟨g,0,none⟩) (X.l.length+1) c):X.GI (also d 9) (upd u 9 undef) (layO W g (X.l.length * 5) (X.r,qr)):=by
 have k: ∀j,j≠9->also d 9 j=d j/\ ∀v,upd u 9 v j=u j:=fun j hj=>⟨Z0g d hj,fun v=>Z0b u v hj⟩;obtain ⟨qr',s,e,e4',s1,s2,s3,hk,hp⟩:=h.ca h4;obtain rfl:=Z3H (e4'.symm.trans e4);obtain ⟨g',c',e,r,n,m⟩:=hp h7;have ee:=e.symm.trans e7;simp only[Value.slice.injEq,Option.some.injEq,Addr.mk.injEq,and_true] at ee;obtain ⟨rfl,_,rfl⟩:=ee;rw[h9] at r;simp only[Bool.false_eq_true,if_false] at r;obtain ⟨r',hg⟩:=Z7q (X.r,qr') (Z10 X.l) r;have hu:Upd (fun b=>b=g') W (layO W g' (X.l.length * 5) (X.r,qr')):=(Upd.refl _ W).grown hg (fun k h _=>by cases h; rfl);have hgm:=h.gmw hX;have hne: ¬X.gm=g':=fun e=>not_gm hX r e.symm;have hgl:=(Z09 r g' rfl).1;refine ⟨h.vals' (fun v' h=>by cases h), ?_, ?_, ?_, ?_, ?_,fun j hj=>(hu.cell hgm hne).trans (h.cr j hj),fun j=>(hu.frozen hgm hne).trans (h.fz j)⟩
 {refine ⟨hu.os.trans h.up.os,hu.tape.trans h.up.tape,hu.output.trans h.up.output,Nat.le_trans h.up.size hu.size,fun x h1 h2=>(hu.block x (by have:=h.up.size; omega) (fun e=> ?_)).trans (h.up.block x h1 h2)⟩;have e:x=g':=e;rcases n with n | n
  {exact h2 (Or.inr (by rw[e]; exact n))}
  {omega}}
 {rw[(k 7 (by omega)).1,h7]; exact fun _ h=>by cases h}
 {rw[(k 4 (by omega)).2,(k 7 (by omega)).1,(k 7 (by omega)).2,(k 8 (by omega)).1,(k 8 (by omega)).2,Z0o];refine fun _=>⟨qr',s,_,e4,s1,s2,Nat.le_trans s3 hu.size,kept_set hX hu (fun b hb=> ?_) s1 hk,fun _=>⟨g',c',e,by simpa using r',n,m⟩⟩;have hb:b=g':=hb;have:=hX.gh;rw[hb];refine ⟨by omega, ?_⟩;rcases n with n | n
  {exact Or.inl (Z09 hX.rP g' n).2}
  {exact Or.inr n}}
 {rw[(k 7 (by omega)).1,h7]; nofun}
 {rw[(k 11 (by omega)).1,(k 7 (by omega)).2]; exact (hu.cell hgm hne).trans h.c4}
theorem GI.s11 (h11:d 11=false):X.GI (also d 11) (upd u 11 undef) (W.setCell ⟨X.gm,4,none⟩ (u 7)):=by
 have k: ∀j,j≠11->also d 11 j=d j/\ ∀v,upd u 11 v j=u j:=fun j hj=>⟨Z0g d hj,fun v=>Z0b u v hj⟩;have hgm:=h.gmw hX;have hu:Upd (fun b=>b=X.gm) W (W.setCell ⟨X.gm,4,none⟩ (u 7)):=Upd.set (Upd.refl (fun b=>b=X.gm) W) ⟨X.gm,4,none⟩ (fun _=>rfl) _;have far: ∀j,j≠4->(W.setCell ⟨X.gm,4,none⟩ (u 7)).cell? ⟨X.gm,j,none⟩=W.cell? ⟨X.gm,j,none⟩:=fun j hj=>World.cell?_setCell_other _ _ _ _ (fun e=>by have:=congrArg Addr.off e; simp at this; omega);refine ⟨h.vals' (fun v' h=>by cases h),h.up.trans (hu.mono (fun b _ hb=>Or.inl hb)), ?_, ?_, ?_, ?_,fun j hj=>(far j (by omega)).trans (h.cr j hj),fun j=>(World.frozen?_setCell ..).trans (h.fz j)⟩
 {rw[(k 7 (by omega)).1,h7]; exact fun _ h=>by cases h}
 {rw[(k 4 (by omega)).1,(k 4 (by omega)).2,(k 7 (by omega)).1,(k 7 (by omega)).2,(k 8 (by omega)).1,(k 8 (by omega)).2,(k 9 (by omega)).1];intro _;obtain ⟨qr,s,e,e4,s1,s2,s3,hk,hp⟩:=h.ca h4;refine ⟨qr,s,e,e4,s1,s2,Nat.le_trans s3 hu.size,kept_set hX hu (fun b hb=>by have:=hX.set_lt (Or.inl hb); exact ⟨this.1,Or.inl this.2⟩) s1 hk,fun a=> ?_⟩;obtain ⟨g,c,e7,r,n,m⟩:=hp a;refine ⟨g,c,e7,Z0l r hu (fun b hb e=> ?_),n,m⟩;have e1:g=b:=by simpa[rowB] using hb
  exact not_gm hX r (e1.trans e)}
 {rw[(k 7 (by omega)).1,h7]; nofun}
 {rw[(k 7 (by omega)).2,Z0o,if_pos rfl];exact World.cell?_setCell_same _ _ _ h.c4}
end
end GQ
end SubM
end Go.Proofs.YtkhoflciahkphaaGreatDoor
namespace Go.Proofs.YtkhoflciahkphaaGreatDoor
open Go.RowKit Shp Sub
namespace SubM
def NamedOk (f:Nat):Prop:=
 ∀(up:Bool) (s t:Sh) (ps pt:Ptr) (n0:Nat) (W:World),Two f s t->Grd.R true f up s t->ShAt W n0 ps s->ShAt W n0 pt t->n0<=W.heap.size->Calls Tryz.prog 34 #[sv s ps,sv t pt] W (NIs (Grd.named f s t) n0 W)
def eitherR (f:Nat) (o1:Option Sh) (q:Sh):Sh:=match o1 with
 | none=>q
 | some p=>Grd.named f p q
theorem Z7r {r:Sh} {qr:Ptr} {n0:Nat} {W w2 W3:World} {rc:Nat} (hn:n0<=W.heap.size) (h1:W.heap.size<=rc) (h2:rc < w2.heap.size) (hb:Below W.heap.size W w2) (hb3:Below w2.heap.size w2 W3) (hk:Kept (fun b=>b < n0\/w2.heap.size<=b) W3 (r,qr)):
 NIs r n0 W (.returned (sv r qr)) (RX.lay W3 rc r qr):=by
 have hu:=RX.lay_upd W3 rc r qr;have hbw:=Z00 hb hb3;refine ⟨qr,rfl,hbw.trans (hu.below hbw.size (fun x hx=>by omega)),hk.move hu (fun b _ hf=>⟨fun e=>by have e:b=rc:=e; rcases hf with hf | hf <;> omega,by have:=hb.size; rcases hf with hf | hf <;> omega⟩)⟩
theorem Z6b {n0:Nat} {W:World} {q:Sh} {qy:Ptr} (h:ShAt W n0 qy q) (hn:n0<=W.heap.size) (B:Nat):Kept (fun b=>b < n0\/B<=b) W (q,qy):=Kept.old h hn (fun b hb=>Or.inl hb)
theorem Z6c {f:Nat} (hI:NamedOk f) (o1:Option Sh) (q:Sh) (x:Value) (qy:Ptr) (n0:Nat) (W:World) (h: ∀p,o1=some p->Two f p q/\ ∃up,Grd.R true f up p q) (hn:n0<=W.heap.size) (hx:At W n0 o1 x) (hy:ShAt W n0 qy q):
 Calls Tryz.prog 57 #[x,sv q qy] W (NIs (eitherR f o1 q) n0 W):=by
 have hb1:=Z01 W (.cells (Y8 q qy) 25);obtain ⟨w1,hw1⟩: ∃w1,w1=W.alloc (.cells (Y8 q qy) 25):=⟨_,rfl⟩;have hb2:=Z01 w1 (.cells Yb 25);obtain ⟨w2,hw2⟩: ∃w2,w2=w1.alloc (.cells Yb 25):=⟨_,rfl⟩;have hs1:w1.heap.size=W.heap.size+1:=by rw[hw1]; simp
 have hs2:w2.heap.size=W.heap.size+2:=by rw[hw2]; simp[hs1]
 have hR:Rc (W.heap.size+1) w2:=by have h:=Z3G hw2; rwa [hs1] at h
 rw[<-hw1] at hb1;rw[<-hw2] at hb2;have hB1:Box5 w1 W.heap.size q qy:=by rw[hw1]; exact Z02 W q qy
 have hBA:=hB1.next hb2;have hbw:=Z00 hb1 hb2;have hu:Upd (fun _=>False) W w2:=Upd.new hbw;have hn2:n0<=w2.heap.size:=by omega
 have hq2:=Z0f hy hn hu (fun _ _ h=>h);have hx2:=At.upd hx hn hu (fun _ _ h=>h);have HW:=Y1 hbw;have HN:=Y1 hn;have HS2:=Y1 hs2;obtain ⟨_,⟨a0,a1,a2,a3,a4⟩,_⟩:=hBA;simp only[Nat.zero_add] at a0 a1 a2 a3 a4;have hw1':=hw1.symm;have hw2':=hw2.symm;cases o1 with
 | none=>
  have hx':x= .pointer none:=hx;subst hx';have hfin:NIs (eitherR f none q) n0 W (.returned (sv q qy)) (RX.lay w2 (W.heap.size+1) q qy):=Z7r HN.out (Nat.le_succ _) (by omega) hbw Y2 (Z6b hq2 hn2 _);have HF:=Y1 hfin;obtain ⟨v0,y0⟩:=hR.ex 0 (by omega);obtain ⟨v1,y1⟩:=hR.ex 1 (by omega);obtain ⟨v2,y2⟩:=hR.ex 2 (by omega);obtain ⟨v3,y3⟩:=hR.ex 3 (by omega);obtain ⟨v4,y4⟩:=hR.ex 4 (by omega);have z0:=hR.fz 0;have z1:=hR.fz 1;have z2:=hR.fz 2;have z3:=hR.fz 3;have z4:=hR.fz 4;obtain ⟨u0,u1,u2,u3,u4⟩:=RX.lay_at q qy (W:=w2) (g:=W.heap.size+1) hR.ex;simp only[Nat.zero_add] at u0 u1 u2 u3 u4;have HU:=Y1 (And.intro u0 (And.intro u1 (And.intro u2 (And.intro u3 u4))));clear u0 u1 u2 u3 u4 hfin hR hbw hu hn2 hq2 hx2 hx hy hn h hI hB1 hb1 hb2 hw1 hw2 hs2;unfold sv at HF ⊢;go_enter Tryz.func57,Tryz.ntmps57;go_wp2;obtain ⟨u0,u1,u2,u3,u4⟩:=HU.out;unfold RX.lay at u0 u1 u2 u3 u4 HF;refine bodyPost_ret (v:= .agg (Y8 q qy)) (by simp[results,Tryz.results57,go_sem,u0,u1,u2,u3,u4]) rfl ?_;exact HF.out
 | some p=>
  obtain ⟨g,off,qx,rfl,hg,h5,hs⟩:=hx2;obtain ⟨htwo,up,hr⟩:=h p rfl;obtain ⟨x0,x1,x2,x3,x4⟩:=h5;have hud:Upd (fun _=>False) w2 w2.drew:=(Upd.refl _ w2).drew;have HC:=Y1 (hI up p q qx qy n0 w2.drew htwo hr (Z0f hs hn2 hud (fun _ _ h=>h)) (Z0f hq2 hn2 hud (fun _ _ h=>h)) hn2);have HR:=Y1 hR;unfold sv at HC ⊢;clear hR hbw hu hn2 hq2 hx hy hn h hI hB1 hb1 hb2 hw1 hw2 hs2 htwo hr hs hg hud;go_enter Tryz.func57,Tryz.ntmps57
  go_wp2_with fail
  go_still_tail 4,(by kernel_rfl)
  change wpList _ _ _ _ _ w2.drew
  go_wp2_with fail
  refine HC.out.mono ?_;rintro e W3 ⟨qr,rfl,hb3,hkp⟩;have hb3':Below w2.heap.size w2 W3:=⟨hb3.os,hb3.tape,hb3.output,hb3.size,hb3.block⟩;have hR3:Rc (W.heap.size+1) W3:=HR.out.upd (T:=fun _=>False) (Upd.new hb3') (fun h=>h);have hfin:NIs (eitherR f (some p) q) n0 W (.returned (sv (Grd.named f p q) qr)) (RX.lay W3 (W.heap.size+1) (Grd.named f p q) qr):=Z7r HN.out (Nat.le_succ _) (by have:=HS2.out; omega) HW.out hb3' hkp;have HF:=Y1 hfin;obtain ⟨v0,y0⟩:=hR3.ex 0 (by omega);obtain ⟨v1,y1⟩:=hR3.ex 1 (by omega);obtain ⟨v2,y2⟩:=hR3.ex 2 (by omega);obtain ⟨v3,y3⟩:=hR3.ex 3 (by omega);obtain ⟨v4,y4⟩:=hR3.ex 4 (by omega);have z0:=hR3.fz 0;have z1:=hR3.fz 1;have z2:=hR3.fz 2;have z3:=hR3.fz 3;have z4:=hR3.fz 4;obtain ⟨u0,u1,u2,u3,u4⟩:=RX.lay_at (Grd.named f p q) qr (W:=W3) (g:=W.heap.size+1) hR3.ex;simp only[Nat.zero_add] at u0 u1 u2 u3 u4;have HU:=Y1 (And.intro u0 (And.intro u1 (And.intro u2 (And.intro u3 u4))));clear u0 u1 u2 u3 u4 hfin hR3 hb3 hb3' hkp HC a0 a1 a2 a3 a4 x0 x1 x2 x3 x4;go_wp2;obtain ⟨u0,u1,u2,u3,u4⟩:=HU.out;unfold RX.lay at u0 u1 u2 u3 u4 HF;refine bodyPost_ret (v:=sv (Grd.named f p q) qr) (by simp[results,Tryz.results57,go_sem,u0,u1,u2,u3,u4]) rfl ?_;exact HF.out
theorem GX.done {X:GX} {d:Nat->Bool} {u:Nat->Value} {W:World} (hI:X.GI d u W) (hX:X.Good) (hd: ∀j,j < 18->d j=true) {w0:World} {pf:Nat} {fv:Value} {k:Int} {L:List Fld}
 (hK:KNs w0 X.n0 X.gm X.hi pf fv k true L X.l X.AN X.cN X.AP X.cP X.W0) (hnl:X.nl=L.map Prod.fst) (hpf:pf < X.hi) (hpg:pf≠X.gm):
 KN w0 X.n0 X.gm X.hi pf fv k true (L++ [(X.nm,X.r)]) W/\Upd (fun b=>b=X.gm\/X.hi<=b) X.W0 W:=by
 obtain ⟨g,c,e4,rN,nN⟩:=hI.n1 (hd 4 (by omega));obtain ⟨qr,s,e,e11,s1,s2,s3,hk,hgs,_,hp⟩:=hI.ca (hd 11 (by omega));obtain ⟨g',c',e13,rP,nP⟩:=hp (hd 13 (by omega));have c3:=hI.c3;have c4:=hI.c4;rw[hd 15 (by omega),e4] at c3;rw[hd 17 (by omega),e13] at c4;simp only[if_true] at c3 c4;have hm:=hK.mm;have hu:=hI.up;have hgl:=hgs g _ _ e4;have hgg:g≠g':=by
  rcases nP with h | h
  {rcases nN with h2 | h2
   {intro e;subst e;rcases hX.ne with h3 | h3
    {rw[h3] at h2; cases h2}
    {exact h3 (h2.trans h.symm)}}
   {have:=(Z09 hX.rP g' h).2; omega}}
  {omega}
 have hrl: ∀b,X.set b->w0.heap.size<=b:=fun b hb=>by have:=(hX.set_lt hb).1; have:=hm.lo; omega
 have hh:=hX.hw;have hng:=hX.ng;refine ⟨⟨X.l++ [(X.r,qr)],some ⟨g,0,none⟩,c,some ⟨g',0,none⟩,c',⟨⟨hm.up.trans (hu.below hm.up.size hrl),hm.lo,hm.gh,Nat.le_trans hm.hw hu.size,(hI.cr 0 (by omega)).trans hm.c0,(hI.cr 1 (by omega)).trans hm.c1,(hI.cr 2 (by omega)).trans hm.c2, ?_, ?_,hI.fz, ?_, ?_,Or.inr (fun e=>hgg (by simpa[rowB] using e))⟩, ?_,fun _ x hx=> ?_, ?_⟩⟩,hu.mono (fun b _ hb=> ?_)⟩
 {rw[List.map_append,List.length_append, <-hnl]; exact c3}
 {rw[List.length_append]; exact c4}
 {rw[List.map_append,List.length_append,Z5j, <-hnl]; exact rN}
 {rw[List.length_append,Z19,Z2f]; exact rP}
 {rw[List.map_append,List.map_append,hK.eq]; rfl}
 {rcases List.mem_append.1 hx with hx | hx
  {refine (hK.kp rfl x hx).move hu (fun b hb hf=>⟨fun ht=> ?_, ?_⟩)
   {rcases hf with hf | ⟨hf,f1,f2⟩
    {have:=(hX.set_lt ht).1; omega}
    {rcases ht with ht | ht | ht
     {have:=hX.gh; omega}
     {exact f1 ht}
     {exact f2 ht}}}
   {rcases hf with hf | ⟨hf,f1,f2⟩
    {exact Or.inl hf}
    {refine Or.inr ⟨hf,fun e=> ?_,fun e=> ?_⟩
     {have e:g=b:=by simpa[rowB] using e
      subst e;exact nN.elim f1 (fun h=>by omega)}
     {have e:g'=b:=by simpa[rowB] using e
      subst e;exact nP.elim f2 (fun h=>by omega)}}}}
  {rw[List.mem_singleton.1 hx];refine hk.more (fun b hb hS=> ?_);rcases hS with h | ⟨h1,h2⟩
   {exact Or.inl h}
   {refine Or.inr ⟨by omega,fun e=> ?_,fun e=> ?_⟩
    {have e:g=b:=by simpa[rowB] using e
     omega}
    {have e:g'=b:=by simpa[rowB] using e
     rcases nP with h | h
     {have:=(Z09 hX.rP g' h).2; omega}
     {omega}}}}}
 {refine (hu.cell (by omega) (fun ht=> ?_)).trans hK.fc;rcases ht with ht | ht | ht
  {exact hpg ht}
  {have:=(Z09 hX.rN pf ht).1; omega}
  {have:=(Z09 hX.rP pf ht).1; omega}}
 {rcases hb with hb | hb | hb
  {exact Or.inl hb}
  {exact Or.inr (Z09 hX.rN b hb).1}
  {exact Or.inr (Z09 hX.rP b hb).1}}
theorem Z78 {f:Nat} (hI:NamedOk f) (w0:World) (n0 gm hi pf:Nat) (fv:Value) (k:Int) (L:List Fld) (nm:List UInt8) (o1 o2:Option Sh) (x y:Value) (W:World) (h2: ∀p q,o1=some p->o2=some q->Two f p q/\ ∃up,Grd.R true f up p q)
 (hn:n0<=gm) (hpf:pf < hi) (hpg:pf≠gm) (hL:L.length<=900) (hx:At W n0 o1 x) (hy:At W n0 o2 y) (hk:KN w0 n0 gm hi pf fv k true L W):
 Calls Tryz.prog 56 (.string ⟨nm.toArray⟩::x::y:: .pointer (some ⟨gm,0,none⟩):: []).toArray W fun e W'=>e= .returned (.bool true)/\
  KN w0 n0 gm hi pf fv k true (L++(Grd.nstep (Grd.named f) (nm,o1,o2)).toList) W'/\Upd (fun b=>b=gm\/hi<=b) W W':=by
 cases o2 with
 | none=>
  have hy':y= .pointer none:=hy;subst hy';have hr:Grd.nstep (Grd.named f) (nm,o1,none)=none:=by cases o1 <;> rfl
  rw[hr];have HK:=Y1 hk;have hx': ∃p,x= .pointer p:=by
   cases o1 with
   | none=>exact ⟨none,hx⟩
   | some _=>obtain ⟨g,o,q,h1,_⟩:=hx; exact ⟨_,h1⟩
  obtain ⟨p,rfl⟩:=hx';clear hy h2 hI hr hk hx;go_enter Tryz.func56,Tryz.ntmps56;go_wp2;go_ret;exact ⟨rfl,by simpa using HK.out,Upd.refl _ _⟩
 | some q=>
  obtain ⟨gb,ob,qy,rfl,hgb,h5b,hsb⟩:=hy;have hr:Grd.nstep (Grd.named f) (nm,o1,some q)=some (nm,eitherR f o1 q):=by cases o1 <;> rfl
  rw[hr];have hxp: ∃p,x= .pointer p:=by
   cases o1 with
   | none=>exact ⟨none,hx⟩
   | some _=>obtain ⟨g,o,q,h1,_⟩:=hx; exact ⟨_,h1⟩
  obtain ⟨xp,hxp⟩:=hxp;obtain ⟨l,AN,cN,AP,cP,hks⟩:=hk;have hm:=hks.mm;have hgh:=hm.gh;have hhw:=hm.hw;have hlen:=hks.len;obtain ⟨nl,hnl⟩: ∃nl,nl=L.map Prod.fst:=⟨_,rfl⟩;have hnll:nl.length=L.length:=by rw[hnl,List.length_map]
  obtain ⟨r,hre⟩: ∃r,r=eitherR f o1 q:=⟨_,rfl⟩;have hsl: ∀b,(GX.mk W gm hi AN cN AP cP nl l nm x gb ob q qy r n0).set b->gm<=b:=fun b hb=>by
   rcases hb with hb | hb | hb
   {have hb:b=gm:=hb; omega}
   {have:=Z09 hm.rN b hb; omega}
   {have:=Z09 hm.rP b hb; omega}
  have hX: (GX.mk W gm hi AN cN AP cP nl l nm x gb ob q qy r n0).Good:=by
   refine ⟨hn,hm.gh,hm.hw, ?_,hm.c4,hm.fz, ?_,hm.rP,hm.ne,hgb,h5b,by show nl.length<=1000; omega,by show l.length<=1000; omega,fun W' hu=> ?_⟩
   {have:=hm.c3; rw[<-hnl] at this; exact this}
   {have:=hm.rN; rw[<-hnl] at this; exact this}
   {rw[hre];exact Z6c hI o1 q x qy n0 W' (fun p hp=>h2 p q hp rfl) (by have:=hu.size; show n0<=_; change W.heap.size<=_ at this; omega) (At.upd hx (by omega) hu (fun b hb hs=>by have:=hsl b hs; omega)) (Z0f hsb (by omega) hu (fun b hb hs=>by have:=hsl b hs; omega))}
  obtain ⟨i0,hif0,hz0,hs0,hb0⟩:=Z4P Z7p;obtain ⟨i1,hif1,hz1,hs1,hb1⟩:=Z4P Zaf;have hen:=enters_of Tryz.func57 (by kernel_rfl) rfl;have HX:=Y1 hX;have HKS:=Y1 hks;have HNL:=Y1 hnl;have HPF:=Y1 hpf;have HPG:=Y1 hpg;have HRE:=Y1 hre;subst hxp;clear hX hks hI h2 h5b hsb hL hgb hx hm hgh hhw hlen hnl hnll hre hsl hr hn hpf hpg;go_enter Tryz.func56,Tryz.ntmps56
  go_wp2_with fail
  refine Z7o (rs:= [0,1,2,3,4,5,6,7,8,9,10,11,12,13,14,15,16,17])
   (fun u=> { tmps:=#[.string ⟨nm.toArray⟩,.pointer xp,.pointer (some ⟨gb,ob,none⟩),.pointer (some ⟨gm,0,none⟩),undef,undef,undef,.bool false,.pointer (some ⟨gb,ob,none⟩),.bool true,u 0,u 1,u 2,u 3,u 4,u 5,u 6,u 7,u 8,u 9,u 10,u 11,u 12,u 13,u 14,u 16],defers:= [] })
   (fun j=>undef) (GX.GI ⟨W,gm,hi,AN,cN,AP,cP,nl,l,nm,.pointer xp,gb,ob,q,qy,r,n0⟩) (by kernel_rfl) (by kernel_rfl) (by kernel_rfl) HX.out.start ?_ ?_
  refine StepsInv.cons2 _ rfl (fun d u W1 K' hs hI hd hw hK=> ?_) ?_
  {refine Z03 (v:= .pointer (some ⟨gm,3,none⟩)) (W':=W1) rfl ?_ (hK.out _ _ (hI.pure (by decide) (fun v' h=>by cases h; rfl)));go_simp}
  refine StepsInv.cons2 _ rfl (fun d u W1 K' hs hI hd hw hK=> ?_) ?_
  {have d0:u 0= .pointer (some ⟨gm,3,none⟩):=hI.vals 0 (hw 0 (by kernel_rfl)) _ rfl;have h15:d 15=false:=Z0z hs rfl (by kernel_rfl) hd;have c3:=hI.c3;rw[h15] at c3;simp only[Bool.false_eq_true,if_false] at c3;change W1.cell? ⟨gm,3,none⟩=_ at c3;refine Z03 (v:= .slice AN nl.length cN) (W':=W1) rfl ?_ (hK.out _ _ (hI.pure (by decide) (fun v' h=>by cases h; rfl)));go_simp}
  refine StepsInv.cons2 _ rfl (fun d u W1 K' hs hI hd hw hK=> ?_) ?_
  {refine Z03 (v:= .string ⟨nm.toArray⟩) (W':=W1) rfl ?_ (hK.out _ _ (hI.pure (by decide) (fun v' h=>by cases h; rfl)));go_simp}
  refine StepsInv.cons2 _ rfl (fun d u W1 K' hs hI hd hw hK=> ?_) ?_
  {have d2:u 2= .string ⟨nm.toArray⟩:=hI.vals 2 (hw 2 (by kernel_rfl)) _ rfl;refine Z03 (v:= .slice (some ⟨W1.heap.size,0,none⟩) 1 1) (W':=W1.alloc (.cells #[.string ⟨nm.toArray⟩] 9)) rfl ?_ (hK.out _ _ (hI.s3 HX.out));go_simp}
  refine StepsInv.cons2 _ rfl (fun d u W1 K' hs hI hd hw hK=> ?_) ?_
  {have d1:u 1= .slice AN nl.length cN:=hI.vals 1 (hw 1 (by kernel_rfl)) _ rfl;obtain ⟨z,d3,z1,z2,z3⟩:=hI.f3 (hw 3 (by kernel_rfl)) hd;have h11:d 11=false:=Z0z hs rfl (by kernel_rfl) hd;have h13:d 13=false:=Z0z hs rfl (by kernel_rfl) h11;have h15:d 15=false:=Z0z hs rfl (by kernel_rfl) hd;have h17:d 17=false:=Z0z hs rfl (by kernel_rfl) hd;have hln:=HX.out.ln;have hsz:=hI.up.size;have hhw:=HX.out.hw;refine step_append_lies W1 rfl _ _ 22 rfl hi 9 i1 (.string ByteArray.empty) 1 16 Tryz.underlying22 hif1 hz1 hs1 hb1 rfl (by decide) _ _ _ (by show u 1=_; exact d1) (hI.n0 hd) ⟨z,0,none⟩ 1 1 [.string ⟨nm.toArray⟩] (by show u 3=_; exact d3) rfl (fun j v hv=>by
    rcases j with _ | j
    {rw[Z1k,z3]; simpa using hv}
    · simp at hv) (by intro v hv; simp at hv; subst hv; rfl) (by decide) (by show nl.length+1<=maxLen; unfold maxLen; change nl.length<=1000 at hln; omega) (by show (nl.length+1) * 16<=140737488355328; change nl.length<=1000 at hln; omega) (by change hi<=W.heap.size at hhw; change W.heap.size<=_ at hsz; omega) _ rfl ?_
   intro g cp W' hown hg hat hlt;rw[Z3c] at hg hat;exact hK.out _ _ (hI.s4 HX.out h11 h13 h15 h17 hown hg hat)}
  refine StepsInv.cons2 _ rfl (fun d u W1 K' hs hI hd hw hK=> ?_) ?_
  {refine Z03 (v:= .pointer (some ⟨gm,4,none⟩)) (W':=W1) rfl ?_ (hK.out _ _ (hI.pure (by decide) (fun v' h=>by cases h; rfl)));go_simp}
  refine StepsInv.cons2 _ rfl (fun d u W1 K' hs hI hd hw hK=> ?_) ?_
  {have d5:u 5= .pointer (some ⟨gm,4,none⟩):=hI.vals 5 (hw 5 (by kernel_rfl)) _ rfl;have h17:d 17=false:=Z0z hs rfl (by kernel_rfl) hd;have c4:=hI.c4;rw[h17] at c4;simp only[Bool.false_eq_true,if_false] at c4;change W1.cell? ⟨gm,4,none⟩=_ at c4;refine Z03 (v:= .slice AP l.length cP) (W':=W1) rfl ?_ (hK.out _ _ (hI.pure (by decide) (fun v' h=>by cases h; rfl)));go_simp}
  refine StepsInv.cons2 _ rfl (fun d u W1 K' hs hI hd hw hK=> ?_) ?_
  {refine Z03 (v:= .pointer xp) (W':=W1) rfl ?_ (hK.out _ _ (hI.pure (by decide) (fun v' h=>by cases h; rfl)));go_simp}
  refine StepsInv.cons2 _ rfl (fun d u W1 K' hs hI hd hw hK=> ?_) ?_
  {refine Z03 (v:= .pointer (some ⟨gb,ob,none⟩)) (W':=W1) rfl ?_ (hK.out _ _ (hI.pure (by decide) (fun v' h=>by cases h; rfl)));go_simp}
  refine StepsInv.cons2 _ rfl (fun d u W1 K' hs hI hd hw hK=> ?_) ?_
  {have d8:u 8= .pointer (some ⟨gb,ob,none⟩):=hI.vals 8 (hw 8 (by kernel_rfl)) _ rfl;obtain ⟨b0,b1,b2,b3,b4⟩:=hI.box HX.out
   try dsimp only at b0 b1 b2 b3 b4
   refine Z03 (v:= .pointer (some ⟨gb,ob,none⟩)) (W':=W1) rfl ?_ (hK.out _ _ (hI.pure (by decide) (fun v' h=>by cases h; rfl)));go_simp}
  refine StepsInv.cons2 _ rfl (fun d u W1 K' hs hI hd hw hK=> ?_) ?_
  {have d9:u 9= .pointer (some ⟨gb,ob,none⟩):=hI.vals 9 (hw 9 (by kernel_rfl)) _ rfl;obtain ⟨b0,b1,b2,b3,b4⟩:=hI.box HX.out
   try dsimp only at b0 b1 b2 b3 b4
   refine Z03 (v:= .agg (Y8 q qy)) (W':=W1) rfl ?_ (hK.out _ _ (hI.pure (by decide) (fun v' h=>by cases h; rfl)));go_simp}
  refine StepsInv.cons2 _ rfl (fun d u W1 K' hs hI hd hw hK=> ?_) ?_
  {have d7:u 7= .pointer xp:=hI.vals 7 (hw 7 (by kernel_rfl)) _ rfl;have d10:u 10= .agg (Y8 q qy):=hI.vals 10 (hw 10 (by kernel_rfl)) _ rfl;have h12:d 12=false:=Z0z hs rfl (by kernel_rfl) hd;have h13:d 13=false:=Z0z hs rfl (by kernel_rfl) hd;have h17:d 17=false:=Z0z hs rfl (by kernel_rfl) h13;refine Z0j (f:=57) (args:=#[.pointer xp,.agg (Y8 q qy)]) (W':=W1) rfl ?_ ((HX.out.ok W1 hI.up).mono fun e w' hb=> ?_)
   {go_simp}
   {obtain ⟨v,he,hr⟩:=hI.s11 HX.out (hw 4 (by kernel_rfl)) h12 h13 h17 hb;exact ⟨v,he,hK.out _ _ hr⟩}}
  refine StepsInv.cons2 _ rfl (fun d u W1 K' hs hI hd hw hK=> ?_) ?_
  {have w11:=hw 11 (by kernel_rfl);obtain ⟨qr,_,_,e11,_⟩:=hI.ca w11;have d11:u 11= .agg (Y8 r qr):=e11;refine Z03 (v:= .slice (some ⟨W1.heap.size,0,none⟩) 1 1) (W':=W1.alloc (.cells (Y8 r qr) 25)) rfl ?_ (hK.out _ _ (hI.s12 HX.out w11 e11));go_simp}
  refine StepsInv.cons2 _ rfl (fun d u W1 K' hs hI hd hw hK=> ?_) ?_
  {have d6:u 6= .slice AP l.length cP:=hI.vals 6 (hw 6 (by kernel_rfl)) _ rfl;have w12:=hw 12 (by kernel_rfl);have w11:=hw 11 (by kernel_rfl);have w4:d 4=true:=hs 11 _ rfl w11 4 (by kernel_rfl);obtain ⟨qr,s,e,e11,_,_,_,_,_,hf,_⟩:=hI.ca w11;obtain ⟨z,d12,z1,z2,z3⟩:=hf w12 hd;have h15:d 15=false:=Z0z hs rfl (by kernel_rfl) hd;have h17:d 17=false:=Z0z hs rfl (by kernel_rfl) hd;have hll:=HX.out.ll;have hsz:=hI.up.size;have hhw:=HX.out.hw;refine step_append_lies W1 rfl _ _ 23 rfl hi 25 i0 (.agg #[.int .i64 0,.string ByteArray.empty,.string ByteArray.empty,.slice none 0 0,.slice none 0 0]) 5 88 Tryz.underlying23 hif0 hz0 hs0 hb0 rfl (by decide) _ _ _ (by show u 6=_; exact d6) (hI.p0 hd) ⟨z,0,none⟩ 1 1 (Z0m (r,qr)) (by show u 12=_; exact d12) rfl (fun j v hv=>by rw[Z1k,Nat.zero_add]; exact z3 j v hv) (Z8r _) (by decide) (by show l.length+1<=maxLen; unfold maxLen; change l.length<=1000 at hll; omega) (by show (l.length+1) * 88<=140737488355328; change l.length<=1000 at hll; omega) (by change hi<=W.heap.size at hhw; change W.heap.size<=_ at hsz; omega) _ rfl ?_;intro g cp W' hown hg hat hlt;rw[Z3c] at hg hat;exact hK.out _ _ (hI.s13 HX.out w4 w12 hd h15 h17 e11 hown hg hat)}
  refine StepsInv.cons2 _ rfl (fun d u W1 K' hs hI hd hw hK=> ?_) ?_
  {refine Z03 (v:= .pointer (some ⟨gm,3,none⟩)) (W':=W1) rfl ?_ (hK.out _ _ (hI.pure (by decide) (fun v' h=>by cases h; rfl)));go_simp}
  refine StepsInv.cons2 _ rfl (fun d u W1 K' hs hI hd hw hK=> ?_) ?_
  {have d14:u 14= .pointer (some ⟨gm,3,none⟩):=hI.vals 14 (hw 14 (by kernel_rfl)) _ rfl;have w13:=hw 13 (by kernel_rfl);have w11:d 11=true:=hs 13 _ rfl w13 11 (by kernel_rfl);have w4:d 4=true:=hs 11 _ rfl w11 4 (by kernel_rfl);obtain ⟨g,c,e,_⟩:=hI.n1 w4;change u 4= .slice (some ⟨g,0,none⟩) (nl.length+1) c at e;have hst:=hI.sto HX.out w4 w13 15 3 (by decide) hd;have cc:=hI.c3;rw[hd] at cc;simp only[Bool.false_eq_true,if_false] at cc;change W1.cell? ⟨gm,3,none⟩=_ at cc;have hfz:=hI.fz 3;change W1.frozen? ⟨gm,3,none⟩=_ at hfz;rw[if_pos rfl,e] at hst;change GX.GI _ _ _ (W1.setCell ⟨gm,3,none⟩ _) at hst;refine Z2u (W':=W1.setCell ⟨gm,3,none⟩ (.slice (some ⟨g,0,none⟩) (nl.length+1) c)) rfl ?_ (hK.out undef _ hst);go_simp}
  refine StepsInv.cons2 _ rfl (fun d u W1 K' hs hI hd hw hK=> ?_) ?_
  {refine Z03 (v:= .pointer (some ⟨gm,4,none⟩)) (W':=W1) rfl ?_ (hK.out _ _ (hI.pure (by decide) (fun v' h=>by cases h; rfl)));go_simp}
  refine StepsInv.cons2 _ rfl (fun d u W1 K' hs hI hd hw hK=> ?_) StepsInv.nil
  {have d16:u 16= .pointer (some ⟨gm,4,none⟩):=hI.vals 16 (hw 16 (by kernel_rfl)) _ rfl;have w13:=hw 13 (by kernel_rfl);have w11:d 11=true:=hs 13 _ rfl w13 11 (by kernel_rfl);have w4:d 4=true:=hs 11 _ rfl w11 4 (by kernel_rfl);obtain ⟨_,_,_,_,_,_,_,_,_,_,hp⟩:=hI.ca w11;obtain ⟨g,c,e,_⟩:=hp w13;change u 13= .slice (some ⟨g,0,none⟩) (l.length+1) c at e;have hst:=hI.sto HX.out w4 w13 17 4 (by decide) hd;have cc:=hI.c4;rw[hd] at cc;simp only[Bool.false_eq_true,if_false] at cc;change W1.cell? ⟨gm,4,none⟩=_ at cc;have hfz:=hI.fz 4;change W1.frozen? ⟨gm,4,none⟩=_ at hfz;rw[if_neg (by decide),e] at hst;change GX.GI _ _ _ (W1.setCell ⟨gm,4,none⟩ _) at hst;refine Z2u (W':=W1.setCell ⟨gm,4,none⟩ (.slice (some ⟨g,0,none⟩) (l.length+1) c)) rfl ?_ (hK.out undef _ hst);go_simp}
  {intro d u W1 hI hd;have hfin:=GX.done hI HX.out (fun j hj=>hd j (by show j < 18; omega)) HKS.out HNL.out HPF.out HPG.out;have HF:=Y1 hfin;clear hI hd hfin;go_wp2;go_ret;rw[<-HRE.out];exact ⟨rfl,by simpa using HF.out.1,HF.out.2⟩}
end SubM
end Go.Proofs.YtkhoflciahkphaaGreatDoor
namespace Go.Proofs.YtkhoflciahkphaaGreatDoor
open Go.RowKit Shp Sub
namespace SubM
theorem GQ.done {X:GQ} {d:Nat->Bool} {u:Nat->Value} {W:World} (hI:X.GI d u W) (hX:X.Good) (hd: ∀j,j < 12->d j=true) {w0:World} {p1 p2:Nat} {f1 f2:Value} {k:Int} {o nm:List UInt8} {ps:List Sh}
 (hK:KPs w0 X.n0 X.gm X.hi p1 p2 f1 f2 k o nm true ps X.l X.AP X.cP X.W0) (h1:p1 < X.hi) (h2:p2 < X.hi) (g1:p1≠X.gm) (g2:p2≠X.gm):
 KP w0 X.n0 X.gm X.hi p1 p2 f1 f2 k o nm true (ps++ [X.r]) W/\Upd (fun b=>b=X.gm\/X.hi<=b) X.W0 W:=by
 obtain ⟨qr,s,e,e4,s1,s2,s3,hk,hp⟩:=hI.ca (hd 4 (by omega));obtain ⟨g',c',e7,rP,nP,_⟩:=hp (hd 7 (by omega));rw[hd 9 (by omega)] at rP;simp only[if_true] at rP;have c4:=hI.c4;rw[hd 11 (by omega),e7] at c4;simp only[if_true] at c4;have hm:=hK.mm;have hu:=hI.up;have hrl: ∀b,X.set b->w0.heap.size<=b:=fun b hb=>by have:=(hX.set_lt hb).1; have:=hm.lo; omega
 have hh:=hX.hw;have hng:=hX.ng;refine ⟨⟨X.l++ [(X.r,qr)],some ⟨g',0,none⟩,c',⟨⟨hm.up.trans (hu.below hm.up.size hrl),hm.lo,hm.gh,Nat.le_trans hm.hw hu.size,(hI.cr 0 (by omega)).trans hm.c0,(hI.cr 1 (by omega)).trans hm.c1,(hI.cr 2 (by omega)).trans hm.c2,(hI.cr 3 (by omega)).trans hm.c3, ?_,hI.fz,Z0l hm.rN hu nofun, ?_,Or.inl rfl⟩, ?_,fun _ x hx=> ?_, ?_, ?_⟩⟩,hu.mono (fun b _ hb=> ?_)⟩
 {rw[List.length_append]; exact c4}
 {rw[List.length_append,Z19,Z2f]; exact rP}
 {rw[List.map_append,hK.eq]; rfl}
 {rcases List.mem_append.1 hx with hx | hx
  {refine (hK.kp rfl x hx).move hu (fun b hb hf=>⟨fun ht=> ?_, ?_⟩)
   {rcases hf with hf | ⟨hf,f1,f2⟩
    {have:=(hX.set_lt ht).1; omega}
    {rcases ht with ht | ht
     {have:=hX.gh; omega}
     {exact f2 ht}}}
   {rcases hf with hf | ⟨hf,f1,f2⟩
    {exact Or.inl hf}
    {refine Or.inr ⟨hf,nofun,fun e=> ?_⟩;have e:g'=b:=by simpa[rowB] using e
     subst e;exact nP.elim f2 (fun h=>by omega)}}}
  {rw[List.mem_singleton.1 hx];refine hk.more (fun b hb hS=> ?_);rcases hS with h | ⟨h1,h2⟩
   {exact Or.inl h}
   {refine Or.inr ⟨by omega,nofun,fun e=> ?_⟩;have e:g'=b:=by simpa[rowB] using e
    rcases nP with h | h
    {have:=(Z09 hX.rP g' h).2; omega}
    {omega}}}}
 {refine (hu.cell (by omega) (fun ht=> ?_)).trans hK.fa;rcases ht with ht | ht
  {exact g1 ht}
  {have:=(Z09 hX.rP p1 ht).1; omega}}
 {refine (hu.cell (by omega) (fun ht=> ?_)).trans hK.fr;rcases ht with ht | ht
  {exact g2 ht}
  {have:=(Z09 hX.rP p2 ht).1; omega}}
 {rcases hb with hb | hb
  {exact Or.inl hb}
  {exact Or.inr (Z09 hX.rP b hb).1}}
theorem Z79 {f:Nat} (hI:NamedOk f) (w0:World) (n0 gm hi p1 p2:Nat) (f1 f2:Value) (k:Int) (o nm:List UInt8) (ps:List Sh) (p q:Sh) (x y:Ptr) (last:Bool) (W:World) (htwo:Two f p q) (up:Bool) (hr:Grd.R true f up p q)
 (hn:n0<=gm) (h1:p1 < hi) (h2:p2 < hi) (g1:p1≠gm) (g2:p2≠gm) (hL:ps.length<=900) (hx:ShAt W n0 x p) (hy:ShAt W n0 y q) (hk:KP w0 n0 gm hi p1 p2 f1 f2 k o nm true ps W):
 Calls Tryz.prog 59 (sv p x::sv q y:: .bool last:: .pointer (some ⟨gm,0,none⟩):: []).toArray W fun e W'=>e= .returned (.bool true)/\
  KP w0 n0 gm hi p1 p2 f1 f2 k o nm true (ps++ [Grd.named f p q]) W'/\Upd (fun b=>b=gm\/hi<=b) W W':=by
 obtain ⟨l,AP,cP,hks⟩:=hk;have hm:=hks.mm;have hgh:=hm.gh;have hhw:=hm.hw;have hlen:=hks.len;have hb1:=Z01 W (.cells (Y8 p x) 25);obtain ⟨w1,hw1⟩: ∃w1,w1=W.alloc (.cells (Y8 p x) 25):=⟨_,rfl⟩;have hb2:=Z01 w1 (.cells (Y8 q y) 25);obtain ⟨w2,hw2⟩: ∃w2,w2=w1.alloc (.cells (Y8 q y) 25):=⟨_,rfl⟩;have hs1:w1.heap.size=W.heap.size+1:=by rw[hw1]; simp
 have hs2:w2.heap.size=W.heap.size+2:=by rw[hw2]; simp[hs1]
 rw[<-hw1] at hb1;rw[<-hw2] at hb2;have hB1:Box5 w1 W.heap.size p x:=by rw[hw1]; exact Z02 W p x
 have hB2:Box5 w2 w1.heap.size q y:=by rw[hw2]; exact Z02 w1 q y
 have hBA:=hB1.next hb2;rw[hs1] at hB2;have hbw:=Z00 hb1 hb2;have hu:Upd (fun _=>False) W w2:=Upd.new hbw;have hks2:=hks.new h1 h2 hbw;have hm2:=hks2.mm;have hx2:=Z0f hx (by omega) hu (fun _ _ h=>h);have hy2:=Z0f hy (by omega) hu (fun _ _ h=>h);obtain ⟨r,hre⟩: ∃r,r=Grd.named f p q:=⟨_,rfl⟩;have hsl: ∀b,(GQ.mk w2 gm hi AP cP l W.heap.size (W.heap.size+1) p x q y r n0).set b->gm<=b:=fun b hb=>by
  rcases hb with hb | hb
  {have hb:b=gm:=hb; omega}
  {have:=Z09 hm.rP b hb; omega}
 have hX: (GQ.mk w2 gm hi AP cP l W.heap.size (W.heap.size+1) p x q y r n0).Good:=by
  refine ⟨hn,hm.gh,hm2.hw,hm2.c4,hm2.fz,hm2.rP,⟨by show gm < W.heap.size; omega,by show W.heap.size < w2.heap.size; omega,fun e=>by have:=(Z09 hm.rP W.heap.size e).2; omega⟩,
   ⟨by show gm < W.heap.size+1; omega,by show W.heap.size+1 < w2.heap.size; omega,fun e=>by have:=(Z09 hm.rP (W.heap.size+1) e).2; omega⟩,hBA.2.1,hB2.2.1,by show l.length<=1000; omega,fun W' hu=> ?_⟩
  rw[hre];exact hI up p q x y n0 W' htwo hr (Z0f hx2 (by omega) hu (fun b hb hs=>by have:=hsl b hs; omega)) (Z0f hy2 (by omega) hu (fun b hb hs=>by have:=hsl b hs; omega)) (by have:=hu.size; show n0<=_; change w2.heap.size<=_ at this; omega)
 obtain ⟨i0,hif0,hz0,hsz0,hbz0⟩:=Z4P Z7p;have hen:=enters_of Tryz.func34 (by kernel_rfl) rfl;have HX:=Y1 hX;have HKS:=Y1 hks2;have HU:=Y1 hu;have HRE:=Y1 hre;have HP1:=Y1 h1;have HP2:=Y1 h2;have HG1:=Y1 g1;have HG2:=Y1 g2;have hw1':=hw1.symm;have hw2':=hw2.symm;clear hX hks hks2 hm hm2 hI hL hx hy hx2 hy2 hgh hhw hlen hre hsl hn h1 h2 g1 g2 hb1 hb2 hB1 hB2 hBA hbw hu hw1 hw2 hs2 htwo hr;unfold sv;go_enter Tryz.func59,Tryz.ntmps59
 go_wp2_with fail
 refine Z7o (rs:= [0,1,2,3,4,5,6,7,8,9,10,11])
  (fun u=> { tmps:=#[.agg (Y8 p x),.agg (Y8 q y),.bool last,.pointer (some ⟨gm,0,none⟩),.pointer (some ⟨W.heap.size,0,none⟩),.pointer (some ⟨W.heap.size+1,0,none⟩),undef,.bool false,u 0,u 1,u 2,u 3,u 4,u 5,u 6,u 7,u 8,u 10],defers:= [] })
  (fun j=>undef) (GQ.GI ⟨w2,gm,hi,AP,cP,l,W.heap.size,W.heap.size+1,p,x,q,y,r,n0⟩) (by kernel_rfl) (by kernel_rfl) (by kernel_rfl) HX.out.start ?_ ?_
 refine StepsInv.cons2 _ rfl (fun d u W1 K' hs hI hd hw hK=> ?_) ?_
 {refine Z03 (v:= .pointer (some ⟨gm,4,none⟩)) (W':=W1) rfl ?_ (hK.out _ _ (hI.pure (by decide) (fun v' h=>by cases h; rfl)));go_simp}
 refine StepsInv.cons2 _ rfl (fun d u W1 K' hs hI hd hw hK=> ?_) ?_
 {have d0:u 0= .pointer (some ⟨gm,4,none⟩):=hI.vals 0 (hw 0 (by kernel_rfl)) _ rfl;have h11:d 11=false:=Z0z hs rfl (by kernel_rfl) hd;have c4:=hI.c4;rw[h11] at c4;simp only[Bool.false_eq_true,if_false] at c4;change W1.cell? ⟨gm,4,none⟩=_ at c4;refine Z03 (v:= .slice AP l.length cP) (W':=W1) rfl ?_ (hK.out _ _ (hI.pure (by decide) (fun v' h=>by cases h; rfl)));go_simp}
 refine StepsInv.cons2 _ rfl (fun d u W1 K' hs hI hd hw hK=> ?_) ?_
 {obtain ⟨⟨b0,b1,b2,b3,b4⟩,_⟩:=hI.box HX.out;simp only[Nat.zero_add] at b0 b1 b2 b3 b4
  try dsimp only at b0 b1 b2 b3 b4
  refine Z03 (v:= .agg (Y8 p x)) (W':=W1) rfl ?_ (hK.out _ _ (hI.pure (by decide) (fun v' h=>by cases h; rfl)));go_simp}
 refine StepsInv.cons2 _ rfl (fun d u W1 K' hs hI hd hw hK=> ?_) ?_
 {obtain ⟨_,⟨b0,b1,b2,b3,b4⟩⟩:=hI.box HX.out;simp only[Nat.zero_add] at b0 b1 b2 b3 b4
  try dsimp only at b0 b1 b2 b3 b4
  refine Z03 (v:= .agg (Y8 q y)) (W':=W1) rfl ?_ (hK.out _ _ (hI.pure (by decide) (fun v' h=>by cases h; rfl)));go_simp}
 refine StepsInv.cons2 _ rfl (fun d u W1 K' hs hI hd hw hK=> ?_) ?_
 {have d2:u 2= .agg (Y8 p x):=hI.vals 2 (hw 2 (by kernel_rfl)) _ rfl;have d3:u 3= .agg (Y8 q y):=hI.vals 3 (hw 3 (by kernel_rfl)) _ rfl;have h7:d 7=false:=Z0z hs rfl (by kernel_rfl) hd;refine Z0j (f:=34) (args:=#[.agg (Y8 p x),.agg (Y8 q y)]) (W':=W1) rfl ?_ ((HX.out.ok W1 hI.up).mono fun e w' hb=> ?_)
  {go_simp}
  {obtain ⟨v,he,hr⟩:=hI.s4 HX.out h7 hb;exact ⟨v,he,hK.out _ _ hr⟩}}
 refine StepsInv.cons2 _ rfl (fun d u W1 K' hs hI hd hw hK=> ?_) ?_
 {have d1:u 1= .slice AP l.length cP:=hI.vals 1 (hw 1 (by kernel_rfl)) _ rfl;refine Z03 (v:= .int .i64 (l.length:Int)) (W':=W1) rfl ?_ (hK.out _ _ (hI.pure (by decide) (fun v' h=>by cases h; rfl)));go_simp}
 refine StepsInv.cons2 _ rfl (fun d u W1 K' hs hI hd hw hK=> ?_) ?_
 {refine Z03 (v:= .slice (some ⟨W1.heap.size,0,none⟩) 1 1) (W':=W1.alloc (.cells Yb 25)) rfl ?_ (hK.out _ _ (hI.s6 HX.out));go_simp}
 refine StepsInv.cons2 _ rfl (fun d u W1 K' hs hI hd hw hK=> ?_) ?_
 {have d1:u 1= .slice AP l.length cP:=hI.vals 1 (hw 1 (by kernel_rfl)) _ rfl;have w4:=hw 4 (by kernel_rfl);obtain ⟨z,d6,z1,z2,z3⟩:=hI.f6 (hw 6 (by kernel_rfl)) hd;have h8:d 8=false:=Z0z hs rfl (by kernel_rfl) hd;have h9:d 9=false:=Z0z hs rfl (by kernel_rfl) hd;have h11:d 11=false:=Z0z hs rfl (by kernel_rfl) hd;have hll:=HX.out.ll;have hsz:=hI.up.size;have hhw:=HX.out.hw;refine step_append_lies W1 rfl _ _ 23 rfl hi 25 i0 (.agg #[.int .i64 0,.string ByteArray.empty,.string ByteArray.empty,.slice none 0 0,.slice none 0 0]) 5 88 Tryz.underlying23 hif0 hz0 hsz0 hbz0 rfl (by decide) _ _ _ (by show u 1=_; exact d1) (hI.p0 hd) ⟨z,0,none⟩ 1 1 Z0u (by show u 6=_; exact d6) rfl (fun j v hv=>by rw[Z1k,Nat.zero_add]; exact z3 j v hv) Z8s (by decide) (by show l.length+1<=maxLen; unfold maxLen; change l.length<=1000 at hll; omega) (by show (l.length+1) * 88<=140737488355328; change l.length<=1000 at hll; omega) (by change hi<=w2.heap.size at hhw; change w2.heap.size<=_ at hsz; omega) _ rfl ?_;intro g cp W' hown hg hat hlt;rw[Z3c] at hg hat;exact hK.out _ _ (hI.s7 HX.out w4 hd h8 h9 h11 hown hg hat)}
 refine StepsInv.cons2 _ rfl (fun d u W1 K' hs hI hd hw hK=> ?_) ?_
 {have d5:u 5= .int .i64 (l.length:Int):=hI.vals 5 (hw 5 (by kernel_rfl)) _ rfl;have w7:=hw 7 (by kernel_rfl);have w4:d 4=true:=hs 7 _ rfl w7 4 (by kernel_rfl);obtain ⟨qr,s,e,e4,_,_,_,_,hp⟩:=hI.ca w4;obtain ⟨g,c,d7,r7,_⟩:=hp w7
  try dsimp only at d7
  have hi1: ¬((l.length:Int) < 0):=by omega
  have hi2: (l.length:Int) < ((l.length+1:Nat):Int):=by omega
  refine Z03 (v:= .pointer (some ⟨g,l.length * 5,none⟩)) (W':=W1) rfl ?_ (hK.out _ _ (hI.s8 HX.out w7 (fun g' c' e'=>by
   have ee:=d7.symm.trans e';simp only[Value.slice.injEq,Option.some.injEq,Addr.mk.injEq,and_true] at ee;rw[ee.1])))
  go_simp;exact fun h=>absurd h (by omega)}
 refine StepsInv.cons2 _ rfl (fun d u W1 K' hs hI hd hw hK=> ?_) ?_
 {have w8:=hw 8 (by kernel_rfl);have w4:=hw 4 (by kernel_rfl);have w7:d 7=true:=hs 8 _ rfl w8 7 (by kernel_rfl);obtain ⟨qr,s,e,e4,_,_,_,_,hp⟩:=hI.ca w4;obtain ⟨g,c,e7,r7,_,m⟩:=hp w7;have d8:=m w8;have d4:u 4= .agg (Y8 r qr):=e4
  try dsimp only at d8
  have hst:=hI.s9 HX.out w4 w7 hd e4 e7;rw[hd] at r7;simp only[Bool.false_eq_true,if_false] at r7;obtain ⟨v0,y0,z0⟩:=Z2r (Z10 l) r7 0 (by omega);obtain ⟨v1,y1,z1⟩:=Z2r (Z10 l) r7 1 (by omega);obtain ⟨v2,y2,z2⟩:=Z2r (Z10 l) r7 2 (by omega);obtain ⟨v3,y3,z3⟩:=Z2r (Z10 l) r7 3 (by omega);obtain ⟨v4,y4,z4⟩:=Z2r (Z10 l) r7 4 (by omega);simp only[Nat.add_zero] at y0 z0;refine Z2u (W':=layO W1 g (l.length * 5) (r,qr)) rfl ?_ (hK.out undef _ hst);go_simp;rfl}
 refine StepsInv.cons2 _ rfl (fun d u W1 K' hs hI hd hw hK=> ?_) ?_
 {refine Z03 (v:= .pointer (some ⟨gm,4,none⟩)) (W':=W1) rfl ?_ (hK.out _ _ (hI.pure (by decide) (fun v' h=>by cases h; rfl)));go_simp}
 refine StepsInv.cons2 _ rfl (fun d u W1 K' hs hI hd hw hK=> ?_) StepsInv.nil
 {have d10:u 10= .pointer (some ⟨gm,4,none⟩):=hI.vals 10 (hw 10 (by kernel_rfl)) _ rfl;have w7:=hw 7 (by kernel_rfl);have w4:d 4=true:=hs 7 _ rfl w7 4 (by kernel_rfl);obtain ⟨qr,s,e,e4,_,_,_,_,hp⟩:=hI.ca w4;obtain ⟨g,c,e7,_⟩:=hp w7;have hst:=hI.s11 HX.out w4 w7 hd;have cc:=hI.c4;rw[hd] at cc;simp only[Bool.false_eq_true,if_false] at cc;change W1.cell? ⟨gm,4,none⟩=_ at cc;have hfz:=hI.fz 4;change W1.frozen? ⟨gm,4,none⟩=_ at hfz;rw[e7] at hst;change GQ.GI _ _ _ (W1.setCell ⟨gm,4,none⟩ _) at hst;change u 7= .slice (some ⟨g,0,none⟩) (l.length+1) c at e7;refine Z2u (W':=W1.setCell ⟨gm,4,none⟩ (.slice (some ⟨g,0,none⟩) (l.length+1) c)) rfl ?_ (hK.out undef _ hst);go_simp}
 {intro d u W1 hI hd;have hfin:=GQ.done hI HX.out (fun j hj=>hd j (by show j < 12; omega)) HKS.out HP1.out HP2.out HG1.out HG2.out;have HF:=Y1 hfin;clear hI hd hfin;go_wp2;go_ret;rw[<-HRE.out];exact ⟨rfl,HF.out.1,(HU.out.mono (fun _ _ h=>h.elim)).trans HF.out.2⟩}
end SubM
end Go.Proofs.YtkhoflciahkphaaGreatDoor
namespace Go.Proofs.YtkhoflciahkphaaGreatDoor
open Go.RowKit Shp Sub
namespace SubM
def NEs (r:Sh) (n0:Nat) (w:World) (rc gm hi:Nat) (e:Ending) (W':World):Prop:=
 ∃b,e= .returned (.bool b)/\Rc rc W'/\Below w.heap.size w W'/\ ∃q,Sh5 W' gm 0 r q/\Kept (fun b=>b < n0\/hi<=b) W' (r,q)
theorem Z3Q {r:Sh} {qr:Ptr} {n0:Nat} {w W':World} {rc hi:Nat} (hn:n0<=w.heap.size) (h1:w.heap.size<=rc) (h2:rc < hi) (hb:Below w.heap.size w W') (hk:Kept (fun b=>b < n0\/hi<=b) W' (r,qr)):
 NIs r n0 w (.returned (sv r qr)) (RX.lay W' rc r qr):=by
 have hu:=RX.lay_upd W' rc r qr;exact ⟨qr,rfl,hb.trans (hu.below hb.size (fun x hx=>by omega)),hk.move hu (fun b _ hf=>⟨fun e=>by have e:b=rc:=e; rcases hf with hf | hf <;> omega,by rcases hf with hf | hf <;> omega⟩)⟩
section
variable {f : Nat} {up : Bool} {a b : Sh} {pa pb : Ptr} {n0 : Nat} {w W5 : World} {rc gm pf : Nat} {fv : Value}
section
variable (hI : NamedOk f) (h2 : Two (f + 1) a b)
include hI h2
theorem Z7a (A:Rec a) (B:Rec b) (h4: ¬(a.kind=4\/b.kind=4)) (hr: ∀n p q,get a n=some p->get b n=some q->Grd.R true f up p q) (ha:ShAt W5 n0 pa a) (hb:ShAt W5 n0 pb b) (hn:n0<=w.heap.size)
 (hS:St0 w gm pf fv a.kind W5) (hR:Rc rc W5) (hpf:w.heap.size<=pf) (hpg:pf≠gm) (hrg:rc≠gm):
 Calls Tryz.prog 55 #[sv a pa,sv b pb,.func (.func 56) #[] [.pointer (some ⟨gm,0,none⟩)].toArray] W5 (NEs (Grd.named (f+1) a b) n0 w rc gm (W5.heap.size+3)):=by
 have hlo:=hS.lo;have hgw:=hS.gw;have hpw:=hS.pw;have hrw:=hR.lt;have hz:=hS.up.size;have hcl:=Z9u A B;have ln:=h2.ln A;have lm:=h2.swap.ln B;have hT:Takes n0 W5.heap.size a b 56 [.pointer (some ⟨gm,0,none⟩)] (fun _=>true)
  (fun _ done W=>Rc rc W/\(done= []/\St0 w gm pf fv a.kind W\/KN w n0 gm (W5.heap.size+3) pf fv a.kind true (done.filterMap (Grd.nstep (Grd.named f))) W)):=by
  refine ⟨fun _ done W W' hK hu=>⟨hK.1.upd hu (by omega), ?_⟩,fun done c rest W x y hcut hsz hK hx hy=> ?_⟩
  {rcases hK.2 with ⟨e,h⟩ | h
   {exact Or.inl ⟨e,h.mid hu (fun b hb=>by omega)⟩}
   {exact Or.inr (h.mid hu (fun b hb=>by omega) (by omega) (by omega))}}
  {obtain ⟨nm,o1,o2⟩:=c;have hm: (nm,o1,o2)∈calls a b:=by rw[hcut]; simp
   obtain ⟨e1,e2,_⟩:=(Z0c A B).1 hm;have hkn:KN w n0 gm (W5.heap.size+3) pf fv a.kind true (done.filterMap (Grd.nstep (Grd.named f))) W:=by
    rcases hK.2 with ⟨e,h⟩ | h
    {rw[e]; exact h.kn (by omega) hsz true}
    {exact h}
   have hlen: (done.filterMap (Grd.nstep (Grd.named f))).length<=900:=by
    have h1:=List.length_filterMap_le (Grd.nstep (Grd.named f)) done;have h2:=congrArg List.length hcut;rw[List.length_append] at h2;omega
   refine (Z78 hI w n0 gm (W5.heap.size+3) pf fv a.kind _ nm o1 o2 x y W (fun p q hp hq=> ?_) (by omega) (by omega) hpg hlen hx hy hkn).mono ?_
   {rw[e1] at hp; rw[e2] at hq;exact ⟨h2.part (Z06 hp) (Z06 hq),up,hr nm p q hp hq⟩}
   {rintro e W' ⟨rfl,hk',hu⟩;refine ⟨rfl,⟨hK.1.upd hu (by omega),Or.inr ?_⟩,hu.mono (fun b _ hb=>by omega)⟩;rw[List.filterMap_append];cases h:Grd.nstep (Grd.named f) (nm,o1,o2) with
    | none=>rw[h] at hk'; simpa[h] using hk'
    | some z=>rw[h] at hk'; simpa[h] using hk'}}
 refine (Z1t a b pa pb n0 W5 A B ha hb (by omega) (by omega) (by omega) 56 (enters_of Tryz.func56 (by kernel_rfl) rfl) _ _ _ hT ⟨hR,Or.inl ⟨rfl,hS⟩⟩).mono ?_;rintro e W6 ⟨rfl,⟨D,hK,hD⟩,hU⟩;have hall: ((calls a b).all fun _=>true)=true:=by simp
 obtain rfl:=hD hall;have hof:a.of_= []/\a.name= []:=(Z1u a).1 A.b;have hbd:Grd.named (f+1) a b=made a.kind ((calls a b).filterMap (Grd.nstep (Grd.named f))):=by
  conv=>lhs; unfold Grd.named; rw[if_neg h4,if_pos A.k,hof.1,hof.2]
  rfl
 refine ⟨_,rfl,hK.1, ?_, ?_⟩
 {rcases hK.2 with ⟨_,h⟩ | h
  {exact h.up}
  {exact h.below.1}}
 {rw[hbd];rcases hK.2 with ⟨e,h⟩ | h
  {have hf:=h.fin (fun b=>b < n0\/W5.heap.size+3<=b);rw[e];exact ⟨_,hf.1,hf.2⟩}
  {obtain ⟨q,h5,hkp⟩:=h.fin;refine ⟨q,h5,hkp rfl (fun x hx=> ?_) ?_⟩
   {exact Z6a (Z26 A B ((Z1s (fun c x h=>Grd.nstep_fst h) _).subset hx))}
   {have:=List.length_filterMap_le (Grd.nstep (Grd.named f)) (calls a b); omega}}}
theorem Z6d (h4: ¬(a.kind=4\/b.kind=4)) (hno: ¬(a.kind=6\/a.kind=7)) (hh:headEq a b=true) (hr: ∀(i:Nat) (p q:Sh),a.parts[i]? =some p->b.parts[i]? =some q-> ∃up,Grd.R true f up p q) (ha:ShAt W5 n0 pa a) (hb:ShAt W5 n0 pb b) (hn:n0<=w.heap.size)
 (hS:St0p w gm pf pf fv fv a.kind a.of_ a.name W5) (hR:Rc rc W5) (hpf:w.heap.size<=pf) (hpg:pf≠gm) (hrg:rc≠gm):
 Calls Tryz.prog 58 #[sv a pa,sv b pb,.func (.func 59) #[] [.pointer (some ⟨gm,0,none⟩)].toArray] W5 (NEs (Grd.named (f+1) a b) n0 w rc gm (W5.heap.size+2)):=by
 have hlo:=hS.lo;have hgw:=hS.gw;have hpw:=hS.pw;have hrw:=hR.lt;have hz:=hS.up.size;have hla:a.parts.length<=400:=by have:=h2.sa; have:=Z0O a.parts; rw[size_eq] at *; omega
 obtain ⟨_,_,hlen⟩:a.of_=b.of_/\a.name=b.name/\a.parts.length=b.parts.length:=of_decide_eq_true hh;obtain ⟨zs,hzs⟩: ∃zs,zs=List.zipWith (Grd.named f) a.parts b.parts:=⟨_,rfl⟩;have hzl:zs.length=a.parts.length:=by rw[hzs,List.length_zipWith, <-hlen,Nat.min_self]
 have hT:TakesP n0 W5.heap.size a b 59 [.pointer (some ⟨gm,0,none⟩)] (fun _=>true)
  (fun _ k W=>Rc rc W/\(k=0/\St0p w gm pf pf fv fv a.kind a.of_ a.name W\/KP w n0 gm (W5.heap.size+2) pf pf fv fv a.kind a.of_ a.name true (zs.take k) W)):=by
  have hmid: ∀ {ps W W'},KP w n0 gm (W5.heap.size+2) pf pf fv fv a.kind a.of_ a.name true ps W->Upd (fun x=>W5.heap.size<=x/\x < W5.heap.size+2) W W'->KP w n0 gm (W5.heap.size+2) pf pf fv fv a.kind a.of_ a.name true ps W':=fun h hu=>by
   obtain ⟨l,AP,cP,h⟩:=h;exact ⟨l,AP,cP,h.mid hu (fun b hb=>by omega) (by omega) (by omega) (by omega)⟩
  refine ⟨fun _ k W W' hK hu=>⟨hK.1.upd hu (by omega), ?_⟩,fun k hk hk2 W x y hsz hK hx hy=> ?_⟩
  {rcases hK.2 with ⟨e,h⟩ | h
   {exact Or.inl ⟨e,h.mid hu (fun b hb=>by omega)⟩}
   {exact Or.inr (hmid h hu)}}
  {have hkp:KP w n0 gm (W5.heap.size+2) pf pf fv fv a.kind a.of_ a.name true (zs.take k) W:=by
    rcases hK.2 with ⟨e,h⟩ | h
    {rw[e]; exact h.kp (by omega) hsz true}
    {exact h}
   obtain ⟨up,hrr⟩:=hr k _ _ (List.getElem?_eq_getElem hk) (List.getElem?_eq_getElem hk2);have hL: (zs.take k).length<=900:=by rw[List.length_take]; omega
   refine (Z79 hI w n0 gm (W5.heap.size+2) pf pf fv fv a.kind a.of_ a.name (zs.take k) _ _ x y _ W (h2.part (List.getElem_mem hk) (List.getElem_mem hk2)) up hrr (by omega) (by omega) (by omega) hpg hpg hL hx hy hkp).mono ?_;rintro e W' ⟨rfl,hk',hu⟩;refine ⟨rfl,⟨hK.1.upd hu (by omega),Or.inr ?_⟩,hu.mono (fun b _ hb=>by omega)⟩;rw[List.take_succ_eq_append_getElem (by omega)];have hzk:zs[k]'(by omega)=Grd.named f (a.parts[k]'hk) (b.parts[k]'hk2):=by simp[hzs]
   rw[hzk];exact hk'}
 refine (Z1O a b pa pb n0 W5 ha hb (by omega) (by omega) 59 (enters_of Tryz.func59 (by kernel_rfl) rfl) _ _ _ hT ⟨hR,Or.inl ⟨rfl,hS⟩⟩).mono ?_;rintro e W6 ⟨rfl,⟨D,hK,hD⟩,hU⟩;have hDD:=hD (by rw[hh]; simp);subst hDD;have ho:=ha.small.o;have hnm:=ha.small.n;have hbd:Grd.named (f+1) a b=⟨a.kind,a.of_,a.name,[],zs⟩:=by conv=>lhs; unfold Grd.named; rw[if_neg h4,if_neg hno, <-hzs]
 refine ⟨_,rfl,hK.1, ?_, ?_⟩
 {rcases hK.2 with ⟨_,h⟩ | h
  {exact h.up}
  {exact h.below}}
 {rw[hbd];rcases hK.2 with ⟨e,h⟩ | h
  {have:zs= []:=List.eq_nil_of_length_eq_zero (by omega);rw[this];exact ⟨_,h.c5,fun W' _ _=> .mk _ _ 0 0 (fun _=>noneQ12) ⟨ho,hnm,by simp,by simp,by simp,by simp,by simp,fun _=>rfl,fun _=>rfl⟩ (Or.inl rfl) (Or.inl rfl) (fun i hi=>by simp at hi) (fun i hi=>by simp at hi)⟩}
  {rw[List.take_of_length_le (by omega)] at h;obtain ⟨q,h5,hkp⟩:=h.fin;exact ⟨q,h5,hkp rfl ho hnm (by omega)⟩}}
end
end
theorem Z4G (f:Nat):NamedOk f:=by
 induction f with
 | zero=>intro up s t ps pt n0 w h; have:=h.da; rw[Z0d] at this; omega
 | succ f hI=>
  intro up s t ps pt n0 w h2 hr ha hb hn;have hb1:=Z01 w (.cells (Y8 s ps) 25);obtain ⟨w1,hw1⟩: ∃w1,w1=w.alloc (.cells (Y8 s ps) 25):=⟨_,rfl⟩;have hs1:w1.heap.size=w.heap.size+1:=by rw[hw1]; simp
  have hb2:=Z01 w1 (.cells (Y8 t pt) 25);obtain ⟨w2,hw2⟩: ∃w2,w2=w1.alloc (.cells (Y8 t pt) 25):=⟨_,rfl⟩;have hs2:w2.heap.size=w.heap.size+2:=by rw[hw2]; simp[hs1]
  have hb3:=Z01 w2 (.cells Yb 25);obtain ⟨w3,hw3⟩: ∃w3,w3=w2.alloc (.cells Yb 25):=⟨_,rfl⟩;have hs3:w3.heap.size=w.heap.size+3:=by rw[hw3]; simp[hs2]
  have hb4:=Z01 w3 (.cells #[.int .i64 s.kind,.string ⟨s.of_.toArray⟩,.string ⟨s.name.toArray⟩,.slice none 0 0,.slice none 0 0] 25);obtain ⟨w4,hw4⟩: ∃w4,w4=w3.alloc (.cells #[.int .i64 s.kind,.string ⟨s.of_.toArray⟩,.string ⟨s.name.toArray⟩,.slice none 0 0,.slice none 0 0] 25):=⟨_,rfl⟩;have hs4:w4.heap.size=w.heap.size+4:=by rw[hw4]; simp[hs3]
  rw[<-hw1] at hb1;rw[<-hw2] at hb2;rw[<-hw3] at hb3;rw[<-hw4] at hb4;have hbw3:=Z00 hb1 (Z00 hb2 hb3);have hbw:=Z00 hbw3 hb4;have hB1:Box5 w1 w.heap.size s ps:=by rw[hw1]; exact Z02 w s ps
  have hB2:Box5 w2 w1.heap.size t pt:=by rw[hw2]; exact Z02 w1 t pt
  have hB13:=(hB1.next hb2).next hb3;have hB23:=hB2.next hb3;rw[hs1] at hB23;have hR3:Rc (w.heap.size+2) w3:=by have h:=Z3G hw3; rwa [hs2] at h
  have hR4:Rc (w.heap.size+2) w4:=hR3.upd (T:=fun _=>False) (Upd.new hb4) (fun h=>h);have hu3:Upd (fun _=>False) w w3:=Upd.new hbw3;have hu4:Upd (fun _=>False) w w4:=Upd.new hbw;have hc5:Sh5 w4 (w.heap.size+3) 0 ⟨s.kind,s.of_,s.name,[],[]⟩ noneQ12:=by
   rw[<-hs3,hw4]; refine ⟨?_, ?_, ?_, ?_, ?_⟩ <;> simp[go_sem]
  have hfz: ∀j,w4.frozen? ⟨w.heap.size+3,j,none⟩=false:=fun j=>by rw[<-hs3,hw4]; simp[go_sem]
  have hpf:w4.cell? ⟨w.heap.size,0,none⟩=some (.int .i64 s.kind):=by
   obtain ⟨_,⟨c,_⟩,_⟩:=hB13.next hb4;simpa using c
  have HN:=Y1 hn;have HW3:=Y1 hbw3;obtain ⟨_,⟨a0,a1,a2,a3,a4⟩,_⟩:=hB13;obtain ⟨_,⟨b0,b1,b2,b3,b4⟩,_⟩:=hB23;simp only[Nat.zero_add] at a0 a1 a2 a3 a4 b0 b1 b2 b3 b4;by_cases h4:s.kind=4\/t.kind=4
  {have hbd:Grd.named (f+1) s t=s:=by unfold Grd.named; rw[if_pos h4]
   have hfin:NIs s n0 w (.returned (sv s ps)) (RX.lay w3 (w.heap.size+2) s ps):=Z3Q (hi:=w3.heap.size) hn (by omega) (by omega) hbw3 (Z6b (Z0f ha hn hu3 (fun _ _ h=>h)) (by omega) _);rw[hbd];have HF:=Y1 hfin;obtain ⟨v0,y0⟩:=hR3.ex 0 (by omega);obtain ⟨v1,y1⟩:=hR3.ex 1 (by omega);obtain ⟨v2,y2⟩:=hR3.ex 2 (by omega);obtain ⟨v3,y3⟩:=hR3.ex 3 (by omega);obtain ⟨v4,y4⟩:=hR3.ex 4 (by omega);have z0:=hR3.fz 0;have z1:=hR3.fz 1;have z2:=hR3.fz 2;have z3:=hR3.fz 3;have z4:=hR3.fz 4;obtain ⟨u0,u1,u2,u3,u4⟩:=RX.lay_at s ps (W:=w3) (g:=w.heap.size+2) hR3.ex;simp only[Nat.zero_add] at u0 u1 u2 u3 u4;have HU:=Y1 (And.intro u0 (And.intro u1 (And.intro u2 (And.intro u3 u4))));have HBD:=Y1 hbd;have hw1':=hw1.symm;have hw2':=hw2.symm;have hw3':=hw3.symm;have hm: (s.kind==4)=true\/(s.kind==4)=false/\(t.kind==4)=true:=by
    by_cases e:s.kind=4
    {exact Or.inl (by rw[e]; rfl)}
    {exact Or.inr ⟨by simpa using e,by rw[h4.resolve_left e]; rfl⟩}
   clear u0 u1 u2 u3 u4 hfin hR3 hR4 hbw hbw3 hu3 hu4 ha hb hn h2 hr hI hB1 hB2 hb1 hb2 hb3 hb4 hw1 hw2 hw3 hw4 hs4 hc5 hfz hpf h4 hbd;unfold sv at HF ⊢;rcases hm with m4 | ⟨m4,m4b⟩
   {go_enter Tryz.func34,Tryz.ntmps34;go_wp2;obtain ⟨u0,u1,u2,u3,u4⟩:=HU.out;unfold RX.lay at u0 u1 u2 u3 u4 HF;refine bodyPost_ret (v:= .agg (Y8 s ps)) (by simp[results,Tryz.results34,go_sem,u0,u1,u2,u3,u4]) rfl ?_;exact HF.out}
   {go_enter Tryz.func34,Tryz.ntmps34;go_wp2;obtain ⟨u0,u1,u2,u3,u4⟩:=HU.out;unfold RX.lay at u0 u1 u2 u3 u4 HF;refine bodyPost_ret (v:= .agg (Y8 s ps)) (by simp[results,Tryz.results34,go_sem,u0,u1,u2,u3,u4]) rfl ?_;exact HF.out}}
  {have m4: (s.kind==4)=false:=by simpa using fun h=>h4 (Or.inl h)
   have m4b: (t.kind==4)=false:=by simpa using fun h=>h4 (Or.inr h)
   obtain ⟨hk,g1,g2⟩:s.kind=t.kind/\_/\_:=by
    rcases hr with h | h | h
    {exact absurd (Or.inl h) h4}
    {exact absurd (Or.inr h) h4}
    {exact h}
   have ha4:=Z0f ha hn hu4 (fun _ _ h=>h);have hb4s:=Z0f hb hn hu4 (fun _ _ h=>h);have HW:Hid ((((w.alloc (.cells (Y8 s ps) 25)).alloc (.cells (Y8 t pt) 25)).alloc (.cells Yb 25)).alloc (.cells #[.int .i64 s.kind,.string ⟨s.of_.toArray⟩,.string ⟨s.name.toArray⟩,.slice none 0 0,.slice none 0 0] 25)=w4):=Y1 (by rw[hw4,hw3,hw2,hw1]);by_cases h67:s.kind=6\/s.kind=7
   {have A:=Z0s (Z08 h2.ra) h67;have B:=Z0s (Z08 h2.rb) (hk▸h67);have hof:s.of_= []/\s.name= []:=(Z1u s).1 A.b;have hst:St0 w (w.heap.size+3) w.heap.size (.int .i64 s.kind) s.kind w4:=by
     refine ⟨hbw,by omega,by omega, ?_,hfz,by omega,hpf⟩;rw[hof.1,hof.2] at hc5; exact hc5
    have HE:=Y1 (Z7a hI h2 A B h4 (g1 h67).1 ha4 hb4s hn hst hR4 (Nat.le_refl _) (by omega) (by omega));have hm: (s.kind==6)=true\/(s.kind==6)=false/\(s.kind==7)=true:=by
     rcases h67 with e | e
     {exact Or.inl (by rw[e]; rfl)}
     {exact Or.inr ⟨by rw[e]; rfl,by rw[e]; rfl⟩}
    have HZ:Hid (w4.heap.size=w.heap.size+4):=Y1 hs4;clear hst ha hb hn h2 hr hI hbw hbw3 hu3 hu4 ha4 hb4s hR3 hR4 hc5 hfz hpf h4 hk g1 g2 h67 hb1 hb2 hb3 hb4 hs1 hs2 hs3 hs4 hB1 hB2 a0 a1 a2 a3 a4 b0 b1 b2 b3 b4 A B hof;clear hw4 hw3 hw2 hw1;unfold sv at HE ⊢;rcases hm with m6 | ⟨m6,m7⟩
    {go_enter Tryz.func34,Tryz.ntmps34
     go_wp2_with fail
     rw[HW.out];clear HW;refine HE.out.mono ?_;rintro e W6 ⟨bb,rfl,hR,hB,q,⟨x0,x1,x2,x3,x4⟩,hj⟩;obtain ⟨v0,y0⟩:=hR.ex 0 (by omega);obtain ⟨v1,y1⟩:=hR.ex 1 (by omega);obtain ⟨v2,y2⟩:=hR.ex 2 (by omega);obtain ⟨v3,y3⟩:=hR.ex 3 (by omega);obtain ⟨v4,y4⟩:=hR.ex 4 (by omega);have z0:=hR.fz 0;have z1:=hR.fz 1;have z2:=hR.fz 2;have z3:=hR.fz 3;have z4:=hR.fz 4;simp only[Nat.zero_add] at x0 x1 x2 x3 x4;have hfin:=Z3Q (rc:=w.heap.size+2) (hi:=w4.heap.size+3) HN.out (by omega) (by have:=HZ.out; omega) hB hj;generalize Grd.named (f+1) s t=r at *;have HF:=Y1 hfin;obtain ⟨u0,u1,u2,u3,u4⟩:=RX.lay_at r q (W:=W6) (g:=w.heap.size+2) hR.ex;simp only[Nat.zero_add] at u0 u1 u2 u3 u4;have HU:=Y1 (And.intro u0 (And.intro u1 (And.intro u2 (And.intro u3 u4))));clear hfin hB hj HE hR u0 u1 u2 u3 u4;go_wp2;obtain ⟨u0,u1,u2,u3,u4⟩:=HU.out;unfold RX.lay at u0 u1 u2 u3 u4;refine bodyPost_ret (v:=sv r q) (by simp[results,Tryz.results34,go_sem,u0,u1,u2,u3,u4]) rfl ?_;exact HF.out}
    {go_enter Tryz.func34,Tryz.ntmps34
     go_wp2_with fail
     rw[HW.out];clear HW;refine HE.out.mono ?_;rintro e W6 ⟨bb,rfl,hR,hB,q,⟨x0,x1,x2,x3,x4⟩,hj⟩;obtain ⟨v0,y0⟩:=hR.ex 0 (by omega);obtain ⟨v1,y1⟩:=hR.ex 1 (by omega);obtain ⟨v2,y2⟩:=hR.ex 2 (by omega);obtain ⟨v3,y3⟩:=hR.ex 3 (by omega);obtain ⟨v4,y4⟩:=hR.ex 4 (by omega);have z0:=hR.fz 0;have z1:=hR.fz 1;have z2:=hR.fz 2;have z3:=hR.fz 3;have z4:=hR.fz 4;simp only[Nat.zero_add] at x0 x1 x2 x3 x4;have hfin:=Z3Q (rc:=w.heap.size+2) (hi:=w4.heap.size+3) HN.out (by omega) (by have:=HZ.out; omega) hB hj;generalize Grd.named (f+1) s t=r at *;have HF:=Y1 hfin;obtain ⟨u0,u1,u2,u3,u4⟩:=RX.lay_at r q (W:=W6) (g:=w.heap.size+2) hR.ex;simp only[Nat.zero_add] at u0 u1 u2 u3 u4;have HU:=Y1 (And.intro u0 (And.intro u1 (And.intro u2 (And.intro u3 u4))));clear hfin hB hj HE hR u0 u1 u2 u3 u4;go_wp2;obtain ⟨u0,u1,u2,u3,u4⟩:=HU.out;unfold RX.lay at u0 u1 u2 u3 u4;refine bodyPost_ret (v:=sv r q) (by simp[results,Tryz.results34,go_sem,u0,u1,u2,u3,u4]) rfl ?_;exact HF.out}}
   {have m6: (s.kind==6)=false:=by simpa using fun h=>h67 (Or.inl h)
    have m7: (s.kind==7)=false:=by simpa using fun h=>h67 (Or.inr h)
    obtain ⟨e1,e2,e3,e4⟩:=g2 h67;have hst:St0p w (w.heap.size+3) w.heap.size w.heap.size (.int .i64 s.kind) (.int .i64 s.kind) s.kind s.of_ s.name w4:=⟨hbw,by omega,by omega,hc5,hfz,by omega,by omega,hpf,hpf⟩;have HE:=Y1 (Z6d hI h2 h4 h67 (decide_eq_true ⟨e1,e2,e3⟩) (fun i p q hp hq=>⟨_,e4 i p q hp hq⟩) ha4 hb4s hn hst hR4 (Nat.le_refl _) (by omega) (by omega));have HZ:Hid (w4.heap.size=w.heap.size+4):=Y1 hs4;clear e1 e2 e3 e4;clear hst ha hb hn h2 hr hI hbw hbw3 hu3 hu4 ha4 hb4s hR3 hR4 hc5 hfz hpf h4 hk g1 g2 h67 hb1 hb2 hb3 hb4 hs1 hs2 hs3 hs4 hB1 hB2 a0 a1 a2 a3 a4 b0 b1 b2 b3 b4;clear hw4 hw3 hw2 hw1;unfold sv at HE ⊢;go_enter Tryz.func34,Tryz.ntmps34
    go_wp2_with fail
    rw[HW.out];clear HW;refine HE.out.mono ?_;rintro e W6 ⟨bb,rfl,hR,hB,q,⟨x0,x1,x2,x3,x4⟩,hj⟩;obtain ⟨v0,y0⟩:=hR.ex 0 (by omega);obtain ⟨v1,y1⟩:=hR.ex 1 (by omega);obtain ⟨v2,y2⟩:=hR.ex 2 (by omega);obtain ⟨v3,y3⟩:=hR.ex 3 (by omega);obtain ⟨v4,y4⟩:=hR.ex 4 (by omega);have z0:=hR.fz 0;have z1:=hR.fz 1;have z2:=hR.fz 2;have z3:=hR.fz 3;have z4:=hR.fz 4;simp only[Nat.zero_add] at x0 x1 x2 x3 x4;have hfin:=Z3Q (rc:=w.heap.size+2) (hi:=w4.heap.size+2) HN.out (by omega) (by have:=HZ.out; omega) hB hj;generalize Grd.named (f+1) s t=r at *;have HF:=Y1 hfin;obtain ⟨u0,u1,u2,u3,u4⟩:=RX.lay_at r q (W:=W6) (g:=w.heap.size+2) hR.ex;simp only[Nat.zero_add] at u0 u1 u2 u3 u4;have HU:=Y1 (And.intro u0 (And.intro u1 (And.intro u2 (And.intro u3 u4))));clear hfin hB hj HE hR u0 u1 u2 u3 u4;go_wp2;obtain ⟨u0,u1,u2,u3,u4⟩:=HU.out;unfold RX.lay at u0 u1 u2 u3 u4;refine bodyPost_ret (v:=sv r q) (by simp[results,Tryz.results34,go_sem,u0,u1,u2,u3,u4]) rfl ?_;exact HF.out}}
end SubM
end Go.Proofs.YtkhoflciahkphaaGreatDoor
namespace Go.Proofs.YtkhoflciahkphaaGreatDoor
open Go.RowKit Shp Sub
namespace SubM
def Z0p:Sh:=⟨0,[],[],[],[]⟩
theorem Z9v (S:Nat->Prop) (W:World):Kept S W (Z0p,noneQ12):=fun W' _ _=>
 .mk _ _ 0 0 (fun _=>noneQ12) ⟨by simp[Z0p],by simp[Z0p],by simp[Z0p],by simp[Z0p],by simp[Z0p],by simp[Z0p],by simp[Z0p],fun _=>rfl,fun _=>rfl⟩ (Or.inl rfl) (Or.inl rfl) (fun i hi=>by simp[Z0p] at hi) (fun i hi=>by simp[Z0p] at hi)
theorem Z9Y {W:World} {q:Ptr} {t:Sh} {F:List Nat} {B:Nat} (h:Own W q t F) (hF: ∀b∈F,B<=b):Kept (fun b=>B<=b) W (t,q):=fun W' hz hs=>by
 have h2:Own W' q t F:=h.of (fun x hx=>⟨fun k=>World.cell?_of_block (w:=W) (hs x (h.lt x hx) (hF x hx)),fun k=>World.frozen?_of_block (w:=W) (hs x (h.lt x hx) (hF x hx))⟩) hz;exact h2.at_ (fun x hx=>Nat.lt_of_lt_of_le (h.lt x hx) hz)
end SubM
end Go.Proofs.YtkhoflciahkphaaGreatDoor
namespace Go.Proofs.YtkhoflciahkphaaGreatDoor
open Go.RowKit Shp Sub
namespace SubM
def WIs (o:Option Sh) (w:World) (e:Ending) (w':World):Prop:=
 ∃q,e= .returned (.tuple #[sv (o.getD Z0p) q,.bool o.isSome])/\Kept (fun b=>w.heap.size<=b) w' (o.getD Z0p,q)/\Below w.heap.size w w'
theorem Z4b {o:Option Sh} {w W:World} (hb:Below w.heap.size w W) (h:o=none):WIs o w (.returned (.tuple #[.agg #[.int .i64 0,.string ⟨#[]⟩,.string ⟨#[]⟩,.slice none 0 0,.slice none 0 0],.bool false])) W:=
 ⟨noneQ12,by rw[h]; rfl,by rw[h]; exact Z9v _ _,hb⟩
theorem Z3Z (t:Sh) (q:Ptr) (w:World) (ht:ShAt w w.heap.size q t) (hg:WGlobs w):
 Calls Tryz.prog 33 #[sv t q] w (WIs (Sub.whole (some t)) w):=by
 have hb1:=Z01 w (.cells (Y8 t q) 25);obtain ⟨w1,hw1⟩: ∃w1,w1=w.alloc (.cells (Y8 t q) 25):=⟨_,rfl⟩;have hs1:w1.heap.size=w.heap.size+1:=by rw[hw1]; simp
 have hb2:=Z01 w1 (.cells Yb 25);obtain ⟨w2,hw2⟩: ∃w2,w2=w1.alloc (.cells Yb 25):=⟨_,rfl⟩;have hs2:w2.heap.size=w1.heap.size+1:=by rw[hw2]; simp
 rw[<-hw1] at hb1;rw[<-hw2] at hb2;have hbw:=Z00 hb1 hb2;have hrc:Rc (w.heap.size+1) w2:=by have h:=Z3G hw2; rwa [hs1] at h
 have hB1:Box5 w1 w.heap.size t q:=by rw[hw1]; exact Z02 w t q
 have hBX:=hB1.next hb2;have HBX:=Y1 hBX;have HAT:=Y1 (ht.next hbw);have HG:=Y1 (hg.next hbw);have HW:=Y1 hbw;have HR:=Y1 hrc;have hw1':=hw1.symm;have hw2':=hw2.symm;have lw:w.heap.size+1 < w2.heap.size:=by omega
 obtain ⟨_,⟨x0,x1,x2,x3,x4⟩,_⟩:=hBX;simp only[Nat.zero_add] at x0 x1 x2 x3 x4;clear hw1 hw2 hb1 hb2 hB1 hbw ht hg hrc;unfold sv;go_enter Tryz.func33,Tryz.ntmps33
 go_wp2_with fail
 refine (Z1S t q w2 HAT.out HG.out).mono ?_;rintro e w8 ⟨rfl,hb8⟩;have HB8:=Y1 hb8;have HA8:=Y1 (HAT.out.next hb8);have HBX8:=Y1 (HBX.out.next hb8);clear hb8 x0 x1 x2 x3 x4;by_cases ct:check t=0
 {have HCT:=Y1 ct;rw[decide_eq_true ct];clear ct;obtain ⟨_,⟨x0,x1,x2,x3,x4⟩,_⟩:=HBX8.out;simp only[Nat.zero_add] at x0 x1 x2 x3 x4
  go_wp2_with fail
  refine (Z58 t q w8 HA8.out (HG.out.next HB8.out) HCT.out).mono ?_;rintro e w9 ⟨q9,F,rfl,hown,hF,hb9⟩;have HJS:Hid (Sub.whole (some t)=some (sorted t)):=Y1 (by unfold Sub.whole; simp[HCT.out]);obtain ⟨z,hz⟩: ∃z,z=sorted t:=⟨_,rfl⟩;rw[<-hz] at hown HJS ⊢;have hb39:=Z00 HB8.out hb9;have hR:=HR.out.upd (T:=fun _=>False) (Upd.new hb39) (fun h=>h);have hK:Kept (fun b=>w2.heap.size<=b) w9 (z,q9):=Z9Y hown (fun b hb=>by have h1:=hF b hb; have h2:=HB8.out.size; omega);have HK:=Y1 (hK.move (S':=fun b=>w.heap.size<=b) (RX.lay_upd w9 (w.heap.size+1) z q9) (fun b _ hf=>⟨fun e=>by have e:b=w.heap.size+1:=e; omega,by omega⟩));have HBF:=Y1 ((Z00 HW.out hb39).trans ((RX.lay_upd w9 (w.heap.size+1) z q9).below (by have h1:=HW.out.size; have h2:=hb39.size; omega) (fun x hx=>by omega)));have HLY:=Y1 (RX.lay_at z q9 (W:=w9) (g:=w.heap.size+1) hR.ex);obtain ⟨v0,y0⟩:=hR.ex 0 (by omega);obtain ⟨v1,y1⟩:=hR.ex 1 (by omega);obtain ⟨v2,y2⟩:=hR.ex 2 (by omega);obtain ⟨v3,y3⟩:=hR.ex 3 (by omega);obtain ⟨v4,y4⟩:=hR.ex 4 (by omega);have z0:=hR.fz 0;have z1:=hR.fz 1;have z2:=hR.fz 2;have z3:=hR.fz 3;have z4:=hR.fz 4;clear hR hK hown hF hb9 hb39 hz x0 x1 x2 x3 x4;go_wp2;obtain ⟨u0,u1,u2,u3,u4⟩:=HLY.out;unfold RX.lay at u0 u1 u2 u3 u4;simp only[Nat.zero_add] at u0 u1 u2 u3 u4;refine bodyPost_ret (v:= .tuple #[sv z q9,.bool true]) (by simp[results,Tryz.results33,go_sem,u0,u1,u2,u3,u4]) rfl ?_;refine ⟨q9, ?_, ?_,HBF.out⟩
  {rw[HJS.out]; rfl}
  {rw[HJS.out]; exact HK.out}}
 {have HN:Hid (Sub.whole (some t)=none):=Y1 (by unfold Sub.whole; simp[ct]);rw[decide_eq_false ct];clear ct;have hR:=HR.out.upd (T:=fun _=>False) (Upd.new (HB8.out)) (fun h=>h);have HLY:=Y1 (RX.lay_at Z0p noneQ12 (W:=w8) (g:=w.heap.size+1) hR.ex);have HUP:=Y1 (RX.lay_upd w8 (w.heap.size+1) Z0p noneQ12);obtain ⟨v0,y0⟩:=hR.ex 0 (by omega);obtain ⟨v1,y1⟩:=hR.ex 1 (by omega);obtain ⟨v2,y2⟩:=hR.ex 2 (by omega);obtain ⟨v3,y3⟩:=hR.ex 3 (by omega);obtain ⟨v4,y4⟩:=hR.ex 4 (by omega);have z0:=hR.fz 0;have z1:=hR.fz 1;have z2:=hR.fz 2;have z3:=hR.fz 3;have z4:=hR.fz 4;clear hR;go_wp2;obtain ⟨u0,u1,u2,u3,u4⟩:=HLY.out;unfold RX.lay Z0p at u0 u1 u2 u3 u4;simp only[Nat.zero_add,List.length_nil] at u0 u1 u2 u3 u4;refine bodyPost_ret (v:= .tuple #[.agg #[.int .i64 0,.string ⟨#[]⟩,.string ⟨#[]⟩,.slice none 0 0,.slice none 0 0],.bool false]) (by simp[results,Tryz.results33,go_sem,u0,u1,u2,u3,u4]) rfl ?_;exact Z4b ((Z00 HW.out (HB8.out)).trans (HUP.out.below (by have h1:=HW.out.size; have h2:=(HB8.out).size; omega) (fun x hx=>by omega))) (HN.out)}
theorem Z0X (a b:Sh) (pa pb:Ptr) (w:World) (ha:ShAt w w.heap.size pa a) (hb:ShAt w w.heap.size pb b) (hg:WGlobs w):
 Calls Tryz.prog 14 #[sv a pa,sv b pb] w (WIs (Grd.between a b) w):=by
 have hb1:=Z01 w (.cells (Y8 a pa) 25);obtain ⟨w1,hw1⟩: ∃w1,w1=w.alloc (.cells (Y8 a pa) 25):=⟨_,rfl⟩;have hs1:w1.heap.size=w.heap.size+1:=by rw[hw1]; simp
 have hb2:=Z01 w1 (.cells (Y8 b pb) 25);obtain ⟨w2,hw2⟩: ∃w2,w2=w1.alloc (.cells (Y8 b pb) 25):=⟨_,rfl⟩;have hs2:w2.heap.size=w.heap.size+1+1:=by rw[hw2]; simp[hs1]
 have hb3:=Z01 w2 (.cells Yb 25);obtain ⟨w3,hw3⟩: ∃w3,w3=w2.alloc (.cells Yb 25):=⟨_,rfl⟩;have hs3:w3.heap.size=w.heap.size+1+1+1:=by rw[hw3]; simp[hs2]
 rw[<-hw1] at hb1;rw[<-hw2] at hb2;rw[<-hw3] at hb3;have hbw:=Z00 hb1 (Z00 hb2 hb3);have hrc:Rc (w.heap.size+1+1) w3:=by have h:=Z3G hw3; rwa [hs2] at h
 have hB1:Box5 w1 w.heap.size a pa:=by rw[hw1]; exact Z02 w a pa
 have hB2:Box5 w2 w1.heap.size b pb:=by rw[hw2]; exact Z02 w1 b pb
 have hBA:=(hB1.next hb2).next hb3;have hBB:=hB2.next hb3;rw[hs1] at hBB;have HBA:=Y1 hBA;have HBB:=Y1 hBB;have HA:=Y1 (ha.next hbw);have HB:=Y1 (hb.next hbw);have HG:=Y1 (hg.next hbw);have HW:=Y1 hbw;have HR:=Y1 hrc;obtain ⟨_,⟨a0,a1,a2,a3,a4⟩,_⟩:=hBA;obtain ⟨_,⟨b0,b1,b2,b3,b4⟩,_⟩:=hBB;simp only[Nat.zero_add] at a0 a1 a2 a3 a4 b0 b1 b2 b3 b4;have hw1':=hw1.symm;have hw2':=hw2.symm;have hw3':=hw3.symm;have lw:w.heap.size+1+1 < w3.heap.size:=by omega
 clear hw1 hw2 hw3 hb1 hb2 hb3 hB1 hB2 hbw ha hb hg hrc;have HU:=Y1 (Z0a a b pa pb w3 HA.out HB.out HG.out);unfold sv at HU ⊢;go_enter Tryz.func14,Tryz.ntmps14
 go_wp2_with fail
 refine HU.out.mono ?_;rintro e w4 ⟨rfl,hb4⟩;have HB4:=Y1 hb4;clear hb4 a0 a1 a2 a3 a4 b0 b1 b2 b3 b4 HU;cases hnr:Grd.near a b with
 | false=>
  have HN:Hid (Grd.between a b=none):=Y1 (by unfold Grd.between; rw[hnr]; rfl);clear hnr;have hR:=HR.out.upd (T:=fun _=>False) (Upd.new (HB4.out)) (fun h=>h);have HLY:=Y1 (RX.lay_at Z0p noneQ12 (W:=w4) (g:=w.heap.size+1+1) hR.ex);have HUP:=Y1 (RX.lay_upd w4 (w.heap.size+1+1) Z0p noneQ12);obtain ⟨v0,y0⟩:=hR.ex 0 (by omega);obtain ⟨v1,y1⟩:=hR.ex 1 (by omega);obtain ⟨v2,y2⟩:=hR.ex 2 (by omega);obtain ⟨v3,y3⟩:=hR.ex 3 (by omega);obtain ⟨v4,y4⟩:=hR.ex 4 (by omega);have z0:=hR.fz 0;have z1:=hR.fz 1;have z2:=hR.fz 2;have z3:=hR.fz 3;have z4:=hR.fz 4;clear hR;go_wp2;obtain ⟨u0,u1,u2,u3,u4⟩:=HLY.out;unfold RX.lay Z0p at u0 u1 u2 u3 u4;simp only[Nat.zero_add,List.length_nil] at u0 u1 u2 u3 u4;refine bodyPost_ret (v:= .tuple #[.agg #[.int .i64 0,.string ⟨#[]⟩,.string ⟨#[]⟩,.slice none 0 0,.slice none 0 0],.bool false]) (by simp[results,Tryz.results14,go_sem,u0,u1,u2,u3,u4]) rfl ?_;exact Z4b ((Z00 HW.out (HB4.out)).trans (HUP.out.below (by have h1:=HW.out.size; have h2:=(HB4.out).size; omega) (fun x hx=>by omega))) (HN.out)
 | true=>
  have HV:Hid (Grd.between a b=Sub.whole (some (Grd.named 40 a b))):=Y1 (by unfold Grd.between; rw[if_pos hnr]);obtain ⟨ca,cb,hrr⟩:=Grd.near_iff.1 hnr;have hta:Two 40 a b:=⟨(Z05 ca).2.2,(Z05 cb).2.2,(Z05 ca).2.1,(Z05 cb).2.1,(Z05 ca).1,(Z05 cb).1⟩;obtain ⟨_,⟨a0,a1,a2,a3,a4⟩,_⟩:=HBA.out.next HB4.out;obtain ⟨_,⟨b0,b1,b2,b3,b4⟩,_⟩:=HBB.out.next HB4.out;simp only[Nat.zero_add] at a0 a1 a2 a3 a4 b0 b1 b2 b3 b4;have HU:=Y1 (Z4G 40 _ a b pa pb w4.heap.size w4 hta hrr (HA.out.next HB4.out) (HB.out.next HB4.out) (Nat.le_refl _));obtain ⟨t,ht⟩: ∃t,t=Grd.named 40 a b:=⟨_,rfl⟩;rw[<-ht] at HU HV;unfold sv at HU;clear hnr ca cb hrr hta ht
  go_wp2_with fail
  refine HU.out.mono ?_;rintro e w5 ⟨q,rfl,hb5,hk5⟩;have HB5:=Y1 (Z00 HB4.out hb5);have HU2:=Y1 (Z3Z t q w5 hk5.here (HG.out.next HB5.out));unfold sv at HU2;clear hb5 hk5 HU a0 a1 a2 a3 a4 b0 b1 b2 b3 b4
  go_wp2_with fail
  refine HU2.out.mono ?_;rintro e w6 ⟨q9,rfl,hk,hb6⟩;rw[<-HV.out] at hk ⊢;obtain ⟨o,ho⟩: ∃o,o=Grd.between a b:=⟨_,rfl⟩;rw[<-ho] at hk ⊢;obtain ⟨z,hz⟩: ∃z,z=o.getD Z0p:=⟨_,rfl⟩;obtain ⟨ok,hok⟩: ∃ok,ok=o.isSome:=⟨_,rfl⟩;rw[<-hz] at hk;have hb36:=Z00 HB5.out hb6;have hR:=HR.out.upd (T:=fun _=>False) (Upd.new hb36) (fun h=>h);have HK:=Y1 (hk.move (S':=fun b=>w.heap.size<=b) (RX.lay_upd w6 (w.heap.size+1+1) z q9) (fun b _ hf=>⟨fun e=>by have e:b=w.heap.size+1+1:=e; have:=HB5.out.size; omega,by have:=HW.out.size; have:=HB5.out.size; omega⟩));have HBF:=Y1 ((Z00 HW.out hb36).trans ((RX.lay_upd w6 (w.heap.size+1+1) z q9).below (by have h1:=HW.out.size; have h2:=hb36.size; omega) (fun x hx=>by omega)));have HLY:=Y1 (RX.lay_at z q9 (W:=w6) (g:=w.heap.size+1+1) hR.ex);have HZ:=Y1 hz;have HOK:=Y1 hok;have HO:=Y1 ho;rw[<-hz, <-hok];obtain ⟨v0,y0⟩:=hR.ex 0 (by omega);obtain ⟨v1,y1⟩:=hR.ex 1 (by omega);obtain ⟨v2,y2⟩:=hR.ex 2 (by omega);obtain ⟨v3,y3⟩:=hR.ex 3 (by omega);obtain ⟨v4,y4⟩:=hR.ex 4 (by omega);have z0:=hR.fz 0;have z1:=hR.fz 1;have z2:=hR.fz 2;have z3:=hR.fz 3;have z4:=hR.fz 4;clear hR hk hb36 hb6 hz hok ho HU2;unfold sv;go_wp2;obtain ⟨u0,u1,u2,u3,u4⟩:=HLY.out;unfold RX.lay at u0 u1 u2 u3 u4;simp only[Nat.zero_add] at u0 u1 u2 u3 u4;refine bodyPost_ret (v:= .tuple #[sv z q9,.bool ok]) (by simp[results,Tryz.results14,go_sem,u0,u1,u2,u3,u4]) rfl ?_;refine ⟨q9, ?_, ?_,HBF.out⟩
  {rw[<-HO.out, <-HZ.out, <-HOK.out]}
  {rw[<-HO.out, <-HZ.out]; exact HK.out}
end SubM
end Go.Proofs.YtkhoflciahkphaaGreatDoor
namespace Go.Proofs.YtkhoflciahkphaaGreatDoor
open Go.RowKit Shp Sub
namespace SubM
def AnyOk (f:Nat):Prop:= ∀(s:Sh) (q:Ptr) (n0:Nat) (w:World),deep s<=f->size s<=400->ShAt w n0 q s->n0<=w.heap.size->
 Y9 25 #[sv s q] w (.bool (!Grd.known s))
theorem Z9w: ∀args W,(callFunc 25 args).run Tryz.prog W= .ok (.enter 25 args) W:=enters_of Tryz.func25 (by kernel_rfl) rfl
theorem Z7b {l:List Sh} {k:Nat} (h: ∀(i:Nat) (hi:i < l.length),i < k->Grd.known (l[i]'hi)=true) (hk:l.length<=k):Grd.knowns l=true:=by
 induction l generalizing k with
 | nil=>rfl
 | cons a l ih=>
  rw[Grd.knowns,Bool.and_eq_true];refine ⟨h 0 (by simp) (by simp at hk; omega),ih (k:=k - 1) (fun i hi hik=> ?_) (by simp at hk; omega)⟩;have:=h (i+1) (by simpa using hi) (by omega);simpa using this
theorem Z8t {l:List Sh} {i:Nat} (hi:i < l.length) (h:Grd.known (l[i]'hi)=false):Grd.knowns l=false:=by
 cases hk:Grd.knowns l with
 | false=>rfl
 | true=>rw[Grd.knowns_mem hk (List.getElem_mem hi)] at h; cases h
section
variable {f : Nat} (hI : AnyOk f) (t : Sh) (q : Ptr) (n0 : Nat) (w : World) (hd : deep t <= f + 1) (hz : size t <= 400) (ht : ShAt w n0 q t) (hn : n0 <= w.heap.size)
include f hI t q n0 w hd hz ht hn
theorem Z5k:
 Calls Tryz.prog 71 #[.slice q.P t.parts.length q.d,.func (.func 25) #[] #[]] w fun e w'=> ∃r:Int,e= .returned (.int .i64 r)/\(decide (0<=r))=(!Grd.knowns t.parts)/\Below w.heap.size w w':=by
 obtain ⟨A,cA,P,dP⟩:=q;have hen:=Z9w;have hl:t.parts.length<=400:=by have:=Z0O t.parts; rw[size_eq] at hz; omega
 have HI:=Y1 hI;have HD:=Y1 hd;have HZ:=Y1 hz;have HT:=Y1 ht;have HN:=Y1 hn;have HL:=Y1 hl;clear hI hd hz ht hn hl
 try dsimp only
 go_enter Tryz.func71,Tryz.ntmps71
 go_wp2_with fail
 go_loopw [8] (fun ii wr=> ∃k:Nat,k<=t.parts.length/\ii= .int .i64 (k:Int)/\Hid (∀(i:Nat) (hi:i < t.parts.length),i < k->Grd.known (t.parts[i]'hi)=true)/\Hid (Below w.heap.size w wr)) (fun i _=>t.parts.length - (intOf i).toNat)
 case atStart=>exact ⟨0,Nat.zero_le _,rfl,Y1 (fun i hi h=>absurd h (by omega)),Y1 Y2⟩
 case round=>
  obtain ⟨k,hk,rfl,HK,HB⟩:=hrel;have hl:=HL.out;by_cases hlt:k < t.parts.length
  {have hi1: (k:Int) < (t.parts.length:Int):=by omega
   have hn0:=HN.out;have ht2:=Z0f HT.out hn0 (Upd.new (S:=fun _=>False) HB.out) (fun _ _ h=>h);obtain ⟨g,off,rs,hp⟩:=Z2q ht2;rcases hp with h | ⟨rfl,hgP,h5⟩
   {omega}
   have hkp:=h5 k hlt;have hdp:deep (t.parts[k]'hlt)<=f:=by have h1:=Z0t (List.getElem_mem hlt); have h2:=HD.out; rw[Z0d] at h2; omega
   have hzp:size (t.parts[k]'hlt)<=400:=by have h1:=Z1z (List.getElem_mem hlt); have h2:=HZ.out; rw[size_eq] at h2; omega
   obtain ⟨p,hpp⟩: ∃p,p=t.parts[k]'hlt:=⟨_,rfl⟩;rw[<-hpp] at hkp hdp hzp;have HU:=Y1 (HI.out p (rs k) n0 wr hdp hzp hkp.2 (by have:=HB.out.size; omega));obtain ⟨⟨x0,x1,x2,x3,x4⟩,_⟩:=hkp;have HPP:=Y1 hpp;unfold sv at HU;clear hn0 ht2 h5 hgP hdp hzp hpp
   go_wp2_with fail
   refine HU.out.mono ?_;rintro e w2 ⟨rfl,hb2⟩;have HB2:=Y1 (Z00 HB.out hb2);clear hb2 HU x0 x1 x2 x3 x4;cases hkn:Grd.known p with
   | false=>
    have HF:Hid (Grd.knowns t.parts=false):=Y1 (Z8t hlt (by rw[<-HPP.out]; exact hkn));clear hkn;go_wp2;go_ret;refine ⟨_,rfl, ?_,HB2.out⟩;rw[HF.out];simp
   | true=>
    have HK2:Hid (∀(i:Nat) (hi:i < t.parts.length),i < k+1->Grd.known (t.parts[i]'hi)=true):=Y1 (fun i hi h=>by
     by_cases e:i=k
     {subst e; rw[<-HPP.out]; exact hkn}
     · exact HK.out i hi (by omega))
    clear hkn;go_wp2
    go_roundw
    case rel=>exact ⟨k+1,by omega,by go_num,HK2,HB2⟩
    case measure=>simp[intOf]; omega}
  {obtain rfl:k=t.parts.length:=by omega
   have hi1: ¬(t.parts.length:Int) < (t.parts.length:Int):=by omega
   have HF:Hid (Grd.knowns t.parts=true):=Y1 (Z7b HK.out (Nat.le_refl _));go_wp2;go_ret;refine ⟨_,rfl, ?_,HB.out⟩;rw[HF.out];decide}
theorem Z4c:
 Y9 47 #[.slice q.P t.parts.length q.d,.func (.func 25) #[] #[]] w (.bool (!Grd.knowns t.parts)):=by
 have HU:=Y1 (Z5k hI t q n0 w hd hz ht hn);clear hI hd hz ht hn;go_enter Tryz.func47,Tryz.ntmps47
 go_wp2_with fail
 refine HU.out.mono ?_;rintro e w2 ⟨r,rfl,hr,hb⟩;have HR:=Y1 hr;have HB:=Y1 hb;clear hr hb HU;go_wp2;go_ret;refine ⟨?_,HB.out⟩;rw[<-HR.out]; rfl
end
theorem Z7c (f:Nat):AnyOk f:=by
 induction f with
 | zero=>intro s q n0 w h; rw[Z0d] at h; omega
 | succ f hI=>
  intro s q n0 w hd hz hs hn;have hb1:=Z01 w (.cells (Y8 s q) 25);obtain ⟨w1,hw1⟩: ∃w1,w1=w.alloc (.cells (Y8 s q) 25):=⟨_,rfl⟩;rw[<-hw1] at hb1;have hB1:Box5 w1 w.heap.size s q:=by rw[hw1]; exact Z02 w s q
  have HW:=Y1 hb1;have HU:=Y1 (Z4c hI s q n0 w1 hd hz (Z0f hs hn (Upd.new (S:=fun _=>False) hb1) (fun _ _ h=>h)) (by have:=hb1.size; omega));obtain ⟨_,⟨a0,a1,a2,a3,a4⟩,_⟩:=hB1;simp only[Nat.zero_add] at a0 a1 a2 a3 a4;have hw1':=hw1.symm;have HE:Hid (Grd.known s=(decide (s.kind≠4)&&Grd.knowns s.parts)):=Y1 (Grd.known_eq s);clear hw1 hb1 hI hd hz hs hn;unfold sv;by_cases h4:s.kind=4
  {have m4: (s.kind==4)=true:=by rw[h4]; rfl
   have HR:Hid (Grd.known s=false):=Y1 (by rw[HE.out,h4]; rfl);rw[HR.out];clear h4;go_enter Tryz.func25,Tryz.ntmps25;go_wp2;go_ret;exact ⟨rfl,HW.out⟩}
  {have m4: (s.kind==4)=false:=by simpa using h4
   have HR:Hid (Grd.known s=Grd.knowns s.parts):=Y1 (by rw[HE.out,decide_eq_true h4,Bool.true_and]);rw[HR.out];clear h4;go_enter Tryz.func25,Tryz.ntmps25
   go_wp2_with fail
   refine HU.out.mono ?_;rintro e w2 ⟨rfl,hb⟩;have HB:=Y1 (Z00 HW.out hb);clear hb HU a0 a1 a2 a3 a4;go_wp2;go_ret;exact ⟨rfl,HB.out⟩}
theorem Z1T (s:Sh) (q:Ptr) (w:World) (hs:ShAt w w.heap.size q s) (hg:WGlobs w):
 Y9 7 #[sv s q] w (.bool (Grd.plain s)):=by
 have hb1:=Z01 w (.cells (Y8 s q) 25);obtain ⟨w1,hw1⟩: ∃w1,w1=w.alloc (.cells (Y8 s q) 25):=⟨_,rfl⟩;rw[<-hw1] at hb1;have hB1:Box5 w1 w.heap.size s q:=by rw[hw1]; exact Z02 w s q
 have HW:=Y1 hb1;have HA:=Y1 (hs.next hb1);have HG:=Y1 (hg.next hb1);have HBX:=Y1 hB1;obtain ⟨_,⟨a0,a1,a2,a3,a4⟩,_⟩:=hB1;simp only[Nat.zero_add] at a0 a1 a2 a3 a4;have hw1':=hw1.symm;clear hw1 hb1 hs hg;unfold sv;go_enter Tryz.func7,Tryz.ntmps7
 go_wp2_with fail
 refine (Z1S s q w1 HA.out HG.out).mono ?_;rintro e w2 ⟨rfl,hb2⟩;have HB2:=Y1 hb2;clear hb2 a0 a1 a2 a3 a4;by_cases ca:check s=0
 {have HCA:=Y1 ca;rw[decide_eq_true ca];clear ca;have HU:=Y1 (Z7c 40 s q w2.heap.size w2 (Z05 HCA.out).2.1 (Z05 HCA.out).1 (HA.out.next HB2.out) (Nat.le_refl _));obtain ⟨_,⟨a0,a1,a2,a3,a4⟩,_⟩:=HBX.out.next HB2.out;simp only[Nat.zero_add] at a0 a1 a2 a3 a4;unfold sv at HU
  go_wp2_with fail
  refine HU.out.mono ?_;rintro e w3 ⟨rfl,hb3⟩;have HB3:=Y1 (Z00 HW.out (Z00 HB2.out hb3));clear hb3 HU a0 a1 a2 a3 a4;go_wp2;go_ret;exact ⟨by unfold Grd.plain; rw[decide_eq_true HCA.out,Bool.true_and]; simp,HB3.out⟩}
 {have HCA:=Y1 ca;rw[decide_eq_false ca];clear ca;go_wp2;go_ret;exact ⟨by unfold Grd.plain; rw[decide_eq_false HCA.out,Bool.false_and]; rfl,Z00 HW.out HB2.out⟩}
end SubM
end Go.Proofs.YtkhoflciahkphaaGreatDoor
namespace Go.Proofs.YtkhoflciahkphaaGreatDoor
section
open Go.RowKit Shp
theorem Z7d (t:Sh): ∀(u:Sh) (q r:Ptr) (w:World),ShAt w w.heap.size q t->ShAt w w.heap.size r u->
 Y9 18 #[.agg (Y8 t q),.agg (Y8 u r)] w (.bool (eqB t u)):=by
 induction t using Sh.ind with
 | h t ih=>
 intro u q r w hq hr;cases hh:headB t u with
 | false=>exact Z74 t u q r w hq hr hh
 | true=>
 have HH:=Y1 hh;have hs:=hh;simp only[headB,Bool.and_eq_true,beq_iff_eq,decide_eq_true_eq] at hs;obtain ⟨⟨⟨⟨g1,g2⟩,g3⟩,g4⟩,g5⟩:=hs;have HG4:=Y1 g4;have HG5:=Y1 g5;have HL:=Y1 hq.small.l;have HM:=Y1 hq.small.m;have HP:=Y1 hq.part;have HR:=Y1 hr.part;have HSN:=Y1 hq.strs;have HSM:=Y1 hr.strs;have hb0:=Z01 w (.cells (Y8 t q) 25);have hb1:=Z0i hb0 (.cells (Y8 u r) 25);have HB1:=Y1 hb1;have hB:=(Z02 w t q).next (Z01 _ (.cells (Y8 u r) 25));have hC:=Z02 (w.alloc (.cells (Y8 t q) 25)) u r;rw[World.size_alloc] at hC;have HB:=Y1 hB;have HC:=Y1 hC;obtain ⟨_,⟨c0,c1,c2,c3,c4⟩,_⟩:=hB;obtain ⟨_,⟨d0,d1,d2,d3,d4⟩,_⟩:=hC;have n1: (t.kind !=u.kind)=false:=by rw[g1]; simp
 have n2: (t.of_ !=u.of_)=false:=by rw[g2]; simp
 have n3: (t.name !=u.name)=false:=by rw[g3]; simp
 have n4: ((t.names.length:Int) !=(u.names.length:Int))=false:=by rw[g4]; simp
 have n5: ((t.parts.length:Int) !=(u.parts.length:Int))=false:=by rw[g5]; simp
 have e1: (t.kind==u.kind)=true:=by rw[g1]; simp
 have e2: (t.of_==u.of_)=true:=by rw[g2]; simp
 have e3: (t.name==u.name)=true:=by rw[g3]; simp
 have e4: ((t.names.length:Int)==(u.names.length:Int))=true:=by rw[g4]; simp
 have e5: ((t.parts.length:Int)==(u.parts.length:Int))=true:=by rw[g5]; simp
 clear hb0 hb1 hq hr hh g1 g2 g3 g4 g5;go_enter Tryz.func18,Tryz.ntmps18
 go_wp2_with fail
 generalize hW0: (w.alloc (.cells (Y8 t q) 25)).alloc (.cells (Y8 u r) 25)=W0 at HB HC HB1 ⊢;clear hW0 c0 c1 c2 c3 c4 d0 d1 d2 d3 d4 n1 n2 n3 n4 n5 e1 e2 e3 e4 e5
 go_loopw [5] (fun ii wr=> ∃i:Nat,ii= .int .i64 i/\i<=t.names.length/\Hid (∀j (h:j < t.names.length) (h':j < u.names.length),j < i->t.names[j]'h=u.names[j]'h')/\Below W0.heap.size W0 wr) (fun i _=>t.names.length - (intOf i).toNat)
 case atStart=>exact ⟨0,rfl,Nat.zero_le _,Y1 (fun j _ _ hj=>absurd hj (by omega)),Below.refl _ _⟩
 case round=>
  obtain ⟨i,rfl,hi,HN,hb⟩:=hrel;have hbw:Below w.heap.size w wr:=HB1.out.trans (hb.mono HB1.out.size);have hl:=HL.out;obtain ⟨_,⟨c0,_,_,c3,c4⟩,_⟩:=HB.out.next hb;obtain ⟨_,⟨d0,_,_,d3,d4⟩,_⟩:=HC.out.next hb;by_cases hlt:i < t.names.length
  {have hi1: (i:Int) < (t.names.length:Int):=by omega
   have hi2: (i:Int) < (u.names.length:Int):=by have:=HG4.out; omega
   have hi3:i < u.names.length:=by omega
   rcases (HSN.out.next hbw).cell7 with h0 | ⟨g,off,hqA,hg,hc⟩
   {omega}
   {rcases (HSM.out.next hbw).cell7 with h0 | ⟨g',off',hrA,hg',hc'⟩
    {omega}
    {have p:=hc i hlt;have p':=hc' i hi3;obtain ⟨x,hx⟩: ∃x,x=t.names[i]'hlt:=⟨_,rfl⟩;obtain ⟨y,hy⟩: ∃y,y=u.names[i]'hi3:=⟨_,rfl⟩;rw[<-hx] at p;rw[<-hy] at p';have HX:=Y1 hx;have HY:=Y1 hy;rw[hqA] at c3;rw[hrA] at d3;clear hx hy hc hc' hqA hrA;cases hxy: (x==y)
     {have HF:Hid (eqB t u=false):=Y1 (Z9p hlt hi3 (by rw[<-HX.out, <-HY.out]; intro h; rw[h] at hxy; simp at hxy));have n1: (x !=y)=true:=by unfold bne; rw[hxy]; rfl
      go_wp2_with fail
      go_quiet (fail)
      go_wp2;go_ret;exact ⟨by rw[HF.out]; rfl,Z0D hbw _⟩}
     {have n1: (x !=y)=false:=by unfold bne; rw[hxy]; rfl
      have HE:Hid (t.names[i]'hlt=u.names[i]'hi3):=Y1 (by rw[<-HX.out, <-HY.out]; simpa using hxy)
      go_wp2_with fail
      go_quiet (fail)
      go_wp2
      go_roundw
      case rel=>exact ⟨i+1,by go_num,by omega,Y1 (fun j hj hj' hji=>by
       rcases Nat.lt_succ_iff_lt_or_eq.1 hji with h | rfl
       {exact HN.out j hj hj' h}
       · exact HE.out),Z0D hb _⟩
      case measure=>simp[intOf]; omega}}}}
  {have HNN:Hid (∀j (h:j < t.names.length) (h':j < u.names.length),t.names[j]'h=u.names[j]'h'):=Y1 (fun j h h'=>HN.out j h h' (by omega));have HBW:=Y1 hb;clear hbw hb HN
   go_wp2_with fail
   go_loopw [6] (fun ii wx=> ∃k:Nat,ii= .int .i64 k/\k<=t.parts.length/\Hid (∀j (h:j < t.parts.length) (h':j < u.parts.length),j < k->eqB (t.parts[j]'h) (u.parts[j]'h')=true)/\Hid (Below W0.heap.size W0 wx)) (fun i _=>t.parts.length - (intOf i).toNat)
   case atStart=>exact ⟨0,rfl,Nat.zero_le _,Y1 (fun j _ _ hj=>absurd hj (by omega)),HBW⟩
   case round=>
    obtain ⟨k,rfl,hk,HN,HBX⟩:=hrel;have hb:=HBX.out;have hbw:Below w.heap.size w wr:=HB1.out.trans (hb.mono HB1.out.size);have hm:=HM.out;clear c0 c3 c4 d0 d3 d4;obtain ⟨_,⟨c0,_,_,c3,c4⟩,_⟩:=HB.out.next hb;obtain ⟨_,⟨d0,_,_,d3,d4⟩,_⟩:=HC.out.next hb;by_cases hlt2:k < t.parts.length
    {have hi1: (k:Int) < (t.parts.length:Int):=by omega
     have hi2: (k:Int) < (u.parts.length:Int):=by have:=HG5.out; omega
     have hi3:k < u.parts.length:=by omega
     rcases HP.out with h0 | ⟨g,off,qs,hqP,hg,hc,hra⟩
     {omega}
     {rcases HR.out with h0 | ⟨g',off',qs',hrP,hg',hc',hra'⟩
      {omega}
      {obtain ⟨x,hx⟩: ∃x,x=t.parts[k]:=⟨_,rfl⟩;obtain ⟨y,hy⟩: ∃y,y=u.parts[k]:=⟨_,rfl⟩;obtain ⟨p0,p1,p2,p3,p4⟩:=(hc k hlt2).keep hg hbw;obtain ⟨s0,s1,s2,s3,s4⟩:=(hc' k hi3).keep hg' hbw;have hat:ShAt wr wr.heap.size (qs k) x:=by rw[hx]; exact (hra k hlt2).next hbw
       have hat':ShAt wr wr.heap.size (qs' k) y:=by rw[hy]; exact (hra' k hi3).next hbw
       have ihx:=ih t.parts[k] (List.getElem_mem _) y (qs k) (qs' k) wr.drew;rw[<-hx] at p0 p1 p2 p3 p4 ihx;rw[<-hy] at s0 s1 s2 s3 s4;have IH:=ihx (hat.next Y2.drew) (hat'.next Y2.drew);rw[hqP] at c4;rw[hrP] at d4;have HX:=Y1 hx;have HY:=Y1 hy;clear hx hy hc hc' hra hra' hat hat' ihx ih hqP hrP
       go_wp2_with fail
       cases hxy:eqB x y
       {have HF:Hid (eqB t u=false):=Y1 (Z9q hlt2 hi3 (by rw[<-HX.out, <-HY.out]; exact hxy));rw[hxy] at IH;clear hxy
        go_still_tail 10,(by kernel_rfl)
        change wpList _ _ _ _ _ wr.drew
        go_wp2_with fail
        refine IH.mono ?_;rintro e w2 ⟨rfl,hb2⟩;go_wp2;go_ret;exact ⟨by rw[HF.out]; rfl,Z00 hbw.drew hb2⟩}
       {have HE:Hid (eqB (t.parts[k]'hlt2) (u.parts[k]'hi3)=true):=Y1 (by rw[<-HX.out, <-HY.out]; exact hxy);rw[hxy] at IH;clear hxy
        go_still_tail 10,(by kernel_rfl)
        change wpList _ _ _ _ _ wr.drew
        go_wp2_with fail
        refine IH.mono ?_;rintro e w2 ⟨rfl,hb2⟩;go_wp2
        go_roundw
        case rel=>exact ⟨k+1,by go_num,by omega,Y1 (fun j hj hj' hji=>by
         rcases Nat.lt_succ_iff_lt_or_eq.1 hji with h | rfl
         {exact HN.out j hj hj' h}
         · exact HE.out),Y1 (Z00 hb.drew hb2)⟩
        case measure=>simp[intOf]; omega}}}}
    {have HF:Hid (eqB t u=true):=Y1 (Zae HH.out HNN.out (fun j hj hj'=>HN.out j hj hj' (by omega)));go_wp2;go_ret;exact ⟨by rw[HF.out]; rfl,hbw⟩}}
end
end Go.Proofs.YtkhoflciahkphaaGreatDoor
namespace Go.Proofs.YtkhoflciahkphaaGreatDoor
open Go.RowKit Shp Sub
namespace SubM
def gkI:Sh:=⟨1,[],[],[],[]⟩
def gkT:Sh:=⟨3,[],[],[],[]⟩
def gkY:Sh:=⟨4,[],[],[],[]⟩
def gkA:Sh:=⟨6,[],[],[[97],[98]],[gkY,gkI]⟩
def gkB:Sh:=⟨6,[],[],[[97]],[gkT]⟩
def gkU:Sh:=⟨6,[],[],[[97]],[gkY]⟩
theorem gk1:Grd.near gkA gkB=true:=by kernel_rfl
theorem gk2:Grd.near gkB gkA=false:=by kernel_rfl
theorem gk3:Grd.near gkI gkY=true:=by kernel_rfl
theorem gk4:Grd.alike gkY gkT=true:=by kernel_rfl
theorem gk5:Grd.alike gkI gkT=false:=by kernel_rfl
theorem gk6:Grd.plain gkB=true:=by kernel_rfl
theorem gk7:Grd.plain gkA=false:=by kernel_rfl
theorem gk8:Grd.between gkA gkB=some gkU:=by kernel_rfl
def gW (w:World):World:=(((((((((w.alloc (.cells #[.int .i64 1,.string ⟨#[]⟩,.string ⟨#[]⟩,.slice none 0 0,.slice none 0 0] 25)).alloc (.cells #[.int .i64 3,.string ⟨#[]⟩,.string ⟨#[]⟩,.slice none 0 0,.slice none 0 0] 25)).alloc (.cells #[.int .i64 4,.string ⟨#[]⟩,.string ⟨#[]⟩,.slice none 0 0,.slice none 0 0] 25)).alloc (.cells #[.string ⟨#[97]⟩,.string ⟨#[98]⟩] 9)).alloc (.cells #[.int .i64 4,.string ⟨#[]⟩,.string ⟨#[]⟩,.slice none 0 0,.slice none 0 0,.int .i64 1,.string ⟨#[]⟩,.string ⟨#[]⟩,.slice none 0 0,.slice none 0 0] 25)).alloc (.cells #[.int .i64 6,.string ⟨#[]⟩,.string ⟨#[]⟩,.slice (some ⟨w.heap.size+1+1+1,0,none⟩) 2 2,.slice (some ⟨w.heap.size+1+1+1+1,0,none⟩) 2 2] 25)).alloc (.cells #[.string ⟨#[97]⟩] 9)).alloc (.cells #[.int .i64 3,.string ⟨#[]⟩,.string ⟨#[]⟩,.slice none 0 0,.slice none 0 0] 25)).alloc (.cells #[.int .i64 6,.string ⟨#[]⟩,.string ⟨#[]⟩,.slice (some ⟨w.heap.size+1+1+1+1+1+1,0,none⟩) 1 1,.slice (some ⟨w.heap.size+1+1+1+1+1+1+1,0,none⟩) 1 1] 25))
theorem Z1c (w:World): (gW w).heap.size=w.heap.size+9:=by simp[gW]
theorem Z4d (w:World):Below w.heap.size w (gW w):=Z0i (Z0i (Z0i (Z0i (Z0i (Z0i (Z0i (Z0i (Z01 _ _) _) _) _) _) _) _) _) _
def gqA (H:Nat):Ptr:=⟨some ⟨H+1+1+1,0,none⟩,2,some ⟨H+1+1+1+1,0,none⟩,2⟩
def gqB (H:Nat):Ptr:=⟨some ⟨H+1+1+1+1+1+1,0,none⟩,1,some ⟨H+1+1+1+1+1+1+1,0,none⟩,1⟩
theorem Z1C (W:World) (B:Nat) (t:Sh) (h1:t.names= []) (h2:t.parts= []) (h3:t.of_.length<=9223372036854775807) (h4:t.name.length<=9223372036854775807):ShAt W B noneQ12 t:=
 .mk _ _ 0 0 (fun _=>noneQ12) ⟨h3,h4,by rw[h1]; nofun,by rw[h1]; simp,by rw[h2]; simp,by rw[h1]; exact Nat.le_refl _,by rw[h2]; exact Nat.le_refl _,fun _=>rfl,fun _=>rfl⟩ (Or.inl (by rw[h1]; rfl)) (Or.inl (by rw[h2]; rfl)) (fun i h=>absurd h (by rw[h2]; simp)) (fun i h=>absurd h (by rw[h2]; simp))
section
variable (w : World)
include w
theorem gW_A:ShAt (gW w) (gW w).heap.size (gqA w.heap.size) gkA:=by
 refine .mk _ _ (w.heap.size+1+1+1+1) 0 (fun _=>noneQ12) ⟨by decide,by decide,by decide,by decide,by decide,Nat.le_refl _,Nat.le_refl _,nofun,nofun⟩ (Or.inr ⟨w.heap.size+1+1+1,0,rfl,by rw[Z1c]; omega,fun i hi=> ?_⟩) (Or.inr ⟨rfl,by rw[Z1c]; omega⟩) (fun i h=> ?_) (fun i h=> ?_)
 {have h2:i < 2:=hi
  match i,h2 with
  | 0,_=>simp[gW,go_sem,gkA,strs]
  | 1,_=>simp[gW,go_sem,gkA,strs]}
 {have h2:i < 2:=h
  match i,h2 with
  | 0,_=>refine ⟨?_, ?_, ?_, ?_, ?_⟩ <;> simp[gW,go_sem,gkA,gkY,noneQ12]
  | 1,_=>refine ⟨?_, ?_, ?_, ?_, ?_⟩ <;> simp[gW,go_sem,gkA,gkI,noneQ12]}
 {have h2:i < 2:=h
  match i,h2 with
  | 0,_=>exact Z1C _ _ gkY rfl rfl (by decide) (by decide)
  | 1,_=>exact Z1C _ _ gkI rfl rfl (by decide) (by decide)}
theorem gW_B:ShAt (gW w) (gW w).heap.size (gqB w.heap.size) gkB:=by
 refine .mk _ _ (w.heap.size+1+1+1+1+1+1+1) 0 (fun _=>noneQ12) ⟨by decide,by decide,by decide,by decide,by decide,Nat.le_refl _,Nat.le_refl _,nofun,nofun⟩ (Or.inr ⟨w.heap.size+1+1+1+1+1+1,0,rfl,by rw[Z1c]; omega,fun i hi=> ?_⟩) (Or.inr ⟨rfl,by rw[Z1c]; omega⟩) (fun i h=> ?_) (fun i h=> ?_)
 {have h2:i < 1:=hi
  match i,h2 with
  | 0,_=>simp[gW,go_sem,gkB,strs]}
 {have h2:i < 1:=h
  match i,h2 with
  | 0,_=>refine ⟨?_, ?_, ?_, ?_, ?_⟩ <;> simp[gW,go_sem,gkB,gkT,noneQ12]}
 {have h2:i < 1:=h
  match i,h2 with
  | 0,_=>exact Z1C _ _ gkT rfl rfl (by decide) (by decide)}
theorem gW_i:Box5 (gW w) w.heap.size gkI noneQ12:=by
 refine ⟨by rw[Z1c]; omega,⟨?_, ?_, ?_, ?_, ?_⟩, ?_, ?_, ?_, ?_, ?_⟩ <;> simp[gW,go_sem,gkI,noneQ12]
theorem gW_t:Box5 (gW w) (w.heap.size+1) gkT noneQ12:=by
 refine ⟨by rw[Z1c]; omega,⟨?_, ?_, ?_, ?_, ?_⟩, ?_, ?_, ?_, ?_, ?_⟩ <;> simp[gW,go_sem,gkT,noneQ12]
theorem gW_y:Box5 (gW w) (w.heap.size+1+1) gkY noneQ12:=by
 refine ⟨by rw[Z1c]; omega,⟨?_, ?_, ?_, ?_, ?_⟩, ?_, ?_, ?_, ?_, ?_⟩ <;> simp[gW,go_sem,gkY,noneQ12]
theorem gW_a:Box5 (gW w) (w.heap.size+1+1+1+1+1) gkA (gqA w.heap.size):=by
 refine ⟨by rw[Z1c]; omega,⟨?_, ?_, ?_, ?_, ?_⟩, ?_, ?_, ?_, ?_, ?_⟩ <;> simp[gW,go_sem,gkA,gqA]
theorem gW_b:Box5 (gW w) (w.heap.size+1+1+1+1+1+1+1+1) gkB (gqB w.heap.size):=by
 refine ⟨by rw[Z1c]; omega,⟨?_, ?_, ?_, ?_, ?_⟩, ?_, ?_, ?_, ?_, ?_⟩ <;> simp[gW,go_sem,gkB,gqB]
end
end SubM
end Go.Proofs.YtkhoflciahkphaaGreatDoor
namespace Go.Proofs.YtkhoflciahkphaaGreatDoor
open Go.RowKit Shp Sub
namespace SubM
theorem Z07 (w:World) (hg:WGlobs w):Y9 13 #[] w (.bool true):=by
 have HBW:=Y1 (Z4d w);have HG:=Y1 (hg.next (Z4d w));have HXi:=Y1 (gW_i w);have HXx:=Y1 (gW_t w);have HXy:=Y1 (gW_y w);have HXa:=Y1 (gW_a w);have HXb:=Y1 (gW_b w);have HAa:=Y1 (gW_A w);have HAb:=Y1 (gW_B w);have HAi:Hid (ShAt (gW w) (gW w).heap.size noneQ12 gkI):=Y1 (Z1C _ _ gkI rfl rfl (by decide) (by decide));have HAx:Hid (ShAt (gW w) (gW w).heap.size noneQ12 gkT):=Y1 (Z1C _ _ gkT rfl rfl (by decide) (by decide));have HAy:Hid (ShAt (gW w) (gW w).heap.size noneQ12 gkY):=Y1 (Z1C _ _ gkY rfl rfl (by decide) (by decide));have HR:=Y1 (Z0X gkA gkB (gqA w.heap.size) (gqB w.heap.size) (gW w) (gW_A w) (gW_B w) (hg.next (Z4d w)));have HSZ:=Y1 (Z1c w);clear hg;go_enter Tryz.func13,Tryz.ntmps13
 go_wp2_with fail
 change Calls _ _ _ (gW w) _;obtain ⟨qa,hqa⟩: ∃qa,qa=gqA w.heap.size:=⟨_,rfl⟩;obtain ⟨qb,hqb⟩: ∃qb,qb=gqB w.heap.size:=⟨_,rfl⟩;obtain ⟨H,hH⟩: ∃H,H=w.heap.size:=⟨_,rfl⟩;obtain ⟨a,ha⟩: ∃a,a=gkA:=⟨_,rfl⟩;obtain ⟨b,hb⟩: ∃b,b=gkB:=⟨_,rfl⟩;obtain ⟨i,hi⟩: ∃i,i=gkI:=⟨_,rfl⟩;obtain ⟨x,hx⟩: ∃x,x=gkT:=⟨_,rfl⟩;obtain ⟨y,hy⟩: ∃y,y=gkY:=⟨_,rfl⟩;obtain ⟨q0,hq0⟩: ∃q0,q0=noneQ12:=⟨_,rfl⟩;have HE:=Y1 (And.intro ha (And.intro hb (And.intro hi (And.intro hx hy))));rw[<-hqa, <-ha] at HXa HAa;rw[<-hqb, <-hb] at HXb HAb;rw[<-hi, <-hq0] at HXi HAi;rw[<-hx, <-hq0] at HXx HAx;rw[<-hy, <-hq0] at HXy HAy;rw[<-hH] at HXi HXx HXy HXa HXb HSZ HR ⊢;generalize gW w=W0 at HBW HG HXi HXx HXy HXa HXb HAa HAb HAi HAx HAy HR HSZ ⊢;refine HR.out.mono ?_;rintro e w1 ⟨qu,he,hat,hb1⟩;rw[gk8] at he hat;obtain ⟨u,hu⟩: ∃u,u=gkU:=⟨_,rfl⟩;simp only[Option.getD_some,Option.isSome_some, <-hu] at he hat;subst he;have hb2:=Z01 w1 (.cells (Y8 u qu) 25);have HB0:=Y1 (Z00 hb1 hb2);have HXu:=Y1 (Z02 w1 u qu);have HAu:=Y1 (hat.here.next hb2);have HEU:=Y1 hu;obtain ⟨W2,hW2⟩: ∃W2,w1.alloc (.cells (Y8 u qu) 25)=W2:=⟨_,rfl⟩;rw[hW2] at HXu HB0 HAu;have HXi:=Y1 (HXi.out.next HB0.out);have HXx:=Y1 (HXx.out.next HB0.out);have HXy:=Y1 (HXy.out.next HB0.out);have HXa:=Y1 (HXa.out.next HB0.out);have HXb:=Y1 (HXb.out.next HB0.out);have HAi:=Y1 (HAi.out.next HB0.out);have HAx:=Y1 (HAx.out.next HB0.out);have HAy:=Y1 (HAy.out.next HB0.out);have HAa:=Y1 (HAa.out.next HB0.out);have HAb:=Y1 (HAb.out.next HB0.out);have HG:=Y1 (HG.out.next HB0.out);have HB1:=Y1 (Z00 HBW.out HB0.out);have HB:=Y1 (Below.refl W2.heap.size W2);clear HR hb1 hb2 hat ha hb hi hx hy hu hqa hqb hH hq0 HB0 HBW HSZ;unfold sv;obtain ⟨_,⟨a0,a1,a2,a3,a4⟩,_⟩:=HXa.out.next HB.out;simp only[Nat.zero_add] at a0 a1 a2 a3 a4;obtain ⟨_,⟨b0,b1,b2,b3,b4⟩,_⟩:=HXb.out.next HB.out;simp only[Nat.zero_add] at b0 b1 b2 b3 b4
 have HU:=Y1 (Z0a a b qa qb _ (HAa.out.next HB.out) (HAb.out.next HB.out) (HG.out.next HB.out));unfold sv at HU;rw[show Grd.near a b=true from by rw[HE.out.1,HE.out.2.1,gk1]] at HU
 go_wp2_with fail
 refine HU.out.mono ?_;rintro e v1 ⟨rfl,hb1⟩;have HB:=Y1 (Z00 HB.out hb1);clear hb1 HU a0 a1 a2 a3 a4 b0 b1 b2 b3 b4;clear hW2;obtain ⟨_,⟨b0,b1,b2,b3,b4⟩,_⟩:=HXb.out.next HB.out;simp only[Nat.zero_add] at b0 b1 b2 b3 b4;obtain ⟨_,⟨a0,a1,a2,a3,a4⟩,_⟩:=HXa.out.next HB.out;simp only[Nat.zero_add] at a0 a1 a2 a3 a4;have HU:=Y1 (Z0a b a qb qa _ (HAb.out.next HB.out) (HAa.out.next HB.out) (HG.out.next HB.out));unfold sv at HU;rw[show Grd.near b a=false from by rw[HE.out.2.1,HE.out.1,gk2]] at HU
 go_wp2_with fail
 refine HU.out.mono ?_;rintro e v2 ⟨rfl,hb1⟩;have HB:=Y1 (Z00 HB.out hb1);clear hb1 HU b0 b1 b2 b3 b4 a0 a1 a2 a3 a4;obtain ⟨_,⟨i0,i1,i2,i3,i4⟩,_⟩:=HXi.out.next HB.out;simp only[Nat.zero_add] at i0 i1 i2 i3 i4;obtain ⟨_,⟨y0,y1,y2,y3,y4⟩,_⟩:=HXy.out.next HB.out;simp only[Nat.zero_add] at y0 y1 y2 y3 y4;have HU:=Y1 (Z0a i y q0 q0 _ (HAi.out.next HB.out) (HAy.out.next HB.out) (HG.out.next HB.out));unfold sv at HU;rw[show Grd.near i y=true from by rw[HE.out.2.2.1,HE.out.2.2.2.2,gk3]] at HU
 go_wp2_with fail
 refine HU.out.mono ?_;rintro e v3 ⟨rfl,hb1⟩;have HB:=Y1 (Z00 HB.out hb1);clear hb1 HU i0 i1 i2 i3 i4 y0 y1 y2 y3 y4;obtain ⟨_,⟨y0,y1,y2,y3,y4⟩,_⟩:=HXy.out.next HB.out;simp only[Nat.zero_add] at y0 y1 y2 y3 y4;obtain ⟨_,⟨x0,x1,x2,x3,x4⟩,_⟩:=HXx.out.next HB.out;simp only[Nat.zero_add] at x0 x1 x2 x3 x4;have HU:=Y1 (Z0h y x q0 q0 _ (HAy.out.next HB.out) (HAx.out.next HB.out) (HG.out.next HB.out));unfold sv at HU;rw[show Grd.alike y x=true from by rw[HE.out.2.2.2.2,HE.out.2.2.2.1,gk4]] at HU
 go_wp2_with fail
 refine HU.out.mono ?_;rintro e v4 ⟨rfl,hb1⟩;have HB:=Y1 (Z00 HB.out hb1);clear hb1 HU y0 y1 y2 y3 y4 x0 x1 x2 x3 x4;obtain ⟨_,⟨i0,i1,i2,i3,i4⟩,_⟩:=HXi.out.next HB.out;simp only[Nat.zero_add] at i0 i1 i2 i3 i4;obtain ⟨_,⟨x0,x1,x2,x3,x4⟩,_⟩:=HXx.out.next HB.out;simp only[Nat.zero_add] at x0 x1 x2 x3 x4;have HU:=Y1 (Z0h i x q0 q0 _ (HAi.out.next HB.out) (HAx.out.next HB.out) (HG.out.next HB.out));unfold sv at HU;rw[show Grd.alike i x=false from by rw[HE.out.2.2.1,HE.out.2.2.2.1,gk5]] at HU
 go_wp2_with fail
 refine HU.out.mono ?_;rintro e v5 ⟨rfl,hb1⟩;have HB:=Y1 (Z00 HB.out hb1);clear hb1 HU i0 i1 i2 i3 i4 x0 x1 x2 x3 x4;obtain ⟨_,⟨b0,b1,b2,b3,b4⟩,_⟩:=HXb.out.next HB.out;simp only[Nat.zero_add] at b0 b1 b2 b3 b4;have HU:=Y1 (Z1T b qb _ (HAb.out.next HB.out) (HG.out.next HB.out));unfold sv at HU;rw[show Grd.plain b=true from by rw[HE.out.2.1,gk6]] at HU
 go_wp2_with fail
 refine HU.out.mono ?_;rintro e v6 ⟨rfl,hb1⟩;have HB:=Y1 (Z00 HB.out hb1);clear hb1 HU b0 b1 b2 b3 b4;obtain ⟨_,⟨a0,a1,a2,a3,a4⟩,_⟩:=HXa.out.next HB.out;simp only[Nat.zero_add] at a0 a1 a2 a3 a4;have HU:=Y1 (Z1T a qa _ (HAa.out.next HB.out) (HG.out.next HB.out));unfold sv at HU;rw[show Grd.plain a=false from by rw[HE.out.1,gk7]] at HU
 go_wp2_with fail
 refine HU.out.mono ?_;rintro e v7 ⟨rfl,hb1⟩;have HB:=Y1 (Z00 HB.out hb1);clear hb1 HU a0 a1 a2 a3 a4;obtain ⟨_,⟨u0,u1,u2,u3,u4⟩,_⟩:=HXu.out.next HB.out;simp only[Nat.zero_add] at u0 u1 u2 u3 u4;have hsx: (v7.alloc (.cells #[.string ⟨#[97]⟩] 9)).heap.size=v7.heap.size+1:=by simp
 obtain ⟨_,⟨y0,y1,y2,y3,y4⟩,_⟩:=(HXy.out.next HB.out).next (Z01 v7 (.cells #[.string ⟨#[97]⟩] 9));simp only[Nat.zero_add] at y0 y1 y2 y3 y4;have hb6:Below v7.heap.size v7 ((v7.alloc (.cells #[.string ⟨#[97]⟩] 9)).alloc (.cells (Y8 y q0) 25)):=Z0i (Z01 _ _) _;have hs6: ((v7.alloc (.cells #[.string ⟨#[97]⟩] 9)).alloc (.cells (Y8 y q0) 25)).heap.size=v7.heap.size+2:=by simp
 have hlit:ShAt ((v7.alloc (.cells #[.string ⟨#[97]⟩] 9)).alloc (.cells (Y8 y q0) 25)) (v7.heap.size+2) ⟨some ⟨v7.heap.size,0,none⟩,1,some ⟨v7.heap.size+1,0,none⟩,1⟩ ⟨6,[],[],[[97]],[y]⟩:=by
  refine .mk _ _ (v7.heap.size+1) 0 (fun _=>q0) ⟨by simp,by simp,by simp,by simp,by simp,Nat.le_refl _,by simp,nofun,nofun⟩ (Or.inr ⟨v7.heap.size,0,rfl,by omega,fun i hi=> ?_⟩) (Or.inr ⟨rfl,by omega⟩) (fun i h=> ?_) (fun i h=> ?_)
  {have h2:i < 1:=hi
   match i,h2 with
   | 0,_=>simp[go_sem,strs]}
  {have h2:i < 1:=h
   match i,h2 with
   | 0,_=>refine ⟨?_, ?_, ?_, ?_, ?_⟩ <;> simp[go_sem]}
  {have h2:i < 1:=h
   match i,h2 with
   | 0,_=>rw[<-hs6]; exact (HAy.out.next HB.out).next hb6}
 rw[<-hs6] at hlit;have HQ:=Y1 (Z7d u ⟨6,[],[],[[97]],[y]⟩ qu _ _ ((HAu.out.next HB.out).next hb6) hlit);have HB6:=Y1 (Z00 HB1.out (Z00 HB.out hb6));have heq:eqB u ⟨6,[],[],[[97]],[y]⟩=true:=by rw[HEU.out,HE.out.2.2.2.2]; exact Z44 _
 rw[heq] at HQ;clear hb6 hs6 hlit heq
 go_wp2_with fail
 refine HQ.out.mono ?_;rintro e w9 ⟨rfl,hb9⟩;have HB9:=Y1 (Z00 HB6.out hb9);clear hb9 HQ u0 u1 u2 u3 u4 y0 y1 y2 y3 y4;go_wp2;go_ret;exact ⟨rfl,HB9.out⟩
end SubM
end Go.Proofs.YtkhoflciahkphaaGreatDoor
namespace Go.Proofs.YtkhoflciahkphaaGreatDoor
open Go.RowKit
section
variable {P : Program} {ops : Array Oper} {Q : Exit -> Act -> World -> Prop}
theorem Zax {d:Nat->Bool} {i j:Nat} (h:j≠i):also d i j=d j:=by
 unfold also;have:Nat.beq j i=false:=by cases hb:Nat.beq j i <;> first | rfl | exact absurd (Nat.eq_of_beq_eq_true hb) h
 rw[this]; rfl
theorem ZaI {d:Nat->Bool} {i:Nat}:also d i i=true:=by
 unfold also;simp
end
end Go.Proofs.YtkhoflciahkphaaGreatDoor
namespace Go.Proofs.YtkhoflciahkphaaGreatDoor
open Go.RowKit Shp Sub
namespace SubM
structure TakeI (W0:World) (tk:Nat->Value->Prop) (p:Sh) (d:Nat->Bool) (u:Nat->Value) (W:World):Prop where
 up:Below W0.heap.size W0 W
 vals: ∀j,d j=true->tk j (u j)
 al:d 10=true->d 11=false-> ∃b,u 10= .pointer (some ⟨b,0,none⟩)/\W0.heap.size<=b/\Rc b W
 st:d 11=true->d 10=true/\ ∃(b:Nat) (q:Ptr),u 10= .pointer (some ⟨b,0,none⟩)/\W0.heap.size<=b/\ShAt W0 W0.heap.size q p/\Box5 W b p q
variable {W0 W W' : World} {tk : Nat -> Value -> Prop} {p : Sh} {d : Nat -> Bool} {u : Nat -> Value}
theorem TakeI.vals' (h:TakeI W0 tk p d u W) {i:Nat} {v:Value} (hv:tk i v): ∀j,also d i j=true->tk j (upd u i v j):=fun j hj=>by
 by_cases e:j=i
 {subst e; rw[Z0q]; exact hv}
 {rw[Z0b u v e]; rw[Zax e] at hj; exact h.vals j hj}
theorem TakeI.start:TakeI W0 tk p (fun _=>false) u W0.drew:=⟨Y2.drew,nofun,nofun,nofun⟩
theorem TakeI.step (h:TakeI W0 tk p d u W) {i:Nat} {v:Value} (hi:i≠10) (hj:i≠11) (hv:tk i v) (hb:Below W.heap.size W W'):TakeI W0 tk p (also d i) (upd u i v) W':=by
 refine ⟨Z00 h.up hb,h.vals' hv, ?_, ?_⟩
 {rw[Zax (Ne.symm hi),Zax (Ne.symm hj),Z0b u v (Ne.symm hi)];intro h1 h2;obtain ⟨b,e,hb1,hr⟩:=h.al h1 h2;exact ⟨b,e,hb1,hr.upd (T:=fun _=>False) (Upd.new hb) (fun h=>h)⟩}
 {rw[Zax (Ne.symm hi),Zax (Ne.symm hj),Z0b u v (Ne.symm hi)];intro h1;obtain ⟨h2,b,q,e,hb1,hs,hx⟩:=h.st h1;exact ⟨h2,b,q,e,hb1,hs,hx.next hb⟩}
theorem TakeI.alloc (h:TakeI W0 tk p d u W) (hd:d 10=false) (ht: ∀v,tk 10 v):
 TakeI W0 tk p (also d 10) (upd u 10 (.pointer (some ⟨W.heap.size,0,none⟩))) (W.alloc (.cells Yb 25)):=by
 refine ⟨Z00 h.up (Z01 _ _),h.vals' (ht _),fun _ _=>⟨W.heap.size,Z0q _ _ _,h.up.size,Z3G rfl⟩,fun h1=> ?_⟩;rw[Zax (by decide)] at h1;rw[(h.st h1).1] at hd; cases hd
theorem TakeI.store (h:TakeI W0 tk p d u W) (h10:d 10=true) (h11:d 11=false) (ht: ∀v,tk 11 v) {b:Nat} {q:Ptr} (hb:u 10= .pointer (some ⟨b,0,none⟩)) (hs:ShAt W0 W0.heap.size q p):
 TakeI W0 tk p (also d 11) (upd u 11 undef) (RX.lay W b p q):=by
 obtain ⟨b',e,hb1,hr⟩:=h.al h10 h11;obtain rfl:b'=b:=by rw[hb] at e; simp at e; exact e.symm
 have hu:=RX.lay_upd W b' p q;refine ⟨h.up.trans (hu.below h.up.size (fun x hx=>by omega)),h.vals' (ht _),fun _ h2=> ?_,fun _=>⟨by rw[Zax (by decide)]; exact h10,b',q,by rw[Z0b u undef (by decide)]; exact hb,hb1,hs, ?_⟩⟩
 {rw[ZaI] at h2; cases h2}
 {have hf:=fun j=>(RX.lay_fz W b' p q j).trans (hr.fz j);exact ⟨by rw[RX.lay_size]; exact hr.lt,RX.lay_at p q hr.ex,hf 0,hf 1,hf 2,hf 3,hf 4⟩}
end SubM
end Go.Proofs.YtkhoflciahkphaaGreatDoor
namespace Go.Proofs.YtkhoflciahkphaaGreatDoor
open Go.RowKit Shp Sub
namespace SubM
theorem Zbt {t:Sh} (h:Rec t) {i:Nat} (h1:i < t.names.length) (h2:i < t.parts.length) {n:List UInt8} (hn:t.names[i]'h1=n):get t n=some (t.parts[i]'h2):=by
 rw[<-hn]; exact Za3 h.nodup h1 h2
theorem Zbx {t:Sh} (h:Rec t) {n:List UInt8} (hn: ∀i (h1:i < t.names.length),t.names[i]'h1≠n):get t n=none:=by
 rw[h.get_none];intro hm;obtain ⟨i,hi,e⟩:=List.mem_iff_getElem.1 hm;exact hn i hi e
theorem ZbA (W:World) (B:Nat):ShAt W B noneQ12 Z0p:=
 .mk _ _ 0 0 (fun _=>noneQ12) ⟨by simp[Z0p],by simp[Z0p],by simp[Z0p],by simp[Z0p],by simp[Z0p],by simp[Z0p],by simp[Z0p],fun _=>rfl,fun _=>rfl⟩ (Or.inl rfl) (Or.inl rfl) (fun i hi=>by simp[Z0p] at hi) (fun i hi=>by simp[Z0p] at hi)
def PartIs (n0:Nat) (w:World) (r:Option Sh) (e:Ending) (w':World):Prop:=
 ∃q:Ptr,e= .returned (.tuple #[.agg (Y8 ((r.getD Z0p)) q),.bool r.isSome])/\ShAt w n0 q (r.getD Z0p)/\Below w.heap.size w w'
theorem ZaJ (t:Sh) (q:Ptr) (nm:List UInt8) (n0:Nat) (w:World) (hn:n0<=w.heap.size) (hq0:ShAt w n0 q t) (hR:Rec t):
 Calls Tryz.prog 53 #[.agg (Y8 t q),.string ⟨nm.toArray⟩] w (PartIs n0 w (get t nm)):=by
 have hq:=hq0.more hn;have hb1:=Z01 w (.cells (Y8 t q) 25);obtain ⟨u1,hu1⟩: ∃u1,w.alloc (.cells (Y8 t q) 25)=u1:=⟨_,rfl⟩;have hs1:u1.heap.size=w.heap.size+1:=by rw[<-hu1]; simp
 have hx:=Z02 w t q;rw[hu1] at hb1 hx;have hb2:=Z01 u1 (.cells Yb 25);obtain ⟨W1,hW1⟩: ∃W,u1.alloc (.cells Yb 25)=W:=⟨_,rfl⟩;have hz: (W1.cell? ⟨w.heap.size+1,0,none⟩=some (.int .i64 0)/\W1.cell? ⟨w.heap.size+1,1,none⟩=some (.string ⟨#[]⟩)/\W1.cell? ⟨w.heap.size+1,2,none⟩=some (.string ⟨#[]⟩)/\W1.cell? ⟨w.heap.size+1,3,none⟩=some (.slice none 0 0)/\W1.cell? ⟨w.heap.size+1,4,none⟩=some (.slice none 0 0))/\ ∀k,W1.frozen? ⟨w.heap.size+1,k,none⟩=false:=by
  rw[<-hW1, <-hs1];refine ⟨⟨by simp[go_sem],by simp[go_sem],by simp[go_sem],by simp[go_sem],by simp[go_sem]⟩,fun k=> ?_⟩;rw[frozen?_alloc_cells];simp[World.frozen?]
 rw[hW1] at hb2;have HX:=Y1 (hx.next hb2);have HB1:=Y1 (Z00 hb1 hb2);have HQ:=Y1 (hq.next (Z00 hb1 hb2));have HS:=Y1 hq.strs;have HP:=Y1 hq0.part;have HN0:=Y1 hn;have HL:=Y1 hq.small.l;have HM:=Y1 hq.small.m;have HR:=Y1 hR;have HZ:=Y1 hz;clear hb1 hb2 hx hq hq0 hn hz hR;go_enter Tryz.func53,Tryz.ntmps53
 go_wp2_with fail
 clear hs1 hu1;clear hW1
 go_loopw [6] (fun i wr=>wr=W1/\ ∃k:Nat,k<=t.names.length/\i= .int .i64 (k:Int)/\Hid (∀j (h:j < t.names.length),j < k->t.names[j]'h≠nm)) (fun i _=>t.names.length - (intOf i).toNat)
 case atStart=>exact ⟨rfl,0,Nat.zero_le _,rfl,Y1 (fun j _ hj=>absurd hj (by omega))⟩
 case round=>
  obtain ⟨rfl,k,hk,rfl,hN⟩:=hrel;have hl:=HL.out;have hm:=HM.out;obtain ⟨⟨r0,r1,r2,r3,r4⟩,rf⟩:=HZ.out;have y0:=rf 0;have y1:=rf 1;have y2:=rf 2;have y3:=rf 3;have y4:=rf 4;clear rf;obtain ⟨_,⟨c0,c1,c2,c3,c4⟩,_⟩:=HX.out;simp only[Nat.zero_add] at c0 c1 c2 c3 c4;by_cases hlt:k < t.names.length
  {have hi1: (k:Int) < (t.names.length:Int):=by omega
   have hlp:t.names.length=t.parts.length:=HR.out.l;have hkp:k < t.parts.length:=by omega
   have hi2: (k:Int) < (t.parts.length:Int):=by omega
   rcases (HS.out.next HB1.out).cell7 with h0 | ⟨g,off,hqA,hg,hc⟩
   {omega}
   rcases HP.out with h0 | ⟨g',off',qs,hqP,hg',hc',hra⟩
   {omega}
   have p:=hc k hlt;obtain ⟨x,hx⟩: ∃x,x=t.names[k]'hlt:=⟨_,rfl⟩;rw[<-hx] at p;have HXN:=Y1 hx;rw[hqA] at c3;rw[hqP] at c4;have hg':g' < w.heap.size:=by have:=HN0.out; omega
   obtain ⟨z0,z1,z2,z3,z4⟩:=(hc' k hkp).keep hg' HB1.out;have hat:=hra k hkp;obtain ⟨y,hy⟩: ∃y,y=t.parts[k]'hkp:=⟨_,rfl⟩;rw[<-hy] at z0 z1 z2 z3 z4 hat;have HY:=Y1 hy;have HAT:=Y1 hat;have HNE:Hid (g' < w.heap.size):=Y1 hg';have hne:g'≠w.heap.size+1:=by omega
   clear hc hc' hra hx hy hat hqA hqP hg;cases hxy: (x==nm) with
   | false=>
    have HE:Hid (t.names[k]'hlt≠nm):=Y1 (fun h=>by rw[HXN.out,h] at hxy; simp at hxy);go_wp2
    go_roundw
    case rel=>exact ⟨trivial,k+1,by omega,by go_num,Y1 (fun j hj hji=>by
     rcases Nat.lt_succ_iff_lt_or_eq.1 hji with h | rfl
     {exact hN.out j hj h}
     · exact HE.out)⟩
    case measure=>simp[intOf]; omega
   | true=>
    have HF:=Y1 (Zbt HR.out hlt hkp (n:=nm) (by rw[<-HXN.out]; simpa using hxy));rw[<-HY.out] at HF;go_wp2;refine bodyPost_ret (v:= .tuple #[.agg (Y8 y ((qs k))),.bool true]) (by simp[results,Tryz.results53,go_sem,r0,r1,r2,r3,r4]) rfl ?_;rw[HF.out];exact ⟨qs k,rfl,HAT.out,Z4r HB1.out (by omega) _ _ _ _ _⟩}
  {have hi1: ¬(k:Int) < (t.names.length:Int):=by omega
   have HF:=Y1 (Zbx HR.out (n:=nm) (fun i hi=>hN.out i hi (by omega)));go_wp2;refine bodyPost_ret (v:= .tuple #[.agg #[.int .i64 0,.string ⟨#[]⟩,.string ⟨#[]⟩,.slice none 0 0,.slice none 0 0],.bool false]) (by simp[results,Tryz.results53,go_sem,r0,r1,r2,r3,r4]) rfl ?_;rw[HF.out];exact ⟨noneQ12,rfl,ZbA w n0,Z4r HB1.out (by omega) _ _ _ _ _⟩}
end SubM
end Go.Proofs.YtkhoflciahkphaaGreatDoor
namespace Sub
open Shp Go.Proofs.YtkhoflciahkphaaGreatDoor
theorem ZaC {t:Sh} (h:Rec t) {n:List UInt8} {p:Sh} (hp:get t n=some p): ∃i,∃h1:i < t.names.length,∃h2:i < t.parts.length,t.names[i]'h1=n/\t.parts[i]'h2=p:=by
 obtain ⟨i,hi,e⟩:=List.mem_iff_getElem.1 (h.get_iff.1 hp);rw[List.length_zip] at hi;rw[List.getElem_zip] at e;injection e with e1 e2;exact ⟨i,by omega,by omega,e1,e2⟩
theorem ZaD {t:Sh} (h:Rec t) {i:Nat} (h1:i < t.names.length) (h2:i < t.parts.length):get t (t.names[i]'h1)=some (t.parts[i]'h2):=Za3 h.nodup h1 h2
section
variable {f : Nat} {a b : Sh}
theorem Zaw {t:Sh} (h:right t=true) (hk:t.kind=6\/t.kind=7):Rec t:=Z0s (Z08 h) hk
end
end Sub
