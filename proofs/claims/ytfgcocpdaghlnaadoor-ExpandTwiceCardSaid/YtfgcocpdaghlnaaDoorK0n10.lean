/- What the proofs of ExpandClosed, ExpandTwice want, part 10. -/
import Derived.Test.YtfgcocpdaghlnaaDoorK0n9
set_option linter.unusedVariables false
set_option linter.unusedSimpArgs false
set_option linter.unusedSectionVars false
set_option maxRecDepth 100000
set_option maxHeartbeats 16000000
namespace Go.Proofs.YtfgcocpdaghlnaaDoor
section
open Go.RowKit Shp
open Expd (Bd)
def smallB (L:List Bd):Bool:=decide (L.length<=60)&&L.all (fun b=>decide (size b.sh<=800))
section
variable {L : List Bd} (h : smallB L = true)
include L h
theorem Z2C:L.length<=60:=by
 unfold smallB at h;simp only[Bool.and_eq_true,decide_eq_true_eq] at h;exact h.1
theorem Z6n: ∀b∈L,size b.sh<=800:=fun b hb=>by
 unfold smallB at h;simp only[Bool.and_eq_true,List.all_eq_true,decide_eq_true_eq] at h;exact h.2 b hb
end
theorem Z2D (L:List Bd) (A:Option Addr) (cap:Nat) (w:World) (hL:BdsAt w w.heap.size A L) (hl:L.length<=9223372036854775807):
 Y9 9 #[.slice A L.length cap] w (.bool (smallB L)):=by
 by_cases h60:60 < L.length
 {have hF:smallB L=false:=by unfold smallB; rw[decide_eq_false (by omega)]; rfl
  have h60': (60:Int) < (L.length:Int):=by omega
  rw[hF];clear hF hL;go_enter Tryd.func9,Tryd.ntmps9;go_wp2;go_ret;exact ⟨rfl,Below.refl _ _⟩}
 {have h60': ¬(60:Int) < (L.length:Int):=by omega
  have HL:=Y1 hL;clear hL;go_enter Tryd.func9,Tryd.ntmps9
  go_wp2_with fail
  go_loopw [3] (fun i wr=> ∃k:Nat,k<=L.length/\i= .int .i64 (k:Int)/\Hid (∀j (hj:j < L.length),j < k->size (L[j]'hj).sh<=800)/\Hid (Below w.heap.size w wr)) (fun i _=>L.length - (intOf i).toNat)
  case atStart=>exact ⟨0,Nat.zero_le _,rfl,Y1 (fun _ _ h=>absurd h (by omega)),Y1 Y2⟩
  case round=>
   obtain ⟨k,hk,rfl,hS,HB⟩:=hrel;by_cases hkl:k < L.length
   {have hkl': (k:Int) < (L.length:Int):=by omega
    obtain ⟨g,off,qs,hA,hg,hc⟩:=(HL.out.keep HB.out (Nat.le_refl _)).resolve_left (by omega);subst hA;obtain ⟨x0,x1,⟨z0,z1,z2,z3,z4⟩,hat,_⟩:=hc k hkl;change wr.cell? ⟨g,off+k * 7+3,none⟩=_ at z1;change wr.cell? ⟨g,off+k * 7+4,none⟩=_ at z2;change wr.cell? ⟨g,off+k * 7+5,none⟩=_ at z3;change wr.cell? ⟨g,off+k * 7+6,none⟩=_ at z4;obtain ⟨bk,hbk⟩: ∃bk,bk=L[k]'hkl:=⟨_,rfl⟩;rw[<-hbk] at x0 x1 z0 z1 z2 z3 z4 hat;have hcl:=Z46 bk.sh (qs k) 800 wr (hat.of HB.out.size (fun _ _ _=>rfl)) (by omega);rw[show (((800:Nat):Int))=(800:Int) from rfl] at hcl;have HC:=Y1 hcl;have HBK:=Y1 hbk;clear hc hat hg hbk hcl x0 x1
    go_wp2_with fail
    refine HC.out.mono ?_;rintro e wk ⟨rfl,hb2⟩;have HB2:=Y1 (HB.out.trans (hb2.mono HB.out.size));clear hb2 HC z0 z1 z2 z3 z4;by_cases h8:800 < size bk.sh
    {have hx: (800:Int) < (sizeTo 800 bk.sh:Int):=by unfold sizeTo; omega
     have hF:smallB L=false:=by
      cases hs:smallB L with
      | false=>rfl
      | true=>
       have:=Z6n hs (L[k]'hkl) (List.getElem_mem hkl);rw[<-HBK.out] at this;omega
     go_wp2;refine bodyPost_ret (v:= .bool false) (by simp[results,Tryd.results9,go_sem]) rfl ?_;exact ⟨by rw[hF],HB2.out⟩}
    {have hx: ¬(800:Int) < (sizeTo 800 bk.sh:Int):=by unfold sizeTo; omega
     have HS2:Hid (∀j (hj:j < L.length),j < k+1->size (L[j]'hj).sh<=800):=Y1 (fun j hj hjk=>by
      by_cases e:j=k
      {subst e; rw[<-HBK.out]; omega}
      · exact hS.out j hj (by omega))
     clear hS h8;go_wp2
     go_roundw
     case rel=>exact ⟨k+1,by omega,by go_num,HS2,HB2⟩
     case measure=>simp[intOf]; omega}}
   {obtain rfl:k=L.length:=by omega
    have hkl': ¬(L.length:Int) < (L.length:Int):=by omega
    have hT:smallB L=true:=by
     unfold smallB;rw[decide_eq_true (by omega),Bool.true_and,List.all_eq_true];intro b hb;obtain ⟨j,hj,rfl⟩:=List.getElem_of_mem hb;rw[decide_eq_true_eq];exact hS.out j hj hj
    clear hS;go_wp2;refine bodyPost_ret (v:= .bool true) (by simp[results,Tryd.results9,go_sem]) rfl ?_;exact ⟨by first | rfl | rw[hT],HB.out⟩}}
end
section
open Go.RowKit Shp
theorem Z9C {l m:List Sh} (hl:l.length=m.length) (h: ∀j (hj:j < l.length),eqB (l[j]'hj) (m[j]'(by omega))=true):eqs l m=true:=
 (Z6r l m).2 (List.ext_getElem hl (fun j h1 h2=>(Z29 _ _).1 (h j h1)))
def headB (t u:Sh):Bool:=t.kind==u.kind&&t.of_==u.of_&&t.name==u.name&&decide (t.names.length=u.names.length)&&decide (t.parts.length=u.parts.length)
theorem Z9h {t u:Sh} (h:headB t u=false):eqB t u=false:=by
 apply Z49;rintro rfl;simp[headB] at h
theorem Z8F {t u:Sh} {i:Nat} (hi:i < t.names.length) (hm:i < u.names.length) (h:t.names[i]'hi≠u.names[i]'hm):eqB t u=false:=by
 apply Z49;rintro rfl;exact h rfl
theorem Z8G {t u:Sh} {i:Nat} (hi:i < t.parts.length) (hm:i < u.parts.length) (h:eqB (t.parts[i]'hi) (u.parts[i]'hm)=false):eqB t u=false:=by
 apply Z49;rintro rfl;rw[Z0Q] at h; cases h
theorem Z9D {t u:Sh} (h:headB t u=true) (hn: ∀j (hj:j < t.names.length) (hj':j < u.names.length),t.names[j]'hj=u.names[j]'hj') (hp: ∀j (hj:j < t.parts.length) (hj':j < u.parts.length),eqB (t.parts[j]'hj) (u.parts[j]'hj')=true):eqB t u=true:=by
 simp only[headB,Bool.and_eq_true,beq_iff_eq,decide_eq_true_eq] at h;obtain ⟨⟨⟨⟨h1,h2⟩,h3⟩,h4⟩,h5⟩:=h;rw[Z7J,h1,h2,h3];simp only[beq_self_eq_true,Bool.true_and,Bool.and_eq_true];exact ⟨beq_iff_eq.2 (List.ext_getElem h4 (fun j a b=>hn j a b)),Z9C h5 (fun j hj=>hp j hj (by omega))⟩
theorem Z6q (t u:Sh) (q r:Ptr) (w:World) (hq:ShAt w w.heap.size q t) (hr:ShAt w w.heap.size r u) (hh:headB t u=false):
 Y9 13 #[.agg (Y8 t q),.agg (Y8 u r)] w (.bool (eqB t u)):=by
 have HF:=Y1 (Z9h hh);have hb0:=Z01 w (.cells (Y8 t q) 25);have hb1:=Z06 hb0 (.cells (Y8 u r) 25);have HB1:=Y1 hb1;have hB:=(Z03 w t q).next (Z01 _ (.cells (Y8 u r) 25));have hC:=Z03 (w.alloc (.cells (Y8 t q) 25)) u r;obtain ⟨_,⟨c0,c1,c2,c3,c4⟩,_⟩:=hB;obtain ⟨_,⟨d0,d1,d2,d3,d4⟩,_⟩:=hC;clear hb0 hb1;rw[World.size_alloc] at d0 d1 d2 d3 d4;have HH:=Y1 hh;clear hh;have h4: ((t.names.length:Int)==(u.names.length:Int))=decide (t.names.length=u.names.length):=by rw[Bool.eq_iff_iff,beq_iff_eq,decide_eq_true_eq]; omega
 have h5: ((t.parts.length:Int)==(u.parts.length:Int))=decide (t.parts.length=u.parts.length):=by rw[Bool.eq_iff_iff,beq_iff_eq,decide_eq_true_eq]; omega
 unfold headB at HH;rw[<-h4, <-h5] at HH;clear h4 h5;cases e1: (t.kind==u.kind)
 {have n1: (t.kind !=u.kind)=true:=by unfold bne; rw[e1]; rfl
  go_enter Tryd.func13,Tryd.ntmps13;go_wp2;go_ret;exact ⟨by rw[HF.out]; rfl,HB1.out⟩}
 {have n1: (t.kind !=u.kind)=false:=by unfold bne; rw[e1]; rfl
  rw[e1,Bool.true_and] at HH;cases e2: (t.of_==u.of_)
  {have n2: (t.of_ !=u.of_)=true:=by unfold bne; rw[e2]; rfl
   go_enter Tryd.func13,Tryd.ntmps13;go_wp2;go_ret;exact ⟨by rw[HF.out]; rfl,HB1.out⟩}
  {have n2: (t.of_ !=u.of_)=false:=by unfold bne; rw[e2]; rfl
   rw[e2,Bool.true_and] at HH;cases e3: (t.name==u.name)
   {have n3: (t.name !=u.name)=true:=by unfold bne; rw[e3]; rfl
    go_enter Tryd.func13,Tryd.ntmps13;go_wp2;go_ret;exact ⟨by rw[HF.out]; rfl,HB1.out⟩}
   {have n3: (t.name !=u.name)=false:=by unfold bne; rw[e3]; rfl
    rw[e3,Bool.true_and] at HH;cases e4: ((t.names.length:Int)==(u.names.length:Int))
    {have n4: ((t.names.length:Int) !=(u.names.length:Int))=true:=by unfold bne; rw[e4]; rfl
     go_enter Tryd.func13,Tryd.ntmps13;go_wp2;go_ret;exact ⟨by rw[HF.out]; rfl,HB1.out⟩}
    {have n4: ((t.names.length:Int) !=(u.names.length:Int))=false:=by unfold bne; rw[e4]; rfl
     rw[e4,Bool.true_and] at HH;have e5:=HH.out;have n5: ((t.parts.length:Int) !=(u.parts.length:Int))=true:=by unfold bne; rw[e5]; rfl
     go_enter Tryd.func13,Tryd.ntmps13;go_wp2;go_ret;exact ⟨by rw[HF.out]; rfl,HB1.out⟩}}}}
theorem Z0N (t:Sh): ∀(u:Sh) (q r:Ptr) (w:World),ShAt w w.heap.size q t->ShAt w w.heap.size r u->
 Y9 13 #[.agg (Y8 t q),.agg (Y8 u r)] w (.bool (eqB t u)):=by
 induction t using Sh.ind with
 | h t ih=>
 intro u q r w hq hr;cases hh:headB t u with
 | false=>exact Z6q t u q r w hq hr hh
 | true=>
 have HH:=Y1 hh;have hs:=hh;simp only[headB,Bool.and_eq_true,beq_iff_eq,decide_eq_true_eq] at hs;obtain ⟨⟨⟨⟨g1,g2⟩,g3⟩,g4⟩,g5⟩:=hs;have HG4:=Y1 g4;have HG5:=Y1 g5;have HL:=Y1 hq.small.l;have HM:=Y1 hq.small.m;have HP:=Y1 hq.part;have HR:=Y1 hr.part;have HSN:=Y1 hq.strs;have HSM:=Y1 hr.strs;have hb0:=Z01 w (.cells (Y8 t q) 25);have hb1:=Z06 hb0 (.cells (Y8 u r) 25);have HB1:=Y1 hb1;have hB:=(Z03 w t q).next (Z01 _ (.cells (Y8 u r) 25));have hC:=Z03 (w.alloc (.cells (Y8 t q) 25)) u r;rw[World.size_alloc] at hC;have HB:=Y1 hB;have HC:=Y1 hC;obtain ⟨_,⟨c0,c1,c2,c3,c4⟩,_⟩:=hB;obtain ⟨_,⟨d0,d1,d2,d3,d4⟩,_⟩:=hC;have n1: (t.kind !=u.kind)=false:=by rw[g1]; simp
 have n2: (t.of_ !=u.of_)=false:=by rw[g2]; simp
 have n3: (t.name !=u.name)=false:=by rw[g3]; simp
 have n4: ((t.names.length:Int) !=(u.names.length:Int))=false:=by rw[g4]; simp
 have n5: ((t.parts.length:Int) !=(u.parts.length:Int))=false:=by rw[g5]; simp
 have e1: (t.kind==u.kind)=true:=by rw[g1]; simp
 have e2: (t.of_==u.of_)=true:=by rw[g2]; simp
 have e3: (t.name==u.name)=true:=by rw[g3]; simp
 have e4: ((t.names.length:Int)==(u.names.length:Int))=true:=by rw[g4]; simp
 have e5: ((t.parts.length:Int)==(u.parts.length:Int))=true:=by rw[g5]; simp
 clear hb0 hb1 hq hr hh g1 g2 g3 g4 g5;go_enter Tryd.func13,Tryd.ntmps13
 go_wp2_with fail
 generalize hW0: (w.alloc (.cells (Y8 t q) 25)).alloc (.cells (Y8 u r) 25)=W0 at HB HC HB1 ⊢;clear hW0 c0 c1 c2 c3 c4 d0 d1 d2 d3 d4 n1 n2 n3 n4 n5 e1 e2 e3 e4 e5
 go_loopw [5] (fun ii wr=> ∃i:Nat,ii= .int .i64 i/\i<=t.names.length/\Hid (∀j (h:j < t.names.length) (h':j < u.names.length),j < i->t.names[j]'h=u.names[j]'h')/\Below W0.heap.size W0 wr) (fun i _=>t.names.length - (intOf i).toNat)
 case atStart=>exact ⟨0,rfl,Nat.zero_le _,Y1 (fun j _ _ hj=>absurd hj (by omega)),Below.refl _ _⟩
 case round=>
  obtain ⟨i,rfl,hi,HN,hb⟩:=hrel;have hbw:Below w.heap.size w wr:=HB1.out.trans (hb.mono HB1.out.size);have hl:=HL.out;obtain ⟨_,⟨c0,_,_,c3,c4⟩,_⟩:=HB.out.next hb;obtain ⟨_,⟨d0,_,_,d3,d4⟩,_⟩:=HC.out.next hb;by_cases hlt:i < t.names.length
  {have hi1: (i:Int) < (t.names.length:Int):=by omega
   have hi2: (i:Int) < (u.names.length:Int):=by have:=HG4.out; omega
   have hi3:i < u.names.length:=by omega
   rcases (HSN.out.next hbw).cell7 with h0 | ⟨g,off,hqA,hg,hc⟩
   {omega}
   {rcases (HSM.out.next hbw).cell7 with h0 | ⟨g',off',hrA,hg',hc'⟩
    {omega}
    {have p:=hc i hlt;have p':=hc' i hi3;obtain ⟨x,hx⟩: ∃x,x=t.names[i]'hlt:=⟨_,rfl⟩;obtain ⟨y,hy⟩: ∃y,y=u.names[i]'hi3:=⟨_,rfl⟩;rw[<-hx] at p;rw[<-hy] at p';have HX:=Y1 hx;have HY:=Y1 hy;rw[hqA] at c3;rw[hrA] at d3;clear hx hy hc hc' hqA hrA;cases hxy: (x==y)
     {have HF:Hid (eqB t u=false):=Y1 (Z8F hlt hi3 (by rw[<-HX.out, <-HY.out]; intro h; rw[h] at hxy; simp at hxy));have n1: (x !=y)=true:=by unfold bne; rw[hxy]; rfl
      go_wp2_with fail
      go_quiet (fail)
      go_wp2;go_ret;exact ⟨by rw[HF.out]; rfl,Z0K hbw _⟩}
     {have n1: (x !=y)=false:=by unfold bne; rw[hxy]; rfl
      have HE:Hid (t.names[i]'hlt=u.names[i]'hi3):=Y1 (by rw[<-HX.out, <-HY.out]; simpa using hxy)
      go_wp2_with fail
      go_quiet (fail)
      go_wp2
      go_roundw
      case rel=>exact ⟨i+1,by go_num,by omega,Y1 (fun j hj hj' hji=>by
       rcases Nat.lt_succ_iff_lt_or_eq.1 hji with h | rfl
       {exact HN.out j hj hj' h}
       · exact HE.out),Z0K hb _⟩
      case measure=>simp[intOf]; omega}}}}
  {have HNN:Hid (∀j (h:j < t.names.length) (h':j < u.names.length),t.names[j]'h=u.names[j]'h'):=Y1 (fun j h h'=>HN.out j h h' (by omega));have HBW:=Y1 hb;clear hbw hb HN
   go_wp2_with fail
   go_loopw [6] (fun ii wx=> ∃k:Nat,ii= .int .i64 k/\k<=t.parts.length/\Hid (∀j (h:j < t.parts.length) (h':j < u.parts.length),j < k->eqB (t.parts[j]'h) (u.parts[j]'h')=true)/\Hid (Below W0.heap.size W0 wx)) (fun i _=>t.parts.length - (intOf i).toNat)
   case atStart=>exact ⟨0,rfl,Nat.zero_le _,Y1 (fun j _ _ hj=>absurd hj (by omega)),HBW⟩
   case round=>
    obtain ⟨k,rfl,hk,HN,HBX⟩:=hrel;have hb:=HBX.out;have hbw:Below w.heap.size w wr:=HB1.out.trans (hb.mono HB1.out.size);have hm:=HM.out;clear c0 c3 c4 d0 d3 d4;obtain ⟨_,⟨c0,_,_,c3,c4⟩,_⟩:=HB.out.next hb;obtain ⟨_,⟨d0,_,_,d3,d4⟩,_⟩:=HC.out.next hb;by_cases hlt2:k < t.parts.length
    {have hi1: (k:Int) < (t.parts.length:Int):=by omega
     have hi2: (k:Int) < (u.parts.length:Int):=by have:=HG5.out; omega
     have hi3:k < u.parts.length:=by omega
     rcases HP.out with h0 | ⟨g,off,qs,hqP,hg,hc,hra⟩
     {omega}
     {rcases HR.out with h0 | ⟨g',off',qs',hrP,hg',hc',hra'⟩
      {omega}
      {obtain ⟨x,hx⟩: ∃x,x=t.parts[k]:=⟨_,rfl⟩;obtain ⟨y,hy⟩: ∃y,y=u.parts[k]:=⟨_,rfl⟩;obtain ⟨p0,p1,p2,p3,p4⟩:=(hc k hlt2).keep hg hbw;obtain ⟨s0,s1,s2,s3,s4⟩:=(hc' k hi3).keep hg' hbw;have hat:ShAt wr wr.heap.size (qs k) x:=by rw[hx]; exact (hra k hlt2).next hbw
       have hat':ShAt wr wr.heap.size (qs' k) y:=by rw[hy]; exact (hra' k hi3).next hbw
       have ihx:=ih t.parts[k] (List.getElem_mem _) y (qs k) (qs' k) wr.drew;rw[<-hx] at p0 p1 p2 p3 p4 ihx;rw[<-hy] at s0 s1 s2 s3 s4;have IH:=ihx (hat.next Y2.drew) (hat'.next Y2.drew);rw[hqP] at c4;rw[hrP] at d4;have HX:=Y1 hx;have HY:=Y1 hy;clear hx hy hc hc' hra hra' hat hat' ihx ih hqP hrP
       go_wp2_with fail
       cases hxy:eqB x y
       {have HF:Hid (eqB t u=false):=Y1 (Z8G hlt2 hi3 (by rw[<-HX.out, <-HY.out]; exact hxy));rw[hxy] at IH;clear hxy
        go_still_tail 10,(by kernel_rfl)
        change wpList _ _ _ _ _ wr.drew
        go_wp2_with fail
        refine IH.mono ?_;rintro e w2 ⟨rfl,hb2⟩;go_wp2;go_ret;exact ⟨by rw[HF.out]; rfl,Z00 hbw.drew hb2⟩}
       {have HE:Hid (eqB (t.parts[k]'hlt2) (u.parts[k]'hi3)=true):=Y1 (by rw[<-HX.out, <-HY.out]; exact hxy);rw[hxy] at IH;clear hxy
        go_still_tail 10,(by kernel_rfl)
        change wpList _ _ _ _ _ wr.drew
        go_wp2_with fail
        refine IH.mono ?_;rintro e w2 ⟨rfl,hb2⟩;go_wp2
        go_roundw
        case rel=>exact ⟨k+1,by go_num,by omega,Y1 (fun j hj hj' hji=>by
         rcases Nat.lt_succ_iff_lt_or_eq.1 hji with h | rfl
         {exact HN.out j hj hj' h}
         · exact HE.out),Y1 (Z00 hb.drew hb2)⟩
        case measure=>simp[intOf]; omega}}}}
    {have HF:Hid (eqB t u=true):=Y1 (Z9D HH.out HNN.out (fun j hj hj'=>HN.out j hj hj' (by omega)));go_wp2;go_ret;exact ⟨by rw[HF.out]; rfl,hbw⟩}}
end
section
open Go.RowKit Shp
open Expd (Bd put find Z0r)
def kI:Sh:=⟨1,[],[],[],[]⟩
def kL:Sh:=⟨5,[],[],[],[kI]⟩
def kA:Sh:=⟨9,[],[65],[],[]⟩
def kX:Sh:=⟨6,[],[],[[120],[97]],[kA,kI]⟩
def kU:Sh:=⟨6,[],[],[[120],[97]],[kL,kI]⟩
def kY:Sh:=⟨6,[],[],[[97],[120]],[kI,kL]⟩
def kE:List Bd:= [⟨[],[65],kL⟩]
theorem Z5s:check kX=0:=by decide+kernel
theorem Z9i:check kU=0:=by decide+kernel
theorem Z9T:put (find kE) kX=some kU:=by rfl
theorem Z9E:put (find []) kX=none:=by rfl
theorem Z8H:sorted kU=kY:=by kernel_rfl
theorem Z9F:Expd.resolve kE kX=(kY,0):=by rw[Expd.resolve_ok Z5s Z9T Z9i,Z8H]
theorem Z9G:Expd.resolve [] kX=(Z0r,110):=Expd.resolve_name Z5s Z9E
def kW (w:World):World:=(((((((w.alloc (.cells #[.int .i64 1,.string ⟨#[]⟩,.string ⟨#[]⟩,.slice none 0 0,.slice none 0 0] 25)).alloc (.cells #[.int .i64 1,.string ⟨#[]⟩,.string ⟨#[]⟩,.slice none 0 0,.slice none 0 0] 25)).alloc
 (.cells #[.int .i64 5,.string ⟨#[]⟩,.string ⟨#[]⟩,.slice none 0 0,.slice (some ⟨w.heap.size+1,0,none⟩) 1 1] 25)).alloc (.cells #[.int .i64 9,.string ⟨#[]⟩,.string ⟨#[65]⟩,.slice none 0 0,.slice none 0 0] 25)).alloc
 (.cells #[.string ⟨#[120]⟩,.string ⟨#[97]⟩] 9)).alloc (.cells #[.int .i64 9,.string ⟨#[]⟩,.string ⟨#[65]⟩,.slice none 0 0,.slice none 0 0,.int .i64 1,.string ⟨#[]⟩,.string ⟨#[]⟩,.slice none 0 0,.slice none 0 0] 25)).alloc
 (.cells #[.int .i64 6,.string ⟨#[]⟩,.string ⟨#[]⟩,.slice (some ⟨w.heap.size+1+1+1+1,0,none⟩) 2 2,.slice (some ⟨w.heap.size+1+1+1+1+1,0,none⟩) 2 2] 25)).alloc
 (.cells #[.string ⟨#[]⟩,.string ⟨#[65]⟩,.int .i64 5,.string ⟨#[]⟩,.string ⟨#[]⟩,.slice none 0 0,.slice (some ⟨w.heap.size+1,0,none⟩) 1 1] 55)
theorem Z18 (w:World): (kW w).heap.size=w.heap.size+8:=by simp[kW]
theorem Z3x (w:World):Below w.heap.size w (kW w):=Z06 (Z06 (Z06 (Z06 (Z06 (Z06 (Z06 (Z01 _ _) _) _) _) _) _) _) _
def kq0:Ptr:=⟨none,0,none,0⟩
def kqL (H:Nat):Ptr:=⟨none,0,some ⟨H+1,0,none⟩,1⟩
def kqX (H:Nat):Ptr:=⟨some ⟨H+1+1+1+1,0,none⟩,2,some ⟨H+1+1+1+1+1,0,none⟩,2⟩
theorem Z1U (W:World) (B:Nat) (t:Sh) (h1:t.names= []) (h2:t.parts= []) (h3:t.of_.length<=9223372036854775807) (h4:t.name.length<=9223372036854775807):ShAt W B kq0 t:=
 .mk _ _ 0 0 (fun _=>kq0) ⟨h3,h4,by rw[h1]; nofun,by rw[h1]; simp,by rw[h2]; simp,by rw[h1]; exact Nat.le_refl _,by rw[h2]; exact Nat.le_refl _,fun _=>rfl,fun _=>rfl⟩ (Or.inl (by rw[h1]; rfl)) (Or.inl (by rw[h2]; rfl)) (fun i h=>absurd h (by rw[h2]; simp)) (fun i h=>absurd h (by rw[h2]; simp))
section
variable (w : World)
include w
theorem kW_L:ShAt (kW w) (kW w).heap.size (kqL w.heap.size) kL:=by
 refine .mk _ _ (w.heap.size+1) 0 (fun _=>kq0) ⟨by decide,by decide,nofun,by decide,by decide,Nat.le_refl _,Nat.le_refl _,fun _=>rfl,nofun⟩ (Or.inl rfl) (Or.inr ⟨rfl,by rw[Z18]; omega⟩) (fun i h=> ?_) (fun i h=> ?_)
 {have h1:i < 1:=h
  match i,h1 with
  | 0,_=>refine ⟨?_, ?_, ?_, ?_, ?_⟩ <;> simp[kW,go_sem,kL,kI,kq0]}
 {have h1:i < 1:=h
  match i,h1 with
  | 0,_=>exact Z1U _ _ kI rfl rfl (by decide) (by decide)}
theorem kW_X:ShAt (kW w) (kW w).heap.size (kqX w.heap.size) kX:=by
 refine .mk _ _ (w.heap.size+1+1+1+1+1) 0 (fun _=>kq0) ⟨by decide,by decide,by decide,by decide,by decide,Nat.le_refl _,Nat.le_refl _,nofun,nofun⟩ (Or.inr ⟨w.heap.size+1+1+1+1,0,rfl,by rw[Z18]; omega,fun i hi=> ?_⟩) (Or.inr ⟨rfl,by rw[Z18]; omega⟩) (fun i h=> ?_) (fun i h=> ?_)
 {have h2:i < 2:=hi
  match i,h2 with
  | 0,_=>simp[kW,go_sem,kX,strs]
  | 1,_=>simp[kW,go_sem,kX,strs]}
 {have h2:i < 2:=h
  match i,h2 with
  | 0,_=>refine ⟨?_, ?_, ?_, ?_, ?_⟩ <;> simp[kW,go_sem,kX,kA,kq0]
  | 1,_=>refine ⟨?_, ?_, ?_, ?_, ?_⟩ <;> simp[kW,go_sem,kX,kI,kq0]}
 {have h2:i < 2:=h
  match i,h2 with
  | 0,_=>exact Z1U _ _ kA rfl rfl (by decide) (by decide)
  | 1,_=>exact Z1U _ _ kI rfl rfl (by decide) (by decide)}
theorem kW_E:BdsAt (kW w) (kW w).heap.size (some ⟨w.heap.size+1+1+1+1+1+1+1,0,none⟩) kE:=by
 refine Or.inr ⟨w.heap.size+1+1+1+1+1+1+1,0,fun _=>kqL w.heap.size,rfl,by rw[Z18]; omega,fun i h=> ?_⟩;have h1:i < 1:=h
 match i,h1 with
 | 0,_=>exact ⟨by simp[kW,go_sem,kE],by simp[kW,go_sem,kE],⟨by simp[kW,go_sem,kE,kL,kqL],by simp[kW,go_sem,kE,kL,kqL],by simp[kW,go_sem,kE,kL,kqL],by simp[kW,go_sem,kE,kL,kqL],by simp[kW,go_sem,kE,kL,kqL]⟩,kW_L w,by simp[kE],by simp[kE]⟩
theorem kW_i:Box5 (kW w) w.heap.size kI kq0:=by
 refine ⟨by rw[Z18]; omega,⟨?_, ?_, ?_, ?_, ?_⟩, ?_, ?_, ?_, ?_, ?_⟩ <;> simp[kW,go_sem,kI,kq0]
theorem kW_l:Box5 (kW w) (w.heap.size+1+1) kL (kqL w.heap.size):=by
 refine ⟨by rw[Z18]; omega,⟨?_, ?_, ?_, ?_, ?_⟩, ?_, ?_, ?_, ?_, ?_⟩ <;> simp[kW,go_sem,kL,kqL]
theorem kW_x:Box5 (kW w) (w.heap.size+1+1+1+1+1+1) kX (kqX w.heap.size):=by
 refine ⟨by rw[Z18]; omega,⟨?_, ?_, ?_, ?_, ?_⟩, ?_, ?_, ?_, ?_, ?_⟩ <;> simp[kW,go_sem,kX,kqX]
theorem Z0a (hg:WGlobs w):Y9 10 #[] w (.bool true):=by
 have HBW:=Y1 (Z3x w);have HG:=Y1 (hg.next (Z3x w));have HI:=Y1 (kW_i w);have HL:=Y1 (kW_l w);have HX:=Y1 (kW_x w);have HXA:=Y1 (kW_X w);have HLA:=Y1 (kW_L w);have HSZ:=Y1 (Z18 w);have HR:=Y1 (Z0S kX (kqX w.heap.size) kE (some ⟨w.heap.size+1+1+1+1+1+1+1,0,none⟩) 1 (kW w) (kW_X w) (kW_E w) (by decide) (hg.next (Z3x w)));clear hg;go_enter Tryd.func10,Tryd.ntmps10
 go_wp2_with fail
 change Calls _ _ _ (kW w) _;obtain ⟨H,hH⟩: ∃H,H=w.heap.size:=⟨_,rfl⟩;rw[<-hH] at HI HL HX HXA HLA HR HSZ ⊢;generalize kW w=W0 at HBW HG HI HL HX HXA HLA HR HSZ ⊢;refine HR.out.mono ?_;rintro e w1 ⟨q1,he,hat,hb1⟩;rw[Z9F] at he hat;obtain ⟨z,hz⟩: ∃z,z=kY:=⟨_,rfl⟩;rw[<-hz] at he hat;subst he;have HZ:=Y1 hz;have hb2:=Z01 w1 (.cells (Y8 z q1) 25);have hbb:=Z00 hb1 hb2;have HB2:=Y1 hbb;have HBZ:=Y1 (Z03 w1 z q1);have HAT:=Y1 (hat.next hb2);have HG2:=Y1 (HG.out.next hbb);have HXA2:=Y1 (HXA.out.next hbb);obtain ⟨z1,⟨x0,x1,x2,x3,x4⟩,z2⟩:=HX.out.next hbb;simp only[Nat.zero_add] at x0 x1 x2 x3 x4;change (w1.alloc _).cell? _=some (.int .i64 6) at x0;change (w1.alloc _).cell? _=some (.string ⟨#[]⟩) at x1;change (w1.alloc _).cell? _=some (.string ⟨#[]⟩) at x2;change (w1.alloc _).cell? _=some (.slice (some ⟨H+1+1+1+1,0,none⟩) 2 2) at x3;change (w1.alloc _).cell? _=some (.slice (some ⟨H+1+1+1+1+1,0,none⟩) 2 2) at x4;have HR2:=Y1 (Z0S kX (kqX H) [] none 0 _ HXA2.out (Or.inl rfl) (by decide) HG2.out);clear hz hb1 hb2 hbb hat z1 z2 hH HR;unfold shV;obtain ⟨W2,hW2⟩: ∃W2,w1.alloc (.cells (Y8 z q1) 25)=W2:=⟨_,rfl⟩;rw[hW2] at x0 x1 x2 x3 x4 HR2 HB2 HBZ HAT HG2 HXA2
 go_wp2_with fail
 clear hW2;refine HR2.out.mono ?_;rintro e w3 ⟨q2,he, -,hb3⟩;rw[Z9G] at he;subst he;have hb4:=Z00 hb3 (Z01 w3 (.cells #[.int .i64 0,.string ⟨#[]⟩,.string ⟨#[]⟩,.slice q2.A 0 q2.c,.slice q2.P 0 q2.d] 25));have HB4:=Y1 (Z00 HB2.out hb4);have HBZ4:=Y1 (HBZ.out.next hb4);have HAT4:=Y1 (HAT.out.next hb4);clear x0 x1 x2 x3 x4 hb3 hb4 HR2
 try simp only
 unfold shV Z0r
 try simp only
 obtain ⟨W4,hW4⟩: ∃W4,w3.alloc (.cells #[.int .i64 0,.string ⟨#[]⟩,.string ⟨#[]⟩,.slice q2.A 0 q2.c,.slice q2.P 0 q2.d] 25)=W4:=⟨_,rfl⟩;rw[hW4] at HB4 HBZ4 HAT4;have hz8:H+8<=W4.heap.size:=by have:=HSZ.out; have:=HB4.out.size; omega
 have hn1:H≠W4.heap.size:=by omega
 have hn2:H+1+1≠W4.heap.size:=by omega
 obtain ⟨z1,⟨x0,x1,x2,x3,x4⟩,z2⟩:=HBZ4.out;obtain ⟨z3,⟨i0,i1,i2,i3,i4⟩,z4⟩:=(HI.out.next HB4.out).next (Z01 W4 (.cells #[.string ⟨#[97]⟩,.string ⟨#[120]⟩] 9));obtain ⟨z5,⟨l0,l1,l2,l3,l4⟩,z6⟩:=(HL.out.next HB4.out).next (Z01 W4 (.cells #[.string ⟨#[97]⟩,.string ⟨#[120]⟩] 9));simp only[Nat.zero_add] at x0 x1 x2 x3 x4 i0 i1 i2 i3 i4 l0 l1 l2 l3 l4;change (W4.alloc _).cell? _=some (.int .i64 1) at i0;change (W4.alloc _).cell? _=some (.string ⟨#[]⟩) at i1;change (W4.alloc _).cell? _=some (.string ⟨#[]⟩) at i2;change (W4.alloc _).cell? _=some (.slice none 0 0) at i3;change (W4.alloc _).cell? _=some (.slice none 0 0) at i4;change (W4.alloc _).cell? _=some (.int .i64 5) at l0;change (W4.alloc _).cell? _=some (.string ⟨#[]⟩) at l1;change (W4.alloc _).cell? _=some (.string ⟨#[]⟩) at l2;change (W4.alloc _).cell? _=some (.slice none 0 0) at l3;change (W4.alloc _).cell? _=some (.slice (some ⟨H+1,0,none⟩) 1 1) at l4;have hb6:Below W4.heap.size W4 ((W4.alloc (.cells #[.string ⟨#[97]⟩,.string ⟨#[120]⟩] 9)).alloc (.cells #[.int .i64 1,.string ⟨#[]⟩,.string ⟨#[]⟩,.slice none 0 0,.slice none 0 0,.int .i64 5,.string ⟨#[]⟩,.string ⟨#[]⟩,.slice none 0 0,.slice (some ⟨H+1,0,none⟩) 1 1] 25)):=Z06 (Z01 _ _) _;have hs6: ((W4.alloc (.cells #[.string ⟨#[97]⟩,.string ⟨#[120]⟩] 9)).alloc (.cells #[.int .i64 1,.string ⟨#[]⟩,.string ⟨#[]⟩,.slice none 0 0,.slice none 0 0,.int .i64 5,.string ⟨#[]⟩,.string ⟨#[]⟩,.slice none 0 0,.slice (some ⟨H+1,0,none⟩) 1 1] 25)).heap.size=W4.heap.size+2:=by simp
 have hy:ShAt ((W4.alloc (.cells #[.string ⟨#[97]⟩,.string ⟨#[120]⟩] 9)).alloc (.cells #[.int .i64 1,.string ⟨#[]⟩,.string ⟨#[]⟩,.slice none 0 0,.slice none 0 0,.int .i64 5,.string ⟨#[]⟩,.string ⟨#[]⟩,.slice none 0 0,.slice (some ⟨H+1,0,none⟩) 1 1] 25)) (W4.heap.size+2) ⟨some ⟨W4.heap.size,0,none⟩,2,some ⟨W4.heap.size+1,0,none⟩,2⟩ kY:=by
  refine .mk _ _ (W4.heap.size+1) 0 (fun i=>if i=0 then kq0 else kqL H) ⟨by decide,by decide,by decide,by decide,by decide,Nat.le_refl _,Nat.le_refl _,nofun,nofun⟩ (Or.inr ⟨W4.heap.size,0,rfl,by omega,fun i hi=> ?_⟩) (Or.inr ⟨rfl,by omega⟩) (fun i h=> ?_) (fun i h=> ?_)
  {have h2:i < 2:=hi
   match i,h2 with
   | 0,_=>simp[go_sem,kY,strs]
   | 1,_=>simp[go_sem,kY,strs]}
  {have h2:i < 2:=h
   match i,h2 with
   | 0,_=>refine ⟨?_, ?_, ?_, ?_, ?_⟩ <;> simp[go_sem,kY,kI,kq0]
   | 1,_=>refine ⟨?_, ?_, ?_, ?_, ?_⟩ <;> simp[go_sem,kY,kL,kqL]}
  {have h2:i < 2:=h
   match i,h2 with
   | 0,_=>exact Z1U _ _ kI rfl rfl (by decide) (by decide)
   | 1,_=>rw[<-hs6]; exact (HLA.out.next HB4.out).next hb6}
 rw[<-hs6] at hy;have HE:=Y1 (Z0N z kY q1 _ _ (HAT4.out.next hb6) hy);have HB6:=Y1 (Z00 HB4.out hb6);clear hb6 hs6 hy z1 z2 z3 z4 z5 z6 hz8;obtain ⟨W5,hW5⟩: ∃W5,W4.alloc (.cells #[.string ⟨#[97]⟩,.string ⟨#[120]⟩] 9)=W5:=⟨_,rfl⟩;have hs5:Hid (W5.heap.size=W4.heap.size+1):=Y1 (by rw[<-hW5]; simp);rw[hW5] at i0 i1 i2 i3 i4 l0 l1 l2 l3 l4 HE HB6
 go_wp2_with fail
 rw[<-hs5.out] at HE;have heq:eqB z kY=true:=by rw[HZ.out]; exact Z0Q _
 rw[heq] at HE;refine HE.out.mono ?_;rintro e w7 ⟨rfl,hb7⟩;have HB7:=Y1 (HBW.out.trans ((HB6.out.mono HBW.out.size).trans (hb7.mono (by have:=HBW.out.size; have:=HB6.out.size; omega))));clear hb7 HE heq;go_wp2;go_ret;exact ⟨rfl,HB7.out⟩
end
end
section
open Go.RowKit Shp
def Z4G (w:World) (P:Option Addr) (l:List Sh):Prop:=
 ∃(g off:Nat) (qs:Nat->Ptr),l.length=0\/P=some ⟨g,off,none⟩/\g < w.heap.size/\(∀i (h:i < l.length),Sh5 w g (off+i * 5) (l[i]'h) (qs i))/\ ∀i (h:i < l.length),ShAt w w.heap.size (qs i) (l[i]'h)
theorem Z4G.next {w w':World} {P:Option Addr} {l:List Sh} (h:Z4G w P l) (hb:Below w.heap.size w w'):Z4G w' P l:=by
 obtain ⟨g,off,qs,h⟩:=h;rcases h with h | ⟨h1,h2,h3,h4⟩
 {exact ⟨g,off,qs,Or.inl h⟩}
 {exact ⟨g,off,qs,Or.inr ⟨h1,Nat.lt_of_lt_of_le h2 hb.size,fun i hi=>(h3 i hi).keep h2 hb,fun i hi=>(h4 i hi).next hb⟩⟩}
def wantSh (t:Sh):Want:=⟨fun v W=> ∃q:Ptr,v= .agg (Y8 t q)/\ShAt W W.heap.size q t,fun v w w' hb ⟨q,hv,h⟩=>⟨q,hv,h.next hb⟩⟩
end
end Go.Proofs.YtfgcocpdaghlnaaDoor
