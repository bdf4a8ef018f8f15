/- What the proofs of ExpandResolves want, part 10. -/
import Derived.Test.YtchklpedlbkgaaaDoorK0n9
set_option linter.unusedVariables false
set_option linter.unusedSimpArgs false
set_option linter.unusedSectionVars false
set_option maxRecDepth 100000
set_option maxHeartbeats 16000000
namespace Go.Proofs.YtchklpedlbkgaaaDoor
section
open Go.RowKit Shp
open Expd (Bd fill keys find put Z0w)
def ResIs (w:World) (L:List Bd) (t:Sh) (e:Ending) (w':World):Prop:=
 ∃q',e= .returned (.tuple #[shV (Expd.resolve L t).1 q',.int .i64 (Expd.resolve L t).2])/\ShAt w' w'.heap.size q' (Expd.resolve L t).1/\Below w.heap.size w w'
theorem Z1s (w:World) (B:Nat):ShAt w B ⟨none,0,none,0⟩ Z0w:=by
 refine .mk _ _ 0 0 (fun _=>⟨none,0,none,0⟩) ⟨?_, ?_, ?_, ?_, ?_, ?_, ?_,fun _=>rfl,fun _=>rfl⟩ (Or.inl rfl) (Or.inl rfl) (fun i h=>absurd h (by simp[Z0w])) (fun i h=>absurd h (by simp[Z0w])) <;> simp[Z0w]
theorem Z2c (t:Sh) (q:Ptr) (L:List Bd) (A:Option Addr) (cap:Nat) (w:World) (hq:ShAt w w.heap.size q t) (hL:BdsAt w w.heap.size A L) (hl:L.length<=1000) (hg:WGlobs w):
 Calls Tryd.prog 9 #[shV t q,.slice A L.length cap] w (ResIs w L t):=by
 have hb0:Below w.heap.size w (fdW w t q):=Z0d (Z00 _ _) _;have c0:Sh5 (fdW w t q) w.heap.size 0 t q:=⟨by simp[fdW,go_sem],by simp[fdW,go_sem],by simp[fdW,go_sem],by simp[fdW,go_sem],by simp[fdW,go_sem]⟩;have hz0:w.heap.size+1 < (fdW w t q).heap.size:=by simp[fdW]
 have HB0:=Y1 hb0;have HZ0:=Y1 hz0;have HQ:=Y1 (hq.next hb0);have HC0:=Y1 c0;have HR0:=Y1 (Z4S w t q);have HLL:=Y1 (hL.next hb0);have HG:=Y1 (hg.next hb0);have HLN:=Y1 hl;obtain ⟨e0,e1,e2,e3,e4⟩:=c0;clear hb0 hq hL hl hg hz0;unfold shV;go_enter Tryd.func9,Tryd.ntmps9
 go_wp2_with fail
 change Calls _ _ _ (fdW w t q) _;generalize fdW w t q=W0 at HB0 HZ0 HQ HC0 HR0 HLL HG e0 e1 e2 e3 e4 ⊢;refine (Z2E t q W0 HQ.out HG.out).mono ?_;rintro e W1 ⟨rfl,hb1⟩;have hz1:=hb1.size;have HB1:=Y1 (HB0.out.trans (hb1.mono (by have:=HB0.out.size; omega)));have hR1:=HR0.out.keep hb1 HZ0.out;have HC1:=Y1 (HC0.out.keep (show w.heap.size < W0.heap.size by have:=HZ0.out; omega) hb1);have HQ1:=Y1 (HQ.out.next hb1);have HL1:=Y1 (HLL.out.next hb1);have HG1:=Y1 (HG.out.next hb1);have HR1:=Y1 hR1;have HZ1:=Y1 (show w.heap.size+1 < W1.heap.size by have:=HZ0.out; omega);clear hb1 hR1 hz1 e0 e1 e2 e3 e4 HB0 HZ0 HQ HC0 HR0 HLL HG;by_cases hc:check t=0
 {rw[hc];obtain ⟨hz,_,hr⟩:=Z0a hc;have HCK:=Y1 hc;obtain ⟨x0,x1,x2,x3,x4⟩:=HC1.out;simp only[Nat.zero_add] at x0 x1 x2 x3 x4;have HF:=Y1 (Z7a t q L A cap W1 HQ1.out hz hr HL1.out HLN.out);clear hc hz hr;unfold shV at HF
  go_wp2_with fail
  refine HF.out.mono ?_;rintro e W2 ⟨u,q',ok,rfl,hok,hu,hat,hb2⟩;have hb3:=Z02 hb2 (Z00 W2 (.cells (Y8 u q') 25));have hB3:=Z06 W2 u q';have hlt:=Nat.lt_of_lt_of_le HZ1.out hb2.size;have hat3:=hat.next (Z00 W2 (.cells (Y8 u q') 25));have hR2:=HR1.out.keep hb2 HZ1.out;have hR3:=HR1.out.keep hb3 HZ1.out;have hne:w.heap.size+1≠W2.heap.size:=by omega
  have HOK:=Y1 hok;have HU:=Y1 hu;clear hok hu hat hb2 HF x0 x1 x2 x3 x4;simp only;cases ok with
  | false=>
   obtain ⟨W3,hW3⟩: ∃W3,W2.alloc (.cells (Y8 u q') 25)=W3:=⟨_,rfl⟩;rw[hW3] at hR3 hb3;obtain ⟨⟨r0,r1,r2,r3,r4⟩,rf⟩:=hR3;have y0:=rf 0;have y1:=rf 1;have y2:=rf 2;have y3:=rf 3;have y4:=rf 4;have HB3:=Y1 hb3;clear rf hat3 hB3 hb3 hR2;go_wp2;have hn:put (find L) t=none:=by
    have:=HOK.out;cases e:put (find L) t with
    | none=>rfl
    | some y=>rw[e] at this; cases this
   have hr:=Expd.resolve_name HCK.out hn;refine bodyPost_ret (v:= .tuple #[.agg #[.int .i64 0,.string ⟨#[]⟩,.string ⟨#[]⟩,.slice none 0 0,.slice none 0 0],.int .i64 110]) (by simp[results,Tryd.results9,go_sem,r0,r1,r2,r3,r4]) rfl ?_;refine ⟨⟨none,0,none,0⟩, ?_, ?_, ?_⟩
   {rw[hr]; rfl}
   {rw[hr]; exact Z1s _ _}
   {exact Z0e (HB1.out.trans (HB3.out.mono (by have:=HB1.out.size; omega))) (Nat.le_succ _) _ _ _ _ _}
  | true=>
   have hput:=HU.out rfl;have HP:=Y1 hput;have HB3:=Y1 hb3;have HR3:=Y1 hR3;have HA3:=Y1 hat3;have HG3:=Y1 (HG1.out.next hb3);have HBX:=Y1 hB3;obtain ⟨_,⟨b0,b1,b2,b3,b4⟩,_⟩:=hB3;clear hput hb3 hR3 hR2 hat3 HOK HU;have HL3:=Y1 (show w.heap.size+1 < (W2.alloc (.cells (Y8 u q') 25)).heap.size from by simp; omega);have HW2:=Y1 hlt;clear hlt hne
   go_wp2_with fail
   generalize W2.alloc (.cells (Y8 u q') 25)=W3 at HB3 HR3 HA3 HG3 HBX HL3 b0 b1 b2 b3 b4 ⊢;refine (Z2E u q' W3 HA3.out HG3.out).mono ?_;rintro e W4 ⟨rfl,hb4⟩;have hR4:=HR3.out.keep hb4 HL3.out;have HB4:=Y1 ((HB1.out.trans (HB3.out.mono (by have:=HB1.out.size; omega))).trans (hb4.mono (by have:=HB1.out.size; have:=HB3.out.size; omega)));have HA4:=Y1 (HA3.out.next hb4);have HG4:=Y1 (HG3.out.next hb4);have HL4:=Y1 (Nat.lt_of_lt_of_le HL3.out hb4.size);have HR4:=Y1 hR4;clear b0 b1 b2 b3 b4;obtain ⟨_,⟨b0,b1,b2,b3,b4⟩,_⟩:=HBX.out.next hb4;clear hR4 hb4 HB3 HR3 HA3 HG3 HBX HL3;by_cases hcu:check u=0
   {rw[hcu];have HCU:=Y1 hcu;have HS:=Y1 (Z5b u q' W4 HA4.out HG4.out hcu);clear hcu
    go_wp2_with fail
    refine HS.out.mono ?_;rintro e W5 ⟨q5,F5,rfl,ho5,hF5,hb5⟩;obtain ⟨⟨r0,r1,r2,r3,r4⟩,rf⟩:=HR4.out.keep hb5 HL4.out;have y0:=rf 0;have y1:=rf 1;have y2:=rf 2;have y3:=rf 3;have y4:=rf 4;have HO5:=Y1 ho5;have HF5:=Y1 hF5;have HB5:=Y1 (HB4.out.trans (hb5.mono (by have:=HB4.out.size; omega)));obtain ⟨z,hz'⟩: ∃z,z=sorted u:=⟨_,rfl⟩;rw[<-hz'] at HO5 ⊢;have HZ:=Y1 hz';clear rf ho5 hF5 hb5 hz' b0 b1 b2 b3 b4;go_wp2;refine bodyPost_ret (v:= .tuple #[.agg (Y8 z q5),.int .i64 0]) (by simp[results,Tryd.results9,go_sem,r0,r1,r2,r3,r4]) rfl ?_;have hr:=Expd.resolve_ok HCK.out HP.out HCU.out;rw[<-HZ.out] at hr;have h5:=Z16 (b:=w.heap.size+1) HO5.out (fun x hx e=>by have:=HF5.out x hx; have:=HL4.out; omega) (.int .i64 z.kind) (.string ⟨z.of_.toArray⟩) (.string ⟨z.name.toArray⟩) (.slice q5.A z.names.length q5.c) (.slice q5.P z.parts.length q5.d);refine ⟨q5, ?_, ?_, ?_⟩
    {rw[hr]}
    {rw[hr]; exact h5.at_ h5.lt}
    {exact Z0e HB5.out (Nat.le_succ _) _ _ _ _ _}}
   {have hcu': (check u !=0)=true:=by simpa using hcu
    have HCU:=Y1 hcu;obtain ⟨⟨r0,r1,r2,r3,r4⟩,rf⟩:=HR4.out;have y0:=rf 0;have y1:=rf 1;have y2:=rf 2;have y3:=rf 3;have y4:=rf 4;clear rf hcu;go_wp2;refine bodyPost_ret (v:= .tuple #[.agg #[.int .i64 0,.string ⟨#[]⟩,.string ⟨#[]⟩,.slice none 0 0,.slice none 0 0],.int .i64 (check u)]) (by simp[results,Tryd.results9,go_sem,r0,r1,r2,r3,r4]) rfl ?_;have hr:=Expd.resolve_great HCK.out HP.out HCU.out;refine ⟨⟨none,0,none,0⟩, ?_, ?_, ?_⟩
    {rw[hr]; rfl}
    {rw[hr]; exact Z1s _ _}
    {exact Z0e HB4.out (Nat.le_succ _) _ _ _ _ _}}}
 {have hc': (check t !=0)=true:=by simpa using hc
  have HCK:=Y1 hc;obtain ⟨⟨r0,r1,r2,r3,r4⟩,rf⟩:=HR1.out;have y0:=rf 0;have y1:=rf 1;have y2:=rf 2;have y3:=rf 3;have y4:=rf 4;clear rf hc;go_wp2;refine bodyPost_ret (v:= .tuple #[.agg #[.int .i64 0,.string ⟨#[]⟩,.string ⟨#[]⟩,.slice none 0 0,.slice none 0 0],.int .i64 (check t)]) (by simp[results,Tryd.results9,go_sem,r0,r1,r2,r3,r4]) rfl ?_;refine ⟨⟨none,0,none,0⟩, ?_, ?_, ?_⟩
  {rw[Expd.resolve_bad HCK.out]; rfl}
  {rw[Expd.resolve_bad HCK.out]; exact Z1s _ _}
  {exact Z0e HB1.out (Nat.le_succ _) _ _ _ _ _}}
end
section
open Go.RowKit Shp
theorem Z8K (t:Sh): ∀(q:Ptr) (w:World),ShAt w w.heap.size q t->deep t<=1000000->
 Calls Tryd.prog 37 #[.agg (Y8 t q)] w
  fun e w'=>e= .returned (.int .i64 (deep t:Int))/\Below w.heap.size w w':=by
 induction t using Sh.ind with
 | h t ih=>
 intro q w hq hd;have HM:=Y1 hq.small.m;have HP:=Y1 hq.part;have HD:Hid (deep t=deeps t.parts+1):=Y1 (Z0h t);have hd2:deeps t.parts<=1000000:=by have:=HD.out; omega
 have hB:=Z06 w t q;have HB:=Y1 hB;have hb0:=Z00 w (.cells (Y8 t q) 25);have HB0:=Y1 hb0;clear hB hb0 hq hd;go_enter Tryd.func37,Tryd.ntmps37
 go_wp2_with fail
 generalize hW0:w.alloc (.cells (Y8 t q) 25)=W0 at HB HB0 ⊢;clear hW0
 go_loopw [3,4] (fun nn ii wr=> ∃i:Nat,ii= .int .i64 i/\i<=t.parts.length/\nn= .int .i64 (deeps (t.parts.take i):Int)/\Below W0.heap.size W0 wr) (fun _ i _=>t.parts.length - (intOf i).toNat)
 case atStart=>exact ⟨0,rfl,Nat.zero_le _,rfl,Below.refl _ _⟩
 case round=>
  obtain ⟨i,rfl,hi,rfl,hb⟩:=hrel;have HBX:=Y1 (HB.out.next hb);have hm:=HM.out;obtain ⟨_,⟨_,_,_,_,c4⟩,_⟩:=HB.out.next hb;by_cases hlt:i < t.parts.length
  {rcases HP.out with h0 | ⟨g,off,qs,hqP,hg,hc,hr⟩
   {omega}
   {have hbw:Below w.heap.size w wr:=HB0.out.trans (hb.mono HB0.out.size);obtain ⟨x,hx⟩: ∃x,x=t.parts[i]:=⟨_,rfl⟩;obtain ⟨p0,p1,p2,p3,p4⟩:=(hc i hlt).keep hg hbw;have hat:ShAt wr wr.heap.size (qs i) x:=by rw[hx]; exact (hr i hlt).next hbw
    have ihx:=ih t.parts[i] (List.getElem_mem _) (qs i) wr;have hdx:deep x<=1000000:=by rw[hx]; exact Nat.le_trans (Z0y (List.getElem_mem _)) hd2
    have HN:Hid (deeps (t.parts.take (i+1))=max (deeps (t.parts.take i)) (deep x)):=Y1 (by rw[hx]; exact Z2W hlt);rw[<-hx] at p0 p1 p2 p3 p4 ihx;have IH:=ihx hat hdx;have htk:=Z2Y t.parts i;rw[hqP] at c4;clear hx hc hr hat ihx hdx hd2 ih hqP;have hi1: (i:Int) < (t.parts.length:Int):=by omega
    generalize deeps (t.parts.take i)=a at HN htk ⊢;by_cases hgt: (a:Int) < (deep x:Int)
    all_goals
     go_wp2_with (refine IH.mono ?_; rintro e w' ⟨rfl,hb'⟩)
     go_wp2
     go_roundw
     case rel=>exact ⟨i+1,by go_num,by omega,by rw[HN.out]; go_num,hb.trans (hb'.mono hb.size)⟩
     case measure=>simp[intOf]; omega}}
  {have hie:i=t.parts.length:=by omega
   have HE:Hid (deeps (t.parts.take i)=deeps t.parts):=Y1 (by rw[hie,List.take_length]);have htk:=Z2Y t.parts i;clear hie;go_wp2;go_ret;exact ⟨by rw[HE.out,HD.out]; go_num,HB0.out.trans (hb.mono HB0.out.size)⟩}
theorem Z7p {l:List Sh} {i m:Nat} (hi:i < l.length) (h:1+sizes (l.take i)<=m):min (1+sizes (l.take i)) (m+1)+sizeTo (m - min (1+sizes (l.take i)) (m+1)) (l[i]'hi)=min (1+sizes (l.take (i+1))) (m+1):=by
 rw[Z1v hi]; unfold sizeTo; omega
theorem Z4H (t:Sh): ∀(q:Ptr) (m:Nat) (w:World),ShAt w w.heap.size q t->m<=1000000->
 Calls Tryd.prog 12 #[.agg (Y8 t q),.int .i64 (m:Int)] w
  fun e w'=>e= .returned (.int .i64 (sizeTo m t:Int))/\Below w.heap.size w w':=by
 induction t using Sh.ind with
 | h t ih=>
 intro q m w hq hmm;have HM:=Y1 hq.small.m;have HP:=Y1 hq.part;have HZ:Hid (size t=1+sizes t.parts):=Y1 (size_eq t);have hB:=Z06 w t q;have HB:=Y1 hB;have hb0:=Z00 w (.cells (Y8 t q) 25);have HB0:=Y1 hb0;clear hB hb0 hq;go_enter Tryd.func12,Tryd.ntmps12
 go_wp2_with fail
 generalize hW0:w.alloc (.cells (Y8 t q) 25)=W0 at HB HB0 ⊢;clear hW0
 go_loopw [5,6] (fun nn ii wr=> ∃i:Nat,ii= .int .i64 i/\i<=t.parts.length/\nn= .int .i64 ((min (1+sizes (t.parts.take i)) (m+1):Nat):Int)/\Below W0.heap.size W0 wr) (fun _ i _=>t.parts.length - (intOf i).toNat)
 case atStart=>exact ⟨0,rfl,Nat.zero_le _,by rw[List.take_zero]; show Value.int .i64 1= .int .i64 ((min (1+0) (m+1):Nat):Int); rw[Nat.min_eq_left (by omega)]; rfl,Below.refl _ _⟩
 case round=>
  obtain ⟨i,rfl,hi,rfl,hb⟩:=hrel;have hm:=HM.out;obtain ⟨_,⟨_,_,_,_,c4⟩,_⟩:=HB.out.next hb;obtain ⟨n,hn⟩: ∃n,n=min (1+sizes (t.parts.take i)) (m+1):=⟨_,rfl⟩;rw[<-hn];have HE:=Y1 hn;have hn1:1<=n:=by omega
  have hn2:n<=m+1:=by omega
  by_cases hlt:i < t.parts.length
  {have hi1: (i:Int) < (t.parts.length:Int):=by omega
   by_cases hnm:n<=m
   {rcases HP.out with h0 | ⟨g,off,qs,hqP,hg,hc,hr⟩
    {omega}
    {have hbw:Below w.heap.size w wr:=HB0.out.trans (hb.mono HB0.out.size);obtain ⟨x,hx⟩: ∃x,x=t.parts[i]:=⟨_,rfl⟩;obtain ⟨p0,p1,p2,p3,p4⟩:=(hc i hlt).keep hg hbw;have hat:ShAt wr wr.heap.size (qs i) x:=by rw[hx]; exact (hr i hlt).next hbw
     have ihx:=ih t.parts[i] (List.getElem_mem _) (qs i) (m - n) wr;have HN:Hid (n+sizeTo (m - n) x=min (1+sizes (t.parts.take (i+1))) (m+1)):=Y1 (by rw[hx,hn]; exact Z7p hlt (by omega));rw[<-hx] at p0 p1 p2 p3 p4 ihx;have IH:=ihx hat (by omega);rw[show ((m - n:Nat):Int)=(m:Int) - (n:Int) from by omega] at IH;rw[hqP] at c4;have hsz:sizeTo (m - n) x<=m - n+1:=Nat.min_le_right _ _;have d2:decide (n<=m)=true:=decide_eq_true (by omega);have d3:decide (i < t.parts.length)=true:=decide_eq_true (by omega);have hnm2: (n:Int)<=(m:Int):=by omega
     have hmm2: (m:Int)<=1000000:=by omega
     generalize sizeTo (m - n) x=z at IH HN hsz;have hz2: (n:Int)+(z:Int)<=1000001:=by omega
     clear hx hc hr hat ihx ih hqP hn
     go_wp2_with (refine IH.mono ?_; rintro e w' ⟨rfl,hb'⟩)
     go_roundw
     case rel=>exact ⟨i+1,by go_num,by omega,by rw[<-HN.out]; go_num,hb.trans (hb'.mono hb.size)⟩
     case measure=>simp[intOf]; omega}}
   {have HF:Hid (n=sizeTo m t):=Y1 (by
     have:=Z2X t.parts i;unfold sizeTo; have:=HZ.out; omega)
    have d2:decide (n<=m)=false:=decide_eq_false (by omega);have d3:decide (i < t.parts.length)=true:=decide_eq_true (by omega);clear hn;go_wp2;go_ret;exact ⟨by rw[<-HF.out]; rfl,HB0.out.trans (hb.mono HB0.out.size)⟩}}
  {have HF:Hid (n=sizeTo m t):=Y1 (by
    rw[show i=t.parts.length from by omega,List.take_length] at hn;unfold sizeTo; have:=HZ.out; omega)
   have d3:decide (i < t.parts.length)=false:=decide_eq_false (by omega);clear hn;go_wp2;go_ret;exact ⟨by rw[<-HF.out]; rfl,HB0.out.trans (hb.mono HB0.out.size)⟩}
end
section
open Go.RowKit Shp
open Expd (Bd)
def smallB (L:List Bd):Bool:=decide (L.length<=60)&&L.all (fun b=>decide (size b.sh<=800))
section
variable {L : List Bd} (h : smallB L = true)
include L h
theorem Z8L:L.length<=60:=by
 unfold smallB at h;simp only[Bool.and_eq_true,decide_eq_true_eq] at h;exact h.1
theorem Z7q: ∀b∈L,size b.sh<=800:=fun b hb=>by
 unfold smallB at h;simp only[Bool.and_eq_true,List.all_eq_true,decide_eq_true_eq] at h;exact h.2 b hb
end
theorem Z8M (L:List Bd) (A:Option Addr) (cap:Nat) (w:World) (hL:BdsAt w w.heap.size A L) (hl:L.length<=9223372036854775807):
 Y9 7 #[.slice A L.length cap] w (.bool (smallB L)):=by
 by_cases h60:60 < L.length
 {have hF:smallB L=false:=by unfold smallB; rw[decide_eq_false (by omega)]; rfl
  have h60': (60:Int) < (L.length:Int):=by omega
  rw[hF];clear hF hL;go_enter Tryd.func7,Tryd.ntmps7;go_wp2;go_ret;exact ⟨rfl,Below.refl _ _⟩}
 {have h60': ¬(60:Int) < (L.length:Int):=by omega
  have HL:=Y1 hL;clear hL;go_enter Tryd.func7,Tryd.ntmps7
  go_wp2_with fail
  go_loopw [3] (fun i wr=> ∃k:Nat,k<=L.length/\i= .int .i64 (k:Int)/\Hid (∀j (hj:j < L.length),j < k->size (L[j]'hj).sh<=800)/\Hid (Below w.heap.size w wr)) (fun i _=>L.length - (intOf i).toNat)
  case atStart=>exact ⟨0,Nat.zero_le _,rfl,Y1 (fun _ _ h=>absurd h (by omega)),Y1 Y2⟩
  case round=>
   obtain ⟨k,hk,rfl,hS,HB⟩:=hrel;by_cases hkl:k < L.length
   {have hkl': (k:Int) < (L.length:Int):=by omega
    obtain ⟨g,off,qs,hA,hg,hc⟩:=(HL.out.keep HB.out (Nat.le_refl _)).resolve_left (by omega);subst hA;obtain ⟨x0,x1,⟨z0,z1,z2,z3,z4⟩,hat,_⟩:=hc k hkl;change wr.cell? ⟨g,off+k * 7+3,none⟩=_ at z1;change wr.cell? ⟨g,off+k * 7+4,none⟩=_ at z2;change wr.cell? ⟨g,off+k * 7+5,none⟩=_ at z3;change wr.cell? ⟨g,off+k * 7+6,none⟩=_ at z4;obtain ⟨bk,hbk⟩: ∃bk,bk=L[k]'hkl:=⟨_,rfl⟩;rw[<-hbk] at x0 x1 z0 z1 z2 z3 z4 hat;have hcl:=Z4H bk.sh (qs k) 800 wr (hat.of HB.out.size (fun _ _ _=>rfl)) (by omega);rw[show (((800:Nat):Int))=(800:Int) from rfl] at hcl;have HC:=Y1 hcl;have HBK:=Y1 hbk;clear hc hat hg hbk hcl x0 x1
    go_wp2_with fail
    refine HC.out.mono ?_;rintro e wk ⟨rfl,hb2⟩;have HB2:=Y1 (HB.out.trans (hb2.mono HB.out.size));clear hb2 HC z0 z1 z2 z3 z4;by_cases h8:800 < size bk.sh
    {have hx: (800:Int) < (sizeTo 800 bk.sh:Int):=by unfold sizeTo; omega
     have hF:smallB L=false:=by
      cases hs:smallB L with
      | false=>rfl
      | true=>
       have:=Z7q hs (L[k]'hkl) (List.getElem_mem hkl);rw[<-HBK.out] at this;omega
     go_wp2;refine bodyPost_ret (v:= .bool false) (by simp[results,Tryd.results7,go_sem]) rfl ?_;exact ⟨by rw[hF],HB2.out⟩}
    {have hx: ¬(800:Int) < (sizeTo 800 bk.sh:Int):=by unfold sizeTo; omega
     have HS2:Hid (∀j (hj:j < L.length),j < k+1->size (L[j]'hj).sh<=800):=Y1 (fun j hj hjk=>by
      by_cases e:j=k
      {subst e; rw[<-HBK.out]; omega}
      · exact hS.out j hj (by omega))
     clear hS h8;go_wp2
     go_roundw
     case rel=>exact ⟨k+1,by omega,by go_num,HS2,HB2⟩
     case measure=>simp[intOf]; omega}}
   {obtain rfl:k=L.length:=by omega
    have hkl': ¬(L.length:Int) < (L.length:Int):=by omega
    have hT:smallB L=true:=by
     unfold smallB;rw[decide_eq_true (by omega),Bool.true_and,List.all_eq_true];intro b hb;obtain ⟨j,hj,rfl⟩:=List.getElem_of_mem hb;rw[decide_eq_true_eq];exact hS.out j hj hj
    clear hS;go_wp2;refine bodyPost_ret (v:= .bool true) (by simp[results,Tryd.results7,go_sem]) rfl ?_;exact ⟨by first | rfl | rw[hT],HB.out⟩}}
end
section
open Go.RowKit Shp
section
variable (t : Sh) (q : Ptr) (w : World) (hq : ShAt w w.heap.size q t)
include t q w hq
theorem Z7r (hk: ¬(t.kind=9\/t.kind=10)):
 Calls Tryd.prog 53 #[.agg (Y8 t q)] w
  fun e w'=>e= .returned (.bool (fits t))/\Below w.heap.size w w':=by
 have HS:=Y1 hq.small;have HA:=Y1 hq.strs;have hB:=Z06 w t q;have HB:=Y1 hB;have hb0:=Z00 w (.cells (Y8 t q) 25);have HB0:=Y1 hb0;have h9: (t.kind==9)=false:=by rw[beq_eq_false_iff_ne]; omega
 have h10: (t.kind==10)=false:=by rw[beq_eq_false_iff_ne]; omega
 have HK:=Y1 hk;clear hB hb0 hq hk;obtain ⟨_,⟨c0,c1,c2,c3,c4⟩,_⟩:=HB.out;cases ho: (t.of_== [])
 {have HF:=Y1 (Z0Q HK.out (Zb4 ho));have hoe:=Z0x ho;clear ho;go_enter Tryd.func53,Tryd.ntmps53;go_wp2;go_ret;exact ⟨by rw[HF.out]; rfl,HB0.out⟩}
 {have hoe:=Z0x ho;cases hn: (t.name== [])
  {have HF:=Y1 (Z0Q HK.out (Z9j hn));have hne:=Z0x hn;clear ho hn;go_enter Tryd.func53,Tryd.ntmps53;go_wp2;go_ret;exact ⟨by rw[HF.out]; rfl,HB0.out⟩}
  {have hne:=Z0x hn;have HBA:Hid (bare t=true):=Y1 ((Z28 t).2 ⟨by simpa using ho,by simpa using hn⟩);clear ho hn;by_cases h67:t.kind=6\/t.kind=7
   {have HF:=Y1 (Z27 HBA.out h67);have h6: (t.kind==6)=true\/(t.kind==6)=false/\(t.kind==7)=true:=by rcases h67 with h | h <;> simp[h]
    have hA:=(HA.out.next HB0.out);have hr:=fun W h=>Z7d q.A q.c t.names t.parts.length W h HS.out.l HS.out.ns;have hw:=hr _ hA;clear h67 hA hr;rcases h6 with h6 | ⟨h6,h7⟩
    all_goals
     go_enter Tryd.func53,Tryd.ntmps53
     go_wp2_with fail
     refine hw.mono ?_;rintro e w' ⟨rfl,hb'⟩;go_wp2;go_ret;exact ⟨by rw[HF.out]; rfl,Z02 HB0.out hb'⟩}
   {have H67:=Y1 h67;have h6: (t.kind==6)=false:=by rw[beq_eq_false_iff_ne]; omega
    have h7: (t.kind==7)=false:=by rw[beq_eq_false_iff_ne]; omega
    clear h67;by_cases hz:0 < t.names.length
    {have HF:=Y1 (Z1r HK.out HBA.out H67.out hz);have hz2: (0:Int) < (t.names.length:Int):=by omega
     go_enter Tryd.func53,Tryd.ntmps53;go_wp2;go_ret;exact ⟨by rw[HF.out]; rfl,HB0.out⟩}
    {have HZ:=Y1 hz;have hz2: ¬(0:Int) < (t.names.length:Int):=by omega
     have hz3: ¬0 < t.names.length:=hz;by_cases hk8:t.kind=8
     {have HF:=Y1 (Z46 HBA.out hk8 HZ.out);have h8: (t.kind==8)=true:=by simp[hk8]
      clear hk8;go_enter Tryd.func53,Tryd.ntmps53;go_wp2;go_ret;exact ⟨Z0j (by rw[HF.out,Bool.eq_iff_iff]; simp; try omega),HB0.out⟩}
     {have h8: (t.kind==8)=false:=by rw[beq_eq_false_iff_ne]; omega
      by_cases hk5:t.kind=5
      {have HF:=Y1 (Z3s HBA.out hk5 HZ.out);have h5: (t.kind==5)=true:=by simp[hk5]
       clear hk8 hk5;go_enter Tryd.func53,Tryd.ntmps53;go_wp2;go_ret;exact ⟨Z0j (by rw[HF.out,Bool.eq_iff_iff]; simp; try omega),HB0.out⟩}
      {have h5: (t.kind==5)=false:=by rw[beq_eq_false_iff_ne]; omega
       have HF:=Y1 (Z2j HBA.out HK.out H67.out HZ.out hk8 hk5);clear hk8 hk5;cases e1:decide (1<=t.kind)
       {have HF2:Hid (fits t=false):=Y1 (by rw[HF.out,e1]; rfl);go_enter Tryd.func53,Tryd.ntmps53;go_wp2;go_ret;exact ⟨by rw[HF2.out]; rfl,HB0.out⟩}
       {cases e2:decide (t.kind<=4)
        {have HF2:Hid (fits t=false):=Y1 (by rw[HF.out,e1,e2]; rfl);go_enter Tryd.func53,Tryd.ntmps53;go_wp2;go_ret;exact ⟨by rw[HF2.out]; rfl,HB0.out⟩}
        {have HF2:Hid (fits t=decide (t.parts.length=0)):=Y1 (by rw[HF.out,e1,e2]; rfl);go_enter Tryd.func53,Tryd.ntmps53;go_wp2;go_ret;exact ⟨Z0j (by rw[HF2.out,Bool.eq_iff_iff]; simp),HB0.out⟩}}}}}}}}
theorem Z8N:
 Calls Tryd.prog 53 #[.agg (Y8 t q)] w
  fun e w'=>e= .returned (.bool (fits t))/\Below w.heap.size w w':=by
 by_cases hk:t.kind=9\/t.kind=10
 {exact Z7j t q w hq hk}
 {exact Z7r t q w hq hk}
end
theorem Z7s (t:Sh): ∀(q:Ptr) (w:World),ShAt w w.heap.size q t->
 Calls Tryd.prog 38 #[.agg (Y8 t q)] w
  fun e w'=>e= .returned (.bool (right t))/\Below w.heap.size w w':=by
 induction t using Sh.ind with
 | h t ih=>
 intro q w hq;have HM:=Y1 hq.small.m;have HP:=Y1 hq.part;have HD:Hid (right t=(fits t&&rights t.parts)):=Y1 (Z1g t);have hB:=Z06 w t q;have HB:=Y1 hB;have hb0:=Z00 w (.cells (Y8 t q) 25);have HB0:=Y1 hb0;have hf:=Z8N t q _ (hq.next hb0);have HQ:=Y1 hq;clear hb0 hq;obtain ⟨_,⟨c0,c1,c2,c3,c4⟩,_⟩:=hB;have ih:=ih;cases hft:fits t with
 | false=>
  have HF:Hid (right t=false):=Y1 (by rw[HD.out,hft]; rfl);rw[hft] at hf;clear hft ih;go_enter Tryd.func38,Tryd.ntmps38
  go_wp2_with fail
  refine hf.mono ?_;rintro e w' ⟨rfl,hb'⟩;go_wp2;go_ret;exact ⟨by rw[HF.out]; rfl,Z02 HB0.out hb'⟩
 | true=>
  have HFT:=Y1 hft;rw[hft] at hf;clear hft;go_enter Tryd.func38,Tryd.ntmps38
  go_wp2_with fail
  refine hf.mono ?_;rintro e W0 ⟨rfl,hb'⟩;have HB1:=Y1 (HB.out.next hb');have HBW:Hid (Below w.heap.size w W0):=Y1 (Z02 HB0.out hb');clear hf hb' c0 c1 c2 c3 c4 HB HB0
  go_wp2_with fail
  go_loopw [3] (fun ii wr=> ∃i:Nat,ii= .int .i64 i/\i<=t.parts.length/\Hid (∀j (h:j < t.parts.length),j < i->right (t.parts[j]'h)=true)/\Below W0.heap.size W0 wr) (fun i _=>t.parts.length - (intOf i).toNat)
  case atStart=>exact ⟨0,rfl,Nat.zero_le _,Y1 (fun j _ hj=>absurd hj (by omega)),Below.refl _ _⟩
  case round=>
   obtain ⟨i,rfl,hi,HN,hb⟩:=hrel;have hm:=HM.out;obtain ⟨_,⟨c0,_,_,_,c4⟩,_⟩:=HB1.out.next hb;by_cases hlt:i < t.parts.length
   {rcases HP.out with h0 | ⟨g,off,qs,hqP,hg,hc,hr⟩
    {omega}
    {have hbw:Below w.heap.size w wr:=HBW.out.trans (hb.mono HBW.out.size);obtain ⟨x,hx⟩: ∃x,x=t.parts[i]:=⟨_,rfl⟩;obtain ⟨p0,p1,p2,p3,p4⟩:=(hc i hlt).keep hg hbw;have hat:ShAt wr wr.heap.size (qs i) x:=by rw[hx]; exact (hr i hlt).next hbw
     have ihx:=ih t.parts[i] (List.getElem_mem _) (qs i) wr;rw[<-hx] at p0 p1 p2 p3 p4 ihx;have IH:=ihx hat;rw[hqP] at c4;have HX:=Y1 hx;clear hx hc hr hat ihx ih hqP;have hi1: (i:Int) < (t.parts.length:Int):=by omega
     cases hox:right x with
     | false=>
      rw[hox] at IH;have HF:Hid (right t=false):=Y1 (Z9k (p:=x) (by rw[HX.out]; exact List.getElem_mem _) hox);clear hox
      go_wp2_with (refine IH.mono ?_; rintro e w' ⟨rfl,hb'⟩)
      go_ret;exact ⟨by rw[HF.out]; rfl,hbw.trans (hb'.mono hbw.size)⟩
     | true=>
      rw[hox] at IH;have HO:=Y1 hox;clear hox
      go_wp2_with (refine IH.mono ?_; rintro e w' ⟨rfl,hb'⟩)
      go_roundw
      case rel=>exact ⟨i+1,by go_num,by omega,Y1 (fun j hj hji=>by
       rcases Nat.lt_succ_iff_lt_or_eq.1 hji with h | rfl
       {exact HN.out j hj h}
       · rw[<-HX.out]; exact HO.out),hb.trans (hb'.mono hb.size)⟩
      case measure=>simp[intOf]; omega}}
   {have HF:Hid (right t=true):=Y1 (Z29 HFT.out (fun p hp=>by
     obtain ⟨j,hj,rfl⟩:=List.getElem_of_mem hp;exact HN.out j hj (by omega)))
    go_wp2;go_ret;exact ⟨by rw[HF.out]; rfl,HBW.out.trans (hb.mono HBW.out.size)⟩}
theorem Z8O {t:Sh} (h:400 < size t):sizeTo 400 t=401:=by unfold sizeTo; omega
theorem Za1 {t:Sh} (h: ¬400 < size t):sizeTo 400 t=size t:=by unfold sizeTo; omega
theorem Z2d (t:Sh) (q:Ptr) (w:World) (hq:ShAt w w.heap.size q t):
 Calls Tryd.prog 23 #[.agg (Y8 t q)] w
  fun e w'=>e= .returned (.int .i64 (check t))/\Below w.heap.size w w':=by
 have hB:=Z06 w t q;have HB:=Y1 hB;have hb0:=Z00 w (.cells (Y8 t q) 25);have HB0:=Y1 hb0;have hs:=Z4H t q 400 _ (hq.next hb0) (by omega);rw[show (((400:Nat):Int))=(400:Int) from rfl] at hs;have HQ:=Y1 hq;have HC:Hid (check t=if 400 < size t then 3 else if 40 < deep t then 91 else if right t=false then 70 else 0):=Y1 rfl;clear hb0 hq;obtain ⟨_,⟨c0,c1,c2,c3,c4⟩,_⟩:=hB;by_cases h4:400 < size t
 {rw[Z8O h4] at hs;have HF:Hid (check t=3):=Y1 (by rw[HC.out,if_pos h4]);clear h4;go_enter Tryd.func23,Tryd.ntmps23
  go_wp2_with fail
  refine hs.mono ?_;rintro e w' ⟨rfl,hb'⟩;go_wp2;go_ret;exact ⟨Z0Y HF.out.symm,Z02 HB0.out hb'⟩}
 {rw[Za1 h4] at hs;have h4': ¬(400:Int) < (size t:Int):=by omega
  have hdd:=Z1p t;go_enter Tryd.func23,Tryd.ntmps23
  go_wp2_with fail
  refine hs.mono ?_;rintro e w1 ⟨rfl,hb1⟩;have hbw:=Z02 HB0.out hb1;have HBW:=Y1 hbw;have HB1:=Y1 (HB.out.next hb1);have hd:=Z8K t q w1 (HQ.out.next hbw) (by omega);clear hs hb1 hbw c0 c1 c2 c3 c4;obtain ⟨_,⟨c0,c1,c2,c3,c4⟩,_⟩:=HB1.out;by_cases h40:40 < deep t
  {have HF:Hid (check t=91):=Y1 (by rw[HC.out,if_neg h4,if_pos h40]);have h40': (40:Int) < (deep t:Int):=by omega
   clear h4 h40 hdd
   go_wp2_with fail
   refine hd.mono ?_;rintro e w' ⟨rfl,hb'⟩;go_wp2;go_ret;exact ⟨Z0Y HF.out.symm,Z02 HBW.out hb'⟩}
  {have h40': ¬(40:Int) < (deep t:Int):=by omega
   have HF:Hid (check t=if right t=false then 70 else 0):=Y1 (by rw[HC.out,if_neg h4,if_neg h40]);clear h4 h40 hdd
   go_wp2_with fail
   refine hd.mono ?_;rintro e w2 ⟨rfl,hb2⟩;have hbw:=Z02 HBW.out hb2;have HBW2:=Y1 hbw;have HB2:=Y1 (HB1.out.next hb2);have hr:=Z7s t q w2 (HQ.out.next hbw);clear hd hb2 hbw c0 c1 c2 c3 c4;obtain ⟨_,⟨c0,c1,c2,c3,c4⟩,_⟩:=HB2.out;cases hrt:right t
   all_goals
    rw[hrt] at hr HF;clear hrt
    go_wp2_with fail
    refine hr.mono ?_;rintro e w' ⟨rfl,hb'⟩;go_wp2;go_ret;exact ⟨Z0Y (by rw[HF.out]; rfl),Z02 HBW2.out hb'⟩}}
theorem Zbg {l m:List Sh} (hl:l.length=m.length) (h: ∀j (hj:j < l.length),eqB (l[j]'hj) (m[j]'(by omega))=true):eqs l m=true:=
 (Z7A l m).2 (List.ext_getElem hl (fun j h1 h2=>(Z2K _ _).1 (h j h1)))
def headB (t u:Sh):Bool:=t.kind==u.kind&&t.of_==u.of_&&t.name==u.name&&decide (t.names.length=u.names.length)&&decide (t.parts.length=u.parts.length)
theorem ZaR {t u:Sh} (h:headB t u=false):eqB t u=false:=by
 apply Z4O;rintro rfl;simp[headB] at h
theorem Za2 {t u:Sh} {i:Nat} (hi:i < t.names.length) (hm:i < u.names.length) (h:t.names[i]'hi≠u.names[i]'hm):eqB t u=false:=by
 apply Z4O;rintro rfl;exact h rfl
theorem Za3 {t u:Sh} {i:Nat} (hi:i < t.parts.length) (hm:i < u.parts.length) (h:eqB (t.parts[i]'hi) (u.parts[i]'hm)=false):eqB t u=false:=by
 apply Z4O;rintro rfl;rw[Z2Z] at h; cases h
theorem Zbh {t u:Sh} (h:headB t u=true) (hn: ∀j (hj:j < t.names.length) (hj':j < u.names.length),t.names[j]'hj=u.names[j]'hj') (hp: ∀j (hj:j < t.parts.length) (hj':j < u.parts.length),eqB (t.parts[j]'hj) (u.parts[j]'hj')=true):eqB t u=true:=by
 simp only[headB,Bool.and_eq_true,beq_iff_eq,decide_eq_true_eq] at h;obtain ⟨⟨⟨⟨h1,h2⟩,h3⟩,h4⟩,h5⟩:=h;rw[Z99,h1,h2,h3];simp only[beq_self_eq_true,Bool.true_and,Bool.and_eq_true];exact ⟨beq_iff_eq.2 (List.ext_getElem h4 (fun j a b=>hn j a b)),Zbg h5 (fun j hj=>hp j hj (by omega))⟩
theorem Z7t (t u:Sh) (q r:Ptr) (w:World) (hq:ShAt w w.heap.size q t) (hr:ShAt w w.heap.size r u) (hh:headB t u=false):
 Y9 11 #[.agg (Y8 t q),.agg (Y8 u r)] w (.bool (eqB t u)):=by
 have HF:=Y1 (ZaR hh);have hb0:=Z00 w (.cells (Y8 t q) 25);have hb1:=Z0d hb0 (.cells (Y8 u r) 25);have HB1:=Y1 hb1;have hB:=(Z06 w t q).next (Z00 _ (.cells (Y8 u r) 25));have hC:=Z06 (w.alloc (.cells (Y8 t q) 25)) u r;obtain ⟨_,⟨c0,c1,c2,c3,c4⟩,_⟩:=hB;obtain ⟨_,⟨d0,d1,d2,d3,d4⟩,_⟩:=hC;clear hb0 hb1;rw[World.size_alloc] at d0 d1 d2 d3 d4;have HH:=Y1 hh;clear hh;have h4: ((t.names.length:Int)==(u.names.length:Int))=decide (t.names.length=u.names.length):=by rw[Bool.eq_iff_iff,beq_iff_eq,decide_eq_true_eq]; omega
 have h5: ((t.parts.length:Int)==(u.parts.length:Int))=decide (t.parts.length=u.parts.length):=by rw[Bool.eq_iff_iff,beq_iff_eq,decide_eq_true_eq]; omega
 unfold headB at HH;rw[<-h4, <-h5] at HH;clear h4 h5;cases e1: (t.kind==u.kind)
 {have n1: (t.kind !=u.kind)=true:=by unfold bne; rw[e1]; rfl
  go_enter Tryd.func11,Tryd.ntmps11;go_wp2;go_ret;exact ⟨by rw[HF.out]; rfl,HB1.out⟩}
 {have n1: (t.kind !=u.kind)=false:=by unfold bne; rw[e1]; rfl
  rw[e1,Bool.true_and] at HH;cases e2: (t.of_==u.of_)
  {have n2: (t.of_ !=u.of_)=true:=by unfold bne; rw[e2]; rfl
   go_enter Tryd.func11,Tryd.ntmps11;go_wp2;go_ret;exact ⟨by rw[HF.out]; rfl,HB1.out⟩}
  {have n2: (t.of_ !=u.of_)=false:=by unfold bne; rw[e2]; rfl
   rw[e2,Bool.true_and] at HH;cases e3: (t.name==u.name)
   {have n3: (t.name !=u.name)=true:=by unfold bne; rw[e3]; rfl
    go_enter Tryd.func11,Tryd.ntmps11;go_wp2;go_ret;exact ⟨by rw[HF.out]; rfl,HB1.out⟩}
   {have n3: (t.name !=u.name)=false:=by unfold bne; rw[e3]; rfl
    rw[e3,Bool.true_and] at HH;cases e4: ((t.names.length:Int)==(u.names.length:Int))
    {have n4: ((t.names.length:Int) !=(u.names.length:Int))=true:=by unfold bne; rw[e4]; rfl
     go_enter Tryd.func11,Tryd.ntmps11;go_wp2;go_ret;exact ⟨by rw[HF.out]; rfl,HB1.out⟩}
    {have n4: ((t.names.length:Int) !=(u.names.length:Int))=false:=by unfold bne; rw[e4]; rfl
     rw[e4,Bool.true_and] at HH;have e5:=HH.out;have n5: ((t.parts.length:Int) !=(u.parts.length:Int))=true:=by unfold bne; rw[e5]; rfl
     go_enter Tryd.func11,Tryd.ntmps11;go_wp2;go_ret;exact ⟨by rw[HF.out]; rfl,HB1.out⟩}}}}
theorem Z3Z (t:Sh): ∀(u:Sh) (q r:Ptr) (w:World),ShAt w w.heap.size q t->ShAt w w.heap.size r u->
 Y9 11 #[.agg (Y8 t q),.agg (Y8 u r)] w (.bool (eqB t u)):=by
 induction t using Sh.ind with
 | h t ih=>
 intro u q r w hq hr;cases hh:headB t u with
 | false=>exact Z7t t u q r w hq hr hh
 | true=>
 have HH:=Y1 hh;have hs:=hh;simp only[headB,Bool.and_eq_true,beq_iff_eq,decide_eq_true_eq] at hs;obtain ⟨⟨⟨⟨g1,g2⟩,g3⟩,g4⟩,g5⟩:=hs;have HG4:=Y1 g4;have HG5:=Y1 g5;have HL:=Y1 hq.small.l;have HM:=Y1 hq.small.m;have HP:=Y1 hq.part;have HR:=Y1 hr.part;have HSN:=Y1 hq.strs;have HSM:=Y1 hr.strs;have hb0:=Z00 w (.cells (Y8 t q) 25);have hb1:=Z0d hb0 (.cells (Y8 u r) 25);have HB1:=Y1 hb1;have hB:=(Z06 w t q).next (Z00 _ (.cells (Y8 u r) 25));have hC:=Z06 (w.alloc (.cells (Y8 t q) 25)) u r;rw[World.size_alloc] at hC;have HB:=Y1 hB;have HC:=Y1 hC;obtain ⟨_,⟨c0,c1,c2,c3,c4⟩,_⟩:=hB;obtain ⟨_,⟨d0,d1,d2,d3,d4⟩,_⟩:=hC;have n1: (t.kind !=u.kind)=false:=by rw[g1]; simp
 have n2: (t.of_ !=u.of_)=false:=by rw[g2]; simp
 have n3: (t.name !=u.name)=false:=by rw[g3]; simp
 have n4: ((t.names.length:Int) !=(u.names.length:Int))=false:=by rw[g4]; simp
 have n5: ((t.parts.length:Int) !=(u.parts.length:Int))=false:=by rw[g5]; simp
 have e1: (t.kind==u.kind)=true:=by rw[g1]; simp
 have e2: (t.of_==u.of_)=true:=by rw[g2]; simp
 have e3: (t.name==u.name)=true:=by rw[g3]; simp
 have e4: ((t.names.length:Int)==(u.names.length:Int))=true:=by rw[g4]; simp
 have e5: ((t.parts.length:Int)==(u.parts.length:Int))=true:=by rw[g5]; simp
 clear hb0 hb1 hq hr hh g1 g2 g3 g4 g5;go_enter Tryd.func11,Tryd.ntmps11
 go_wp2_with fail
 generalize hW0: (w.alloc (.cells (Y8 t q) 25)).alloc (.cells (Y8 u r) 25)=W0 at HB HC HB1 ⊢;clear hW0 c0 c1 c2 c3 c4 d0 d1 d2 d3 d4 n1 n2 n3 n4 n5 e1 e2 e3 e4 e5
 go_loopw [5] (fun ii wr=> ∃i:Nat,ii= .int .i64 i/\i<=t.names.length/\Hid (∀j (h:j < t.names.length) (h':j < u.names.length),j < i->t.names[j]'h=u.names[j]'h')/\Below W0.heap.size W0 wr) (fun i _=>t.names.length - (intOf i).toNat)
 case atStart=>exact ⟨0,rfl,Nat.zero_le _,Y1 (fun j _ _ hj=>absurd hj (by omega)),Below.refl _ _⟩
 case round=>
  obtain ⟨i,rfl,hi,HN,hb⟩:=hrel;have hbw:Below w.heap.size w wr:=HB1.out.trans (hb.mono HB1.out.size);have hl:=HL.out;obtain ⟨_,⟨c0,_,_,c3,c4⟩,_⟩:=HB.out.next hb;obtain ⟨_,⟨d0,_,_,d3,d4⟩,_⟩:=HC.out.next hb;by_cases hlt:i < t.names.length
  {have hi1: (i:Int) < (t.names.length:Int):=by omega
   have hi2: (i:Int) < (u.names.length:Int):=by have:=HG4.out; omega
   have hi3:i < u.names.length:=by omega
   rcases (HSN.out.next hbw).cell7 with h0 | ⟨g,off,hqA,hg,hc⟩
   {omega}
   {rcases (HSM.out.next hbw).cell7 with h0 | ⟨g',off',hrA,hg',hc'⟩
    {omega}
    {have p:=hc i hlt;have p':=hc' i hi3;obtain ⟨x,hx⟩: ∃x,x=t.names[i]'hlt:=⟨_,rfl⟩;obtain ⟨y,hy⟩: ∃y,y=u.names[i]'hi3:=⟨_,rfl⟩;rw[<-hx] at p;rw[<-hy] at p';have HX:=Y1 hx;have HY:=Y1 hy;rw[hqA] at c3;rw[hrA] at d3;clear hx hy hc hc' hqA hrA;cases hxy: (x==y)
     {have HF:Hid (eqB t u=false):=Y1 (Za2 hlt hi3 (by rw[<-HX.out, <-HY.out]; intro h; rw[h] at hxy; simp at hxy));have n1: (x !=y)=true:=by unfold bne; rw[hxy]; rfl
      go_wp2_with fail
      go_quiet (fail)
      go_wp2;go_ret;exact ⟨by rw[HF.out]; rfl,Z0E hbw _⟩}
     {have n1: (x !=y)=false:=by unfold bne; rw[hxy]; rfl
      have HE:Hid (t.names[i]'hlt=u.names[i]'hi3):=Y1 (by rw[<-HX.out, <-HY.out]; simpa using hxy)
      go_wp2_with fail
      go_quiet (fail)
      go_wp2
      go_roundw
      case rel=>exact ⟨i+1,by go_num,by omega,Y1 (fun j hj hj' hji=>by
       rcases Nat.lt_succ_iff_lt_or_eq.1 hji with h | rfl
       {exact HN.out j hj hj' h}
       · exact HE.out),Z0E hb _⟩
      case measure=>simp[intOf]; omega}}}}
  {have HNN:Hid (∀j (h:j < t.names.length) (h':j < u.names.length),t.names[j]'h=u.names[j]'h'):=Y1 (fun j h h'=>HN.out j h h' (by omega));have HBW:=Y1 hb;clear hbw hb HN
   go_wp2_with fail
   go_loopw [6] (fun ii wx=> ∃k:Nat,ii= .int .i64 k/\k<=t.parts.length/\Hid (∀j (h:j < t.parts.length) (h':j < u.parts.length),j < k->eqB (t.parts[j]'h) (u.parts[j]'h')=true)/\Hid (Below W0.heap.size W0 wx)) (fun i _=>t.parts.length - (intOf i).toNat)
   case atStart=>exact ⟨0,rfl,Nat.zero_le _,Y1 (fun j _ _ hj=>absurd hj (by omega)),HBW⟩
   case round=>
    obtain ⟨k,rfl,hk,HN,HBX⟩:=hrel;have hb:=HBX.out;have hbw:Below w.heap.size w wr:=HB1.out.trans (hb.mono HB1.out.size);have hm:=HM.out;clear c0 c3 c4 d0 d3 d4;obtain ⟨_,⟨c0,_,_,c3,c4⟩,_⟩:=HB.out.next hb;obtain ⟨_,⟨d0,_,_,d3,d4⟩,_⟩:=HC.out.next hb;by_cases hlt2:k < t.parts.length
    {have hi1: (k:Int) < (t.parts.length:Int):=by omega
     have hi2: (k:Int) < (u.parts.length:Int):=by have:=HG5.out; omega
     have hi3:k < u.parts.length:=by omega
     rcases HP.out with h0 | ⟨g,off,qs,hqP,hg,hc,hra⟩
     {omega}
     {rcases HR.out with h0 | ⟨g',off',qs',hrP,hg',hc',hra'⟩
      {omega}
      {obtain ⟨x,hx⟩: ∃x,x=t.parts[k]:=⟨_,rfl⟩;obtain ⟨y,hy⟩: ∃y,y=u.parts[k]:=⟨_,rfl⟩;obtain ⟨p0,p1,p2,p3,p4⟩:=(hc k hlt2).keep hg hbw;obtain ⟨s0,s1,s2,s3,s4⟩:=(hc' k hi3).keep hg' hbw;have hat:ShAt wr wr.heap.size (qs k) x:=by rw[hx]; exact (hra k hlt2).next hbw
       have hat':ShAt wr wr.heap.size (qs' k) y:=by rw[hy]; exact (hra' k hi3).next hbw
       have ihx:=ih t.parts[k] (List.getElem_mem _) y (qs k) (qs' k) wr.drew;rw[<-hx] at p0 p1 p2 p3 p4 ihx;rw[<-hy] at s0 s1 s2 s3 s4;have IH:=ihx (hat.next Y2.drew) (hat'.next Y2.drew);rw[hqP] at c4;rw[hrP] at d4;have HX:=Y1 hx;have HY:=Y1 hy;clear hx hy hc hc' hra hra' hat hat' ihx ih hqP hrP
       go_wp2_with fail
       cases hxy:eqB x y
       {have HF:Hid (eqB t u=false):=Y1 (Za3 hlt2 hi3 (by rw[<-HX.out, <-HY.out]; exact hxy));rw[hxy] at IH;clear hxy
        go_still_tail 10,(by kernel_rfl)
        change wpList _ _ _ _ _ wr.drew
        go_wp2_with fail
        refine IH.mono ?_;rintro e w2 ⟨rfl,hb2⟩;go_wp2;go_ret;exact ⟨by rw[HF.out]; rfl,Z02 hbw.drew hb2⟩}
       {have HE:Hid (eqB (t.parts[k]'hlt2) (u.parts[k]'hi3)=true):=Y1 (by rw[<-HX.out, <-HY.out]; exact hxy);rw[hxy] at IH;clear hxy
        go_still_tail 10,(by kernel_rfl)
        change wpList _ _ _ _ _ wr.drew
        go_wp2_with fail
        refine IH.mono ?_;rintro e w2 ⟨rfl,hb2⟩;go_wp2
        go_roundw
        case rel=>exact ⟨k+1,by go_num,by omega,Y1 (fun j hj hj' hji=>by
         rcases Nat.lt_succ_iff_lt_or_eq.1 hji with h | rfl
         {exact HN.out j hj hj' h}
         · exact HE.out),Y1 (Z02 hb.drew hb2)⟩
        case measure=>simp[intOf]; omega}}}}
    {have HF:Hid (eqB t u=true):=Y1 (Zbh HH.out HNN.out (fun j hj hj'=>HN.out j hj hj' (by omega)));go_wp2;go_ret;exact ⟨by rw[HF.out]; rfl,hbw⟩}}
end
section
open Go.RowKit Shp
open Expd (Bd put find Z0w)
def kI:Sh:=⟨1,[],[],[],[]⟩
def kL:Sh:=⟨5,[],[],[],[kI]⟩
def kA:Sh:=⟨9,[],[65],[],[]⟩
def kX:Sh:=⟨6,[],[],[[120],[97]],[kA,kI]⟩
def kU:Sh:=⟨6,[],[],[[120],[97]],[kL,kI]⟩
def kY:Sh:=⟨6,[],[],[[97],[120]],[kI,kL]⟩
def kE:List Bd:= [⟨[],[65],kL⟩]
theorem Z6j:check kX=0:=by decide+kernel
theorem ZaS:check kU=0:=by decide+kernel
theorem ZbD:put (find kE) kX=some kU:=by rfl
theorem Zbi:put (find []) kX=none:=by rfl
theorem Za4:sorted kU=kY:=by kernel_rfl
theorem Zbj:Expd.resolve kE kX=(kY,0):=by rw[Expd.resolve_ok Z6j ZbD ZaS,Za4]
theorem Zbk:Expd.resolve [] kX=(Z0w,110):=Expd.resolve_name Z6j Zbi
def kW (w:World):World:=(((((((w.alloc (.cells #[.int .i64 1,.string ⟨#[]⟩,.string ⟨#[]⟩,.slice none 0 0,.slice none 0 0] 25)).alloc (.cells #[.int .i64 1,.string ⟨#[]⟩,.string ⟨#[]⟩,.slice none 0 0,.slice none 0 0] 25)).alloc
 (.cells #[.int .i64 5,.string ⟨#[]⟩,.string ⟨#[]⟩,.slice none 0 0,.slice (some ⟨w.heap.size+1,0,none⟩) 1 1] 25)).alloc (.cells #[.int .i64 9,.string ⟨#[]⟩,.string ⟨#[65]⟩,.slice none 0 0,.slice none 0 0] 25)).alloc
 (.cells #[.string ⟨#[120]⟩,.string ⟨#[97]⟩] 9)).alloc (.cells #[.int .i64 9,.string ⟨#[]⟩,.string ⟨#[65]⟩,.slice none 0 0,.slice none 0 0,.int .i64 1,.string ⟨#[]⟩,.string ⟨#[]⟩,.slice none 0 0,.slice none 0 0] 25)).alloc
 (.cells #[.int .i64 6,.string ⟨#[]⟩,.string ⟨#[]⟩,.slice (some ⟨w.heap.size+1+1+1+1,0,none⟩) 2 2,.slice (some ⟨w.heap.size+1+1+1+1+1,0,none⟩) 2 2] 25)).alloc
 (.cells #[.string ⟨#[]⟩,.string ⟨#[65]⟩,.int .i64 5,.string ⟨#[]⟩,.string ⟨#[]⟩,.slice none 0 0,.slice (some ⟨w.heap.size+1,0,none⟩) 1 1] 54)
theorem Z1t (w:World): (kW w).heap.size=w.heap.size+8:=by simp[kW]
theorem Z4c (w:World):Below w.heap.size w (kW w):=Z0d (Z0d (Z0d (Z0d (Z0d (Z0d (Z0d (Z00 _ _) _) _) _) _) _) _) _
def kq0:Ptr:=⟨none,0,none,0⟩
def kqL (H:Nat):Ptr:=⟨none,0,some ⟨H+1,0,none⟩,1⟩
def kqX (H:Nat):Ptr:=⟨some ⟨H+1+1+1+1,0,none⟩,2,some ⟨H+1+1+1+1+1,0,none⟩,2⟩
theorem Z2n (W:World) (B:Nat) (t:Sh) (h1:t.names= []) (h2:t.parts= []) (h3:t.of_.length<=9223372036854775807) (h4:t.name.length<=9223372036854775807):ShAt W B kq0 t:=
 .mk _ _ 0 0 (fun _=>kq0) ⟨h3,h4,by rw[h1]; nofun,by rw[h1]; simp,by rw[h2]; simp,by rw[h1]; exact Nat.le_refl _,by rw[h2]; exact Nat.le_refl _,fun _=>rfl,fun _=>rfl⟩ (Or.inl (by rw[h1]; rfl)) (Or.inl (by rw[h2]; rfl)) (fun i h=>absurd h (by rw[h2]; simp)) (fun i h=>absurd h (by rw[h2]; simp))
section
variable (w : World)
include w
theorem kW_L:ShAt (kW w) (kW w).heap.size (kqL w.heap.size) kL:=by
 refine .mk _ _ (w.heap.size+1) 0 (fun _=>kq0) ⟨by decide,by decide,nofun,by decide,by decide,Nat.le_refl _,Nat.le_refl _,fun _=>rfl,nofun⟩ (Or.inl rfl) (Or.inr ⟨rfl,by rw[Z1t]; omega⟩) (fun i h=> ?_) (fun i h=> ?_)
 {have h1:i < 1:=h
  match i,h1 with
  | 0,_=>refine ⟨?_, ?_, ?_, ?_, ?_⟩ <;> simp[kW,go_sem,kL,kI,kq0]}
 {have h1:i < 1:=h
  match i,h1 with
  | 0,_=>exact Z2n _ _ kI rfl rfl (by decide) (by decide)}
theorem kW_X:ShAt (kW w) (kW w).heap.size (kqX w.heap.size) kX:=by
 refine .mk _ _ (w.heap.size+1+1+1+1+1) 0 (fun _=>kq0) ⟨by decide,by decide,by decide,by decide,by decide,Nat.le_refl _,Nat.le_refl _,nofun,nofun⟩ (Or.inr ⟨w.heap.size+1+1+1+1,0,rfl,by rw[Z1t]; omega,fun i hi=> ?_⟩) (Or.inr ⟨rfl,by rw[Z1t]; omega⟩) (fun i h=> ?_) (fun i h=> ?_)
 {have h2:i < 2:=hi
  match i,h2 with
  | 0,_=>simp[kW,go_sem,kX,strs]
  | 1,_=>simp[kW,go_sem,kX,strs]}
 {have h2:i < 2:=h
  match i,h2 with
  | 0,_=>refine ⟨?_, ?_, ?_, ?_, ?_⟩ <;> simp[kW,go_sem,kX,kA,kq0]
  | 1,_=>refine ⟨?_, ?_, ?_, ?_, ?_⟩ <;> simp[kW,go_sem,kX,kI,kq0]}
 {have h2:i < 2:=h
  match i,h2 with
  | 0,_=>exact Z2n _ _ kA rfl rfl (by decide) (by decide)
  | 1,_=>exact Z2n _ _ kI rfl rfl (by decide) (by decide)}
theorem kW_E:BdsAt (kW w) (kW w).heap.size (some ⟨w.heap.size+1+1+1+1+1+1+1,0,none⟩) kE:=by
 refine Or.inr ⟨w.heap.size+1+1+1+1+1+1+1,0,fun _=>kqL w.heap.size,rfl,by rw[Z1t]; omega,fun i h=> ?_⟩;have h1:i < 1:=h
 match i,h1 with
 | 0,_=>exact ⟨by simp[kW,go_sem,kE],by simp[kW,go_sem,kE],⟨by simp[kW,go_sem,kE,kL,kqL],by simp[kW,go_sem,kE,kL,kqL],by simp[kW,go_sem,kE,kL,kqL],by simp[kW,go_sem,kE,kL,kqL],by simp[kW,go_sem,kE,kL,kqL]⟩,kW_L w,by simp[kE],by simp[kE]⟩
theorem kW_i:Box5 (kW w) w.heap.size kI kq0:=by
 refine ⟨by rw[Z1t]; omega,⟨?_, ?_, ?_, ?_, ?_⟩, ?_, ?_, ?_, ?_, ?_⟩ <;> simp[kW,go_sem,kI,kq0]
theorem kW_l:Box5 (kW w) (w.heap.size+1+1) kL (kqL w.heap.size):=by
 refine ⟨by rw[Z1t]; omega,⟨?_, ?_, ?_, ?_, ?_⟩, ?_, ?_, ?_, ?_, ?_⟩ <;> simp[kW,go_sem,kL,kqL]
theorem kW_x:Box5 (kW w) (w.heap.size+1+1+1+1+1+1) kX (kqX w.heap.size):=by
 refine ⟨by rw[Z1t]; omega,⟨?_, ?_, ?_, ?_, ?_⟩, ?_, ?_, ?_, ?_, ?_⟩ <;> simp[kW,go_sem,kX,kqX]
theorem Z3B (hg:WGlobs w):Y9 8 #[] w (.bool true):=by
 have HBW:=Y1 (Z4c w);have HG:=Y1 (hg.next (Z4c w));have HI:=Y1 (kW_i w);have HL:=Y1 (kW_l w);have HX:=Y1 (kW_x w);have HXA:=Y1 (kW_X w);have HLA:=Y1 (kW_L w);have HSZ:=Y1 (Z1t w);have HR:=Y1 (Z2c kX (kqX w.heap.size) kE (some ⟨w.heap.size+1+1+1+1+1+1+1,0,none⟩) 1 (kW w) (kW_X w) (kW_E w) (by decide) (hg.next (Z4c w)));clear hg;go_enter Tryd.func8,Tryd.ntmps8
 go_wp2_with fail
 change Calls _ _ _ (kW w) _;obtain ⟨H,hH⟩: ∃H,H=w.heap.size:=⟨_,rfl⟩;rw[<-hH] at HI HL HX HXA HLA HR HSZ ⊢;generalize kW w=W0 at HBW HG HI HL HX HXA HLA HR HSZ ⊢;refine HR.out.mono ?_;rintro e w1 ⟨q1,he,hat,hb1⟩;rw[Zbj] at he hat;obtain ⟨z,hz⟩: ∃z,z=kY:=⟨_,rfl⟩;rw[<-hz] at he hat;subst he;have HZ:=Y1 hz;have hb2:=Z00 w1 (.cells (Y8 z q1) 25);have hbb:=Z02 hb1 hb2;have HB2:=Y1 hbb;have HBZ:=Y1 (Z06 w1 z q1);have HAT:=Y1 (hat.next hb2);have HG2:=Y1 (HG.out.next hbb);have HXA2:=Y1 (HXA.out.next hbb);obtain ⟨z1,⟨x0,x1,x2,x3,x4⟩,z2⟩:=HX.out.next hbb;simp only[Nat.zero_add] at x0 x1 x2 x3 x4;change (w1.alloc _).cell? _=some (.int .i64 6) at x0;change (w1.alloc _).cell? _=some (.string ⟨#[]⟩) at x1;change (w1.alloc _).cell? _=some (.string ⟨#[]⟩) at x2;change (w1.alloc _).cell? _=some (.slice (some ⟨H+1+1+1+1,0,none⟩) 2 2) at x3;change (w1.alloc _).cell? _=some (.slice (some ⟨H+1+1+1+1+1,0,none⟩) 2 2) at x4;have HR2:=Y1 (Z2c kX (kqX H) [] none 0 _ HXA2.out (Or.inl rfl) (by decide) HG2.out);clear hz hb1 hb2 hbb hat z1 z2 hH HR;unfold shV;obtain ⟨W2,hW2⟩: ∃W2,w1.alloc (.cells (Y8 z q1) 25)=W2:=⟨_,rfl⟩;rw[hW2] at x0 x1 x2 x3 x4 HR2 HB2 HBZ HAT HG2 HXA2
 go_wp2_with fail
 clear hW2;refine HR2.out.mono ?_;rintro e w3 ⟨q2,he, -,hb3⟩;rw[Zbk] at he;subst he;have hb4:=Z02 hb3 (Z00 w3 (.cells #[.int .i64 0,.string ⟨#[]⟩,.string ⟨#[]⟩,.slice q2.A 0 q2.c,.slice q2.P 0 q2.d] 25));have HB4:=Y1 (Z02 HB2.out hb4);have HBZ4:=Y1 (HBZ.out.next hb4);have HAT4:=Y1 (HAT.out.next hb4);clear x0 x1 x2 x3 x4 hb3 hb4 HR2
 try simp only
 unfold shV Z0w
 try simp only
 obtain ⟨W4,hW4⟩: ∃W4,w3.alloc (.cells #[.int .i64 0,.string ⟨#[]⟩,.string ⟨#[]⟩,.slice q2.A 0 q2.c,.slice q2.P 0 q2.d] 25)=W4:=⟨_,rfl⟩;rw[hW4] at HB4 HBZ4 HAT4;have hz8:H+8<=W4.heap.size:=by have:=HSZ.out; have:=HB4.out.size; omega
 have hn1:H≠W4.heap.size:=by omega
 have hn2:H+1+1≠W4.heap.size:=by omega
 obtain ⟨z1,⟨x0,x1,x2,x3,x4⟩,z2⟩:=HBZ4.out;obtain ⟨z3,⟨i0,i1,i2,i3,i4⟩,z4⟩:=(HI.out.next HB4.out).next (Z00 W4 (.cells #[.string ⟨#[97]⟩,.string ⟨#[120]⟩] 9));obtain ⟨z5,⟨l0,l1,l2,l3,l4⟩,z6⟩:=(HL.out.next HB4.out).next (Z00 W4 (.cells #[.string ⟨#[97]⟩,.string ⟨#[120]⟩] 9));simp only[Nat.zero_add] at x0 x1 x2 x3 x4 i0 i1 i2 i3 i4 l0 l1 l2 l3 l4;change (W4.alloc _).cell? _=some (.int .i64 1) at i0;change (W4.alloc _).cell? _=some (.string ⟨#[]⟩) at i1;change (W4.alloc _).cell? _=some (.string ⟨#[]⟩) at i2;change (W4.alloc _).cell? _=some (.slice none 0 0) at i3;change (W4.alloc _).cell? _=some (.slice none 0 0) at i4;change (W4.alloc _).cell? _=some (.int .i64 5) at l0;change (W4.alloc _).cell? _=some (.string ⟨#[]⟩) at l1;change (W4.alloc _).cell? _=some (.string ⟨#[]⟩) at l2;change (W4.alloc _).cell? _=some (.slice none 0 0) at l3;change (W4.alloc _).cell? _=some (.slice (some ⟨H+1,0,none⟩) 1 1) at l4;have hb6:Below W4.heap.size W4 ((W4.alloc (.cells #[.string ⟨#[97]⟩,.string ⟨#[120]⟩] 9)).alloc (.cells #[.int .i64 1,.string ⟨#[]⟩,.string ⟨#[]⟩,.slice none 0 0,.slice none 0 0,.int .i64 5,.string ⟨#[]⟩,.string ⟨#[]⟩,.slice none 0 0,.slice (some ⟨H+1,0,none⟩) 1 1] 25)):=Z0d (Z00 _ _) _;have hs6: ((W4.alloc (.cells #[.string ⟨#[97]⟩,.string ⟨#[120]⟩] 9)).alloc (.cells #[.int .i64 1,.string ⟨#[]⟩,.string ⟨#[]⟩,.slice none 0 0,.slice none 0 0,.int .i64 5,.string ⟨#[]⟩,.string ⟨#[]⟩,.slice none 0 0,.slice (some ⟨H+1,0,none⟩) 1 1] 25)).heap.size=W4.heap.size+2:=by simp
 have hy:ShAt ((W4.alloc (.cells #[.string ⟨#[97]⟩,.string ⟨#[120]⟩] 9)).alloc (.cells #[.int .i64 1,.string ⟨#[]⟩,.string ⟨#[]⟩,.slice none 0 0,.slice none 0 0,.int .i64 5,.string ⟨#[]⟩,.string ⟨#[]⟩,.slice none 0 0,.slice (some ⟨H+1,0,none⟩) 1 1] 25)) (W4.heap.size+2) ⟨some ⟨W4.heap.size,0,none⟩,2,some ⟨W4.heap.size+1,0,none⟩,2⟩ kY:=by
  refine .mk _ _ (W4.heap.size+1) 0 (fun i=>if i=0 then kq0 else kqL H) ⟨by decide,by decide,by decide,by decide,by decide,Nat.le_refl _,Nat.le_refl _,nofun,nofun⟩ (Or.inr ⟨W4.heap.size,0,rfl,by omega,fun i hi=> ?_⟩) (Or.inr ⟨rfl,by omega⟩) (fun i h=> ?_) (fun i h=> ?_)
  {have h2:i < 2:=hi
   match i,h2 with
   | 0,_=>simp[go_sem,kY,strs]
   | 1,_=>simp[go_sem,kY,strs]}
  {have h2:i < 2:=h
   match i,h2 with
   | 0,_=>refine ⟨?_, ?_, ?_, ?_, ?_⟩ <;> simp[go_sem,kY,kI,kq0]
   | 1,_=>refine ⟨?_, ?_, ?_, ?_, ?_⟩ <;> simp[go_sem,kY,kL,kqL]}
  {have h2:i < 2:=h
   match i,h2 with
   | 0,_=>exact Z2n _ _ kI rfl rfl (by decide) (by decide)
   | 1,_=>rw[<-hs6]; exact (HLA.out.next HB4.out).next hb6}
 rw[<-hs6] at hy;have HE:=Y1 (Z3Z z kY q1 _ _ (HAT4.out.next hb6) hy);have HB6:=Y1 (Z02 HB4.out hb6);clear hb6 hs6 hy z1 z2 z3 z4 z5 z6 hz8;obtain ⟨W5,hW5⟩: ∃W5,W4.alloc (.cells #[.string ⟨#[97]⟩,.string ⟨#[120]⟩] 9)=W5:=⟨_,rfl⟩;have hs5:Hid (W5.heap.size=W4.heap.size+1):=Y1 (by rw[<-hW5]; simp);rw[hW5] at i0 i1 i2 i3 i4 l0 l1 l2 l3 l4 HE HB6
 go_wp2_with fail
 rw[<-hs5.out] at HE;have heq:eqB z kY=true:=by rw[HZ.out]; exact Z2Z _
 rw[heq] at HE;refine HE.out.mono ?_;rintro e w7 ⟨rfl,hb7⟩;have HB7:=Y1 (HBW.out.trans ((HB6.out.mono HBW.out.size).trans (hb7.mono (by have:=HBW.out.size; have:=HB6.out.size; omega))));clear hb7 HE heq;go_wp2;go_ret;exact ⟨rfl,HB7.out⟩
end
end
end Go.Proofs.YtchklpedlbkgaaaDoor
namespace Go.Proofs.YtchklpedlbkgaaaDoor
open Go.RowKit Go.Maps Go.WideMaps Shp
namespace SubM
abbrev Ky:=List UInt8
def Fine (k:Ky):Prop:=k.length<=9223372036854775807
def KL (k:Ky):Lit:= .string k
theorem keyOf_keyV {k:Ky} (h:Fine k):keyOf Tryd.prog 9 (.string ⟨k.toArray⟩)=some (KL k):=keyOf_string_mk Tryd.underlying9 (by rw[Z0z]; unfold maxLen; exact h)
theorem KL_inj {k k':Ky} (h:Fine k) (h':Fine k') (e:KL k=KL k'):k=k':=by cases e; rfl
theorem KL_key (k:Ky):WideAt.IsKeyLit (KL k):=trivial
def slEl:Value->Option (DataW Unit×List MemPlace)
 | .pointer none=>some (.agg [],[])
 | .pointer (some ⟨g,o,none⟩)=>some (.agg [.lit (.int .i64 (g:Int)),.lit (.int .i64 (o:Int))],[])
 | _=>none
theorem slEl_inj {v v':Value} {d:DataW Unit} {p p':List MemPlace} (h:slEl v=some (d,p)) (h':slEl v'=some (d,p')):v=v':=by
 unfold slEl at h h';split at h <;> split at h' <;> simp only[Option.some.injEq,Prod.mk.injEq,reduceCtorEq] at h h'
 {rfl}
 {obtain ⟨rfl,_⟩:=h;simp at h'}
 {obtain ⟨rfl,_⟩:=h;simp at h'}
 {obtain ⟨rfl,_⟩:=h;simp at h';obtain ⟨⟨h1,h2⟩,_⟩:=h';have e1:_=_:=Int.ofNat_inj.1 h1;have e2:_=_:=Int.ofNat_inj.1 h2;rw[e1,e2]}
theorem zero_sl (w:World): (zeroValue 71).run Tryd.prog w= .ok (.pointer none) w:=by kernel_rfl
def Mp (W:World) (b N:Nat) (S:List Ky) (m:Ky->Value):Prop:=
 ∃D:DataW Unit,W.ownsMap Tryd.prog 9 slEl b N D/\Maps.size D=S.length/\S.Nodup/\(∀k∈S,Fine k)/\(∀k,Fine k->(Maps.has D (KL k)=true ↔ k∈S))/\
  ∀k,Fine k-> ∃p,slEl (if k∈S then m k else .pointer none)=some (D.atKey (KL k) (.agg []),p)
theorem Mp.made (W:World) (m:Ky->Value):Mp (W.alloc (.map #[] 0)) W.heap.size 0 [] m:=by
 refine ⟨.map [],World.ownsMap_made _ _ _ _,rfl,List.nodup_nil,nofun,fun k _=>⟨fun h=>by simp[Maps.has] at h,nofun⟩,fun k _=>⟨[], ?_⟩⟩;rw[if_neg (by simp)];rfl
theorem Mp.lt {W:World} {b N:Nat} {S:List Ky} {m:Ky->Value} (h:Mp W b N S m):b < W.heap.size:=by obtain ⟨_,h,_⟩:=h; exact h.lt
theorem Mp.kept {W W':World} {b N:Nat} {S:List Ky} {m:Ky->Value} (h:Mp W b N S m) {row:Option Nat} (hg:W.grownBy W' row) (hne:some b≠row):Mp W' b N S m:=by
 obtain ⟨D,h1,h2⟩:=h; exact ⟨D,h1.kept hg hne,h2⟩
theorem Mp.same {W W':World} {b N:Nat} {S:List Ky} {m:Ky->Value} (h:Mp W b N S m) (hb:W'.heap[b]? =W.heap[b]?):Mp W' b N S m:=by
 obtain ⟨D,⟨es,clock,h0,h1⟩,h2⟩:=h; exact ⟨D,⟨es,clock,hb.trans h0,h1⟩,h2⟩
end SubM
end Go.Proofs.YtchklpedlbkgaaaDoor
