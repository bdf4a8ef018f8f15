/- What the proofs of GradualBetweens want, part 10. -/
import Derived.Test.YtlomianlcnmfgaaGreatDoorK0n9
set_option linter.unusedVariables false
set_option linter.unusedSimpArgs false
set_option linter.unusedSectionVars false
set_option maxRecDepth 100000
set_option maxHeartbeats 16000000
namespace Go.Proofs.YtlomianlcnmfgaaGreatDoor
open Go.RowKit Shp Sub
namespace SubM
theorem Z2e (t:Sh) (q:Ptr) (w:World) (hq:ShAt w w.heap.size q t) (hg:WGlobs w):
 Y9 50 #[sv t q] w (.bool (decide (check t=0))):=by
 have hb0:=Z01 w (.cells (Y8 t q) 25);have HB0:=Y1 hb0;have HB:=Y1 (Z05 w t q);have HQ:=Y1 (hq.next hb0);have HG:=Y1 (hg.next hb0);obtain ⟨_,⟨c0,c1,c2,c3,c4⟩,_⟩:=HB.out;simp only[Nat.zero_add] at c0 c1 c2 c3 c4;clear hb0 hq hg;unfold sv;go_enter Tryz.func50,Tryz.ntmps50
 go_wp2_with fail
 refine (Z38 t q _ HQ.out HG.out).mono ?_;rintro e W1 ⟨rfl,hb1⟩;have HB1:=Y1 (Z00 HB0.out hb1);clear hb1;go_wp2;go_ret;exact ⟨Z0y (by rw[Bool.eq_iff_iff,beq_iff_eq,decide_eq_true_eq]),HB1.out⟩
theorem Z47 (F S:Int) (W:World):
 Calls Tryz.prog 73 #[.int .i64 F,.int .i64 S] W fun e W'=>e= .returned (rv W.heap.size (W.heap.size+1))/\W.heap.size+1 < W'.heap.size/\W'.cell? ⟨W.heap.size,0,none⟩=some (.int .i64 F)/\W'.cell? ⟨W.heap.size+1,0,none⟩=some (.int .i64 S)/\Below W.heap.size W W':=by
 have hb1:=Z01 W (.cells #[.int .i64 F] 3);obtain ⟨w1,hw1⟩: ∃w1,w1=W.alloc (.cells #[.int .i64 F] 3):=⟨_,rfl⟩;have hb2:=Z01 w1 (.cells #[.int .i64 S] 3);obtain ⟨w2,hw2⟩: ∃w2,w2=w1.alloc (.cells #[.int .i64 S] 3):=⟨_,rfl⟩;have hb3:=Z01 w2 (.cells #[fv W.heap.size (W.heap.size+1)] 46);obtain ⟨w3,hw3⟩: ∃w3,w3=w2.alloc (.cells #[fv W.heap.size (W.heap.size+1)] 46):=⟨_,rfl⟩;have hs1:w1.heap.size=W.heap.size+1:=by rw[hw1]; simp
 have hs2:w2.heap.size=W.heap.size+1+1:=by rw[hw2]; simp[hs1]
 have hs3:w3.heap.size=W.heap.size+1+1+1:=by rw[hw3]; simp[hs2]
 rw[<-hw1] at hb1;rw[<-hw2] at hb2;rw[<-hw3] at hb3;have c0:w1.cell? ⟨W.heap.size,0,none⟩=some (.int .i64 F):=by rw[hw1]; simp[go_sem]
 have c1:w2.cell? ⟨W.heap.size+1,0,none⟩=some (.int .i64 S):=by rw[hw2, <-hs1]; simp[go_sem]
 have c2:w3.cell? ⟨W.heap.size+1+1,0,none⟩=some (fv W.heap.size (W.heap.size+1)):=by rw[hw3, <-hs2]; simp[go_sem]
 have HF:Hid (W.heap.size+1 < w3.heap.size/\w3.cell? ⟨W.heap.size,0,none⟩=some (.int .i64 F)/\w3.cell? ⟨W.heap.size+1,0,none⟩=some (.int .i64 S)/\Below W.heap.size W w3):=Y1
  ⟨by omega,((Z00 hb2 hb3).cell (p:=⟨W.heap.size,0,none⟩) (by show W.heap.size < w1.heap.size; omega)).trans c0,(hb3.cell (p:=⟨W.heap.size+1,0,none⟩) (by show W.heap.size+1 < w2.heap.size; omega)).trans c1,Z00 hb1 (Z00 hb2 hb3)⟩
 have HW:Hid (((W.alloc (.cells #[.int .i64 F] 3)).alloc (.cells #[.int .i64 S] 3)).alloc (.cells #[fv W.heap.size (W.heap.size+1)] 46)=w3):=Y1 (by rw[hw3,hw2,hw1]);clear hb1 hb2 hb3 hw1 hw2 hw3 c0 c1 hs1 hs2 hs3;go_enter Tryz.func73,Tryz.ntmps73;go_wp2;rw[HW.out];refine bodyPost_ret (v:=rv W.heap.size (W.heap.size+1)) (by simp[results,Tryz.results73,go_sem,c2]) rfl ?_;exact ⟨rfl,HF.out⟩
def wantRl (w:Bool):Want:=⟨fun v W=> ∃i0 i1,v=rv i0 i1/\Rl w W W.heap.size i0 i1,fun v w w' hb ⟨i0,i1,hv,h⟩=>⟨i0,i1,hv,⟨Nat.lt_of_lt_of_le h.l0 hb.size,Nat.lt_of_lt_of_le h.l1 hb.size,(hb.cell (p:=⟨i0,0,none⟩) h.l0).trans h.c0,(hb.cell (p:=⟨i1,0,none⟩) h.l1).trans h.c1⟩⟩⟩
theorem Z5h (W:World):Calls Tryz.prog 48 #[] W fun e W'=> ∃i0 i1,e= .returned (rv i0 i1)/\Rl true W' W'.heap.size i0 i1/\Below W.heap.size W W':=by
 have hb1:=Z01 W (.cells #[Value.nilFunc] 46);obtain ⟨w1,hw1⟩: ∃w1,w1=W.alloc (.cells #[Value.nilFunc] 46):=⟨_,rfl⟩;have hs1:w1.heap.size=W.heap.size+1:=by rw[hw1]; simp
 have c0:w1.cell? ⟨W.heap.size,0,none⟩=some Value.nilFunc:=by rw[hw1]; simp[go_sem]
 have f0:w1.frozen? ⟨W.heap.size,0,none⟩=false:=by rw[hw1]; simp[go_sem]
 rw[<-hw1] at hb1;have hw1':=hw1.symm;have HB1:=Y1 hb1;clear hw1 hb1;go_enter Tryz.func48,Tryz.ntmps48
 go_wp2_with fail
 refine (Z47 6 7 w1).mono ?_;rintro e w2 ⟨rfl,hlt,c1,c2,hb2⟩;have hl:W.heap.size < w1.heap.size:=by omega
 have y0:w2.cell? ⟨W.heap.size,0,none⟩=some Value.nilFunc:=(hb2.cell (p:=⟨W.heap.size,0,none⟩) hl).trans c0;have z0:w2.frozen? ⟨W.heap.size,0,none⟩=false:=(hb2.frozen (p:=⟨W.heap.size,0,none⟩) hl).trans f0;have hu:=Upd.set (Upd.refl (fun b=>b=W.heap.size) w2) ⟨W.heap.size,0,none⟩ (fun _=>rfl) (fv w1.heap.size (w1.heap.size+1));have u0: (w2.setCell ⟨W.heap.size,0,none⟩ (fv w1.heap.size (w1.heap.size+1))).cell? ⟨W.heap.size,0,none⟩=some (fv w1.heap.size (w1.heap.size+1)):=World.cell?_setCell_same _ _ _ y0;have HF:Hid (∃i0 i1,Ending.returned (rv w1.heap.size (w1.heap.size+1))= .returned (rv i0 i1)/\Rl true (w2.setCell ⟨W.heap.size,0,none⟩ (fv w1.heap.size (w1.heap.size+1))) (w2.setCell ⟨W.heap.size,0,none⟩ (fv w1.heap.size (w1.heap.size+1))).heap.size i0 i1/\Below W.heap.size W (w2.setCell ⟨W.heap.size,0,none⟩ (fv w1.heap.size (w1.heap.size+1)))):=Y1 (by
  have hbw:=Z00 HB1.out hb2;have hsz:=hu.size;exact ⟨_,_,rfl,⟨by omega,by omega,(hu.cell (by omega) (by omega)).trans c1,(hu.cell (by omega) (by omega)).trans c2⟩,hbw.trans (hu.below hbw.size (fun x hx=>by omega))⟩)
 clear hu c0 f0 c1 c2 hlt hb2 hl;go_wp2;rw[hs1] at HF u0;refine bodyPost_ret (v:=rv (W.heap.size+1) (W.heap.size+1+1)) (by simp[results,Tryz.results48,go_sem,u0,hs1]) rfl ?_;exact HF.out
theorem Z56 (W:World):Calls Tryz.prog 58 #[] W fun e W'=> ∃i0 i1,e= .returned (rv i0 i1)/\Rl false W' W'.heap.size i0 i1/\Below W.heap.size W W':=by
 have hb1:=Z01 W (.cells #[Value.nilFunc] 46);obtain ⟨w1,hw1⟩: ∃w1,w1=W.alloc (.cells #[Value.nilFunc] 46):=⟨_,rfl⟩;have hs1:w1.heap.size=W.heap.size+1:=by rw[hw1]; simp
 have c0:w1.cell? ⟨W.heap.size,0,none⟩=some Value.nilFunc:=by rw[hw1]; simp[go_sem]
 have f0:w1.frozen? ⟨W.heap.size,0,none⟩=false:=by rw[hw1]; simp[go_sem]
 rw[<-hw1] at hb1;have hw1':=hw1.symm;have HB1:=Y1 hb1;clear hw1 hb1;go_enter Tryz.func58,Tryz.ntmps58
 go_wp2_with fail
 refine (Z47 0 0 w1).mono ?_;rintro e w2 ⟨rfl,hlt,c1,c2,hb2⟩;have hl:W.heap.size < w1.heap.size:=by omega
 have y0:w2.cell? ⟨W.heap.size,0,none⟩=some Value.nilFunc:=(hb2.cell (p:=⟨W.heap.size,0,none⟩) hl).trans c0;have z0:w2.frozen? ⟨W.heap.size,0,none⟩=false:=(hb2.frozen (p:=⟨W.heap.size,0,none⟩) hl).trans f0;have hu:=Upd.set (Upd.refl (fun b=>b=W.heap.size) w2) ⟨W.heap.size,0,none⟩ (fun _=>rfl) (fv w1.heap.size (w1.heap.size+1));have u0: (w2.setCell ⟨W.heap.size,0,none⟩ (fv w1.heap.size (w1.heap.size+1))).cell? ⟨W.heap.size,0,none⟩=some (fv w1.heap.size (w1.heap.size+1)):=World.cell?_setCell_same _ _ _ y0;have HF:Hid (∃i0 i1,Ending.returned (rv w1.heap.size (w1.heap.size+1))= .returned (rv i0 i1)/\Rl false (w2.setCell ⟨W.heap.size,0,none⟩ (fv w1.heap.size (w1.heap.size+1))) (w2.setCell ⟨W.heap.size,0,none⟩ (fv w1.heap.size (w1.heap.size+1))).heap.size i0 i1/\Below W.heap.size W (w2.setCell ⟨W.heap.size,0,none⟩ (fv w1.heap.size (w1.heap.size+1)))):=Y1 (by
  have hbw:=Z00 HB1.out hb2;have hsz:=hu.size;exact ⟨_,_,rfl,⟨by omega,by omega,(hu.cell (by omega) (by omega)).trans c1,(hu.cell (by omega) (by omega)).trans c2⟩,hbw.trans (hu.below hbw.size (fun x hx=>by omega))⟩)
 clear hu c0 f0 c1 c2 hlt hb2 hl;go_wp2;rw[hs1] at HF u0;refine bodyPost_ret (v:=rv (W.heap.size+1) (W.heap.size+1+1)) (by simp[results,Tryz.results58,go_sem,u0,hs1]) rfl ?_;exact HF.out
theorem Z6H (w:Bool) (a b:Sh) (pa pb:Ptr) (i0 i1:Nat) (W:World) (ha:ShAt W W.heap.size pa a) (hb:ShAt W W.heap.size pb b) (hr:Rl w W W.heap.size i0 i1) (hg:WGlobs W):
 Y9 49 #[rv i0 i1,sv a pa,sv b pb] W (.bool (decide (check a=0)&&decide (check b=0)&&Grd.hold w 40 a b)):=by
 have hbr:=Z01 W (.cells #[fv i0 i1] 46);obtain ⟨w0,hw0⟩: ∃w0,w0=W.alloc (.cells #[fv i0 i1] 46):=⟨_,rfl⟩;have cr0:w0.cell? ⟨W.heap.size,0,none⟩=some (fv i0 i1):=by rw[hw0]; simp[go_sem]
 have hs0:w0.heap.size=W.heap.size+1:=by rw[hw0]; simp
 rw[<-hw0] at hbr;have hb1:=Z01 w0 (.cells (Y8 a pa) 25);obtain ⟨w1,hw1⟩: ∃w1,w1=w0.alloc (.cells (Y8 a pa) 25):=⟨_,rfl⟩;have hb2:=Z01 w1 (.cells (Y8 b pb) 25);obtain ⟨w2,hw2⟩: ∃w2,w2=w1.alloc (.cells (Y8 b pb) 25):=⟨_,rfl⟩;have hs1:w1.heap.size=W.heap.size+1+1:=by rw[hw1]; simp[hs0]
 rw[<-hw1] at hb1;rw[<-hw2] at hb2;have hB1:Box5 w1 w0.heap.size a pa:=by rw[hw1]; exact Z05 w0 a pa
 have hB2:Box5 w2 w1.heap.size b pb:=by rw[hw2]; exact Z05 w1 b pb
 have hBA:=hB1.next hb2;rw[hs0] at hBA;rw[hs1] at hB2;have hbw:=Z00 hbr (Z00 hb1 hb2);have cr2:w2.cell? ⟨W.heap.size,0,none⟩=some (fv i0 i1):=((Z00 hb1 hb2).cell (p:=⟨W.heap.size,0,none⟩) (by rw[hs0]; exact Nat.lt_succ_self _)).trans cr0;have hlt:W.heap.size < w2.heap.size:=by have:=hb2.size; omega
 have HBA:=Y1 hBA;have HBB:=Y1 hB2;have HA:=Y1 (ha.next hbw);have HB:=Y1 (hb.next hbw);have HG:=Y1 (hg.next hbw);have HRL:=Y1 ((wantRl w).keep _ _ _ hbw ⟨i0,i1,rfl,hr⟩);have HCR:=Y1 cr2;have HLT:=Y1 hlt;have HW:=Y1 hbw;obtain ⟨_,⟨a0,a1,a2,a3,a4⟩,_⟩:=hBA;simp only[Nat.zero_add] at a0 a1 a2 a3 a4;have hw0':=hw0.symm;have hw1':=hw1.symm;have hw2':=hw2.symm;clear hw0 hw1 hw2 hbr hb1 hb2 hB1 hB2 hbw ha hb hg hr cr0 cr2 hlt;unfold sv;go_enter Tryz.func49,Tryz.ntmps49
 go_wp2_with fail
 refine (Z2e a pa w2 HA.out HG.out).mono ?_;rintro e w3 ⟨rfl,hb3⟩;have HB3:=Y1 hb3;clear hb3 a0 a1 a2 a3 a4;by_cases ca:check a=0
 {have HCA:=Y1 ca;rw[decide_eq_true ca];clear ca;obtain ⟨_,⟨b0,b1,b2,b3,b4⟩,_⟩:=HBB.out.next HB3.out;simp only[Nat.zero_add] at b0 b1 b2 b3 b4
  go_wp2_with fail
  refine (Z2e b pb w3 (HB.out.next HB3.out) (HG.out.next HB3.out)).mono ?_;rintro e w4 ⟨rfl,hb4⟩;have HB4:=Y1 (Z00 HB3.out hb4);clear hb4 b0 b1 b2 b3 b4;by_cases cb:check b=0
  {have HCB:=Y1 cb;rw[decide_eq_true cb];clear cb;obtain ⟨_,⟨a0,a1,a2,a3,a4⟩,_⟩:=HBA.out.next HB4.out;obtain ⟨_,⟨b0,b1,b2,b3,b4⟩,_⟩:=HBB.out.next HB4.out;simp only[Nat.zero_add] at a0 a1 a2 a3 a4 b0 b1 b2 b3 b4;have hta:Two 40 a b:=⟨(Z07 HCA.out).2.2,(Z07 HCB.out).2.2,(Z07 HCA.out).2.1,(Z07 HCB.out).2.1,(Z07 HCA.out).1,(Z07 HCB.out).1⟩;obtain ⟨j0,j1,hj,hrl⟩:=(wantRl w).keep _ _ _ HB4.out HRL.out;have hcr:w4.cell? ⟨W.heap.size,0,none⟩=some (fv i0 i1):=(HB4.out.cell (p:=⟨W.heap.size,0,none⟩) HLT.out).trans HCR.out;have hjj:i0=j0/\i1=j1:=by simpa[rv,fv] using hj
   rw[<-hjj.1, <-hjj.2] at hrl;have HU:=Y1 (Zaj w 40 a b pa pb w4.heap.size i0 i1 w4 hta (HA.out.next HB4.out) (HB.out.next HB4.out) (Nat.le_refl _) hrl);unfold sv at HU;clear hta hrl hj hjj
   go_wp2_with fail
   refine HU.out.mono ?_;rintro e w5 ⟨rfl,hb5⟩;have HB5:=Y1 (Z00 HW.out (Z00 HB4.out hb5));clear hb5 HU a0 a1 a2 a3 a4 b0 b1 b2 b3 b4 hcr;go_wp2;go_ret;exact ⟨by rw[decide_eq_true HCA.out,decide_eq_true HCB.out]; rfl,HB5.out⟩}
  {have HCB:=Y1 cb;rw[decide_eq_false cb];clear cb;go_wp2;go_ret;exact ⟨by rw[decide_eq_false HCB.out,Bool.and_false,Bool.false_and]; rfl,Z00 HW.out HB4.out⟩}}
 {have HCA:=Y1 ca;rw[decide_eq_false ca];clear ca;go_wp2;go_ret;exact ⟨by rw[decide_eq_false HCA.out,Bool.false_and,Bool.false_and]; rfl,Z00 HW.out HB3.out⟩}
def nearT (w:Bool) (a:Sh) (pa:Ptr) (b:Sh) (pb:Ptr) (r:Bool):Nat->Want
 | 0=>wantRl w
 | 1=> .val (sv a pa)
 | 2=> .val (sv b pb)
 | 3=> .val (.bool r)
 | 4=> .val (.bool r)
 | _=> .any
section
variable (a b : Sh) (pa pb : Ptr) (w : World) (ha : ShAt w w.heap.size pa a) (hb : ShAt w w.heap.size pb b) (hg : WGlobs w)
include a b pa pb w ha hb hg
theorem Z20:
 Y9 26 #[sv a pa,sv b pb] w (.bool (Grd.near a b)):=by
 have hb1:=Z01 w (.cells (Y8 a pa) 25);obtain ⟨w1,hw1⟩: ∃w1,w1=w.alloc (.cells (Y8 a pa) 25):=⟨_,rfl⟩;have hb2:=Z01 w1 (.cells (Y8 b pb) 25);obtain ⟨w2,hw2⟩: ∃w2,w2=w1.alloc (.cells (Y8 b pb) 25):=⟨_,rfl⟩;have hs1:w1.heap.size=w.heap.size+1:=by rw[hw1]; simp
 rw[<-hw1] at hb1;rw[<-hw2] at hb2;have hB1:Box5 w1 w.heap.size a pa:=by rw[hw1]; exact Z05 w a pa
 have hB2:Box5 w2 w1.heap.size b pb:=by rw[hw2]; exact Z05 w1 b pb
 have hBA:=hB1.next hb2;rw[hs1] at hB2;have HBA:=Y1 hBA;have HBB:=Y1 hB2;have hbw:=Z00 hb1 hb2;have HA:=Y1 (ha.next hbw);have HB:=Y1 (hb.next hbw);have HG:=Y1 (hg.next hbw);have HW:=Y1 hbw;have hw1':=hw1.symm;have hw2':=hw2.symm;have hen:=enters_of Tryz.func48 (by kernel_rfl) rfl;have hen2:=enters_of Tryz.func49 (by kernel_rfl) rfl;clear hw1 hw2 hb1 hb2 hB1 hB2 hbw ha hb hg hBA;unfold sv;go_enter Tryz.func26,Tryz.ntmps26
 go_wp2_with fail
 refine Z5m (rs:= [0,1,2,3,4])
  (fun u'=> { tmps:=#[.agg (Y8 a pa),.agg (Y8 b pb),.pointer (some ⟨w.heap.size,0,none⟩),.pointer (some ⟨w.heap.size+1,0,none⟩),u' 4,u' 0,u' 1,u' 2,u' 3],defers:= [] })
  (fun j=>([undef,undef,undef,undef,.bool false]:List Value).getD j undef) (nearT true a pa b pb (Grd.near a b)) (fun W=>Below w2.heap.size w2 W) (by kernel_rfl) (by kernel_rfl) (by kernel_rfl) Y2.drew ?_ ?_
 refine StepsAt.cons _ rfl (fun u' W K' hJ hd hK=> ?_) ?_
 {refine Z0F (f:=48) (args:=#[]) (W':=W) rfl ?_ ((Z5h W).mono fun e w' ⟨i0,i1,he,hr,hb⟩=>⟨_,he,hK.out _ _ ⟨i0,i1,rfl,hr⟩ (Z00 hJ hb) hb⟩)
  try dsimp only
  go_simp}
 refine StepsAt.cons _ rfl (fun u' W K' hJ hd hK=> ?_) ?_
 {obtain ⟨_,⟨y0,y1,y2,y3,y4⟩,_⟩:=HBA.out.next hJ;simp only[Nat.zero_add] at y0 y1 y2 y3 y4;refine Y0 hK hJ rfl rfl rfl ?_
  try dsimp only
  go_simp}
 refine StepsAt.cons _ rfl (fun u' W K' hJ hd hK=> ?_) ?_
 {obtain ⟨_,⟨y0,y1,y2,y3,y4⟩,_⟩:=HBB.out.next hJ;simp only[Nat.zero_add] at y0 y1 y2 y3 y4;refine Y0 hK hJ rfl rfl rfl ?_
  try dsimp only
  go_simp}
 refine StepsAt.cons _ rfl (fun u' W K' hJ hd hK=> ?_) ?_
 {obtain ⟨i0,i1,d0,hr⟩:=hd 0 (by kernel_rfl);have d1:_=_:=hd 1 (by kernel_rfl);have d2:_=_:=hd 2 (by kernel_rfl);refine Z0F (f:=49) (args:=#[rv i0 i1,.agg (Y8 a pa),.agg (Y8 b pb)]) (W':=W) rfl ?_ ((Z6H true a b pa pb i0 i1 W (HA.out.next hJ) (HB.out.next hJ) hr (HG.out.next hJ)).mono fun e w' ⟨he,hb⟩=>⟨_,he,hK.out _ _ rfl (Z00 hJ hb) hb⟩)
  try dsimp only
  go_simp}
 refine StepsAt.cons _ rfl (fun u' W K' hJ hd hK=> ?_) StepsAt.nil
 {have d3:_=_:=hd 3 (by kernel_rfl);refine Y0 hK hJ rfl rfl rfl ?_
  try dsimp only
  go_simp}
 intro u' W' hJ' hok
 try dsimp only
 rw[show u' 4= .bool (Grd.near a b) from hok 4 (by decide)];clear hok;go_wp2;go_ret;exact ⟨rfl,Z00 HW.out hJ'⟩
theorem Z4p:
 Y9 33 #[sv a pa,sv b pb] w (.bool (Grd.alike a b)):=by
 have hb1:=Z01 w (.cells (Y8 a pa) 25);obtain ⟨w1,hw1⟩: ∃w1,w1=w.alloc (.cells (Y8 a pa) 25):=⟨_,rfl⟩;have hb2:=Z01 w1 (.cells (Y8 b pb) 25);obtain ⟨w2,hw2⟩: ∃w2,w2=w1.alloc (.cells (Y8 b pb) 25):=⟨_,rfl⟩;have hs1:w1.heap.size=w.heap.size+1:=by rw[hw1]; simp
 rw[<-hw1] at hb1;rw[<-hw2] at hb2;have hB1:Box5 w1 w.heap.size a pa:=by rw[hw1]; exact Z05 w a pa
 have hB2:Box5 w2 w1.heap.size b pb:=by rw[hw2]; exact Z05 w1 b pb
 have hBA:=hB1.next hb2;rw[hs1] at hB2;have HBA:=Y1 hBA;have HBB:=Y1 hB2;have hbw:=Z00 hb1 hb2;have HA:=Y1 (ha.next hbw);have HB:=Y1 (hb.next hbw);have HG:=Y1 (hg.next hbw);have HW:=Y1 hbw;have hw1':=hw1.symm;have hw2':=hw2.symm;have hen:=enters_of Tryz.func58 (by kernel_rfl) rfl;have hen2:=enters_of Tryz.func49 (by kernel_rfl) rfl;clear hw1 hw2 hb1 hb2 hB1 hB2 hbw ha hb hg hBA;unfold sv;go_enter Tryz.func33,Tryz.ntmps33
 go_wp2_with fail
 refine Z5m (rs:= [0,1,2,3,4])
  (fun u'=> { tmps:=#[.agg (Y8 a pa),.agg (Y8 b pb),.pointer (some ⟨w.heap.size,0,none⟩),.pointer (some ⟨w.heap.size+1,0,none⟩),u' 4,u' 0,u' 1,u' 2,u' 3],defers:= [] })
  (fun j=>([undef,undef,undef,undef,.bool false]:List Value).getD j undef) (nearT false a pa b pb (Grd.alike a b)) (fun W=>Below w2.heap.size w2 W) (by kernel_rfl) (by kernel_rfl) (by kernel_rfl) Y2.drew ?_ ?_
 refine StepsAt.cons _ rfl (fun u' W K' hJ hd hK=> ?_) ?_
 {refine Z0F (f:=58) (args:=#[]) (W':=W) rfl ?_ ((Z56 W).mono fun e w' ⟨i0,i1,he,hr,hb⟩=>⟨_,he,hK.out _ _ ⟨i0,i1,rfl,hr⟩ (Z00 hJ hb) hb⟩)
  try dsimp only
  go_simp}
 refine StepsAt.cons _ rfl (fun u' W K' hJ hd hK=> ?_) ?_
 {obtain ⟨_,⟨y0,y1,y2,y3,y4⟩,_⟩:=HBA.out.next hJ;simp only[Nat.zero_add] at y0 y1 y2 y3 y4;refine Y0 hK hJ rfl rfl rfl ?_
  try dsimp only
  go_simp}
 refine StepsAt.cons _ rfl (fun u' W K' hJ hd hK=> ?_) ?_
 {obtain ⟨_,⟨y0,y1,y2,y3,y4⟩,_⟩:=HBB.out.next hJ;simp only[Nat.zero_add] at y0 y1 y2 y3 y4;refine Y0 hK hJ rfl rfl rfl ?_
  try dsimp only
  go_simp}
 refine StepsAt.cons _ rfl (fun u' W K' hJ hd hK=> ?_) ?_
 {obtain ⟨i0,i1,d0,hr⟩:=hd 0 (by kernel_rfl);have d1:_=_:=hd 1 (by kernel_rfl);have d2:_=_:=hd 2 (by kernel_rfl);refine Z0F (f:=49) (args:=#[rv i0 i1,.agg (Y8 a pa),.agg (Y8 b pb)]) (W':=W) rfl ?_ ((Z6H false a b pa pb i0 i1 W (HA.out.next hJ) (HB.out.next hJ) hr (HG.out.next hJ)).mono fun e w' ⟨he,hb⟩=>⟨_,he,hK.out _ _ rfl (Z00 hJ hb) hb⟩)
  try dsimp only
  go_simp}
 refine StepsAt.cons _ rfl (fun u' W K' hJ hd hK=> ?_) StepsAt.nil
 {have d3:_=_:=hd 3 (by kernel_rfl);refine Y0 hK hJ rfl rfl rfl ?_
  try dsimp only
  go_simp}
 intro u' W' hJ' hok
 try dsimp only
 rw[show u' 4= .bool (Grd.alike a b) from hok 4 (by decide)];clear hok;go_wp2;go_ret;exact ⟨rfl,Z00 HW.out hJ'⟩
end
end SubM
end Go.Proofs.YtlomianlcnmfgaaGreatDoor
namespace Go.Proofs.YtlomianlcnmfgaaGreatDoor
open Go.RowKit Shp Sub
namespace SubM
def rowB (A:Option Addr):Option Nat:=A.map (·.block)
theorem rowB_own (A:Option Addr) (n c:Nat):Value.ownBlock (.slice A n c)=rowB A:=by cases A <;> rfl
section
variable {W : World} {A : Option Addr} {m c B e s : Nat} {xs : List Value} (h : W.ownsRow B e s (.slice A m c) m xs)
include W A m c B e s xs h
theorem Z08: ∀b,rowB A=some b->B<=b/\b < W.heap.size:=fun b hb=>h.lt b (by rw[rowB_own]; exact hb)
theorem slice_form: (A=none/\m=0/\c=0)\/ ∃g,A=some ⟨g,0,none⟩/\m<=c:=by
 rcases h.2 with ⟨h1,h2⟩ | ⟨g,cap,cur,h1,_,_,h2,_⟩
 {simp only[Value.slice.injEq] at h1; exact Or.inl ⟨h1.1,h2,h1.2.2⟩}
 {simp only[Value.slice.injEq] at h1;obtain ⟨h3,_,rfl⟩:=h1;exact Or.inr ⟨g,h3,h2⟩}
end
theorem Z0g {S:Nat->Prop} {W W':World} {A:Option Addr} {m c B e s n:Nat} {xs:List Value} (h:W.ownsRow B e s (.slice A m c) n xs) (hu:Upd S W W') (hS: ∀b,rowB A=some b-> ¬S b):W'.ownsRow B e s (.slice A m c) n xs:=by
 obtain ⟨h1,h2⟩:=h;refine ⟨h1, ?_⟩;rcases h2 with h2 | ⟨g,cap,cur,hv,hb,hg,hc⟩
 {exact Or.inl h2}
 {refine Or.inr ⟨g,cap,cur,hv,hb, ?_,hc⟩;have hgl:g < W.heap.size:=(Array.getElem?_eq_some_iff.1 hg).1;rw[hu.block g hgl (hS g (by simp only[Value.slice.injEq] at hv; rw[hv.1]; rfl))];exact hg}
theorem Z6I {W:World} {g m c B e s n:Nat} {xs:List Value} (h:W.ownsRow B e s (.slice (some ⟨g,0,none⟩) m c) n xs) {j:Nat} {u:Value} (hu:xs[j]? =some u):W.cell? ⟨g,j,none⟩=some u:=by
 have:=h.cells (g:=g) rfl j u hu
 rwa [Z0f,Nat.zero_add] at this
abbrev El:=Sh×Ptr
def cells5 (x:El):List Value:= [.int .i64 x.1.kind,.string ⟨x.1.of_.toArray⟩,.string ⟨x.1.name.toArray⟩,.slice x.2.A x.1.names.length x.2.c,.slice x.2.P x.1.parts.length x.2.d]
def cellsE (l:List El):List Value:=l.flatMap cells5
def namesE (l:List (List UInt8)):List Value:=l.map fun n=> .string ⟨n.toArray⟩
theorem cellsE_append (l m:List El):cellsE (l++m)=cellsE l++cellsE m:=by simp[cellsE]
theorem cellsE_one (x:El):cellsE [x]=cells5 x:=by simp[cellsE]
theorem cellsE_len (l:List El): (cellsE l).length=l.length * 5:=by
 induction l with
 | nil=>rfl
 | cons a l ih=>rw[show a::l= [a]++l from rfl,cellsE_append,List.length_append,ih,cellsE_one]; simp[cells5]; omega
theorem namesE_len (l:List (List UInt8)): (namesE l).length=l.length:=by simp[namesE]
theorem namesE_append (l m:List (List UInt8)):namesE (l++m)=namesE l++namesE m:=by simp[namesE]
theorem cells5_one (x:El): ∀u∈cells5 x,u.oneCell'=true:=by
 intro u hu;simp only[cells5,List.mem_cons,List.not_mem_nil,or_false] at hu;rcases hu with rfl | rfl | rfl | rfl | rfl <;> rfl
theorem cellsE_at {l:List El} {i c:Nat} (hi:i < l.length) (hc:c < 5): (cellsE l)[i * 5+c]? =(cells5 (l[i]'hi))[c]? :=by
 have h1:l=l.take i++([l[i]'hi]++l.drop (i+1)):=by rw[List.singleton_append,List.getElem_cons_drop,List.take_append_drop]
 have h2: (cellsE (l.take i)).length=i * 5:=by rw[cellsE_len,List.length_take]; omega
 have h3: (cells5 (l[i]'hi)).length=5:=rfl
 conv=>lhs; rw[h1]
 rw[cellsE_append,cellsE_append,cellsE_one,List.getElem?_append_right (by omega),h2,Nat.add_sub_cancel_left,List.getElem?_append_left (by omega)]
def Kept (S:Nat->Prop) (W:World) (x:El):Prop:= ∀W',W.heap.size<=W'.heap.size->(∀b,b < W.heap.size->S b->W'.heap[b]? =W.heap[b]?)->ShAt W' W'.heap.size x.2 x.1
section
variable {S T : Nat -> Prop} {W W' : World} {x : El}
section
variable (h : Kept S W x)
include h
theorem Kept.here:ShAt W W.heap.size x.2 x.1:=h W (Nat.le_refl _) (fun _ _ _=>rfl)
theorem Kept.upd (hu:Upd T W W') (hd: ∀b,b < W.heap.size->S b-> ¬T b):Kept S W' x:=fun W2 h1 h2=>
 h W2 (Nat.le_trans hu.size h1) (fun b hb hs=>(h2 b (Nat.lt_of_lt_of_le hb hu.size) hs).trans (hu.block b hb (hd b hb hs)))
theorem Kept.more (hs: ∀b,b < W.heap.size->S b->T b):Kept T W x:=fun W2 h1 h2=>h W2 h1 (fun b hb hS=>h2 b hb (hs b hb hS))
end
theorem Kept.old {n0:Nat} (h:ShAt W n0 x.2 x.1) (hn:n0<=W.heap.size) (hS: ∀b,b < n0->S b):Kept S W x:=fun W2 h1 h2=>
 h.of (Nat.le_trans hn h1) (fun g k hg=>World.cell?_of_block (w:=W) (h2 g (by omega) (hS g hg)))
end
structure Mk (w0:World) (gm hi:Nat) (k:Int) (o nm:List UInt8) (nl:List (List UInt8)) (l:List El) (AN:Option Addr) (cN:Nat) (AP:Option Addr) (cP:Nat) (W:World):Prop where
 up:Below w0.heap.size w0 W
 lo:w0.heap.size<=gm
 gh:gm < hi
 hw:hi<=W.heap.size
 c0:W.cell? ⟨gm,0,none⟩=some (.int .i64 k)
 c1:W.cell? ⟨gm,1,none⟩=some (.string ⟨o.toArray⟩)
 c2:W.cell? ⟨gm,2,none⟩=some (.string ⟨nm.toArray⟩)
 c3:W.cell? ⟨gm,3,none⟩=some (.slice AN nl.length cN)
 c4:W.cell? ⟨gm,4,none⟩=some (.slice AP l.length cP)
 fz: ∀j,W.frozen? ⟨gm,j,none⟩=false
 rN:W.ownsRow hi 9 1 (.slice AN nl.length cN) nl.length (namesE nl)
 rP:W.ownsRow hi 25 5 (.slice AP l.length cP) l.length (cellsE l)
 ne:rowB AN=none\/rowB AN≠rowB AP
def Free (n0 hi:Nat) (AN AP:Option Addr) (b:Nat):Prop:=b < n0\/(hi<=b/\rowB AN≠some b/\rowB AP≠some b)
section
variable {w0 W W' : World} {gm hi : Nat} {k : Int} {o nm : List UInt8} {nl : List (List UInt8)} {l : List El} {AN AP : Option Addr} {cN cP : Nat}
theorem Mk.upd {S:Nat->Prop} (h:Mk w0 gm hi k o nm nl l AN cN AP cP W) (hu:Upd S W W') (h0: ∀b,b < w0.heap.size-> ¬S b) (h1: ¬S gm) (h2: ∀b,rowB AN=some b-> ¬S b) (h3: ∀b,rowB AP=some b-> ¬S b):
 Mk w0 gm hi k o nm nl l AN cN AP cP W':=by
 have hg:gm < W.heap.size:=Nat.lt_of_lt_of_le h.gh h.hw;refine ⟨h.up.trans (hu.below h.up.size (fun b hb=> ?_)),h.lo,h.gh,Nat.le_trans h.hw hu.size,(hu.cell hg h1).trans h.c0,(hu.cell hg h1).trans h.c1,(hu.cell hg h1).trans h.c2,(hu.cell hg h1).trans h.c3,(hu.cell hg h1).trans h.c4,
  fun j=>(hu.frozen hg h1).trans (h.fz j),Z0g h.rN hu h2,Z0g h.rP hu h3,h.ne⟩
 exact Nat.le_of_not_lt (fun hlt=>h0 b hlt hb)
theorem Mk.new (h:Mk w0 gm hi k o nm nl l AN cN AP cP W) (hb:Below W.heap.size W W'):Mk w0 gm hi k o nm nl l AN cN AP cP W':=
 h.upd (S:=fun _=>False) (Upd.new hb) (fun _ _ h=>h) (fun h=>h) (fun _ _ h=>h) (fun _ _ h=>h)
end
theorem Mk.at_ {w0 W:World} {gm hi n0:Nat} {k:Int} {o nm:List UInt8} {nl:List (List UInt8)} {l:List El} {AN AP:Option Addr} {cN cP:Nat} (h:Mk w0 gm hi k o nm nl l AN cN AP cP W)
 (hk: ∀x∈l,Kept (Free n0 hi AN AP) W x) (ho:o.length<=9223372036854775807) (hnm:nm.length<=9223372036854775807) (hnl: ∀x∈nl,x.length<=9223372036854775807) (hl:nl.length<=1000000) (hm:l.length<=1000000):
 Kept (fun b=>b < n0\/hi<=b) W (⟨k,o,nm,nl,l.map Prod.fst⟩,⟨AN,cN,AP,cP⟩):=by
 intro W' hz hs;have hN:=slice_form h.rN;have hP:=slice_form h.rP;have kept: ∀x∈l,ShAt W' W'.heap.size x.2 x.1:=fun x hx=>hk x hx W' hz (fun b hb hf=>hs b hb (by
  rcases hf with h | h
  {exact Or.inl h}
  · exact Or.inr h.1))
 refine .mk _ _ ((rowB AP).getD 0) 0 (fun i=>(l[i]?.map Prod.snd).getD ⟨none,0,none,0⟩) ⟨ho,hnm,hnl,by show nl.length<=_; omega,by show (l.map Prod.fst).length<=_; rw[List.length_map]; omega, ?_, ?_, ?_, ?_⟩ ?_ ?_ ?_ ?_
 {show nl.length<=cN;rcases hN with ⟨_,h1,h2⟩ | ⟨_,_,h1⟩ <;> omega}
 {show (l.map Prod.fst).length<=cP;rw[List.length_map];rcases hP with ⟨_,h1,h2⟩ | ⟨_,_,h1⟩ <;> omega}
 {intro (e:AN=none);show cN=0;rcases hN with ⟨_,h1,h2⟩ | ⟨g,h1,_⟩
  {exact h2}
  {rw[e] at h1; cases h1}}
 {intro (e:AP=none);show cP=0;rcases hP with ⟨_,h1,h2⟩ | ⟨g,h1,_⟩
  {exact h2}
  {rw[e] at h1; cases h1}}
 {show Strs W' W'.heap.size AN (strs nl);rcases hN with ⟨_,h1,_⟩ | ⟨g,rfl,_⟩
  {exact Or.inl (by unfold strs; simp[h1])}
  {have hg:=Z08 h.rN g rfl;refine Or.inr ⟨g,0,rfl,Nat.lt_of_lt_of_le hg.2 hz,fun i hi=> ?_⟩;have hi':i < nl.length:=by simpa[strs] using hi
   have e1:W'.cell? ⟨g,i,none⟩=W.cell? ⟨g,i,none⟩:=World.cell?_of_block (w:=W) (hs g hg.2 (Or.inr hg.1));rw[Nat.zero_add,e1,Z6I h.rN (u:= .string ⟨(nl[i]'hi').toArray⟩) (by unfold namesE; rw[List.getElem?_map,List.getElem?_eq_getElem hi']; rfl)];simp[strs]}}
 {show (l.map Prod.fst).length=0\/_;rcases hP with ⟨_,h1,_⟩ | ⟨g,rfl,_⟩
  {exact Or.inl (by rw[List.length_map]; exact h1)}
  {exact Or.inr ⟨rfl,Nat.lt_of_lt_of_le (Z08 h.rP g rfl).2 hz⟩}}
 {intro i hi;have hi':i < l.length:=by simpa using hi
  rcases hP with ⟨_,h1,_⟩ | ⟨g,rfl,_⟩
  {omega}
  {have hg:=Z08 h.rP g rfl;have e1: ∀j,W'.cell? ⟨g,j,none⟩=W.cell? ⟨g,j,none⟩:=fun j=>World.cell?_of_block (w:=W) (hs g hg.2 (Or.inr hg.1));have e2: ∀c v,c < 5->(cells5 (l[i]'hi'))[c]? =some v->W'.cell? ⟨g,0+i * 5+c,none⟩=some v:=fun c v hc hv=>by
    rw[Nat.zero_add,e1];exact Z6I h.rP (by rw[cellsE_at hi' hc]; exact hv)
   simp only[List.getElem_map];rw[List.getElem?_eq_getElem hi'];exact ⟨e2 0 _ (by omega) rfl,e2 1 _ (by omega) rfl,e2 2 _ (by omega) rfl,e2 3 _ (by omega) rfl,e2 4 _ (by omega) rfl⟩}}
 {intro i hi;have hi':i < l.length:=by simpa using hi
  simp only[List.getElem_map];rw[List.getElem?_eq_getElem hi'];exact kept _ (List.getElem_mem _)}
end SubM
end Go.Proofs.YtlomianlcnmfgaaGreatDoor
namespace Go.Proofs.YtlomianlcnmfgaaGreatDoor
open Go.RowKit
def also (d:Nat->Bool) (i:Nat):Nat->Bool:=fun j=>cond (Nat.beq j i) true (d j)
section
variable {P : Program} {ops : Array Oper} {Q : Exit -> Act -> World -> Prop}
def StepInv (P:Program) (ops:Array Oper) (Q:Exit->Act->World->Prop) (A: (Nat->Value)->Act) (I: (Nat->Bool)->(Nat->Value)->World->Prop) (i:Nat):Prop:=
 ∀o,ops[i]? =some o-> ∀(d:Nat->Bool) (u:Nat->Value) (W:World),I d u W->d i=false->(∀j,waits o j=true->d j=true)->
  wpOp P ops Q i (fun a' w'=> ∃v,a'=A (upd u i v)/\I (also d i) (upd u i v) w') (A u) W
def StepsInv (P:Program) (ops:Array Oper) (Q:Exit->Act->World->Prop) (A: (Nat->Value)->Act) (I: (Nat->Bool)->(Nat->Value)->World->Prop) (rs:List Nat):Prop:=
 ∀i∈rs,StepInv P ops Q A I i
section
variable {A : (Nat -> Value) -> Act} {I : (Nat -> Bool) -> (Nat -> Value) -> World -> Prop}
include A I
theorem StepsInv.nil:StepsInv P ops Q A I []:=fun _ h=>by cases h
theorem StepsInv.cons {i:Nat} {rs:List Nat} (o:Oper) (ho:ops[i]? =some o)
 (h: ∀(d:Nat->Bool) (u:Nat->Value) (W:World) (K':Act->World->Prop),I d u W->d i=false->(∀j,waits o j=true->d j=true)->
  Shut (∀v w',I (also d i) (upd u i v) w'->K' (A (upd u i v)) w')->
  if Region.wanted o (yielded ops (A u).tmps)=true then Oper.wp P o (A u) W K' Q else K' ((A u).put o.dst undef) W)
 (hs:StepsInv P ops Q A I rs):StepsInv P ops Q A I (i::rs):=fun j hj=>by
 rcases List.mem_cons.1 hj with rfl | hj
 {intro o' ho' d u W hI hd hw;rw[ho] at ho';obtain rfl:o=o':=Option.some.inj ho';exact wpOp_step ho (fun K' hK=>h d u W K' hI hd hw (fun v w' h1=>hK _ _ ⟨v,rfl,h1⟩))}
 {exact hs j hj}
end
theorem Z7X (listed:Array Bool) {i:Nat} (hi:i < listed.size): (fun j=>(listed.setIfInBounds i true).getD j false)=also (fun j=>listed.getD j false) i:=by
 funext j;unfold also;by_cases h:j=i
 {subst h;have:Nat.beq j j=true:=Nat.beq_refl j;rw[this];simp[hi]}
 {have hb:Nat.beq j i=false:=by cases hb:Nat.beq j i <;> first | rfl | exact absurd (Nat.eq_of_beq_eq_true hb) h
  rw[hb];exact getD_set_ne false (Ne.symm h)}
theorem ZbM (A: (Nat->Value)->Act) (I: (Nat->Bool)->(Nat->Value)->World->Prop) (hl:lowAfter ops=true)
 (hstep:StepsInv P ops Q A I (List.range ops.size))
 (hdone: ∀d u W,I d u W->(∀j,j < ops.size->d j=true)->Q .normal (A u) W):
 ∀(fuel:Nat) (listed:Array Bool) (u:Nat->Value) (W:World),listed.size=ops.size->listed.toList.count false<=fuel->I (fun j=>listed.getD j false) u W->
  wpAny P .any ops Q fuel listed (A u) W:=by
 intro fuel;induction fuel with
 | zero=>
  intro listed u W hsz hc hI;have hr:Region.ready .any ops listed= []:=by
   refine List.eq_nil_iff_forall_not_mem.2 fun j hj=> ?_;obtain ⟨h1,o,ho,_⟩:=mem_ready.1 hj;have hjs:j < listed.size:=by
    rw[hsz];rcases Nat.lt_or_ge j ops.size with h | h
    {exact h}
    {rw[Array.getElem?_eq_none h] at ho; cases ho}
   refine Z4P listed.toList (by omega) j ?_;simp[hjs] at h1 ⊢;exact h1
  exact ⟨hr,hdone _ u W hI fun j hj=>Z2o hl listed hr hsz (j+1) j (by omega) hj⟩
 | succ fuel ih=>
  intro listed u W hsz hc hI;refine ⟨fun hr=>hdone _ u W hI fun j hj=>Z2o hl listed hr hsz (j+1) j (by omega) hj,fun i hi=> ?_⟩;obtain ⟨h1,o,ho,hall⟩:=mem_ready.1 hi;have his:i < ops.size:=by
   rcases Nat.lt_or_ge i ops.size with h | h
   {exact h}
   {rw[Array.getElem?_eq_none h] at ho; cases ho}
  have hil:i < listed.size:=by omega
  have hdi:listed.getD i false=false:=by simp[hil] at h1 ⊢; exact h1
  have hdep: ∀j,waits o j=true->listed.getD j false=true:=fun j hj=>by
   obtain ⟨e,he,hb⟩:=Array.any_eq_true'.1 hj;simp only[Bool.and_eq_true,beq_iff_eq] at hb;obtain ⟨hb,rfl⟩:=hb;exact hall e he hb
  refine wpOp_mono (fun a' w' h=> ?_) (hstep i (List.mem_range.2 his) o ho (fun j=>listed.getD j false) u W hI hdi hdep);obtain ⟨v,rfl,hI'⟩:=h;rw[<-Z7X listed hil] at hI';refine ih _ _ _ (by simpa using hsz) ?_ hI';have h2:listed.toList[i]? =some false:=by simp[hil] at h1 ⊢; exact h1
  have:=Z5l listed.toList i h2;rw[Array.toList_setIfInBounds];omega
theorem Z21 {id:Nat} {w:World} {rs:List Nat} (A: (Nat->Value)->Act) (u0:Nat->Value) (I: (Nat->Bool)->(Nat->Value)->World->Prop) (hm:P.follows .mixedOrders=true) (hl:lowAfter ops=true)
 (hrs:List.range ops.size=rs) (hI:I (fun _=>false) u0 w.drew) (hstep:StepsInv P ops Q A I rs)
 (hdone: ∀d u W,I d u W->(∀j,j < ops.size->d j=true)->Q .normal (A u) W):
 (Code.region id ops true).wp P Q (A u0) w:=by
 subst hrs;refine wp_region_any hm (ZbM A I hl hstep hdone _ _ _ _ (by simp) ?_ ?_)
 {exact Nat.le_trans List.count_le_length (by simp)}
 {have e: (fun j=>(Array.replicate ops.size false).getD j false)=fun _=>false:=by
   funext j;rcases Nat.lt_or_ge j ops.size with h | h
   {simp[h]}
   {simp[h]}
  rw[e];exact hI}
theorem Z0q {o:Oper} {a:Act} {W W':World} {K':Act->World->Prop} {E:Prop} (hw:Region.wanted o (yielded ops a.tmps)=true)
 (hrun: (execOp a.eval o).run P W= .ok .skip W') (hK:K' (a.put o.dst undef) W'):
 if Region.wanted o (yielded ops a.tmps)=true then Oper.wp P o a W K' Q else E:=by
 rw[if_pos hw,Oper.wp,hrun,Oper.upon_skip];exact hK
end
end Go.Proofs.YtlomianlcnmfgaaGreatDoor
namespace Go.Proofs.YtlomianlcnmfgaaGreatDoor
open Go.RowKit
def Shutd (ops:Array Oper) (d:Nat->Bool):Prop:= ∀k o,ops[k]? =some o->d k=true-> ∀m,waits o m=true->d m=true
section
variable {P : Program} {ops : Array Oper} {Q : Exit -> Act -> World -> Prop} {d : Nat -> Bool}
theorem Z5C (i:Nat) {k:Nat} (h:d k=true):also d i k=true:=by
 unfold also;cases Nat.beq k i
 {exact h}
 {rfl}
theorem Shutd.also (h:Shutd ops d) {i:Nat} {o:Oper} (ho:ops[i]? =some o) (hw: ∀j,waits o j=true->d j=true):Shutd ops (also d i):=by
 intro k o2 hk hd m hm;by_cases e:k=i
 {subst e;rw[ho] at hk;obtain rfl:=Option.some.inj hk;exact Z5C _ (hw m hm)}
 {have:Go.Proofs.YtlomianlcnmfgaaGreatDoor.also d i k=d k:=by
   unfold Go.Proofs.YtlomianlcnmfgaaGreatDoor.also;have:Nat.beq k i=false:=by cases hb:Nat.beq k i <;> first | rfl | exact absurd (Nat.eq_of_beq_eq_true hb) e
   rw[this]; rfl
  rw[this] at hd;exact Z5C _ (h k o2 hk hd m hm)}
theorem StepsInv.cons2 {A: (Nat->Value)->Act} {I: (Nat->Bool)->(Nat->Value)->World->Prop} {i:Nat} {rs:List Nat} (o:Oper) (ho:ops[i]? =some o)
 (h: ∀(d:Nat->Bool) (u:Nat->Value) (W:World) (K':Act->World->Prop),Shutd ops d->I d u W->d i=false->(∀j,waits o j=true->d j=true)->
  Shut (∀v w',I (also d i) (upd u i v) w'->K' (A (upd u i v)) w')->
  if Region.wanted o (yielded ops (A u).tmps)=true then Oper.wp P o (A u) W K' Q else K' ((A u).put o.dst undef) W)
 (hs:StepsInv P ops Q A (fun d u W=>Shutd ops d/\I d u W) rs):StepsInv P ops Q A (fun d u W=>Shutd ops d/\I d u W) (i::rs):=
 StepsInv.cons o ho (fun d u W K' hI hd hw hK=>h d u W K' hI.1 hI.2 hd hw (fun v w' hv=>hK _ _ ⟨hI.1.also ho hw,hv⟩)) hs
theorem Z1u {id:Nat} {w:World} {rs:List Nat} (A: (Nat->Value)->Act) (u0:Nat->Value) (I: (Nat->Bool)->(Nat->Value)->World->Prop) (hm:P.follows .mixedOrders=true) (hl:lowAfter ops=true)
 (hrs:List.range ops.size=rs) (hI:I (fun _=>false) u0 w.drew) (hstep:StepsInv P ops Q A (fun d u W=>Shutd ops d/\I d u W) rs)
 (hdone: ∀d u W,I d u W->(∀j,j < ops.size->d j=true)->Q .normal (A u) W):
 (Code.region id ops true).wp P Q (A u0) w:=
 Z21 A u0 (fun d u W=>Shutd ops d/\I d u W) hm hl hrs ⟨fun _ _ _ h=>(by cases h),hI⟩ hstep (fun d u W h=>hdone d u W h.2)
end
end Go.Proofs.YtlomianlcnmfgaaGreatDoor
namespace Go.Proofs.YtlomianlcnmfgaaGreatDoor
open Go.RowKit Shp Sub
namespace SubM
theorem Z0S {P:Program} {e:TypeId} {z:Value} {size bytes:Nat} (h: (P.info? e).map (fun i=>(i.zero,i.size,i.bytes))=some (some z,size,bytes)): ∃i,P.info? e=some i/\i.zero=some z/\i.size=size/\i.bytes=bytes:=by
 cases hi:P.info? e with
 | none=>rw[hi] at h; cases h
 | some i=>
  rw[hi] at h;simp only[Option.map_some,Option.some.injEq,Prod.mk.injEq] at h;exact ⟨i,rfl,h.1,h.2.1,h.2.2⟩
theorem Z1R: (Tryz.prog.info? 25).map (fun i=>(i.zero,i.size,i.bytes))=some (some (.agg #[.int .i64 0,.string ByteArray.empty,.string ByteArray.empty,.slice none 0 0,.slice none 0 0]),5,88):=by kernel_rfl
theorem Z28: (Tryz.prog.info? 9).map (fun i=>(i.zero,i.size,i.bytes))=some (some (.string ByteArray.empty),1,16):=by kernel_rfl
theorem Z0k (d:Nat->Bool) {i j:Nat} (h:j≠i):also d i j=d j:=by
 unfold also;have:Nat.beq j i=false:=by cases hb:Nat.beq j i <;> first | rfl | exact absurd (Nat.eq_of_beq_eq_true hb) h
 rw[this]; rfl
theorem Z0o (d:Nat->Bool) (i:Nat):also d i i=true:=by unfold also; rw[Nat.beq_refl]; rfl
structure PX where
 W0:World
 gm:Nat
 hi:Nat
 pb:Nat
 AN:Option Addr
 cN:Nat
 AP:Option Addr
 cP:Nat
 nl:List (List UInt8)
 l:List El
 nm:List UInt8
 x:El
namespace PX
variable (X : PX)
def val (j:Nat):Option Value:=match j with
 | 0 | 1 | 2 | 3 | 9 | 10 | 16 | 19=>some (.pointer (some ⟨X.gm,0,none⟩))
 | 4 | 17=>some (.pointer (some ⟨X.gm,3,none⟩))
 | 11 | 20=>some (.pointer (some ⟨X.gm,4,none⟩))
 | 5=>some (.slice X.AN X.nl.length X.cN)
 | 6=>some (.string ⟨X.nm.toArray⟩)
 | 12=>some (.slice X.AP X.l.length X.cP)
 | 13=>some (sv X.x.1 X.x.2)
 | _=>none
def set (b:Nat):Prop:=b=X.gm\/rowB X.AN=some b\/rowB X.AP=some b
structure Good:Prop where
 gh:X.gm < X.hi
 hw:X.hi<=X.pb
 pw:X.pb < X.W0.heap.size
 c3:X.W0.cell? ⟨X.gm,3,none⟩=some (.slice X.AN X.nl.length X.cN)
 c4:X.W0.cell? ⟨X.gm,4,none⟩=some (.slice X.AP X.l.length X.cP)
 fz: ∀j,X.W0.frozen? ⟨X.gm,j,none⟩=false
 rN:X.W0.ownsRow X.hi 9 1 (.slice X.AN X.nl.length X.cN) X.nl.length (namesE X.nl)
 rP:X.W0.ownsRow X.hi 25 5 (.slice X.AP X.l.length X.cP) X.l.length (cellsE X.l)
 ne:rowB X.AN=none\/rowB X.AN≠rowB X.AP
 bn:rowB X.AN≠some X.pb
 bp:rowB X.AP≠some X.pb
 box:Sh5 X.W0 X.pb 0 X.x.1 X.x.2
 ln:X.nl.length<=1000
 ll:X.l.length<=1000
structure PI (d:Nat->Bool) (u:Nat->Value) (W:World):Prop where
 vals: ∀j,d j=true-> ∀v,X.val j=some v->u j=v
 up:Upd X.set X.W0 W
 f7:d 7=true-> ∃z,u 7= .slice (some ⟨z,0,none⟩) 1 1/\X.W0.heap.size<=z/\z < W.heap.size/\W.cell? ⟨z,0,none⟩=some (.string ⟨X.nm.toArray⟩)
 f14:d 14=true-> ∃z,u 14= .slice (some ⟨z,0,none⟩) 1 1/\X.W0.heap.size<=z/\z < W.heap.size/\ ∀(j:Nat) v,(cells5 X.x)[j]? =some v->W.cell? ⟨z,j,none⟩=some v
 n0:d 8=false->W.ownsRow X.hi 9 1 (.slice X.AN X.nl.length X.cN) X.nl.length (namesE X.nl)
 n1:d 8=true-> ∃g c,u 8= .slice (some ⟨g,0,none⟩) (X.nl.length+1) c/\W.ownsRow X.hi 9 1 (.slice (some ⟨g,0,none⟩) (X.nl.length+1) c) (X.nl.length+1) (namesE X.nl++ [.string ⟨X.nm.toArray⟩])/\(rowB X.AN=some g\/X.W0.heap.size<=g)
 p0:d 15=false->W.ownsRow X.hi 25 5 (.slice X.AP X.l.length X.cP) X.l.length (cellsE X.l)
 p1:d 15=true-> ∃g c,u 15= .slice (some ⟨g,0,none⟩) (X.l.length+1) c/\W.ownsRow X.hi 25 5 (.slice (some ⟨g,0,none⟩) (X.l.length+1) c) (X.l.length+1) (cellsE X.l++cells5 X.x)/\(rowB X.AP=some g\/X.W0.heap.size<=g)/\
  ∀g8 n c8,u 8= .slice (some ⟨g8,0,none⟩) n c8->g8≠g
 c3:W.cell? ⟨X.gm,3,none⟩=some (if d 18=true then u 8 else .slice X.AN X.nl.length X.cN)
 c4:W.cell? ⟨X.gm,4,none⟩=some (if d 21=true then u 15 else .slice X.AP X.l.length X.cP)
 cr: ∀j,j < 3->W.cell? ⟨X.gm,j,none⟩=X.W0.cell? ⟨X.gm,j,none⟩
 fz: ∀j,W.frozen? ⟨X.gm,j,none⟩=false
variable {X : PX} {d : Nat -> Bool} {u : Nat -> Value} {W W' : World}
theorem PI.vals' (h:X.PI d u W) {i:Nat} {v:Value} (hv: ∀v',X.val i=some v'->v=v'): ∀j,also d i j=true-> ∀v',X.val j=some v'->upd u i v j=v':=fun j hj v' hv'=>by
 by_cases hij:j=i
 {subst hij; rw[Z0h]; exact hv v' hv'}
 {rw[Z0k d hij] at hj; rw[Z04 u v hij]; exact h.vals j hj v' hv'}
theorem Good.start (h:X.Good):X.PI (fun _=>false) u X.W0.drew:=
 ⟨nofun,(Upd.refl _ _).drew,nofun,nofun,fun _=>h.rN,nofun,fun _=>h.rP,nofun,h.c3,h.c4,fun _ _=>rfl,h.fz⟩
theorem PI.pure (h:X.PI d u W) {i:Nat} (hi:i≠7/\i≠8/\i≠14/\i≠15/\i≠18/\i≠21) {v:Value} (hv: ∀v',X.val i=some v'->v=v'):X.PI (also d i) (upd u i v) W:=by
 have k: ∀j,j=7\/j=8\/j=14\/j=15\/j=18\/j=21->also d i j=d j/\upd u i v j=u j:=fun j hj=>⟨Z0k d (by omega),Z04 u v (by omega)⟩;refine ⟨h.vals' hv,h.up, ?_, ?_, ?_, ?_, ?_, ?_, ?_, ?_,h.cr,h.fz⟩
 {rw[(k 7 (by omega)).1,(k 7 (by omega)).2]; exact h.f7}
 {rw[(k 14 (by omega)).1,(k 14 (by omega)).2]; exact h.f14}
 {rw[(k 8 (by omega)).1]; exact h.n0}
 {rw[(k 8 (by omega)).1,(k 8 (by omega)).2]; exact h.n1}
 {rw[(k 15 (by omega)).1]; exact h.p0}
 {rw[(k 15 (by omega)).1,(k 15 (by omega)).2,(k 8 (by omega)).2]; exact h.p1}
 {rw[(k 18 (by omega)).1,(k 8 (by omega)).2]; exact h.c3}
 {rw[(k 21 (by omega)).1,(k 15 (by omega)).2]; exact h.c4}
theorem Good.set_lt (h:X.Good) {b:Nat} (hb:X.set b):b < X.W0.heap.size:=by
 rcases hb with rfl | hb | hb
 {have:=h.gh; have:=h.hw; have:=h.pw; omega}
 {exact (Z08 h.rN b hb).2}
 {exact (Z08 h.rP b hb).2}
theorem PI.box (h:X.PI d u W) (hX:X.Good):Sh5 W X.pb 0 X.x.1 X.x.2:=
 hX.box.of (fun k=>h.up.cell hX.pw (fun hs=>by
  rcases hs with hs | hs | hs
  {have:=hX.gh; have:=hX.hw; omega}
  {exact hX.bn hs}
  · exact hX.bp hs))
theorem PI.new (h:X.PI d u W) (hX:X.Good) (hb:Below W.heap.size W W'):X.PI d u W':=by
 have hgm:X.gm < W.heap.size:=by have:=hX.gh; have:=hX.hw; have:=hX.pw; have:=h.up.size; omega
 have hu:Upd (fun _=>False) W W':=Upd.new hb;refine ⟨h.vals,h.up.trans (hu.mono (fun _ _ h=>h.elim)),fun h7=> ?_,fun h14=> ?_,fun h8=>Z0g (h.n0 h8) hu (fun _ _ h=>h),fun h8=> ?_,fun h15=>Z0g (h.p0 h15) hu (fun _ _ h=>h),fun h15=> ?_,
  (hu.cell hgm (fun h=>h)).trans h.c3,(hu.cell hgm (fun h=>h)).trans h.c4,fun j hj=>(hu.cell hgm (fun h=>h)).trans (h.cr j hj),fun j=>(hu.frozen hgm (fun h=>h)).trans (h.fz j)⟩
 {obtain ⟨z,e,z1,z2,z3⟩:=h.f7 h7;exact ⟨z,e,z1,Nat.lt_of_lt_of_le z2 hu.size,(hu.cell z2 (fun h=>h)).trans z3⟩}
 {obtain ⟨z,e,z1,z2,z3⟩:=h.f14 h14;exact ⟨z,e,z1,Nat.lt_of_lt_of_le z2 hu.size,fun j v hv=>(hu.cell z2 (fun h=>h)).trans (z3 j v hv)⟩}
 {obtain ⟨g,c,e,r,n⟩:=h.n1 h8;exact ⟨g,c,e,Z0g r hu (fun _ _ h=>h),n⟩}
 {obtain ⟨g,c,e,r,n⟩:=h.p1 h15;exact ⟨g,c,e,Z0g r hu (fun _ _ h=>h),n⟩}
theorem PI.s7 (h:X.PI d u W) (hX:X.Good):X.PI (also d 7) (upd u 7 (.slice (some ⟨W.heap.size,0,none⟩) 1 1)) (W.alloc (.cells #[.string ⟨X.nm.toArray⟩] 9)):=by
 have hn:=h.new hX (Z01 W (.cells #[.string ⟨X.nm.toArray⟩] 9));have k: ∀j,j≠7->also d 7 j=d j/\ ∀v,upd u 7 v j=u j:=fun j hj=>⟨Z0k d hj,fun v=>Z04 u v hj⟩;have hs:=h.up.size;refine ⟨hn.vals' (fun v' h=>by cases h),hn.up,fun _=>⟨W.heap.size,Z0h _ _ _,hs,by simp,by simp[go_sem]⟩, ?_, ?_, ?_, ?_, ?_, ?_, ?_,hn.cr,hn.fz⟩
 {rw[(k 14 (by omega)).1,(k 14 (by omega)).2]; exact hn.f14}
 {rw[(k 8 (by omega)).1]; exact hn.n0}
 {rw[(k 8 (by omega)).1,(k 8 (by omega)).2]; exact hn.n1}
 {rw[(k 15 (by omega)).1]; exact hn.p0}
 {rw[(k 15 (by omega)).1,(k 15 (by omega)).2,(k 8 (by omega)).2]; exact hn.p1}
 {rw[(k 18 (by omega)).1,(k 8 (by omega)).2]; exact hn.c3}
 {rw[(k 21 (by omega)).1,(k 15 (by omega)).2]; exact hn.c4}
theorem PI.s8 (h:X.PI d u W) (hX:X.Good) (h8:d 8=false) (h15:d 15=false) (h18:d 18=false) {g c:Nat} (hown:W'.ownsRow X.hi 9 1 (.slice (some ⟨g,0,none⟩) (X.nl.length+1) c) (X.nl.length+1) (namesE X.nl++ [.string ⟨X.nm.toArray⟩]))
 (hg:W.grownBy W' (rowB X.AN)) (hat:rowB X.AN=some g\/g=W.heap.size):X.PI (also d 8) (upd u 8 (.slice (some ⟨g,0,none⟩) (X.nl.length+1) c)) W':=by
 have k: ∀j,j≠8->also d 8 j=d j/\ ∀v,upd u 8 v j=u j:=fun j hj=>⟨Z0k d hj,fun v=>Z04 u v hj⟩;have hu:Upd (fun b=>rowB X.AN=some b) W W':=(Upd.refl _ W).grown hg (fun k h _=>h);have hgm:X.gm < W.heap.size:=by have:=hX.gh; have:=hX.hw; have:=hX.pw; have:=h.up.size; omega
 have hgN: ¬rowB X.AN=some X.gm:=fun e=>by have:=(Z08 hX.rN _ e).1; have:=hX.gh; omega
 have hnz: ∀z,X.W0.heap.size<=z-> ¬rowB X.AN=some z:=fun z hz e=>by have:=(Z08 hX.rN _ e).2; omega
 have hs:=h.up.size;refine ⟨h.vals' (fun v' h=>by cases h),h.up.trans (hu.mono (fun b _ hb=>Or.inr (Or.inl hb))), ?_, ?_, ?_, ?_, ?_, ?_, ?_, ?_,fun j hj=>(hu.cell hgm hgN).trans (h.cr j hj),fun j=>(hu.frozen hgm hgN).trans (h.fz j)⟩
 {rw[(k 7 (by omega)).1,(k 7 (by omega)).2];intro h7;obtain ⟨z,e,z1,z2,z3⟩:=h.f7 h7;exact ⟨z,e,z1,Nat.lt_of_lt_of_le z2 hu.size,(hu.cell z2 (hnz z z1)).trans z3⟩}
 {rw[(k 14 (by omega)).1,(k 14 (by omega)).2];intro h14;obtain ⟨z,e,z1,z2,z3⟩:=h.f14 h14;exact ⟨z,e,z1,Nat.lt_of_lt_of_le z2 hu.size,fun j v hv=>(hu.cell z2 (hnz z z1)).trans (z3 j v hv)⟩}
 {rw[Z0o]; nofun}
 {exact fun _=>⟨g,c,Z0h _ _ _,hown,hat.imp id (fun e=>by omega)⟩}
 {exact fun _=>Z0g (h.p0 h15) hu (fun b hb e=>by
   rcases hX.ne with hne | hne
   {rw[hne] at e; cases e}
   · exact hne (e.trans hb.symm))}
 {rw[(k 15 (by omega)).1,h15]; nofun}
 {rw[(k 18 (by omega)).1,h18];have:=h.c3;rw[h18] at this;exact (hu.cell hgm hgN).trans this}
 {rw[(k 21 (by omega)).1,(k 15 (by omega)).2];exact (hu.cell hgm hgN).trans h.c4}
theorem not_gm (hX:X.Good) {W':World} {g n c e s m:Nat} {xs:List Value} (r:W'.ownsRow X.hi e s (.slice (some ⟨g,0,none⟩) n c) m xs) {b:Nat} (hb:rowB (some ⟨g,0,none⟩)=some b) (he:b=X.gm):False:=by
 have e1:g=b:=by simpa[rowB] using hb
 have h1:=(r.lt g rfl).1;have:=hX.gh;omega
theorem PI.sto (h:X.PI d u W) (hX:X.Good) (h8:d 8=true) (h15:d 15=true) (i f:Nat) (hi:i=18/\f=3\/i=21/\f=4) (hd:d i=false):X.PI (also d i) (upd u i undef) (W.setCell ⟨X.gm,f,none⟩ (if i=18 then u 8 else u 15)):=by
 have k: ∀j,j≠i->also d i j=d j/\ ∀v,upd u i v j=u j:=fun j hj=>⟨Z0k d hj,fun v=>Z04 u v hj⟩;have hgm:X.gm < W.heap.size:=by have:=hX.gh; have:=hX.hw; have:=hX.pw; have:=h.up.size; omega
 obtain ⟨g8,c8,e8,r8,n8⟩:=h.n1 h8;obtain ⟨g15,c15,e15,r15,n15,m15⟩:=h.p1 h15;have hu:Upd (fun b=>b=X.gm) W (W.setCell ⟨X.gm,f,none⟩ (if i=18 then u 8 else u 15)):=Upd.set (Upd.refl (fun b=>b=X.gm) W) ⟨X.gm,f,none⟩ (fun _=>rfl) _;have far: ∀j,j≠f->(W.setCell ⟨X.gm,f,none⟩ (if i=18 then u 8 else u 15)).cell? ⟨X.gm,j,none⟩=W.cell? ⟨X.gm,j,none⟩:=fun j hj=>World.cell?_setCell_other _ _ _ _ (fun e=>by have:=congrArg Addr.off e; simp at this; omega);have hz: ∀z,X.W0.heap.size<=z-> ¬z=X.gm:=fun z hz e=>by have:=hX.gh; have:=hX.hw; have:=hX.pw; omega
 refine ⟨h.vals' (fun v' h=>by rcases hi with ⟨rfl,_⟩ | ⟨rfl,_⟩ <;> cases h),h.up.trans (hu.mono (fun b _ hb=>Or.inl hb)), ?_, ?_, ?_, ?_, ?_, ?_, ?_, ?_,fun j hj=>(far j (by omega)).trans (h.cr j hj),fun j=>(World.frozen?_setCell ..).trans (h.fz j)⟩
 {rw[(k 7 (by omega)).1,(k 7 (by omega)).2];intro h7;obtain ⟨z,e,z1,z2,z3⟩:=h.f7 h7;exact ⟨z,e,z1,Nat.lt_of_lt_of_le z2 hu.size,(hu.cell z2 (hz z z1)).trans z3⟩}
 {rw[(k 14 (by omega)).1,(k 14 (by omega)).2];intro h14;obtain ⟨z,e,z1,z2,z3⟩:=h.f14 h14;exact ⟨z,e,z1,Nat.lt_of_lt_of_le z2 hu.size,fun j v hv=>(hu.cell z2 (hz z z1)).trans (z3 j v hv)⟩}
 {rw[(k 8 (by omega)).1,h8]; nofun}
 {rw[(k 8 (by omega)).2];exact fun _=>⟨g8,c8,e8,Z0g r8 hu (fun b hb e=>not_gm hX r8 hb e),n8⟩}
 {rw[(k 15 (by omega)).1,h15]; nofun}
 {rw[(k 15 (by omega)).2,(k 8 (by omega)).2];exact fun _=>⟨g15,c15,e15,Z0g r15 hu (fun b hb e=>not_gm hX r15 hb e),n15,m15⟩}
 {rw[(k 8 (by omega)).2];rcases hi with ⟨rfl,rfl⟩ | ⟨rfl,rfl⟩
  {rw[Z0o,if_pos rfl,if_pos rfl];exact World.cell?_setCell_same _ _ _ h.c3}
  {rw[(k 18 (by omega)).1];exact (far 3 (by omega)).trans h.c3}}
 {rw[(k 15 (by omega)).2];rcases hi with ⟨rfl,rfl⟩ | ⟨rfl,rfl⟩
  {rw[(k 21 (by omega)).1];exact (far 4 (by omega)).trans h.c4}
  {rw[Z0o,if_pos rfl,if_neg (by omega)];exact World.cell?_setCell_same _ _ _ h.c4}}
end PX
end SubM
end Go.Proofs.YtlomianlcnmfgaaGreatDoor
namespace Go.Proofs.YtlomianlcnmfgaaGreatDoor
open Go.RowKit Shp Sub
namespace SubM
theorem Z0i {ops:Array Oper} {d:Nat->Bool} (hs:Shutd ops d) {k m:Nat} {o:Oper} (ho:ops[k]? =some o) (hw:waits o m=true) (hm:d m=false):d k=false:=by
 cases h:d k with
 | false=>rfl
 | true=>rw[hs k o ho h m hw] at hm; cases hm
def PutOk (W:World) (gm:Nat) (AN AP:Option Addr) (AN' AP':Option Addr) (W':World):Prop:=
 Upd (fun b=>b=gm\/rowB AN=some b\/rowB AP=some b) W W'/\(∀b,rowB AN'=some b->rowB AN=some b\/W.heap.size<=b)/\(∀b,rowB AP'=some b->rowB AP=some b\/W.heap.size<=b)
end SubM
end Go.Proofs.YtlomianlcnmfgaaGreatDoor
