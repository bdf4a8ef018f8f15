/- GradualBetweens: between and beside two types is the document's type, or none; for all values that the row lets in, with the program's variable laid as its text lays it. -/
import Derived.Lib.SmallJoins
import Derived.Test.YtlomianlcnmfgaaGreatDoorTie
import Derived.Test.YtlomianlcnmfgaaGreatDoorCards
import Derived.LaidMore
import Derived.Lay
import Derived.Test.YtlomianlcnmfgaaGreatDoorK0n23
set_option linter.unusedVariables false
set_option linter.unusedSimpArgs false
set_option linter.unusedSectionVars false
set_option maxRecDepth 100000
set_option maxHeartbeats 16000000
namespace Go.Proofs.YtlomianlcnmfgaaGreatDoor
open Go.RowKit Shp Sub
namespace SubM
theorem Z3L (t:Sh) (q:Ptr) (w:World) (ht:ShAt w w.heap.size q t) (hg:WGlobs w):
 Calls Tryz.prog 30 #[sv t q] w (WIs (Sub.whole (some t)) w):=by
 have hb1:=Z01 w (.cells (Y8 t q) 25);obtain ⟨w1,hw1⟩: ∃w1,w1=w.alloc (.cells (Y8 t q) 25):=⟨_,rfl⟩;have hs1:w1.heap.size=w.heap.size+1:=by rw[hw1]; simp
 have hb2:=Z01 w1 (.cells Yb 25);obtain ⟨w2,hw2⟩: ∃w2,w2=w1.alloc (.cells Yb 25):=⟨_,rfl⟩;have hs2:w2.heap.size=w1.heap.size+1:=by rw[hw2]; simp
 rw[<-hw1] at hb1;rw[<-hw2] at hb2;have hbw:=Z00 hb1 hb2;have hrc:Rc (w.heap.size+1) w2:=by have h:=Z0I hw2; rwa [hs1] at h
 have hB1:Box5 w1 w.heap.size t q:=by rw[hw1]; exact Z05 w t q
 have hBX:=hB1.next hb2;have HBX:=Y1 hBX;have HAT:=Y1 (ht.next hbw);have HG:=Y1 (hg.next hbw);have HW:=Y1 hbw;have HR:=Y1 hrc;have hw1':=hw1.symm;have hw2':=hw2.symm;have lw:w.heap.size+1 < w2.heap.size:=by omega
 obtain ⟨_,⟨x0,x1,x2,x3,x4⟩,_⟩:=hBX;simp only[Nat.zero_add] at x0 x1 x2 x3 x4;clear hw1 hw2 hb1 hb2 hB1 hbw ht hg hrc;unfold sv;go_enter Tryz.func30,Tryz.ntmps30
 go_wp2_with fail
 refine (Z1Z t q w2 HAT.out).mono ?_;rintro e w8 ⟨rfl,hb8⟩;have HB8:=Y1 hb8;have HA8:=Y1 (HAT.out.next hb8);have HBX8:=Y1 (HBX.out.next hb8);clear hb8 x0 x1 x2 x3 x4;by_cases ct:check t=0
 {have HCT:=Y1 ct;rw[ct];clear ct;obtain ⟨_,⟨x0,x1,x2,x3,x4⟩,_⟩:=HBX8.out;simp only[Nat.zero_add] at x0 x1 x2 x3 x4
  go_wp2_with fail
  refine (Z5F t q w8 HA8.out HCT.out).mono ?_;rintro e w9 ⟨q9,F,rfl,hown,hF,hb9⟩;have HJS:Hid (Sub.whole (some t)=some (sorted t)):=Y1 (by unfold Sub.whole; simp[HCT.out]);obtain ⟨z,hz⟩: ∃z,z=sorted t:=⟨_,rfl⟩;rw[<-hz] at hown HJS ⊢;have hb39:=Z00 HB8.out hb9;have hR:=HR.out.upd (T:=fun _=>False) (Upd.new hb39) (fun h=>h);have hK:Kept (fun b=>w2.heap.size<=b) w9 (z,q9):=Z6N hown (fun b hb=>by have h1:=hF b hb; have h2:=HB8.out.size; omega);have HK:=Y1 (hK.move (S':=fun b=>w.heap.size<=b) (RX.lay_upd w9 (w.heap.size+1) z q9) (fun b _ hf=>⟨fun e=>by have e:b=w.heap.size+1:=e; omega,by omega⟩));have HBF:=Y1 ((Z00 HW.out hb39).trans ((RX.lay_upd w9 (w.heap.size+1) z q9).below (by have h1:=HW.out.size; have h2:=hb39.size; omega) (fun x hx=>by omega)));have HLY:=Y1 (RX.lay_at z q9 (W:=w9) (g:=w.heap.size+1) hR.ex);obtain ⟨v0,y0⟩:=hR.ex 0 (by omega);obtain ⟨v1,y1⟩:=hR.ex 1 (by omega);obtain ⟨v2,y2⟩:=hR.ex 2 (by omega);obtain ⟨v3,y3⟩:=hR.ex 3 (by omega);obtain ⟨v4,y4⟩:=hR.ex 4 (by omega);have z0:=hR.fz 0;have z1:=hR.fz 1;have z2:=hR.fz 2;have z3:=hR.fz 3;have z4:=hR.fz 4;clear hR hK hown hF hb9 hb39 hz x0 x1 x2 x3 x4;go_wp2;obtain ⟨u0,u1,u2,u3,u4⟩:=HLY.out;unfold RX.lay at u0 u1 u2 u3 u4;simp only[Nat.zero_add] at u0 u1 u2 u3 u4;refine bodyPost_ret (v:= .tuple #[sv z q9,.bool true]) (by simp[results,Tryz.results30,go_sem,u0,u1,u2,u3,u4]) rfl ?_;refine ⟨q9, ?_, ?_,HBF.out⟩
  {rw[HJS.out]; rfl}
  {rw[HJS.out]; exact HK.out}}
 {have HN:Hid (Sub.whole (some t)=none):=Y1 (by unfold Sub.whole; simp[ct]);have hcn: (check t !=0)=true:=by simpa using ct
  clear ct;have hR:=HR.out.upd (T:=fun _=>False) (Upd.new (HB8.out)) (fun h=>h);have HLY:=Y1 (RX.lay_at Z0c noneQ12 (W:=w8) (g:=w.heap.size+1) hR.ex);have HUP:=Y1 (RX.lay_upd w8 (w.heap.size+1) Z0c noneQ12);obtain ⟨v0,y0⟩:=hR.ex 0 (by omega);obtain ⟨v1,y1⟩:=hR.ex 1 (by omega);obtain ⟨v2,y2⟩:=hR.ex 2 (by omega);obtain ⟨v3,y3⟩:=hR.ex 3 (by omega);obtain ⟨v4,y4⟩:=hR.ex 4 (by omega);have z0:=hR.fz 0;have z1:=hR.fz 1;have z2:=hR.fz 2;have z3:=hR.fz 3;have z4:=hR.fz 4;clear hR;go_wp2;obtain ⟨u0,u1,u2,u3,u4⟩:=HLY.out;unfold RX.lay Z0c at u0 u1 u2 u3 u4;simp only[Nat.zero_add,List.length_nil] at u0 u1 u2 u3 u4;refine bodyPost_ret (v:= .tuple #[.agg #[.int .i64 0,.string ⟨#[]⟩,.string ⟨#[]⟩,.slice none 0 0,.slice none 0 0],.bool false]) (by simp[results,Tryz.results30,go_sem,u0,u1,u2,u3,u4]) rfl ?_;exact Z29 ((Z00 HW.out (HB8.out)).trans (HUP.out.below (by have h1:=HW.out.size; have h2:=(HB8.out).size; omega) (fun x hx=>by omega))) (HN.out)}
section
variable (a b : Sh) (pa pb : Ptr) (w : World) (ha : ShAt w w.heap.size pa a) (hb : ShAt w w.heap.size pb b) (hg : WGlobs w)
include a b pa pb w ha hb hg
theorem Z5U:
 Calls Tryz.prog 13 #[sv a pa,sv b pb] w (WIs (Grd.between a b) w):=by
 have hb1:=Z01 w (.cells (Y8 a pa) 25);obtain ⟨w1,hw1⟩: ∃w1,w1=w.alloc (.cells (Y8 a pa) 25):=⟨_,rfl⟩;have hs1:w1.heap.size=w.heap.size+1:=by rw[hw1]; simp
 have hb2:=Z01 w1 (.cells (Y8 b pb) 25);obtain ⟨w2,hw2⟩: ∃w2,w2=w1.alloc (.cells (Y8 b pb) 25):=⟨_,rfl⟩;have hs2:w2.heap.size=w.heap.size+1+1:=by rw[hw2]; simp[hs1]
 have hb3:=Z01 w2 (.cells Yb 25);obtain ⟨w3,hw3⟩: ∃w3,w3=w2.alloc (.cells Yb 25):=⟨_,rfl⟩;have hs3:w3.heap.size=w.heap.size+1+1+1:=by rw[hw3]; simp[hs2]
 rw[<-hw1] at hb1;rw[<-hw2] at hb2;rw[<-hw3] at hb3;have hbw:=Z00 hb1 (Z00 hb2 hb3);have hrc:Rc (w.heap.size+1+1) w3:=by have h:=Z0I hw3; rwa [hs2] at h
 have hB1:Box5 w1 w.heap.size a pa:=by rw[hw1]; exact Z05 w a pa
 have hB2:Box5 w2 w1.heap.size b pb:=by rw[hw2]; exact Z05 w1 b pb
 have hBA:=(hB1.next hb2).next hb3;have hBB:=hB2.next hb3;rw[hs1] at hBB;have HBA:=Y1 hBA;have HBB:=Y1 hBB;have HA:=Y1 (ha.next hbw);have HB:=Y1 (hb.next hbw);have HG:=Y1 (hg.next hbw);have HW:=Y1 hbw;have HR:=Y1 hrc;obtain ⟨_,⟨a0,a1,a2,a3,a4⟩,_⟩:=hBA;obtain ⟨_,⟨b0,b1,b2,b3,b4⟩,_⟩:=hBB;simp only[Nat.zero_add] at a0 a1 a2 a3 a4 b0 b1 b2 b3 b4;have hw1':=hw1.symm;have hw2':=hw2.symm;have hw3':=hw3.symm;have lw:w.heap.size+1+1 < w3.heap.size:=by omega
 clear hw1 hw2 hw3 hb1 hb2 hb3 hB1 hB2 hbw ha hb hg hrc;have HU:=Y1 (Z59 a b pa pb w3 HA.out HB.out HG.out);unfold sv at HU ⊢;go_enter Tryz.func13,Tryz.ntmps13
 go_wp2_with fail
 refine HU.out.mono ?_;rintro e w4 ⟨rfl,hb4⟩;have HB4:=Y1 hb4;clear hb4 a0 a1 a2 a3 a4 b0 b1 b2 b3 b4 HU;cases hnr:Grd.near a b with
 | false=>
  have HN:Hid (Grd.between a b=none):=Y1 (by unfold Grd.between; rw[hnr]; rfl);clear hnr;have hR:=HR.out.upd (T:=fun _=>False) (Upd.new (HB4.out)) (fun h=>h);have HLY:=Y1 (RX.lay_at Z0c noneQ12 (W:=w4) (g:=w.heap.size+1+1) hR.ex);have HUP:=Y1 (RX.lay_upd w4 (w.heap.size+1+1) Z0c noneQ12);obtain ⟨v0,y0⟩:=hR.ex 0 (by omega);obtain ⟨v1,y1⟩:=hR.ex 1 (by omega);obtain ⟨v2,y2⟩:=hR.ex 2 (by omega);obtain ⟨v3,y3⟩:=hR.ex 3 (by omega);obtain ⟨v4,y4⟩:=hR.ex 4 (by omega);have z0:=hR.fz 0;have z1:=hR.fz 1;have z2:=hR.fz 2;have z3:=hR.fz 3;have z4:=hR.fz 4;clear hR;go_wp2;obtain ⟨u0,u1,u2,u3,u4⟩:=HLY.out;unfold RX.lay Z0c at u0 u1 u2 u3 u4;simp only[Nat.zero_add,List.length_nil] at u0 u1 u2 u3 u4;refine bodyPost_ret (v:= .tuple #[.agg #[.int .i64 0,.string ⟨#[]⟩,.string ⟨#[]⟩,.slice none 0 0,.slice none 0 0],.bool false]) (by simp[results,Tryz.results13,go_sem,u0,u1,u2,u3,u4]) rfl ?_;exact Z29 ((Z00 HW.out (HB4.out)).trans (HUP.out.below (by have h1:=HW.out.size; have h2:=(HB4.out).size; omega) (fun x hx=>by omega))) (HN.out)
 | true=>
  have HV:Hid (Grd.between a b=Sub.whole (some (Grd.dnamed 40 a b))):=Y1 (by unfold Grd.between; rw[if_pos hnr]; obtain ⟨ca,cb,hrr⟩:=Grd.near_iff.1 hnr; exact (Grd.dwhole (Z07 ca).2.2 (Z07 cb).2.2 (Z07 ca).2.1 (Z07 cb).2.1 hrr).symm);obtain ⟨ca,cb,hrr⟩:=Grd.near_iff.1 hnr;have hta:Two 40 a b:=⟨(Z07 ca).2.2,(Z07 cb).2.2,(Z07 ca).2.1,(Z07 cb).2.1,(Z07 ca).1,(Z07 cb).1⟩;obtain ⟨_,⟨a0,a1,a2,a3,a4⟩,_⟩:=HBA.out.next HB4.out;obtain ⟨_,⟨b0,b1,b2,b3,b4⟩,_⟩:=HBB.out.next HB4.out;simp only[Nat.zero_add] at a0 a1 a2 a3 a4 b0 b1 b2 b3 b4;have HU:=Y1 (dok 40 _ a b pa pb w4.heap.size w4 hta hrr (HA.out.next HB4.out) (HB.out.next HB4.out) (Nat.le_refl _)).1;obtain ⟨t,ht⟩: ∃t,t=Grd.dnamed 40 a b:=⟨_,rfl⟩;rw[<-ht] at HU HV;unfold sv at HU;clear hnr ca cb hrr hta ht
  go_wp2_with fail
  refine HU.out.mono ?_;rintro e w5 ⟨q,rfl,hb5,hk5⟩;have HB5:=Y1 (Z00 HB4.out hb5);have HU2:=Y1 (Z3L t q w5 hk5.here (HG.out.next HB5.out));unfold sv at HU2;clear hb5 hk5 HU a0 a1 a2 a3 a4 b0 b1 b2 b3 b4
  go_wp2_with fail
  refine HU2.out.mono ?_;rintro e w6 ⟨q9,rfl,hk,hb6⟩;rw[<-HV.out] at hk ⊢;obtain ⟨o,ho⟩: ∃o,o=Grd.between a b:=⟨_,rfl⟩;rw[<-ho] at hk ⊢;obtain ⟨z,hz⟩: ∃z,z=o.getD Z0c:=⟨_,rfl⟩;obtain ⟨ok,hok⟩: ∃ok,ok=o.isSome:=⟨_,rfl⟩;rw[<-hz] at hk;have hb36:=Z00 HB5.out hb6;have hR:=HR.out.upd (T:=fun _=>False) (Upd.new hb36) (fun h=>h);have HK:=Y1 (hk.move (S':=fun b=>w.heap.size<=b) (RX.lay_upd w6 (w.heap.size+1+1) z q9) (fun b _ hf=>⟨fun e=>by have e:b=w.heap.size+1+1:=e; have:=HB5.out.size; omega,by have:=HW.out.size; have:=HB5.out.size; omega⟩));have HBF:=Y1 ((Z00 HW.out hb36).trans ((RX.lay_upd w6 (w.heap.size+1+1) z q9).below (by have h1:=HW.out.size; have h2:=hb36.size; omega) (fun x hx=>by omega)));have HLY:=Y1 (RX.lay_at z q9 (W:=w6) (g:=w.heap.size+1+1) hR.ex);have HZ:=Y1 hz;have HOK:=Y1 hok;have HO:=Y1 ho;rw[<-hz, <-hok];obtain ⟨v0,y0⟩:=hR.ex 0 (by omega);obtain ⟨v1,y1⟩:=hR.ex 1 (by omega);obtain ⟨v2,y2⟩:=hR.ex 2 (by omega);obtain ⟨v3,y3⟩:=hR.ex 3 (by omega);obtain ⟨v4,y4⟩:=hR.ex 4 (by omega);have z0:=hR.fz 0;have z1:=hR.fz 1;have z2:=hR.fz 2;have z3:=hR.fz 3;have z4:=hR.fz 4;clear hR hk hb36 hb6 hz hok ho HU2;unfold sv;go_wp2;obtain ⟨u0,u1,u2,u3,u4⟩:=HLY.out;unfold RX.lay at u0 u1 u2 u3 u4;simp only[Nat.zero_add] at u0 u1 u2 u3 u4;refine bodyPost_ret (v:= .tuple #[sv z q9,.bool ok]) (by simp[results,Tryz.results13,go_sem,u0,u1,u2,u3,u4]) rfl ?_;refine ⟨q9, ?_, ?_,HBF.out⟩
  {rw[<-HO.out, <-HZ.out, <-HOK.out]}
  {rw[<-HO.out, <-HZ.out]; exact HK.out}
theorem Z6Z:
 Calls Tryz.prog 15 #[sv a pa,sv b pb] w (WIs (Grd.beside a b) w):=by
 have hb1:=Z01 w (.cells (Y8 a pa) 25);obtain ⟨w1,hw1⟩: ∃w1,w1=w.alloc (.cells (Y8 a pa) 25):=⟨_,rfl⟩;have hs1:w1.heap.size=w.heap.size+1:=by rw[hw1]; simp
 have hb2:=Z01 w1 (.cells (Y8 b pb) 25);obtain ⟨w2,hw2⟩: ∃w2,w2=w1.alloc (.cells (Y8 b pb) 25):=⟨_,rfl⟩;have hs2:w2.heap.size=w.heap.size+1+1:=by rw[hw2]; simp[hs1]
 have hb3:=Z01 w2 (.cells Yb 25);obtain ⟨w3,hw3⟩: ∃w3,w3=w2.alloc (.cells Yb 25):=⟨_,rfl⟩;have hs3:w3.heap.size=w.heap.size+1+1+1:=by rw[hw3]; simp[hs2]
 rw[<-hw1] at hb1;rw[<-hw2] at hb2;rw[<-hw3] at hb3;have hbw:=Z00 hb1 (Z00 hb2 hb3);have hrc:Rc (w.heap.size+1+1) w3:=by have h:=Z0I hw3; rwa [hs2] at h
 have hB1:Box5 w1 w.heap.size a pa:=by rw[hw1]; exact Z05 w a pa
 have hB2:Box5 w2 w1.heap.size b pb:=by rw[hw2]; exact Z05 w1 b pb
 have hBA:=(hB1.next hb2).next hb3;have hBB:=hB2.next hb3;rw[hs1] at hBB;have HBA:=Y1 hBA;have HBB:=Y1 hBB;have HA:=Y1 (ha.next hbw);have HB:=Y1 (hb.next hbw);have HG:=Y1 (hg.next hbw);have HW:=Y1 hbw;have HR:=Y1 hrc;obtain ⟨_,⟨a0,a1,a2,a3,a4⟩,_⟩:=hBA;obtain ⟨_,⟨b0,b1,b2,b3,b4⟩,_⟩:=hBB;simp only[Nat.zero_add] at a0 a1 a2 a3 a4 b0 b1 b2 b3 b4;have hw1':=hw1.symm;have hw2':=hw2.symm;have hw3':=hw3.symm;have lw:w.heap.size+1+1 < w3.heap.size:=by omega
 clear hw1 hw2 hw3 hb1 hb2 hb3 hB1 hB2 hbw ha hb hg hrc;have HU:=Y1 (Z59 a b pa pb w3 HA.out HB.out HG.out);unfold sv at HU ⊢;go_enter Tryz.func15,Tryz.ntmps15
 go_wp2_with fail
 refine HU.out.mono ?_;rintro e w4 ⟨rfl,hb4⟩;have HB4:=Y1 hb4;clear hb4 a0 a1 a2 a3 a4 b0 b1 b2 b3 b4 HU;cases hnr:Grd.near a b with
 | false=>
  have HN:Hid (Grd.beside a b=none):=Y1 (by unfold Grd.beside; rw[hnr]; rfl);clear hnr;have hR:=HR.out.upd (T:=fun _=>False) (Upd.new (HB4.out)) (fun h=>h);have HLY:=Y1 (RX.lay_at Z0c noneQ12 (W:=w4) (g:=w.heap.size+1+1) hR.ex);have HUP:=Y1 (RX.lay_upd w4 (w.heap.size+1+1) Z0c noneQ12);obtain ⟨v0,y0⟩:=hR.ex 0 (by omega);obtain ⟨v1,y1⟩:=hR.ex 1 (by omega);obtain ⟨v2,y2⟩:=hR.ex 2 (by omega);obtain ⟨v3,y3⟩:=hR.ex 3 (by omega);obtain ⟨v4,y4⟩:=hR.ex 4 (by omega);have z0:=hR.fz 0;have z1:=hR.fz 1;have z2:=hR.fz 2;have z3:=hR.fz 3;have z4:=hR.fz 4;clear hR;go_wp2;obtain ⟨u0,u1,u2,u3,u4⟩:=HLY.out;unfold RX.lay Z0c at u0 u1 u2 u3 u4;simp only[Nat.zero_add,List.length_nil] at u0 u1 u2 u3 u4;refine bodyPost_ret (v:= .tuple #[.agg #[.int .i64 0,.string ⟨#[]⟩,.string ⟨#[]⟩,.slice none 0 0,.slice none 0 0],.bool false]) (by simp[results,Tryz.results15,go_sem,u0,u1,u2,u3,u4]) rfl ?_;exact Z29 ((Z00 HW.out (HB4.out)).trans (HUP.out.below (by have h1:=HW.out.size; have h2:=(HB4.out).size; omega) (fun x hx=>by omega))) (HN.out)
 | true=>
  have HV:Hid (Grd.beside a b=Sub.whole (some (Grd.dnamed 40 b a))):=Y1 (by unfold Grd.beside; rw[if_pos hnr]; obtain ⟨ca,cb,hrr⟩:=Grd.near_iff.1 hnr; exact (Grd.dwhole (Z07 cb).2.2 (Z07 ca).2.2 (Z07 cb).2.1 (Z07 ca).2.1 hrr.flip).symm);obtain ⟨ca,cb,hrr⟩:=Grd.near_iff.1 hnr;have hta:Two 40 a b:=⟨(Z07 ca).2.2,(Z07 cb).2.2,(Z07 ca).2.1,(Z07 cb).2.1,(Z07 ca).1,(Z07 cb).1⟩;obtain ⟨_,⟨a0,a1,a2,a3,a4⟩,_⟩:=HBA.out.next HB4.out;obtain ⟨_,⟨b0,b1,b2,b3,b4⟩,_⟩:=HBB.out.next HB4.out;simp only[Nat.zero_add] at a0 a1 a2 a3 a4 b0 b1 b2 b3 b4;have HU:=Y1 (dok 40 _ b a pb pa w4.heap.size w4 hta.swap hrr.flip (HB.out.next HB4.out) (HA.out.next HB4.out) (Nat.le_refl _)).2;obtain ⟨t,ht⟩: ∃t,t=Grd.dnamed 40 b a:=⟨_,rfl⟩;rw[<-ht] at HU HV;unfold sv at HU;clear hnr ca cb hrr hta ht
  go_wp2_with fail
  refine HU.out.mono ?_;rintro e w5 ⟨q,rfl,hb5,hk5⟩;have HB5:=Y1 (Z00 HB4.out hb5);have HU2:=Y1 (Z3L t q w5 hk5.here (HG.out.next HB5.out));unfold sv at HU2;clear hb5 hk5 HU a0 a1 a2 a3 a4 b0 b1 b2 b3 b4
  go_wp2_with fail
  refine HU2.out.mono ?_;rintro e w6 ⟨q9,rfl,hk,hb6⟩;rw[<-HV.out] at hk ⊢;obtain ⟨o,ho⟩: ∃o,o=Grd.beside a b:=⟨_,rfl⟩;rw[<-ho] at hk ⊢;obtain ⟨z,hz⟩: ∃z,z=o.getD Z0c:=⟨_,rfl⟩;obtain ⟨ok,hok⟩: ∃ok,ok=o.isSome:=⟨_,rfl⟩;rw[<-hz] at hk;have hb36:=Z00 HB5.out hb6;have hR:=HR.out.upd (T:=fun _=>False) (Upd.new hb36) (fun h=>h);have HK:=Y1 (hk.move (S':=fun b=>w.heap.size<=b) (RX.lay_upd w6 (w.heap.size+1+1) z q9) (fun b _ hf=>⟨fun e=>by have e:b=w.heap.size+1+1:=e; have:=HB5.out.size; omega,by have:=HW.out.size; have:=HB5.out.size; omega⟩));have HBF:=Y1 ((Z00 HW.out hb36).trans ((RX.lay_upd w6 (w.heap.size+1+1) z q9).below (by have h1:=HW.out.size; have h2:=hb36.size; omega) (fun x hx=>by omega)));have HLY:=Y1 (RX.lay_at z q9 (W:=w6) (g:=w.heap.size+1+1) hR.ex);have HZ:=Y1 hz;have HOK:=Y1 hok;have HO:=Y1 ho;rw[<-hz, <-hok];obtain ⟨v0,y0⟩:=hR.ex 0 (by omega);obtain ⟨v1,y1⟩:=hR.ex 1 (by omega);obtain ⟨v2,y2⟩:=hR.ex 2 (by omega);obtain ⟨v3,y3⟩:=hR.ex 3 (by omega);obtain ⟨v4,y4⟩:=hR.ex 4 (by omega);have z0:=hR.fz 0;have z1:=hR.fz 1;have z2:=hR.fz 2;have z3:=hR.fz 3;have z4:=hR.fz 4;clear hR hk hb36 hb6 hz hok ho HU2;unfold sv;go_wp2;obtain ⟨u0,u1,u2,u3,u4⟩:=HLY.out;unfold RX.lay at u0 u1 u2 u3 u4;simp only[Nat.zero_add] at u0 u1 u2 u3 u4;refine bodyPost_ret (v:= .tuple #[sv z q9,.bool ok]) (by simp[results,Tryz.results15,go_sem,u0,u1,u2,u3,u4]) rfl ?_;refine ⟨q9, ?_, ?_,HBF.out⟩
  {rw[<-HO.out, <-HZ.out, <-HOK.out]}
  {rw[<-HO.out, <-HZ.out]; exact HK.out}
end
end SubM
end Go.Proofs.YtlomianlcnmfgaaGreatDoor
namespace Go.Proofs.YtlomianlcnmfgaaGreatDoor
open Go.RowKit Shp Sub
namespace SubM
theorem gradBetweens_walk (a:Sh) (pa:Ptr) (b:Sh) (pb:Ptr) (w:World) (ha:ShAt w w.heap.size pa a) (hb:ShAt w w.heap.size pb b) (hg:WGlobs w):
 Y9 5 #[.agg (Y8 a pa),.agg (Y8 b pb)] w (.bool true):=by
 have hx1:=Z01 w (.cells (Y8 a pa) 25);obtain ⟨q1,hu1⟩: ∃z,w.alloc (.cells (Y8 a pa) 25)=z:=⟨_,rfl⟩;have hs1:q1.heap.size=w.heap.size+1:=by rw[<-hu1]; simp
 have hy1:=Z05 w a pa;rw[hu1] at hx1 hy1;have hx2:=Z01 q1 (.cells (Y8 b pb) 25);obtain ⟨q2,hu2⟩: ∃z,q1.alloc (.cells (Y8 b pb) 25)=z:=⟨_,rfl⟩;have hs2:q2.heap.size=w.heap.size+1+1:=by rw[<-hu2]; simp[hs1]
 have hy2:=Z05 q1 b pb;rw[hu2] at hx2 hy2;rw[hs1] at hy2;have hbw:=(Z00 hx1 hx2);have HXa:=Y1 (hy1.next hx2);have HAa:=Y1 (ha.next hbw);have HXb:=Y1 hy2;have HAb:=Y1 (hb.next hbw);have HG:=Y1 (hg.next hbw);have HB1:=Y1 hbw;have HB:=Y1 (Below.refl q2.heap.size q2);clear hbw hg hx1 hy1 ha hx2 hy2 hb;obtain ⟨u,hu⟩: ∃z,z=(Grd.between a b).getD Z0c:=⟨_,rfl⟩;obtain ⟨ou,hou⟩: ∃z,z=(Grd.between a b).isSome:=⟨_,rfl⟩;obtain ⟨v,hv⟩: ∃z,z=(Grd.beside a b).getD Z0c:=⟨_,rfl⟩;obtain ⟨ov,hov⟩: ∃z,z=(Grd.beside a b).isSome:=⟨_,rfl⟩;have HEu:=Y1 hu;have HEv:=Y1 hv;have HOu:=Y1 hou;have HOv:=Y1 hov;clear hu hv hou hov;obtain ⟨_,⟨a0,a1,a2,a3,a4⟩,_⟩:=HXa.out.next HB.out;simp only[Nat.zero_add] at a0 a1 a2 a3 a4;obtain ⟨_,⟨b0,b1,b2,b3,b4⟩,_⟩:=HXb.out.next HB.out;simp only[Nat.zero_add] at b0 b1 b2 b3 b4;have HU:=Y1 (Z3K a b pa pb _ (HAa.out.next HB.out) (HAb.out.next HB.out) (HG.out.next HB.out))
 try unfold sv at HU
 go_enter Tryz.func5,Tryz.ntmps5
 go_wp2_with fail
 refine HU.out.mono ?_;rintro e w1 ⟨qu,he,hat,hb1⟩;rw[<-HEu.out, <-HOu.out] at he;rw[<-HEu.out] at hat;subst he;have hb2:=Z01 w1 (.cells (Y8 u qu) 25);have HXu:=Y1 (Z05 w1 u qu);have HAu:=Y1 (hat.here.next hb2);have HB:=Y1 (Z00 HB.out (Z00 hb1 hb2));obtain ⟨W1,hW1⟩: ∃z,w1.alloc (.cells (Y8 u qu) 25)=z:=⟨_,rfl⟩;rw[hW1] at HXu HAu HB;clear hb1 hb2 hat HU a0 a1 a2 a3 a4 b0 b1 b2 b3 b4;have HXa:=Y1 (HXa.out.next HB.out);have HAa:=Y1 (HAa.out.next HB.out);have HXb:=Y1 (HXb.out.next HB.out);have HAb:=Y1 (HAb.out.next HB.out);have HG:=Y1 (HG.out.next HB.out);have HB1:=Y1 (Z00 HB1.out HB.out);have HB:=Y1 (Below.refl W1.heap.size W1)
 try unfold sv
 clear hu1 hs1 hu2 hs2;obtain ⟨_,⟨a0,a1,a2,a3,a4⟩,_⟩:=HXa.out.next HB.out;simp only[Nat.zero_add] at a0 a1 a2 a3 a4;obtain ⟨_,⟨b0,b1,b2,b3,b4⟩,_⟩:=HXb.out.next HB.out;simp only[Nat.zero_add] at b0 b1 b2 b3 b4;have HU:=Y1 (Z5U a b pa pb _ (HAa.out.next HB.out) (HAb.out.next HB.out) (HG.out.next HB.out))
 try unfold sv at HU
 go_wp2_with fail
 refine HU.out.mono ?_;rintro e w2 ⟨qx,he,hat,hb1⟩;rw[<-HEu.out, <-HOu.out] at he;rw[<-HEu.out] at hat;subst he;have hb2:=Z01 w2 (.cells (Y8 u qx) 25);have HXx:=Y1 (Z05 w2 u qx);have HAx:=Y1 (hat.here.next hb2);have HB:=Y1 (Z00 HB.out (Z00 hb1 hb2));obtain ⟨W2,hW2⟩: ∃z,w2.alloc (.cells (Y8 u qx) 25)=z:=⟨_,rfl⟩;rw[hW2] at HXx HAx HB;clear hb1 hb2 hat HU a0 a1 a2 a3 a4 b0 b1 b2 b3 b4;have HXa:=Y1 (HXa.out.next HB.out);have HAa:=Y1 (HAa.out.next HB.out);have HXb:=Y1 (HXb.out.next HB.out);have HAb:=Y1 (HAb.out.next HB.out);have HXu:=Y1 (HXu.out.next HB.out);have HAu:=Y1 (HAu.out.next HB.out);have HG:=Y1 (HG.out.next HB.out);have HB1:=Y1 (Z00 HB1.out HB.out);have HB:=Y1 (Below.refl W2.heap.size W2)
 try unfold sv
 clear hW1;obtain ⟨_,⟨a0,a1,a2,a3,a4⟩,_⟩:=HXa.out.next HB.out;simp only[Nat.zero_add] at a0 a1 a2 a3 a4;obtain ⟨_,⟨b0,b1,b2,b3,b4⟩,_⟩:=HXb.out.next HB.out;simp only[Nat.zero_add] at b0 b1 b2 b3 b4;have HU:=Y1 (Z6O a b pa pb _ (HAa.out.next HB.out) (HAb.out.next HB.out) (HG.out.next HB.out))
 try unfold sv at HU
 go_wp2_with fail
 refine HU.out.mono ?_;rintro e w3 ⟨qv,he,hat,hb1⟩;rw[<-HEv.out, <-HOv.out] at he;rw[<-HEv.out] at hat;subst he;have hb2:=Z01 w3 (.cells (Y8 v qv) 25);have HXv:=Y1 (Z05 w3 v qv);have HAv:=Y1 (hat.here.next hb2);have HB:=Y1 (Z00 HB.out (Z00 hb1 hb2));obtain ⟨W3,hW3⟩: ∃z,w3.alloc (.cells (Y8 v qv) 25)=z:=⟨_,rfl⟩;rw[hW3] at HXv HAv HB;clear hb1 hb2 hat HU a0 a1 a2 a3 a4 b0 b1 b2 b3 b4;have HXa:=Y1 (HXa.out.next HB.out);have HAa:=Y1 (HAa.out.next HB.out);have HXb:=Y1 (HXb.out.next HB.out);have HAb:=Y1 (HAb.out.next HB.out);have HXu:=Y1 (HXu.out.next HB.out);have HAu:=Y1 (HAu.out.next HB.out);have HXx:=Y1 (HXx.out.next HB.out);have HAx:=Y1 (HAx.out.next HB.out);have HG:=Y1 (HG.out.next HB.out);have HB1:=Y1 (Z00 HB1.out HB.out);have HB:=Y1 (Below.refl W3.heap.size W3)
 try unfold sv
 clear hW2;obtain ⟨_,⟨a0,a1,a2,a3,a4⟩,_⟩:=HXa.out.next HB.out;simp only[Nat.zero_add] at a0 a1 a2 a3 a4;obtain ⟨_,⟨b0,b1,b2,b3,b4⟩,_⟩:=HXb.out.next HB.out;simp only[Nat.zero_add] at b0 b1 b2 b3 b4;have HU:=Y1 (Z6Z a b pa pb _ (HAa.out.next HB.out) (HAb.out.next HB.out) (HG.out.next HB.out))
 try unfold sv at HU
 go_wp2_with fail
 refine HU.out.mono ?_;rintro e w4 ⟨qy,he,hat,hb1⟩;rw[<-HEv.out, <-HOv.out] at he;rw[<-HEv.out] at hat;subst he;have hb2:=Z01 w4 (.cells (Y8 v qy) 25);have HXy:=Y1 (Z05 w4 v qy);have HAy:=Y1 (hat.here.next hb2);have HB:=Y1 (Z00 HB.out (Z00 hb1 hb2));obtain ⟨W4,hW4⟩: ∃z,w4.alloc (.cells (Y8 v qy) 25)=z:=⟨_,rfl⟩;rw[hW4] at HXy HAy HB;clear hb1 hb2 hat HU a0 a1 a2 a3 a4 b0 b1 b2 b3 b4;have HXa:=Y1 (HXa.out.next HB.out);have HAa:=Y1 (HAa.out.next HB.out);have HXb:=Y1 (HXb.out.next HB.out);have HAb:=Y1 (HAb.out.next HB.out);have HXu:=Y1 (HXu.out.next HB.out);have HAu:=Y1 (HAu.out.next HB.out);have HXx:=Y1 (HXx.out.next HB.out);have HAx:=Y1 (HAx.out.next HB.out);have HXv:=Y1 (HXv.out.next HB.out);have HAv:=Y1 (HAv.out.next HB.out);have HG:=Y1 (HG.out.next HB.out);have HB1:=Y1 (Z00 HB1.out HB.out);have HB:=Y1 (Below.refl W4.heap.size W4)
 try unfold sv
 clear hW3;obtain ⟨_,⟨cu0,cu1,cu2,cu3,cu4⟩,_⟩:=HXu.out.next HB.out;simp only[Nat.zero_add] at cu0 cu1 cu2 cu3 cu4;obtain ⟨_,⟨cx0,cx1,cx2,cx3,cx4⟩,_⟩:=HXx.out.next HB.out;simp only[Nat.zero_add] at cx0 cx1 cx2 cx3 cx4;have HU:=Y1 (Z39 u u qu qx _ (HAu.out.next HB.out) (HAx.out.next HB.out));rw[Z2y] at HU
 go_wp2_with fail
 refine HU.out.mono ?_;rintro e w5 ⟨rfl,hb1⟩;have HB:=Y1 (Z00 HB.out hb1);clear hb1 HU cu0 cu1 cu2 cu3 cu4 cx0 cx1 cx2 cx3 cx4;clear hW4;obtain ⟨_,⟨cv0,cv1,cv2,cv3,cv4⟩,_⟩:=HXv.out.next HB.out;simp only[Nat.zero_add] at cv0 cv1 cv2 cv3 cv4;obtain ⟨_,⟨cy0,cy1,cy2,cy3,cy4⟩,_⟩:=HXy.out.next HB.out;simp only[Nat.zero_add] at cy0 cy1 cy2 cy3 cy4;have HU:=Y1 (Z39 v v qv qy _ (HAv.out.next HB.out) (HAy.out.next HB.out));rw[Z2y] at HU
 go_wp2_with fail
 refine HU.out.mono ?_;rintro e w6 ⟨rfl,hb1⟩;have HB:=Y1 (Z00 HB.out hb1);clear hb1 HU cv0 cv1 cv2 cv3 cv4 cy0 cy1 cy2 cy3 cy4
 go_wp2_with fail
 refine (Z6P _ (HG.out.next HB.out)).mono ?_;rintro e w7 ⟨rfl,hb1⟩;have HB:=Y1 (Z00 HB1.out (Z00 HB.out hb1));clear hb1;go_wp2;go_ret;exact ⟨rfl,HB.out⟩
end SubM
end Go.Proofs.YtlomianlcnmfgaaGreatDoor
namespace Go.Proofs.YtlomianlcnmfgaaGreatDoor
section
open Go.RowKit Shp
theorem Z5a {H:Type} {enc:TypeId×Value->H} {W:World} {base b0:Nat} {held:Bool} {v:Value} {d:DataW H} {p:List MemPlace}
 (hv:Value.okWide Tryz.prog W .any b0 25 v) (h:DataW.Trod enc Tryz.prog W base (fun _=>true) held 25 v d p):
 ∃(t:Sh) (q:Ptr),v= .agg (Y8 t q)/\ShAt W W.heap.size q t:=by
 obtain ⟨cs,rfl,hsz⟩:=Go.WideShapes.okWide_struct Tryz.underlying25 hv;obtain ⟨n,hn⟩:=h;obtain ⟨t,q,hcs,hat⟩:=Z8z n hn;refine ⟨t,q, ?_,hat⟩;congr 1;apply Array.ext';exact hcs
end
end Go.Proofs.YtlomianlcnmfgaaGreatDoor
namespace Go.Proofs.YtlomianlcnmfgaaGreatDoor.gradualBetweens
section
open Go.ChangeShapes Go.WideShapes Go.ChangeAt Go.RowKit
open Go.ChangeMaps (open_string shut_string)
theorem walk (w:World) (u0:Shp.Sh) (p0:Ptr) (S0:ShAt w w.heap.size p0 u0) (u1:Shp.Sh) (p1:Ptr) (S1:ShAt w w.heap.size p1 u1) (hg:WGlobs w):Y9 5 #[.agg (Y8 u0 p0),.agg (Y8 u1 p1)] w (.bool true):=SubM.gradBetweens_walk u0 p0 u1 p1 w S0 S1 hg
theorem own:ownKnob Tryz.prog.godebug=none:=by kernel_rfl
theorem laidOut:laidOutB Tryz.prog=true:=by kernel_rfl
theorem contract (H:Type) (enc:TypeId×Value->H) (W:World) (base:Nat) (args:Array Value) (ds gs:List (DataW H)) (before:List MemPlace)
 (hval0: ∀(j:Nat) t v,Tryz.f5.params[j]? =some t->args[j]? =some v->Value.okWide Tryz.prog W .any base t v)
 (hW:DataW.Whole enc Tryz.prog Tryz.f5.params.toList Rows.gradualBetweensSpec.vars false W args.toList ds gs before) (hL:laidMetH Tryz.prog Rows.gradualBetweensRow.laid W) (hsz0: (DataW.weightsEach Tryz.prog (Tryz.f5.params.toList++Rows.gradualBetweensSpec.plain.varTypes Tryz.prog) (ds++gs)).all (· <=reachBytes)=true):
 Calls Tryz.prog 5 args W fun e W'=> ∃v,e= .returned v/\Rows.gradualBetweensSpec.post enc Tryz.prog Tryz.f5 false true false false W args v W':=by
 have hval: ∀(j:Nat) t v,Tryz.f5.params[j]? =some t->args[j]? =some v->Value.okWide Tryz.prog W .any base t v:=hval0;have hsz: (DataW.weightsEach Tryz.prog (Tryz.f5.params.toList++Rows.gradualBetweensSpec.plain.varTypes Tryz.prog) (ds++gs)).all (· <=reachBytes)=true:=hsz0
 have hW':=hW;obtain ⟨p,q,hA0,hV,rfl,hfz,hnd⟩:=hW;have hA:DataW.TrodAll enc Tryz.prog W 0 (fun _=>true) true Tryz.f5.params.toList args.toList ds p:=hA0;rw[Tryz.params5] at hA hval hsz;obtain ⟨v0,vs0,d0,ds0,p0,q0,hargs,rfl,rfl,h0,t0⟩:=trodAll_cons hA;obtain ⟨v1,vs1,d1,ds1,p1,q1,rfl,rfl,rfl,h1,t1⟩:=trodAll_cons t0;obtain ⟨rfl,rfl,rfl⟩:=trodAll_nil t1;obtain rfl:args=#[v0,v1]:=by cases args; simp_all
 obtain ⟨rfl,rfl⟩:=trodVars_none hV;have k0:=h0;have lt0: ∀x∈p0,x.block < W.heap.size:=by obtain ⟨m,hm⟩:=k0; exact DataW.trod_lt m _ _ _ hm
 obtain ⟨u0,y0,rfl,S0⟩:=Z5a (hval 0 25 v0 rfl rfl) h0;have k1:=h1;have lt1: ∀x∈p1,x.block < W.heap.size:=by obtain ⟨m,hm⟩:=k1; exact DataW.trod_lt m _ _ _ hm
 obtain ⟨u1,y1,rfl,S1⟩:=Z5a (hval 1 25 v1 rfl rfl) h1;clear hA0 hval0;rw[MakeChecks.laidMetH_plain _ _ _ (by kernel_rfl)] at hL;have hglob:WGlobs W:=Zan hL (List.Mem.head _);refine (walk W u0 y0 S0 u1 y1 S1 hglob).mono fun e W' ⟨he,bel⟩=> ?_;subst he;exact ⟨_,rfl,_,_,_,[],_,[],hW',trodAll_mk1 (shut_bool Tryz.underlying4 _),(trodAll_cons_mk (Below.trod laidOut (by kernel_rfl) (of_decide_eq_true (by kernel_rfl)) k0 bel lt0) (trodAll_cons_mk (Below.trod laidOut (by kernel_rfl) (of_decide_eq_true (by kernel_rfl)) k1 bel lt1) trodAll_mk0)),rfl,bel.frame _,fun h=>by cases h⟩
theorem lifted (os:Os) (started:os.Started) (H:Type) (enc:TypeId×Value->H):
 ReturnsInHanded {} Tryz.checked os 5 .any (fun w args=>(Rows.gradualBetweensSpec.pre enc Tryz.prog Tryz.f5 Rows.gradualBetweensRow.domain false w args/\laidMetH Tryz.prog Rows.gradualBetweensRow.laid w)/\sizedMet enc Tryz.prog Tryz.f5 (OpenSpec.ofChange Rows.gradualBetweensSpec) false w args)
  (Rows.gradualBetweensSpec.post enc Tryz.prog Tryz.f5 false true false false):=by
 refine returnsInHanded_of_change_and (C:=Tryz.checked) (X:=fun w _=>laidMetH Tryz.prog Rows.gradualBetweensRow.laid w) (fun _ _ _ hh h=>h.of_heap hh) own started (by kernel_rfl) Tryz.func5
  (ChangeSpec.witness_shaped (enc:=enc) (C:=Tryz.checked) (os:=os) (X:=fun w _=>laidMetH Tryz.prog Rows.gradualBetweensRow.laid w) false (World.laidAll Tryz.prog os Rows.gradualBetweensRow.laid) #[(.agg #[.int .i64 0,.string ByteArray.empty,.string ByteArray.empty,.slice none 0 0,.slice none 0 0]),(.agg #[.int .i64 0,.string ByteArray.empty,.string ByteArray.empty,.slice none 0 0,.slice none 0 0])] 8 (World.laidAll_os _ _ _)
   (World.shaped_of_ZipB (by kernel_rfl) (by kernel_rfl)) (by kernel_rfl) (by kernel_rfl) (by kernel_rfl)
   (by rw[MakeChecks.laidMetH_plain _ _ _ (by kernel_rfl)]; exact laidMet_laidAll _ (by kernel_rfl) (by kernel_rfl))) ?_
 intro W base args ds gs before hval hW _ hsz hL _;exact contract H enc W base args ds gs before hval hW hL hsz
theorem proved:Rows.GradualBetweensSaid:=
 OpenClaim.holds_of_wide 5 Tryz.f5 rfl rfl rfl rfl rfl rfl rfl ⟨rfl,rfl,rfl,rfl,rfl⟩ rfl rfl rfl rfl rfl (by kernel_rfl) Tryz.func5 (by kernel_rfl)
  (of_decide_eq_true (by kernel_rfl)) (by unfold Func.isWrapper; first | (rw[if_pos (by decide+kernel)]; kernel_rfl) | (rw[if_neg (by decide+kernel)]; exact ⟨rfl,rfl⟩))
  (fun os started H enc _=>lifted os started H enc)
theorem card:Rows.GradualBetweensCardSaid:=
 Claim7.holds_tied_plain_at .later [] [.data] true _ false proved (fun _ h=>by cases h) (by kernel_rfl) (fun _ h=>by cases h) gradualBetweens_row_tie rfl ⟨rfl,rfl⟩ (by kernel_rfl) rfl
  (fun f fn hf hfn=>by
   obtain rfl:f=5:=Option.some.inj ((show Tryz.prog.funcNamed "pandect/pandectlaw13.GradualBetweens" =some 5 by kernel_rfl).symm.trans hf) |>.symm;obtain rfl:fn=Tryz.f5:=(Option.some.inj (Tryz.func5.symm.trans hfn)).symm;exact ⟨by kernel_rfl,fun j t ht=>by
    rw[Tryz.params5] at ht;have hm:t∈ [25,25]:=by simpa using Array.mem_of_getElem? ht
    have hall: ([25,25].all fun u=> !Tryz.prog.wantsStandIn u)=true:=by kernel_rfl
    exact (show Tryz.prog.wantsStandIn t=false by simpa using List.all_eq_true.1 hall t hm)⟩)
  (by kernel_rfl)
end
end Go.Proofs.YtlomianlcnmfgaaGreatDoor.gradualBetweens
