/- What the proofs of SubtypeJoins, SubtypeMeets want, part 16. -/
import Derived.Test.YtlomianlcnmfgaaGreatDoorK0n15
set_option linter.unusedVariables false
set_option linter.unusedSimpArgs false
set_option linter.unusedSectionVars false
set_option maxRecDepth 100000
set_option maxHeartbeats 16000000
namespace Go.Proofs.YtlomianlcnmfgaaGreatDoor
open Go.RowKit Shp Sub
namespace SubM
def JIs (up:Bool) (a b:Sh) (w:World) (e:Ending) (w':World):Prop:=
 ∃q,e= .returned (.tuple #[sv ((J up a b).getD Z0c) q,.bool (J up a b).isSome])/\Kept (fun b=>w.heap.size<=b) w' ((J up a b).getD Z0c,q)/\Below w.heap.size w w'
theorem ZbZ {up:Bool} {a b:Sh} {w W:World} (hb:Below w.heap.size w W) (h:J up a b=none):JIs up a b w (.returned (.tuple #[.agg #[.int .i64 0,.string ⟨#[]⟩,.string ⟨#[]⟩,.slice none 0 0,.slice none 0 0],.bool false])) W:=
 ⟨noneQ12,by rw[h]; rfl,by rw[h]; exact ZaA _ _,hb⟩
theorem Zcn (up:Bool) (a b:Sh) (pa pb:Ptr) (w:World) (ha:ShAt w w.heap.size pa a) (hb:ShAt w w.heap.size pb b) (hg:WGlobs w):
 Calls Tryz.prog 17 #[sv a pa,sv b pb,.func (.func (bfn up)) #[] #[]] w (JIs up a b w):=by
 have hen:=Zc6 up;have hb1:=Z01 w (.cells (Y8 a pa) 25);obtain ⟨w1,hw1⟩: ∃w1,w1=w.alloc (.cells (Y8 a pa) 25):=⟨_,rfl⟩;have hs1:w1.heap.size=w.heap.size+1:=by rw[hw1]; simp
 have hb2:=Z01 w1 (.cells (Y8 b pb) 25);obtain ⟨w2,hw2⟩: ∃w2,w2=w1.alloc (.cells (Y8 b pb) 25):=⟨_,rfl⟩;have hs2:w2.heap.size=w1.heap.size+1:=by rw[hw2]; simp
 have hb3:=Z01 w2 (.cells Yb 25);obtain ⟨w3,hw3⟩: ∃w3,w3=w2.alloc (.cells Yb 25):=⟨_,rfl⟩;have hs3:w3.heap.size=w2.heap.size+1:=by rw[hw3]; simp
 rw[<-hw1] at hb1;rw[<-hw2] at hb2;rw[<-hw3] at hb3;have hbw:=Z00 hb1 (Z00 hb2 hb3);have hrc:Rc (w.heap.size+1+1) w3:=by
  have h:=Z0I hw3
  rwa [show w2.heap.size=w.heap.size+1+1 from by omega] at h
 have hB1:Box5 w1 w.heap.size a pa:=by rw[hw1]; exact Z05 w a pa
 have hB2:Box5 w2 w1.heap.size b pb:=by rw[hw2]; exact Z05 w1 b pb
 have hBA:=(hB1.next hb2).next hb3;have hBB:=hB2.next hb3;rw[hs1] at hBB;have HBA:=Y1 hBA;have HBB:=Y1 hBB;have HA:=Y1 (ha.next hbw);have HB:=Y1 (hb.next hbw);have HG:=Y1 (hg.next hbw);have HW:=Y1 hbw;have HZ:Hid (w3.heap.size=w.heap.size+1+1+1):=Y1 (by omega);have HR:=Y1 hrc;obtain ⟨_,⟨a0,a1,a2,a3,a4⟩,_⟩:=hBA;obtain ⟨_,⟨b0,b1,b2,b3,b4⟩,_⟩:=hBB;simp only[Nat.zero_add] at a0 a1 a2 a3 a4 b0 b1 b2 b3 b4;have hw1':=hw1.symm;have hw2':=hw2.symm;have hw3':=hw3.symm;have lw:w.heap.size+1+1 < w3.heap.size:=by omega
 clear hw1 hw2 hw3 hb1 hb2 hb3 hB1 hB2 hbw ha hb hg hrc;unfold sv;go_enter Tryz.func17,Tryz.ntmps17
 go_wp2_with fail
 refine (mayBe_walk a pa w3 HA.out HG.out).mono ?_;rintro e w4 ⟨rfl,hb4⟩;have HB4:=Y1 hb4;clear hb4 a0 a1 a2 a3 a4 b0 b1 b2 b3 b4;by_cases ca:check a=0
 {have HCA:=Y1 ca;rw[decide_eq_true ca];clear ca;obtain ⟨_,⟨b0,b1,b2,b3,b4⟩,_⟩:=HBB.out.next HB4.out;simp only[Nat.zero_add] at b0 b1 b2 b3 b4
  go_wp2_with fail
  refine (mayBe_walk b pb w4 (HB.out.next HB4.out) (HG.out.next HB4.out)).mono ?_;rintro e w5 ⟨rfl,hb5⟩;have HB5:=Y1 (Z00 HB4.out hb5);clear hb5 b0 b1 b2 b3 b4;by_cases cb:check b=0
  {have HCB:=Y1 cb;rw[decide_eq_true cb];clear cb;obtain ⟨_,⟨a0,a1,a2,a3,a4⟩,_⟩:=HBA.out.next HB5.out;obtain ⟨_,⟨b0,b1,b2,b3,b4⟩,_⟩:=HBB.out.next HB5.out;simp only[Nat.zero_add] at a0 a1 a2 a3 a4 b0 b1 b2 b3 b4;have hta:Two 40 a b:=⟨(Z07 HCA.out).2.2,(Z07 HCB.out).2.2,(Z07 HCA.out).2.1,(Z07 HCB.out).2.1,(Z07 HCA.out).1,(Z07 HCB.out).1⟩;have HU:=Y1 (Zd6 40 up a b pa pb w5.heap.size w5 hta (HA.out.next HB5.out) (HB.out.next HB5.out) (Nat.le_refl _));have HJ:Hid (J up a b=Sub.whole (bound 40 up a b)):=Y1 (by unfold J; rw[if_pos ⟨HCA.out,HCB.out⟩]);unfold sv at HU;clear hta
   go_wp2_with fail
   refine HU.out.mono ?_;rintro e w6 ⟨t,q,rfl,hb6,hj⟩;have hb7:=Z01 w6 (.cells (Y8 t q) 25);obtain ⟨w7,hw7⟩: ∃w7,w7=w6.alloc (.cells (Y8 t q) 25):=⟨_,rfl⟩;have hbx:Box5 w7 w6.heap.size t q:=by rw[hw7]; exact Z05 w6 t q
   rw[<-hw7] at hb7;have HB7:=Y1 (Z00 HB5.out (Z00 hb6 hb7));have HBX:=Y1 hbx;have HKP:Hid (∀j,bound 40 up a b=some j->t=j/\ShAt w7 w7.heap.size q j):=Y1 (fun j hb=>by
    obtain ⟨e,hk⟩:=hj j hb;exact ⟨e,(hk.upd (T:=fun _=>False) (Upd.new hb7) (fun _ _ _ h=>h)).here⟩)
   obtain ⟨_,⟨x0,x1,x2,x3,x4⟩,_⟩:=hbx;simp only[Nat.zero_add] at x0 x1 x2 x3 x4;have hw7':=hw7.symm;have hl7:w.heap.size+1+1 < w6.heap.size:=by have:=HB5.out.size; have:=hb6.size; omega
   clear hw7 hb6 hb7 hj HU a0 a1 a2 a3 a4 b0 b1 b2 b3 b4 hen;cases hbd:bound 40 up a b with
   | none=>
    have HN:Hid (J up a b=none):=Y1 (by rw[HJ.out,hbd]; rfl);simp only[Option.isSome_none];clear hbd;unfold sv;have hR:=HR.out.upd (T:=fun _=>False) (Upd.new (HB7.out)) (fun h=>h);have HLY:=Y1 (RX.lay_at Z0c noneQ12 (W:=w7) (g:=w.heap.size+1+1) hR.ex);have HUP:=Y1 (RX.lay_upd w7 (w.heap.size+1+1) Z0c noneQ12);obtain ⟨v0,y0⟩:=hR.ex 0 (by omega);obtain ⟨v1,y1⟩:=hR.ex 1 (by omega);obtain ⟨v2,y2⟩:=hR.ex 2 (by omega);obtain ⟨v3,y3⟩:=hR.ex 3 (by omega);obtain ⟨v4,y4⟩:=hR.ex 4 (by omega);have z0:=hR.fz 0;have z1:=hR.fz 1;have z2:=hR.fz 2;have z3:=hR.fz 3;have z4:=hR.fz 4;clear hR;go_wp2;obtain ⟨u0,u1,u2,u3,u4⟩:=HLY.out;unfold RX.lay Z0c at u0 u1 u2 u3 u4;simp only[Nat.zero_add,List.length_nil] at u0 u1 u2 u3 u4;refine bodyPost_ret (v:= .tuple #[.agg #[.int .i64 0,.string ⟨#[]⟩,.string ⟨#[]⟩,.slice none 0 0,.slice none 0 0],.bool false]) (by simp[results,Tryz.results17,go_sem,u0,u1,u2,u3,u4]) rfl ?_;exact ZbZ ((Z00 HW.out (HB7.out)).trans (HUP.out.below (by have h1:=HW.out.size; have h2:=(HB7.out).size; omega) (fun x hx=>by omega))) (HN.out)
   | some j=>
    obtain ⟨rfl,hat⟩:=HKP.out j hbd;have HJ2:Hid (J up a b=Sub.whole (some t)):=Y1 (by rw[HJ.out,hbd]);have HAT:=Y1 hat;simp only[Option.isSome_some];clear hbd hat;unfold sv
    go_wp2_with fail
    refine (mayBe_walk t q w7 HAT.out (HG.out.next HB7.out)).mono ?_;rintro e w8 ⟨rfl,hb8⟩;have HB8:=Y1 (Z00 HB7.out hb8);have HA8:=Y1 (HAT.out.next hb8);have HBX8:=Y1 (HBX.out.next hb8);clear hb8 x0 x1 x2 x3 x4;by_cases ct:check t=0
    {have HCT:=Y1 ct;rw[decide_eq_true ct];clear ct;obtain ⟨_,⟨x0,x1,x2,x3,x4⟩,_⟩:=HBX8.out;simp only[Nat.zero_add] at x0 x1 x2 x3 x4
     go_wp2_with fail
     refine (Z5B t q w8 HA8.out (HG.out.next HB8.out) HCT.out).mono ?_;rintro e w9 ⟨q9,F,rfl,hown,hF,hb9⟩;have HJS:Hid (J up a b=some (sorted t)):=Y1 (by rw[HJ2.out]; unfold Sub.whole; simp[HCT.out]);obtain ⟨z,hz⟩: ∃z,z=sorted t:=⟨_,rfl⟩;rw[<-hz] at hown HJS ⊢;have hb39:=Z00 HB8.out hb9;have hR:=HR.out.upd (T:=fun _=>False) (Upd.new hb39) (fun h=>h);have hK:Kept (fun b=>w3.heap.size<=b) w9 (z,q9):=Z6N hown (fun b hb=>by have h1:=hF b hb; have h2:=HB8.out.size; omega);have HK:=Y1 (hK.move (S':=fun b=>w.heap.size<=b) (RX.lay_upd w9 (w.heap.size+1+1) z q9) (fun b _ hf=>⟨fun e=>by have e:b=w.heap.size+1+1:=e; omega,by omega⟩));have HBF:=Y1 ((Z00 HW.out hb39).trans ((RX.lay_upd w9 (w.heap.size+1+1) z q9).below (by have h1:=HW.out.size; have h2:=hb39.size; omega) (fun x hx=>by omega)));have HLY:=Y1 (RX.lay_at z q9 (W:=w9) (g:=w.heap.size+1+1) hR.ex);obtain ⟨v0,y0⟩:=hR.ex 0 (by omega);obtain ⟨v1,y1⟩:=hR.ex 1 (by omega);obtain ⟨v2,y2⟩:=hR.ex 2 (by omega);obtain ⟨v3,y3⟩:=hR.ex 3 (by omega);obtain ⟨v4,y4⟩:=hR.ex 4 (by omega);have z0:=hR.fz 0;have z1:=hR.fz 1;have z2:=hR.fz 2;have z3:=hR.fz 3;have z4:=hR.fz 4;clear hR hK hown hF hb9 hb39 hz x0 x1 x2 x3 x4;go_wp2;obtain ⟨u0,u1,u2,u3,u4⟩:=HLY.out;unfold RX.lay at u0 u1 u2 u3 u4;simp only[Nat.zero_add] at u0 u1 u2 u3 u4;refine bodyPost_ret (v:= .tuple #[sv z q9,.bool true]) (by simp[results,Tryz.results17,go_sem,u0,u1,u2,u3,u4]) rfl ?_;refine ⟨q9, ?_, ?_,HBF.out⟩
     {rw[HJS.out]; rfl}
     {rw[HJS.out]; exact HK.out}}
    {have HN:Hid (J up a b=none):=Y1 (by rw[HJ2.out]; unfold Sub.whole; simp[ct]);rw[decide_eq_false ct];clear ct;have hR:=HR.out.upd (T:=fun _=>False) (Upd.new (HB8.out)) (fun h=>h);have HLY:=Y1 (RX.lay_at Z0c noneQ12 (W:=w8) (g:=w.heap.size+1+1) hR.ex);have HUP:=Y1 (RX.lay_upd w8 (w.heap.size+1+1) Z0c noneQ12);obtain ⟨v0,y0⟩:=hR.ex 0 (by omega);obtain ⟨v1,y1⟩:=hR.ex 1 (by omega);obtain ⟨v2,y2⟩:=hR.ex 2 (by omega);obtain ⟨v3,y3⟩:=hR.ex 3 (by omega);obtain ⟨v4,y4⟩:=hR.ex 4 (by omega);have z0:=hR.fz 0;have z1:=hR.fz 1;have z2:=hR.fz 2;have z3:=hR.fz 3;have z4:=hR.fz 4;clear hR;go_wp2;obtain ⟨u0,u1,u2,u3,u4⟩:=HLY.out;unfold RX.lay Z0c at u0 u1 u2 u3 u4;simp only[Nat.zero_add,List.length_nil] at u0 u1 u2 u3 u4;refine bodyPost_ret (v:= .tuple #[.agg #[.int .i64 0,.string ⟨#[]⟩,.string ⟨#[]⟩,.slice none 0 0,.slice none 0 0],.bool false]) (by simp[results,Tryz.results17,go_sem,u0,u1,u2,u3,u4]) rfl ?_;exact ZbZ ((Z00 HW.out (HB8.out)).trans (HUP.out.below (by have h1:=HW.out.size; have h2:=(HB8.out).size; omega) (fun x hx=>by omega))) (HN.out)}}
  {have HN:Hid (J up a b=none):=Y1 (by unfold J; rw[if_neg (fun h=>cb h.2)]);rw[decide_eq_false cb];clear cb hen;have hR:=HR.out.upd (T:=fun _=>False) (Upd.new (HB5.out)) (fun h=>h);have HLY:=Y1 (RX.lay_at Z0c noneQ12 (W:=w5) (g:=w.heap.size+1+1) hR.ex);have HUP:=Y1 (RX.lay_upd w5 (w.heap.size+1+1) Z0c noneQ12);obtain ⟨v0,y0⟩:=hR.ex 0 (by omega);obtain ⟨v1,y1⟩:=hR.ex 1 (by omega);obtain ⟨v2,y2⟩:=hR.ex 2 (by omega);obtain ⟨v3,y3⟩:=hR.ex 3 (by omega);obtain ⟨v4,y4⟩:=hR.ex 4 (by omega);have z0:=hR.fz 0;have z1:=hR.fz 1;have z2:=hR.fz 2;have z3:=hR.fz 3;have z4:=hR.fz 4;clear hR;go_wp2;obtain ⟨u0,u1,u2,u3,u4⟩:=HLY.out;unfold RX.lay Z0c at u0 u1 u2 u3 u4;simp only[Nat.zero_add,List.length_nil] at u0 u1 u2 u3 u4;refine bodyPost_ret (v:= .tuple #[.agg #[.int .i64 0,.string ⟨#[]⟩,.string ⟨#[]⟩,.slice none 0 0,.slice none 0 0],.bool false]) (by simp[results,Tryz.results17,go_sem,u0,u1,u2,u3,u4]) rfl ?_;exact ZbZ ((Z00 HW.out (HB5.out)).trans (HUP.out.below (by have h1:=HW.out.size; have h2:=(HB5.out).size; omega) (fun x hx=>by omega))) (HN.out)}}
 {have HN:Hid (J up a b=none):=Y1 (by unfold J; rw[if_neg (fun h=>ca h.1)]);rw[decide_eq_false ca];clear ca hen;have hR:=HR.out.upd (T:=fun _=>False) (Upd.new (HB4.out)) (fun h=>h);have HLY:=Y1 (RX.lay_at Z0c noneQ12 (W:=w4) (g:=w.heap.size+1+1) hR.ex);have HUP:=Y1 (RX.lay_upd w4 (w.heap.size+1+1) Z0c noneQ12);obtain ⟨v0,y0⟩:=hR.ex 0 (by omega);obtain ⟨v1,y1⟩:=hR.ex 1 (by omega);obtain ⟨v2,y2⟩:=hR.ex 2 (by omega);obtain ⟨v3,y3⟩:=hR.ex 3 (by omega);obtain ⟨v4,y4⟩:=hR.ex 4 (by omega);have z0:=hR.fz 0;have z1:=hR.fz 1;have z2:=hR.fz 2;have z3:=hR.fz 3;have z4:=hR.fz 4;clear hR;go_wp2;obtain ⟨u0,u1,u2,u3,u4⟩:=HLY.out;unfold RX.lay Z0c at u0 u1 u2 u3 u4;simp only[Nat.zero_add,List.length_nil] at u0 u1 u2 u3 u4;refine bodyPost_ret (v:= .tuple #[.agg #[.int .i64 0,.string ⟨#[]⟩,.string ⟨#[]⟩,.slice none 0 0,.slice none 0 0],.bool false]) (by simp[results,Tryz.results17,go_sem,u0,u1,u2,u3,u4]) rfl ?_;exact ZbZ ((Z00 HW.out (HB4.out)).trans (HUP.out.below (by have h1:=HW.out.size; have h2:=(HB4.out).size; omega) (fun x hx=>by omega))) (HN.out)}
section
variable (a b : Sh) (pa pb : Ptr) (w : World) (ha : ShAt w w.heap.size pa a) (hb : ShAt w w.heap.size pb b) (hg : WGlobs w)
include a b pa pb w ha hb hg
theorem Zc8:
 Calls Tryz.prog 6 #[sv a pa,sv b pb] w (JIs true a b w):=by
 have hb1:=Z01 w (.cells (Y8 a pa) 25);obtain ⟨w1,hw1⟩: ∃w1,w1=w.alloc (.cells (Y8 a pa) 25):=⟨_,rfl⟩;have hs1:w1.heap.size=w.heap.size+1:=by rw[hw1]; simp
 have hb2:=Z01 w1 (.cells (Y8 b pb) 25);obtain ⟨w2,hw2⟩: ∃w2,w2=w1.alloc (.cells (Y8 b pb) 25):=⟨_,rfl⟩;have hs2:w2.heap.size=w1.heap.size+1:=by rw[hw2]; simp
 have hb3:=Z01 w2 (.cells Yb 25);obtain ⟨w3,hw3⟩: ∃w3,w3=w2.alloc (.cells Yb 25):=⟨_,rfl⟩;have hs3:w3.heap.size=w2.heap.size+1:=by rw[hw3]; simp
 rw[<-hw1] at hb1;rw[<-hw2] at hb2;rw[<-hw3] at hb3;have hbw:=Z00 hb1 (Z00 hb2 hb3);have hrc:Rc (w.heap.size+1+1) w3:=by
  have h:=Z0I hw3
  rwa [show w2.heap.size=w.heap.size+1+1 from by omega] at h
 have hB1:Box5 w1 w.heap.size a pa:=by rw[hw1]; exact Z05 w a pa
 have hB2:Box5 w2 w1.heap.size b pb:=by rw[hw2]; exact Z05 w1 b pb
 have hBA:=(hB1.next hb2).next hb3;have hBB:=hB2.next hb3;rw[hs1] at hBB;have HBA:=Y1 hBA;have HBB:=Y1 hBB;have HA:=Y1 (ha.next hbw);have HB:=Y1 (hb.next hbw);have HG:=Y1 (hg.next hbw);have HW:=Y1 hbw;have HZ:Hid (w3.heap.size=w.heap.size+1+1+1):=Y1 (by omega);have HR:=Y1 hrc;obtain ⟨_,⟨a0,a1,a2,a3,a4⟩,_⟩:=hBA;obtain ⟨_,⟨b0,b1,b2,b3,b4⟩,_⟩:=hBB;simp only[Nat.zero_add] at a0 a1 a2 a3 a4 b0 b1 b2 b3 b4;have hw1':=hw1.symm;have hw2':=hw2.symm;have hw3':=hw3.symm;have lw:w.heap.size+1+1 < w3.heap.size:=by omega
 clear hw1 hw2 hw3 hb1 hb2 hb3 hB1 hB2 hbw ha hb hg hrc;have HE:=Y1 (Zcn true a b pa pb w3 HA.out HB.out HG.out);unfold sv bfn at HE;simp only[Bool.false_eq_true,if_true,if_false] at HE;unfold sv;go_enter Tryz.func6,Tryz.ntmps6
 go_wp2_with fail
 refine HE.out.mono ?_;rintro e w9 ⟨q9,rfl,hK,hb39⟩;obtain ⟨z,hz⟩: ∃z,z=(J true a b).getD Z0c:=⟨_,rfl⟩;have HZZ:=Y1 hz;rw[<-hz] at hK ⊢;have hR:=HR.out.upd (T:=fun _=>False) (Upd.new hb39) (fun h=>h);have HK:=Y1 (hK.move (S':=fun b=>w.heap.size<=b) (RX.lay_upd w9 (w.heap.size+1+1) z q9) (fun b _ hf=>⟨fun e=>by have e:b=w.heap.size+1+1:=e; omega,by omega⟩));have HBF:=Y1 ((Z00 HW.out hb39).trans ((RX.lay_upd w9 (w.heap.size+1+1) z q9).below (by have h1:=HW.out.size; have h2:=hb39.size; omega) (fun x hx=>by omega)));have HLY:=Y1 (RX.lay_at z q9 (W:=w9) (g:=w.heap.size+1+1) hR.ex);obtain ⟨v0,y0⟩:=hR.ex 0 (by omega);obtain ⟨v1,y1⟩:=hR.ex 1 (by omega);obtain ⟨v2,y2⟩:=hR.ex 2 (by omega);obtain ⟨v3,y3⟩:=hR.ex 3 (by omega);obtain ⟨v4,y4⟩:=hR.ex 4 (by omega);have z0:=hR.fz 0;have z1:=hR.fz 1;have z2:=hR.fz 2;have z3:=hR.fz 3;have z4:=hR.fz 4;clear hR hK hb39 hz HE a0 a1 a2 a3 a4 b0 b1 b2 b3 b4;unfold sv;go_wp2;obtain ⟨u0,u1,u2,u3,u4⟩:=HLY.out;unfold RX.lay at u0 u1 u2 u3 u4;simp only[Nat.zero_add] at u0 u1 u2 u3 u4;refine bodyPost_ret (v:= .tuple #[sv z q9,.bool (J true a b).isSome]) (by simp[results,Tryz.results6,go_sem,u0,u1,u2,u3,u4]) rfl ?_;exact ⟨q9,by rw[HZZ.out],by rw[<-HZZ.out]; exact HK.out,HBF.out⟩
theorem Zco:
 Calls Tryz.prog 10 #[sv a pa,sv b pb] w (JIs false a b w):=by
 have hb1:=Z01 w (.cells (Y8 a pa) 25);obtain ⟨w1,hw1⟩: ∃w1,w1=w.alloc (.cells (Y8 a pa) 25):=⟨_,rfl⟩;have hs1:w1.heap.size=w.heap.size+1:=by rw[hw1]; simp
 have hb2:=Z01 w1 (.cells (Y8 b pb) 25);obtain ⟨w2,hw2⟩: ∃w2,w2=w1.alloc (.cells (Y8 b pb) 25):=⟨_,rfl⟩;have hs2:w2.heap.size=w1.heap.size+1:=by rw[hw2]; simp
 have hb3:=Z01 w2 (.cells Yb 25);obtain ⟨w3,hw3⟩: ∃w3,w3=w2.alloc (.cells Yb 25):=⟨_,rfl⟩;have hs3:w3.heap.size=w2.heap.size+1:=by rw[hw3]; simp
 rw[<-hw1] at hb1;rw[<-hw2] at hb2;rw[<-hw3] at hb3;have hbw:=Z00 hb1 (Z00 hb2 hb3);have hrc:Rc (w.heap.size+1+1) w3:=by
  have h:=Z0I hw3
  rwa [show w2.heap.size=w.heap.size+1+1 from by omega] at h
 have hB1:Box5 w1 w.heap.size a pa:=by rw[hw1]; exact Z05 w a pa
 have hB2:Box5 w2 w1.heap.size b pb:=by rw[hw2]; exact Z05 w1 b pb
 have hBA:=(hB1.next hb2).next hb3;have hBB:=hB2.next hb3;rw[hs1] at hBB;have HBA:=Y1 hBA;have HBB:=Y1 hBB;have HA:=Y1 (ha.next hbw);have HB:=Y1 (hb.next hbw);have HG:=Y1 (hg.next hbw);have HW:=Y1 hbw;have HZ:Hid (w3.heap.size=w.heap.size+1+1+1):=Y1 (by omega);have HR:=Y1 hrc;obtain ⟨_,⟨a0,a1,a2,a3,a4⟩,_⟩:=hBA;obtain ⟨_,⟨b0,b1,b2,b3,b4⟩,_⟩:=hBB;simp only[Nat.zero_add] at a0 a1 a2 a3 a4 b0 b1 b2 b3 b4;have hw1':=hw1.symm;have hw2':=hw2.symm;have hw3':=hw3.symm;have lw:w.heap.size+1+1 < w3.heap.size:=by omega
 clear hw1 hw2 hw3 hb1 hb2 hb3 hB1 hB2 hbw ha hb hg hrc;have HE:=Y1 (Zcn false a b pa pb w3 HA.out HB.out HG.out);unfold sv bfn at HE;simp only[Bool.false_eq_true,if_true,if_false] at HE;unfold sv;go_enter Tryz.func10,Tryz.ntmps10
 go_wp2_with fail
 refine HE.out.mono ?_;rintro e w9 ⟨q9,rfl,hK,hb39⟩;obtain ⟨z,hz⟩: ∃z,z=(J false a b).getD Z0c:=⟨_,rfl⟩;have HZZ:=Y1 hz;rw[<-hz] at hK ⊢;have hR:=HR.out.upd (T:=fun _=>False) (Upd.new hb39) (fun h=>h);have HK:=Y1 (hK.move (S':=fun b=>w.heap.size<=b) (RX.lay_upd w9 (w.heap.size+1+1) z q9) (fun b _ hf=>⟨fun e=>by have e:b=w.heap.size+1+1:=e; omega,by omega⟩));have HBF:=Y1 ((Z00 HW.out hb39).trans ((RX.lay_upd w9 (w.heap.size+1+1) z q9).below (by have h1:=HW.out.size; have h2:=hb39.size; omega) (fun x hx=>by omega)));have HLY:=Y1 (RX.lay_at z q9 (W:=w9) (g:=w.heap.size+1+1) hR.ex);obtain ⟨v0,y0⟩:=hR.ex 0 (by omega);obtain ⟨v1,y1⟩:=hR.ex 1 (by omega);obtain ⟨v2,y2⟩:=hR.ex 2 (by omega);obtain ⟨v3,y3⟩:=hR.ex 3 (by omega);obtain ⟨v4,y4⟩:=hR.ex 4 (by omega);have z0:=hR.fz 0;have z1:=hR.fz 1;have z2:=hR.fz 2;have z3:=hR.fz 3;have z4:=hR.fz 4;clear hR hK hb39 hz HE a0 a1 a2 a3 a4 b0 b1 b2 b3 b4;unfold sv;go_wp2;obtain ⟨u0,u1,u2,u3,u4⟩:=HLY.out;unfold RX.lay at u0 u1 u2 u3 u4;simp only[Nat.zero_add] at u0 u1 u2 u3 u4;refine bodyPost_ret (v:= .tuple #[sv z q9,.bool (J false a b).isSome]) (by simp[results,Tryz.results10,go_sem,u0,u1,u2,u3,u4]) rfl ?_;exact ⟨q9,by rw[HZZ.out],by rw[<-HZZ.out]; exact HK.out,HBF.out⟩
end
end SubM
end Go.Proofs.YtlomianlcnmfgaaGreatDoor
namespace Go.Proofs.YtlomianlcnmfgaaGreatDoor
open Go.RowKit Shp Sub
namespace SubM
theorem ZaC {g gm hi b:Nat} (hg:hi<=g) (hh:gm < hi) (hb:rowB (some ⟨g,0,none⟩)=some b) (e:b=gm):False:=by
 have e2:g=b:=by simpa[rowB] using hb
 omega
section
variable {w0 W W1 : World} {gm hi : Nat} {k : Int} {o nm : List UInt8} {nl : List (List UInt8)} {l : List El} {AN AP : Option Addr} {cN cP : Nat}
theorem Mk.ups (h:Mk w0 gm hi k o nm nl l AN cN AP cP W) {b:Nat} (hb:b=gm\/rowB AN=some b\/rowB AP=some b):w0.heap.size<=b:=by
 rcases hb with rfl | hb | hb
 {exact h.lo}
 {have:=(Z08 h.rN b hb).1; have:=h.lo; have:=h.gh; omega}
 {have:=(Z08 h.rP b hb).1; have:=h.lo; have:=h.gh; omega}
theorem soc3 {W:World} {b x y:Nat} {v:Value} (h:x≠y): (W.setCell ⟨b,x,none⟩ v).cell? ⟨b,y,none⟩=W.cell? ⟨b,y,none⟩:=RX.soc h
section
variable (h : Mk w0 gm hi k o nm nl l AN cN AP cP W) {g c : Nat}
include h g c
theorem Mk.putN {n:List UInt8} (hg:W.grownBy W1 (rowB AN)) (hrow:W1.ownsRow hi 9 1 (.slice (some ⟨g,0,none⟩) (nl.length+1) c) (nl.length+1) (namesE nl++ [.string ⟨n.toArray⟩]))
 (hat:rowB AN=some g\/g=W.heap.size):Mk w0 gm hi k o nm (nl++ [n]) l (some ⟨g,0,none⟩) c AP cP (W1.setCell ⟨gm,3,none⟩ (.slice (some ⟨g,0,none⟩) (nl.length+1) c)):=by
 have hgm:gm < W.heap.size:=Nat.lt_of_lt_of_le h.gh h.hw;have hu:Upd (fun b=>rowB AN=some b) W W1:=(Upd.refl _ W).grown hg (fun k h _=>h);have hn: ¬rowB AN=some gm:=fun e=>by have:=(Z08 h.rN _ e).1; have:=h.gh; omega
 have hu2:Upd (fun b=>b=gm) W1 (W1.setCell ⟨gm,3,none⟩ (.slice (some ⟨g,0,none⟩) (nl.length+1) c)):=Upd.set (Upd.refl (fun b=>b=gm) W1) ⟨gm,3,none⟩ (fun _=>rfl) _;have hgh:=h.gh;have hgg:=(Z08 hrow g rfl).1;refine ⟨h.up.trans (((hu.mono (T:=fun b=>b=gm\/rowB AN=some b\/rowB AP=some b) (fun b _ hb=>Or.inr (Or.inl hb))).trans (hu2.mono (fun b _ hb=>Or.inl hb))).below h.up.size (fun b hb=>h.ups hb)),h.lo,h.gh,Nat.le_trans h.hw (Nat.le_trans hu.size hu2.size),
  (soc3 (by omega)).trans ((hu.cell hgm hn).trans h.c0),(soc3 (by omega)).trans ((hu.cell hgm hn).trans h.c1),(soc3 (by omega)).trans ((hu.cell hgm hn).trans h.c2), ?_,(soc3 (by omega)).trans ((hu.cell hgm hn).trans h.c4),fun j=>(World.frozen?_setCell ..).trans ((hu.frozen hgm hn).trans (h.fz j)), ?_, ?_,Or.inr ?_⟩
 {rw[List.length_append]; exact World.cell?_setCell_same _ _ _ ((hu.cell hgm hn).trans h.c3)}
 {rw[List.length_append,namesE_append]; exact Z0g hrow hu2 (fun b hb e=>ZaC hgg hgh hb e)}
 {refine Z0g (Z0g h.rP hu (fun b hb e=> ?_)) hu2 (fun b hb e=> ?_)
  {rcases h.ne with hne | hne
   {rw[hne] at e; cases e}
   {exact hne (e.trans hb.symm)}}
  {have:=(Z08 h.rP b hb).1;have e3:b=gm:=e;omega}}
 {intro e;have e2:rowB AP=some g:=by rw[<-e]; rfl
  rcases hat with h1 | h1
  {rcases h.ne with hne | hne
   {rw[hne] at h1; cases h1}
   {exact hne (h1.trans e2.symm)}}
  {have:=(Z08 h.rP g e2).2; omega}}
theorem Mk.putP {x:El} (hg:W.grownBy W1 (rowB AP)) (hrow:W1.ownsRow hi 25 5 (.slice (some ⟨g,0,none⟩) (l.length+1) c) (l.length+1) (cellsE l++cells5 x))
 (hat:rowB AP=some g\/g=W.heap.size):Mk w0 gm hi k o nm nl (l++ [x]) AN cN (some ⟨g,0,none⟩) c (W1.setCell ⟨gm,4,none⟩ (.slice (some ⟨g,0,none⟩) (l.length+1) c)):=by
 have hgm:gm < W.heap.size:=Nat.lt_of_lt_of_le h.gh h.hw;have hu:Upd (fun b=>rowB AP=some b) W W1:=(Upd.refl _ W).grown hg (fun k h _=>h);have hn: ¬rowB AP=some gm:=fun e=>by have:=(Z08 h.rP _ e).1; have:=h.gh; omega
 have hu2:Upd (fun b=>b=gm) W1 (W1.setCell ⟨gm,4,none⟩ (.slice (some ⟨g,0,none⟩) (l.length+1) c)):=Upd.set (Upd.refl (fun b=>b=gm) W1) ⟨gm,4,none⟩ (fun _=>rfl) _;have hgh:=h.gh;have hgg:=(Z08 hrow g rfl).1;refine ⟨h.up.trans (((hu.mono (T:=fun b=>b=gm\/rowB AN=some b\/rowB AP=some b) (fun b _ hb=>Or.inr (Or.inr hb))).trans (hu2.mono (fun b _ hb=>Or.inl hb))).below h.up.size (fun b hb=>h.ups hb)),h.lo,h.gh,Nat.le_trans h.hw (Nat.le_trans hu.size hu2.size),
  (soc3 (by omega)).trans ((hu.cell hgm hn).trans h.c0),(soc3 (by omega)).trans ((hu.cell hgm hn).trans h.c1),(soc3 (by omega)).trans ((hu.cell hgm hn).trans h.c2),(soc3 (by omega)).trans ((hu.cell hgm hn).trans h.c3), ?_,fun j=>(World.frozen?_setCell ..).trans ((hu.frozen hgm hn).trans (h.fz j)), ?_, ?_, ?_⟩
 {rw[List.length_append]; exact World.cell?_setCell_same _ _ _ ((hu.cell hgm hn).trans h.c4)}
 {refine Z0g (Z0g h.rN hu (fun b hb e=> ?_)) hu2 (fun b hb e=> ?_)
  {rcases h.ne with hne | hne
   {rw[hne] at hb; cases hb}
   {exact hne (hb.trans e.symm)}}
  {have:=(Z08 h.rN b hb).1;have e3:b=gm:=e;omega}}
 {rw[List.length_append,cellsE_append,cellsE_one]; exact Z0g hrow hu2 (fun b hb e=>ZaC hgg hgh hb e)}
 {rcases h.ne with hne | hne
  {exact Or.inl hne}
  {refine Or.inr (fun e=> ?_);have e2:rowB AN=some g:=by rw[e]; rfl
   rcases hat with h1 | h1
   {exact hne (e2.trans h1.symm)}
   {have:=(Z08 h.rN g e2).2; omega}}}
end
end
end SubM
end Go.Proofs.YtlomianlcnmfgaaGreatDoor
namespace Go.Proofs.YtlomianlcnmfgaaGreatDoor
open Go.RowKit Shp Sub
namespace SubM
def intT:Sh:=⟨1,[],[],[],[]⟩
def recT (l:List (List UInt8)):Sh:=⟨6,[],[],l,l.map (fun _=>intT)⟩
theorem Zdt (S:Nat->Prop) (W:World):Kept S W (intT,noneQ12):=fun W' _ _=>
 .mk _ _ 0 0 (fun _=>noneQ12) ⟨by simp[intT],by simp[intT],by simp[intT],by simp[intT],by simp[intT],by simp[intT],by simp[intT],fun _=>rfl,fun _=>rfl⟩ (Or.inl rfl) (Or.inl rfl) (fun i hi=>by simp[intT] at hi) (fun i hi=>by simp[intT] at hi)
def KR (w:World) (l:List (List UInt8)) (k:Nat) (W:World):Prop:=Rc w.heap.size W/\ ∃AN cN AP cP,Mk w (w.heap.size+1) (w.heap.size+2) 6 [] [] (l.take k) (List.replicate k (intT,noneQ12)) AN cN AP cP W
theorem ZcY (l:List (List UInt8)) (A:Option Addr) (c:Nat) (w:World) (hA:Strs w w.heap.size A (strs l)) (hl:l.length<=1000) (hx: ∀x∈l,x.length<=1000):
 Calls Tryz.prog 22 #[.slice A l.length c] w fun e w'=> ∃q,e= .returned (sv (recT l) q)/\Kept (fun b=>w.heap.size<=b) w' (recT l,q)/\Below w.heap.size w w':=by
 obtain ⟨i0,hif0,hz0,hs0,hb0⟩:=Z0S Z1R;obtain ⟨i1,hif1,hz1,hs1,hb1⟩:=Z0S Z28;have hba:=Z01 w (.cells Yb 25);obtain ⟨w1,hw1⟩: ∃w1,w1=w.alloc (.cells Yb 25):=⟨_,rfl⟩;have hrc:=Z0I hw1;have hs:w1.heap.size=w.heap.size+1:=by rw[hw1]; simp
 have hbb:=Z01 w1 (.cells #[.int .i64 6,.string ⟨#[]⟩,.string ⟨#[]⟩,.slice none 0 0,.slice none 0 0] 25);obtain ⟨w2,hw2⟩: ∃w2,w2=w1.alloc (.cells #[.int .i64 6,.string ⟨#[]⟩,.string ⟨#[]⟩,.slice none 0 0,.slice none 0 0] 25):=⟨_,rfl⟩;have hs2:w2.heap.size=w.heap.size+2:=by rw[hw2]; simp[hs]
 rw[<-hw1] at hba;rw[<-hw2] at hbb;have h0:KR w l 0 w2:=by
  refine ⟨hrc.upd (T:=fun _=>False) (Upd.new hbb) (fun h=>h),none,0,none,0,Z00 hba hbb,by omega,by omega,by omega, ?_, ?_, ?_, ?_, ?_,fun j=> ?_,World.ownsRow_nil _ _ _ _,World.ownsRow_nil _ _ _ _,Or.inl rfl⟩ <;> (rw[hw2, <-hs]; simp[go_sem])
 have HK0:=Y1 h0;have HA:=Y1 hA;have HL:=Y1 hl;have HX:=Y1 hx;have HW:Hid ((w.alloc (.cells Yb 25)).alloc (.cells #[.int .i64 6,.string ⟨#[]⟩,.string ⟨#[]⟩,.slice none 0 0,.slice none 0 0] 25)=w2):=Y1 (by rw[hw2,hw1]);clear hba hbb hrc h0 hA hl hx hs hs2 hw2 hw1;go_enter Tryz.func22,Tryz.ntmps22
 go_wp2_with fail
 rw[HW.out]
 go_loopw [4] (fun ii wr=> ∃k:Nat,k<=l.length/\ii= .int .i64 (k:Int)/\Hid (KR w l k wr)) (fun i _=>l.length - (intOf i).toNat)
 case atStart=>exact ⟨0,Nat.zero_le _,rfl,HK0⟩
 case round=>
  obtain ⟨k,hk,rfl,HK⟩:=hrel;have hll:=HL.out;by_cases hlt:k < l.length
  {have hi1: (k:Int) < (l.length:Int):=by omega
   obtain ⟨hR,AN,cN,AP,cP,hM⟩:=HK.out;rcases (HA.out.next hM.up).cell7 with h | ⟨g,off,rfl,hg,hc⟩
   {omega}
   obtain ⟨n,hn⟩: ∃n,n=l[k]'hlt:=⟨_,rfl⟩;have hcell:=hc k hlt;rw[<-hn] at hcell;have HN:=Y1 hn;have hrep: (List.replicate k ((intT,noneQ12):El)).length=k:=by simp
   have htk: (l.take k).length=k:=by rw[List.length_take]; omega
   have c3:=hM.c3;have c4:=hM.c4;have f3:=hM.fz 3;have f4:=hM.fz 4;have hgw:w.heap.size+1 < wr.heap.size:=by have:=hM.hw; omega
   rw[htk] at c3;rw[hrep] at c4;have HM:=Y1 hM;have HRR:=Y1 hR;clear hc hM hR hn hg;have mixed:Tryz.prog.follows .mixedOrders=true:=by kernel_rfl
   have hown0: (wr.alloc (.cells #[.string ⟨n.toArray⟩] 9)).ownsRow (w.heap.size+2) 9 1 (.slice AN k cN) k (namesE (l.take k)):=by
    have h:=Z0g (S:=fun _=>False) HM.out.rN (Upd.new (Z01 wr (.cells #[.string ⟨n.toArray⟩] 9))) (fun _ _ h=>h);rw[htk] at h;exact h
   have HO:=Y1 hown0;have HS2:Hid (w.heap.size+2<=wr.heap.size):=Y1 HM.out.hw;have HF:Hid (∀(g1 cap:Nat) (w1:World),w1.ownsRow (w.heap.size+2) 9 1 (.slice (some ⟨g1,0,none⟩) (k+1) cap) (k+1) (namesE (l.take k)++ [.string ⟨n.toArray⟩])->(wr.alloc (.cells #[.string ⟨n.toArray⟩] 9)).drew.grownBy w1 (rowB AN)->(rowB AN=some g1\/g1=(wr.alloc (.cells #[.string ⟨n.toArray⟩] 9)).heap.size)->
    w1.cell? ⟨w.heap.size+1,3,none⟩=some (.slice AN k cN)/\w1.frozen? ⟨w.heap.size+1,3,none⟩=false/\w.heap.size+1 < w1.heap.size/\Rc w.heap.size (w1.setCell ⟨w.heap.size+1,3,none⟩ (.slice (some ⟨g1,0,none⟩) (k+1) cap))/\
    Mk w (w.heap.size+1) (w.heap.size+2) 6 [] [] (l.take k++ [n]) (List.replicate k (intT,noneQ12)) (some ⟨g1,0,none⟩) cap AP cP (w1.setCell ⟨w.heap.size+1,3,none⟩ (.slice (some ⟨g1,0,none⟩) (k+1) cap))):=Y1 (fun g1 cap w1 hown hg hat=>by
    have hb:=(Z01 wr (.cells #[.string ⟨n.toArray⟩] 9)).drew;have hu:Upd (fun b=>rowB AN=some b) wr w1:=(Upd.new (S:=fun b=>rowB AN=some b) hb).grown hg (fun k h _=>h);have hn: ¬rowB AN=some (w.heap.size+1):=fun e=>by have:=(Z08 HM.out.rN _ e).1; omega
    have hm:=(HM.out.new hb).putN (g:=g1) (c:=cap) (n:=n) hg (by rw[htk]; exact hown) hat;rw[htk] at hm;refine ⟨(hu.cell hgw hn).trans c3,(hu.frozen hgw hn).trans f3,Nat.lt_of_lt_of_le hgw hu.size, ?_,hm⟩;have hu2:Upd (fun b=>b=w.heap.size+1) w1 (w1.setCell ⟨w.heap.size+1,3,none⟩ (.slice (some ⟨g1,0,none⟩) (k+1) cap)):=Upd.set (Upd.refl (fun b=>b=w.heap.size+1) w1) ⟨w.heap.size+1,3,none⟩ (fun _=>rfl) _;exact (HRR.out.upd hu (fun e=>by have:=(Z08 HM.out.rN _ e).1; omega)).upd hu2 (by omega))
   clear hown0
   go_wp2_with fail
   go_region_law ((refine step_append_lies _ rfl _ _ 22 rfl (w.heap.size+2) 9 i1 (.string ByteArray.empty) 1 16 Tryz.underlying22 hif1 hz1 hs1 hb1 rfl (by decide) (.slice AN k cN) _ _ (by simp[Act.eval]) HO.out ⟨wr.heap.size,0,none⟩ 1 1 [.string ⟨n.toArray⟩] (by simp[Act.eval]) rfl (by intro j v hv; rcases j with _ | j; (rw[Z0f]; simp at hv; subst hv; simp[go_sem]); (simp at hv)) (by intro v hv; simp at hv; subst hv; rfl) (by decide) (by unfold maxLen; omega) (by omega) (by have:=HS2.out; simp; omega) _ rfl ?_); intro g1 cap w1 hown1 hgrow hat hlt1; rw[rowB_own] at hgrow hat; obtain ⟨d3,e3,e4,hrc1,hm1⟩:=HF.out g1 cap w1 hown1 hgrow hat; have HM1:=Y1 hm1; have HR1:=Y1 hrc1; clear hown1 hgrow hat hlt1 hrc1 hm1)
   all_goals
    clear hcell c3 c4 f3 f4 d3 e3 e4;obtain ⟨W2,hW2⟩: ∃W2,w1.setCell ⟨w.heap.size+1,3,none⟩ (.slice (some ⟨g1,0,none⟩) (k+1) cap)=W2:=⟨_,rfl⟩;rw[hW2] at HM1 HR1 ⊢;clear hW2;have d4:=HM1.out.c4;rw[hrep] at d4;have f4:=HM1.out.fz 4;have hgw2:w.heap.size+1 < W2.heap.size:=by have:=HM1.out.hw; omega
    have HP:=Y1 (Z0g (S:=fun _=>False) HM1.out.rP (Upd.new (Z01 W2 (.cells #[.int .i64 1,.string ⟨#[]⟩,.string ⟨#[]⟩,.slice none 0 0,.slice none 0 0] 25))) (fun _ _ h=>h));rw[hrep] at HP;have HS3:Hid (w.heap.size+2<=W2.heap.size):=Y1 HM1.out.hw
    go_wp2_with (at_builtin; refine wpList_append_lies _ rfl _ _ 23 rfl (w.heap.size+2) 25 i0 (.agg #[.int .i64 0,.string ByteArray.empty,.string ByteArray.empty,.slice none 0 0,.slice none 0 0]) 5 88 Tryz.underlying23 hif0 hz0 hs0 hb0 rfl (by decide) _ _ _ rfl HP.out ⟨W2.heap.size,0,none⟩ 1 1 (cells5 (intT,noneQ12)) rfl rfl (by intro j v hv; rw[Z0f,Nat.zero_add]; rcases j with _ | _ | _ | _ | _ | j <;> (simp[cells5,intT] at hv; try (subst hv; simp[go_sem]))) (cells5_one _) (by decide) (by unfold maxLen; omega) (by omega) (by have:=HS3.out; simp; omega) _ rfl ?_)
    intro g2 cap2 w3 hown2 hgrow2 hat2 hlt2;rw[rowB_own] at hgrow2 hat2;have hb2:=Z01 W2 (.cells #[.int .i64 1,.string ⟨#[]⟩,.string ⟨#[]⟩,.slice none 0 0,.slice none 0 0] 25);have hsz2: (W2.alloc (.cells #[.int .i64 1,.string ⟨#[]⟩,.string ⟨#[]⟩,.slice none 0 0,.slice none 0 0] 25)).heap.size=W2.heap.size+1:=by simp
    have hm2:=(HM1.out.new hb2).putP (g:=g2) (c:=cap2) (x:=(intT,noneQ12)) hgrow2 (by rw[hrep]; exact hown2) (by rw[hsz2]; exact hat2);rw[hrep] at hm2;have hu3:Upd (fun b=>rowB AP=some b) W2 w3:=(Upd.new (S:=fun b=>rowB AP=some b) hb2).grown hgrow2 (fun k h _=>h);have hn3: ¬rowB AP=some (w.heap.size+1):=fun e=>by have:=(Z08 HM1.out.rP _ e).1; omega
    have d5:=(hu3.cell hgw2 hn3).trans d4;have f5:=(hu3.frozen hgw2 hn3).trans f4;have hgw3:w.heap.size+1 < w3.heap.size:=Nat.lt_of_lt_of_le hgw2 hu3.size;have hu4:Upd (fun b=>b=w.heap.size+1) w3 (w3.setCell ⟨w.heap.size+1,4,none⟩ (.slice (some ⟨g2,0,none⟩) (k+1) cap2)):=Upd.set (Upd.refl (fun b=>b=w.heap.size+1) w3) ⟨w.heap.size+1,4,none⟩ (fun _=>rfl) _;have HEND:Hid (KR w l (k+1) (w3.setCell ⟨w.heap.size+1,4,none⟩ (.slice (some ⟨g2,0,none⟩) (k+1) cap2))):=Y1 (by
     refine ⟨(HR1.out.upd hu3 (fun e=>by have:=(Z08 HM1.out.rP _ e).1; omega)).upd hu4 (by omega),some ⟨g1,0,none⟩,cap,some ⟨g2,0,none⟩,cap2, ?_⟩;rw[List.take_succ_eq_append_getElem hlt, <-HN.out,List.replicate_succ'];exact hm2)
    clear hown2 hgrow2 hat2 hlt2 hb2 hsz2 hm2 hu3 hn3 hu4 d4 f4 HP;go_wp2
    go_roundw
    case rel=>exact ⟨k+1,by omega,by go_num,HEND⟩
    case measure=>simp[intOf]; omega}
  {obtain rfl:k=l.length:=by omega
   have hi1: ¬(l.length:Int) < (l.length:Int):=by omega
   obtain ⟨hR,AN,cN,AP,cP,hM⟩:=HK.out;rw[List.take_length] at hM;have hkp:=hM.at_ (n0:=0) (fun x hx=>by rw[List.eq_of_mem_replicate hx]; exact Zdt _ _) (by simp) (by simp) (fun x hx=>by have:=HX.out x hx; omega) (by omega) (by simp; omega);have hre: ((List.replicate l.length ((intT,noneQ12):El)).map Prod.fst)=l.map (fun _=>intT):=by rw[List.map_replicate,List.map_const']
   rw[hre] at hkp;obtain ⟨c0,c1,c2,c3,c4⟩:Sh5 wr (w.heap.size+1) 0 (recT l) ⟨AN,cN,AP,cP⟩:=⟨hM.c0,hM.c1,hM.c2,hM.c3,by have:=hM.c4; simpa[recT] using this⟩;simp only[Nat.zero_add] at c0 c1 c2 c3 c4;have HF:=Y1 (Kept.move (x:=(recT l,⟨AN,cN,AP,cP⟩)) (S':=fun b=>w.heap.size<=b) hkp (RX.lay_upd wr w.heap.size (recT l) ⟨AN,cN,AP,cP⟩) (fun b _ hf=>⟨fun e=>by have e:b=w.heap.size:=e; rcases hf with hf | hf <;> omega,by rcases hf with hf | hf <;> omega⟩));have HBF:=Y1 (hM.up.trans ((RX.lay_upd wr w.heap.size (recT l) ⟨AN,cN,AP,cP⟩).below hM.up.size (fun x hx=>by omega)));have HLY:=Y1 (RX.lay_at (recT l) ⟨AN,cN,AP,cP⟩ (W:=wr) (g:=w.heap.size) hR.ex);obtain ⟨v0,y0⟩:=hR.ex 0 (by omega);obtain ⟨v1,y1⟩:=hR.ex 1 (by omega);obtain ⟨v2,y2⟩:=hR.ex 2 (by omega);obtain ⟨v3,y3⟩:=hR.ex 3 (by omega);obtain ⟨v4,y4⟩:=hR.ex 4 (by omega);have z0:=hR.fz 0;have z1:=hR.fz 1;have z2:=hR.fz 2;have z3:=hR.fz 3;have z4:=hR.fz 4;clear hkp hM hR hre HK;obtain ⟨T,hT⟩: ∃T,T=recT l:=⟨_,rfl⟩;rw[<-hT] at c0 c1 c2 c3 c4 HF HBF HLY;have HT:=Y1 hT;clear hT;go_wp2;obtain ⟨u0,u1,u2,u3,u4⟩:=HLY.out;unfold RX.lay at u0 u1 u2 u3 u4;simp only[Nat.zero_add] at u0 u1 u2 u3 u4;refine bodyPost_ret (v:=sv T ⟨AN,cN,AP,cP⟩) (by simp[results,Tryz.results22,go_sem,u0,u1,u2,u3,u4]) rfl ?_;rw[<-HT.out];exact ⟨_,rfl,HF.out,HBF.out⟩}
end SubM
end Go.Proofs.YtlomianlcnmfgaaGreatDoor
namespace Go.Proofs.YtlomianlcnmfgaaGreatDoor
open Go.RowKit Shp Sub
namespace SubM
theorem Zdu:J true (recT [[97],[98]]) (recT [[98],[99]])=some (recT [[98]]):=by kernel_rfl
theorem Zdv:J false (recT [[98],[99]]) (recT [[97],[98]])=some (recT [[97],[98],[99]]):=by kernel_rfl
theorem Zdw:J true ⟨1,[],[],[],[]⟩ ⟨3,[],[],[],[]⟩=none:=by kernel_rfl
theorem ZdJ:Sub.below (recT [[97],[98]]) (recT [[97]])=true:=by kernel_rfl
theorem ZdC:Sub.below (recT [[97]]) (recT [[97],[98]])=false:=by kernel_rfl
theorem Zcm (w:World) (x:List UInt8):Strs (w.alloc (.cells #[.string ⟨x.toArray⟩] 9)) (w.alloc (.cells #[.string ⟨x.toArray⟩] 9)).heap.size (some ⟨w.heap.size,0,none⟩) (strs [x]):=by
 refine Or.inr ⟨w.heap.size,0,rfl,by simp,fun i hi=> ?_⟩;have h2:i < 1:=hi
 match i,h2 with
 | 0,_=>simp[go_sem,strs]
theorem ZcM (w:World) (x y:List UInt8):Strs (w.alloc (.cells #[.string ⟨x.toArray⟩,.string ⟨y.toArray⟩] 9)) (w.alloc (.cells #[.string ⟨x.toArray⟩,.string ⟨y.toArray⟩] 9)).heap.size (some ⟨w.heap.size,0,none⟩) (strs [x,y]):=by
 refine Or.inr ⟨w.heap.size,0,rfl,by simp,fun i hi=> ?_⟩;have h2:i < 2:=hi
 match i,h2 with
 | 0,_=>simp[go_sem,strs]
 | 1,_=>simp[go_sem,strs]
theorem Zd7 (w:World) (x y z:List UInt8):Strs (w.alloc (.cells #[.string ⟨x.toArray⟩,.string ⟨y.toArray⟩,.string ⟨z.toArray⟩] 9)) (w.alloc (.cells #[.string ⟨x.toArray⟩,.string ⟨y.toArray⟩,.string ⟨z.toArray⟩] 9)).heap.size (some ⟨w.heap.size,0,none⟩) (strs [x,y,z]):=by
 refine Or.inr ⟨w.heap.size,0,rfl,by simp,fun i hi=> ?_⟩;have h2:i < 3:=hi
 match i,h2 with
 | 0,_=>simp[go_sem,strs]
 | 1,_=>simp[go_sem,strs]
 | 2,_=>simp[go_sem,strs]
theorem ZbW (l:List (List UInt8)) (t:Sh) (ht:t=recT l) (A:Option Addr) (c:Nat) (w:World) (hA:Strs w w.heap.size A (strs l)) (hl:l.length<=1000) (hx: ∀x∈l,x.length<=1000):
 Calls Tryz.prog 22 #[.slice A l.length c] w fun e w'=> ∃q:Ptr,e= .returned (.agg (Y8 t q))/\ShAt w' w'.heap.size q t/\Below w.heap.size w w':=by
 subst ht;exact (ZcY l A c w hA hl hx).mono fun e w' ⟨q,he,hk,hb⟩=>⟨q,he,hk.here,hb⟩
theorem ZcA (W:World) (B:Nat) (t:Sh) (h1:t.names= []) (h2:t.parts= []) (h3:t.of_.length<=9223372036854775807) (h4:t.name.length<=9223372036854775807):ShAt W B noneQ12 t:=
 .mk _ _ 0 0 (fun _=>noneQ12) ⟨h3,h4,by rw[h1]; nofun,by rw[h1]; simp,by rw[h2]; simp,by rw[h1]; exact Nat.le_refl _,by rw[h2]; exact Nat.le_refl _,fun _=>rfl,fun _=>rfl⟩ (Or.inl (by rw[h1]; rfl)) (Or.inl (by rw[h2]; rfl)) (fun i h=>absurd h (by rw[h2]; simp)) (fun i h=>absurd h (by rw[h2]; simp))
theorem ZcN {up:Bool} {a b j:Sh} {w:World} {e:Ending} {w':World} (h:JIs up a b w e w') (hj:J up a b=some j):
 ∃q:Ptr,e= .returned (.tuple #[.agg (Y8 j q),.bool true])/\ShAt w' w'.heap.size q j/\Below w.heap.size w w':=by
 obtain ⟨q,he,hk,hb⟩:=h;rw[hj] at he hk;exact ⟨q,he,hk.here,hb⟩
def wantStrs (l:List (List UInt8)):Want:=⟨fun v W=> ∃A,v= .slice A l.length l.length/\Strs W W.heap.size A (strs l),fun v w w' hb ⟨A,hv,h⟩=>⟨A,hv,h.next hb⟩⟩
def ZdK (a:Sh) (qa:Ptr) (j:Sh) (qj:Ptr) (m:Sh) (qm:Ptr) (k1:Sh):Nat->Want
 | 0=> .val (.agg (Y8 a qa))
 | 1=>wantStrs [[97]]
 | 2=>wantSh k1
 | 3=> .val (.bool true)
 | 4=> .val (.bool true)
 | 5=>wantStrs [[97]]
 | 6=>wantSh k1
 | 7=> .val (.agg (Y8 a qa))
 | 8=> .val (.bool false)
 | 9=> .val (.bool true)
 | 10=> .val (.bool true)
 | 11=> .val (.bool true)
 | 12=> .val (.bool true)
 | 13=> .val (.bool true)
 | 14=> .val (.bool true)
 | 15=> .val (.bool true)
 | 16=> .val (.bool true)
 | 17=> .val (.bool true)
 | 18=> .val (.bool false)
 | 19=> .val (.bool true)
 | 20=> .val (.bool true)
 | 21=> .val (.bool true)
 | 22=> .val (.agg (Y8 j qj))
 | 23=>wantStrs [[98]]
 | 24=>wantSh j
 | 25=> .val (.bool true)
 | 26=> .val (.bool true)
 | 27=> .val (.bool true)
 | 28=> .val (.agg (Y8 m qm))
 | 29=>wantStrs [[97],[98],[99]]
 | 30=>wantSh m
 | 31=> .val (.bool true)
 | 32=> .val (.bool true)
 | 33=> .val (.bool true)
 | _=> .any
theorem Zcd (w:World) (hg:WGlobs w):Y9 9 #[] w (.bool true):=by
 obtain ⟨a,ha⟩: ∃a,a=recT [[97],[98]]:=⟨_,rfl⟩;obtain ⟨b,hb⟩: ∃b,b=recT [[98],[99]]:=⟨_,rfl⟩;have HRA:=Y1 (ZbW [[97],[98]] a ha (some ⟨w.heap.size,0,none⟩) 2 _ (ZcM w [97] [98]) (by decide) (by decide));have HAE:=Y1 ha;have HBE:=Y1 hb;have hb1:=Z01 w (.cells #[.string ⟨#[97]⟩,.string ⟨#[98]⟩] 9);have HB1:=Y1 hb1;have HG:=Y1 hg;clear hg ha hb hb1;go_enter Tryz.func9,Tryz.ntmps9
 go_wp2_with fail
 refine HRA.out.mono ?_;rintro e w1 ⟨qa,rfl,hat,hb2⟩;have HBA:=Y1 (Z00 HB1.out hb2);have HAT:=Y1 hat;have HRB:=Y1 (ZbW [[98],[99]] b HBE.out (some ⟨w1.heap.size,0,none⟩) 2 _ (ZcM w1 [98] [99]) (by decide) (by decide));have HB2:=Y1 (Z01 w1 (.cells #[.string ⟨#[98]⟩,.string ⟨#[99]⟩] 9));clear hat hb2 HRA HB1
 go_wp2_with fail
 refine HRB.out.mono ?_;rintro e w2 ⟨qb,rfl,hat,hb2⟩;have hbw:=Z00 HB2.out hb2;have HBB:=Y1 (Z00 HBA.out hbw);have HAT2:=Y1 (HAT.out.next hbw);have HBT:=Y1 hat;clear hat hb2 hbw HRB HB2 HBA HAT
 go_wp2_with fail
 have hx1:=Z01 w2 (.cells (Y8 a qa) 25);have hx2:=Z01 (w2.alloc (.cells (Y8 a qa) 25)) (.cells (Y8 b qb) 25);have hxs: (w2.alloc (.cells (Y8 a qa) 25)).heap.size=w2.heap.size+1:=by simp
 have hxz: ((w2.alloc (.cells (Y8 a qa) 25)).alloc (.cells (Y8 b qb) 25)).heap.size=w2.heap.size+2:=by simp
 have HXA:=Y1 ((Z05 w2 a qa).next hx2);have hxb:=Z05 (w2.alloc (.cells (Y8 a qa) 25)) b qb;rw[hxs] at hxb;have HXB:=Y1 hxb;have HB3:=Y1 (Z00 HBB.out (Z00 hx1 hx2));have HA3:=Y1 (HAT2.out.next (Z00 hx1 hx2));have HT3:=Y1 (HBT.out.next (Z00 hx1 hx2));clear hx1 hx2 hxs hxb HBB HAT2 HBT;obtain ⟨W3,hW3⟩: ∃W3,(w2.alloc (.cells (Y8 a qa) 25)).alloc (.cells (Y8 b qb) 25)=W3:=⟨_,rfl⟩;rw[hW3] at HXA HXB HB3 HA3 HT3 hxz;have HZ3:=Y1 hxz;have HJ:=Y1 (Zc8 a b qa qb W3 HA3.out HT3.out (HG.out.next HB3.out));unfold sv at HJ;rw[hW3];clear hW3 hxz;refine HJ.out.mono ?_;rintro e w4 hj;obtain ⟨j,hjj⟩: ∃j,j=recT [[98]]:=⟨_,rfl⟩;obtain ⟨qj,rfl,hat,hb4⟩:=ZcN hj (j:=j) (by rw[HAE.out,HBE.out,hjj]; exact Zdu);have HJE:=Y1 hjj;have hb5:=Z01 w4 (.cells (Y8 j qj) 25);have HB4:=Y1 (Z00 HB3.out (Z00 hb4 hb5));have HAJ:=Y1 (hat.next hb5);have HA4:=Y1 (HA3.out.next (Z00 hb4 hb5));have HT4:=Y1 (HT3.out.next (Z00 hb4 hb5));have HXJ:=Y1 (Z05 w4 j qj);have HXA4:=Y1 (HXA.out.next (Z00 hb4 hb5));have HXB4:=Y1 (HXB.out.next (Z00 hb4 hb5));clear hat hj hb4 hb5 hjj HJ HXA HXB HA3 HT3 HB3;obtain ⟨W4,hW4⟩: ∃W4,w4.alloc (.cells (Y8 j qj) 25)=W4:=⟨_,rfl⟩;rw[hW4] at HB4 HAJ HA4 HT4 HXJ HXA4 HXB4;obtain ⟨_,⟨a0,a1,a2,a3,a4⟩,_⟩:=HXA4.out;obtain ⟨_,⟨b0,b1,b2,b3,b4⟩,_⟩:=HXB4.out;simp only[Nat.zero_add] at a0 a1 a2 a3 a4 b0 b1 b2 b3 b4;have HM:=Y1 (Zco b a qb qa W4 HT4.out HA4.out (HG.out.next HB4.out));unfold sv at HM
 go_wp2_with fail
 refine HM.out.mono ?_;rintro e w5 hj;obtain ⟨m,hmm⟩: ∃m,m=recT [[97],[98],[99]]:=⟨_,rfl⟩;obtain ⟨qm,rfl,hat,hb4⟩:=ZcN hj (j:=m) (by rw[HAE.out,HBE.out,hmm]; exact Zdv);have HME:=Y1 hmm;have hb5:=Z01 w5 (.cells (Y8 m qm) 25);have HB5:=Y1 (Z00 HB4.out (Z00 hb4 hb5));have HAM:=Y1 (hat.next hb5);have HA5:=Y1 (HA4.out.next (Z00 hb4 hb5));have HJ5:=Y1 (HAJ.out.next (Z00 hb4 hb5));have HXM:=Y1 (Z05 w5 m qm);have HXA5:=Y1 (HXA4.out.next (Z00 hb4 hb5));have HXJ5:=Y1 (HXJ.out.next (Z00 hb4 hb5));clear hat hj hb4 hb5 hmm HM HXA4 HXB4 HXJ HA4 HT4 HB4 HAJ a0 a1 a2 a3 a4 b0 b1 b2 b3 b4 hW4;obtain ⟨W5,hW5⟩: ∃W5,w5.alloc (.cells (Y8 m qm) 25)=W5:=⟨_,rfl⟩;rw[hW5] at HB5 HAM HA5 HJ5 HXM HXA5 HXJ5;have HN:=Y1 (Zc8 ⟨1,[],[],[],[]⟩ ⟨3,[],[],[],[]⟩ noneQ12 noneQ12 W5 (ZcA W5 _ _ rfl rfl (by decide) (by decide)) (ZcA W5 _ _ rfl rfl (by decide) (by decide)) (HG.out.next HB5.out));unfold sv at HN
 go_wp2_with fail
 refine HN.out.mono ?_;rintro e w6 hj;obtain ⟨qn,he,hb4⟩: ∃q:Ptr,e= .returned (.tuple #[.agg #[.int .i64 0,.string ⟨#[]⟩,.string ⟨#[]⟩,.slice q.A 0 q.c,.slice q.P 0 q.d],.bool false])/\Below W5.heap.size W5 w6:=by
  obtain ⟨q,h1, -,h2⟩:=hj;rw[Zdw] at h1;exact ⟨q,h1,h2⟩
 subst he;have hb5:=Z01 w6 (.cells #[.int .i64 0,.string ⟨#[]⟩,.string ⟨#[]⟩,.slice qn.A 0 qn.c,.slice qn.P 0 qn.d] 25);have HB6:=Y1 (Z00 HB5.out (Z00 hb4 hb5));have HA6:=Y1 (HA5.out.next (Z00 hb4 hb5));have HJ6:=Y1 (HJ5.out.next (Z00 hb4 hb5));have HM6:=Y1 (HAM.out.next (Z00 hb4 hb5));have HXA6:=Y1 (HXA5.out.next (Z00 hb4 hb5));have HXJ6:=Y1 (HXJ5.out.next (Z00 hb4 hb5));have HXM6:=Y1 (HXM.out.next (Z00 hb4 hb5));clear hj hb4 hb5 HN HA5 HJ5 HAM HXA5 HXJ5 HXM HB5 hW5;obtain ⟨W6,hW6⟩: ∃W6,w6.alloc (.cells #[.int .i64 0,.string ⟨#[]⟩,.string ⟨#[]⟩,.slice qn.A 0 qn.c,.slice qn.P 0 qn.d] 25)=W6:=⟨_,rfl⟩;rw[hW6] at HB6 HA6 HJ6 HM6 HXA6 HXJ6 HXM6
 go_wp2_with fail
 obtain ⟨k1,hk1⟩: ∃t,t=recT [[97]]:=⟨_,rfl⟩;have HK1:=Y1 hk1;clear hk1 hW6;refine Z5m (rs:= [0,1,2,3,4,5,6,7,8,9,10,11,12,13,14,15,16,17,18,19,20,21,22,23,24,25,26,27,28,29,30,31,32,33])
  (fun u'=> { tmps:=#[u' 33,.pointer (some { block:=w2.heap.size,off:=0 }),.pointer (some { block:=w2.heap.size+1,off:=0 }),.pointer (some { block:=w4.heap.size,off:=0 }),.bool true,.pointer (some { block:=w5.heap.size,off:=0 }),.bool true,.pointer (some { block:=w6.heap.size,off:=0 }),.bool false,.slice (some { block:=w.heap.size,off:=0 }) 2 2,.agg (Y8 a qa),.slice (some { block:=w1.heap.size,off:=0 }) 2 2,.agg (Y8 b qb),.tuple #[.agg (Y8 j qj),.bool true],.agg (Y8 a qa),.agg (Y8 b qb),.tuple #[.agg (Y8 j qj),.bool true],.agg (Y8 j qj),.bool true,.tuple #[.agg (Y8 m qm),.bool true],.agg (Y8 b qb),.agg (Y8 a qa),.tuple #[.agg (Y8 m qm),.bool true],.agg (Y8 m qm),.bool true,.tuple #[.agg #[.int .i64 0,.string { data:=#[] },.string { data:=#[] },.slice qn.A 0 qn.c,.slice qn.P 0 qn.d],.bool false],.agg #[.int .i64 1,.string { data:=#[] },.string { data:=#[] },.slice none 0 0,.slice none 0 0],.agg #[.int .i64 3,.string { data:=#[] },.string { data:=#[] },.slice none 0 0,.slice none 0 0],.tuple #[.agg #[.int .i64 0,.string { data:=#[] },.string { data:=#[] },.slice qn.A 0 qn.c,.slice qn.P 0 qn.d],.bool false],.agg #[.int .i64 0,.string { data:=#[] },.string { data:=#[] },.slice qn.A 0 qn.c,.slice qn.P 0 qn.d],.bool false,u' 0,u' 1,u' 2,u' 3,u' 4,u' 5,u' 6,u' 7,u' 8,u' 9,u' 10,u' 11,u' 12,u' 13,u' 14,u' 15,u' 16,u' 17,u' 18,u' 19,u' 20,u' 21,u' 22,u' 23,u' 24,u' 25,u' 26,u' 27,u' 28,u' 29,u' 30,u' 31,u' 32],defers:= [] })
  (fun j=>([undef,undef,undef,undef,undef,undef,undef,undef,undef,undef,undef,undef,undef,undef,undef,undef,undef,undef,undef,undef,undef,undef,undef,undef,undef,undef,undef,undef,undef,undef,undef,undef,undef,.bool false]:List Value).getD j undef) (ZdK a qa j qj m qm k1) (fun W=>Below W6.heap.size W6 W) (by kernel_rfl) (by kernel_rfl) (by kernel_rfl) Y2.drew ?_ ?_
 refine StepsAt.cons _ rfl (fun u' W K' hJ hd hK=> ?_) ?_
 {obtain ⟨_,⟨y0,y1,y2,y3,y4⟩,_⟩:=HXA6.out.next hJ;simp only[Nat.zero_add] at y0 y1 y2 y3 y4;refine Y0 hK hJ rfl rfl rfl ?_
  try dsimp only
  go_simp}
 refine StepsAt.cons _ rfl (fun u' W K' hJ hd hK=> ?_) ?_
 {refine Z02 (v:= .slice (some ⟨W.heap.size,0,none⟩) 1 1) (W':=W.alloc (.cells #[.string ⟨#[97]⟩] 9)) rfl ?_ (hK.out _ _ ⟨_,rfl,Zcm W [97]⟩ (Z00 hJ (Z01 W (.cells #[.string ⟨#[97]⟩] 9))) (Z01 W (.cells #[.string ⟨#[97]⟩] 9)))
  try dsimp only
  go_simp}
 refine StepsAt.cons _ rfl (fun u' W K' hJ hd hK=> ?_) ?_
 {obtain ⟨A1,d1,s1⟩:=hd 1 (by kernel_rfl);refine Z0F (f:=22) (args:=#[.slice A1 1 1]) (W':=W) rfl ?_ ((ZbW [[97]] k1 HK1.out A1 1 W s1 (by decide) (by decide)).mono fun e w' ⟨q',he,ha,hb⟩=>⟨_,he,hK.out _ _ ⟨q',rfl,ha⟩ (Z00 hJ hb) hb⟩)
  try dsimp only
  go_simp}
 refine StepsAt.cons _ rfl (fun u' W K' hJ hd hK=> ?_) ?_
 {have d0:_=_:=hd 0 (by kernel_rfl);obtain ⟨q2,d2,a2⟩:=hd 2 (by kernel_rfl);refine Z0F (f:=23) (args:=#[.agg (Y8 a qa),.agg (Y8 k1 q2)]) (W':=W) rfl ?_ ((Zch a k1 qa q2 W (HA6.out.next hJ) a2 (HG.out.next (Z00 HB6.out hJ))).mono fun e w' h=>⟨_,h.1,hK.out _ _ (by rw[HAE.out,HK1.out,ZdJ]; rfl) (Z00 hJ h.2) h.2⟩)
  try dsimp only
  go_simp}
 refine StepsAt.cons _ rfl (fun u' W K' hJ hd hK=> ?_) ?_
 {have d3:_=_:=hd 3 (by kernel_rfl);refine Y0 hK hJ rfl rfl rfl ?_
  try dsimp only
  go_simp}
 refine StepsAt.cons _ rfl (fun u' W K' hJ hd hK=> ?_) ?_
 {have dg:_=_:=hd 4 (by kernel_rfl);refine Z02 (v:= .slice (some ⟨W.heap.size,0,none⟩) 1 1) (W':=W.alloc (.cells #[.string ⟨#[97]⟩] 9)) ?_ ?_ (hK.out _ _ ⟨_,rfl,Zcm W [97]⟩ (Z00 hJ (Z01 W (.cells #[.string ⟨#[97]⟩] 9))) (Z01 W (.cells #[.string ⟨#[97]⟩] 9)))
  {simp[Region.wanted,yielded,dg]}
  {try dsimp only
   go_simp}}
 refine StepsAt.cons _ rfl (fun u' W K' hJ hd hK=> ?_) ?_
 {have dg:_=_:=hd 4 (by kernel_rfl);obtain ⟨A5,d5,s5⟩:=hd 5 (by kernel_rfl);refine Z0F (f:=22) (args:=#[.slice A5 1 1]) (W':=W) ?_ ?_ ((ZbW [[97]] k1 HK1.out A5 1 W s5 (by decide) (by decide)).mono fun e w' ⟨q',he,ha,hb⟩=>⟨_,he,hK.out _ _ ⟨q',rfl,ha⟩ (Z00 hJ hb) hb⟩)
  {simp[Region.wanted,yielded,dg]}
  {try dsimp only
   go_simp}}
 refine StepsAt.cons _ rfl (fun u' W K' hJ hd hK=> ?_) ?_
 {have dg:_=_:=hd 4 (by kernel_rfl);obtain ⟨_,⟨y0,y1,y2,y3,y4⟩,_⟩:=HXA6.out.next hJ;simp only[Nat.zero_add] at y0 y1 y2 y3 y4;refine Y0 hK hJ rfl rfl ?_ ?_
  {simp[Region.wanted,yielded,dg]}
  {try dsimp only
   go_simp}}
 refine StepsAt.cons _ rfl (fun u' W K' hJ hd hK=> ?_) ?_
 {have dg:_=_:=hd 4 (by kernel_rfl);obtain ⟨q6,d6,a6⟩:=hd 6 (by kernel_rfl);have d7:_=_:=hd 7 (by kernel_rfl);refine Z0F (f:=23) (args:=#[.agg (Y8 k1 q6),.agg (Y8 a qa)]) (W':=W) ?_ ?_ ((Zch k1 a q6 qa W a6 (HA6.out.next hJ) (HG.out.next (Z00 HB6.out hJ))).mono fun e w' h=>⟨_,h.1,hK.out _ _ (by rw[HAE.out,HK1.out,ZdC]; rfl) (Z00 hJ h.2) h.2⟩)
  {simp[Region.wanted,yielded,dg]}
  {try dsimp only
   go_simp}}
 refine StepsAt.cons _ rfl (fun u' W K' hJ hd hK=> ?_) ?_
 {have dg:_=_:=hd 4 (by kernel_rfl);have d8:_=_:=hd 8 (by kernel_rfl);refine Y0 hK hJ rfl rfl ?_ ?_
  {simp[Region.wanted,yielded,dg]}
  {try dsimp only
   go_simp}}
 refine StepsAt.cons _ rfl (fun u' W K' hJ hd hK=> ?_) ?_
 {have d4:_=_:=hd 4 (by kernel_rfl);have d9:_=_:=hd 9 (by kernel_rfl);refine Y0 hK hJ rfl rfl rfl ?_
  try dsimp only
  go_simp}
 refine StepsAt.cons _ rfl (fun u' W K' hJ hd hK=> ?_) ?_
 {have d10:_=_:=hd 10 (by kernel_rfl);refine Y0 hK hJ rfl rfl rfl ?_
  try dsimp only
  go_simp}
 refine StepsAt.cons _ rfl (fun u' W K' hJ hd hK=> ?_) ?_
 {have dg:_=_:=hd 11 (by kernel_rfl);refine Y0 hK hJ rfl rfl ?_ ?_
  {simp[Region.wanted,yielded,dg]}
  {try dsimp only
   go_simp}}
 refine StepsAt.cons _ rfl (fun u' W K' hJ hd hK=> ?_) ?_
 {have d11:_=_:=hd 11 (by kernel_rfl);have d12:_=_:=hd 12 (by kernel_rfl);refine Y0 hK hJ rfl rfl rfl ?_
  try dsimp only
  go_simp}
 refine StepsAt.cons _ rfl (fun u' W K' hJ hd hK=> ?_) ?_
 {have d13:_=_:=hd 13 (by kernel_rfl);refine Y0 hK hJ rfl rfl rfl ?_
  try dsimp only
  go_simp}
 refine StepsAt.cons _ rfl (fun u' W K' hJ hd hK=> ?_) ?_
 {have dg:_=_:=hd 14 (by kernel_rfl);refine Y0 hK hJ rfl rfl ?_ ?_
  {simp[Region.wanted,yielded,dg]}
  {try dsimp only
   go_simp}}
 refine StepsAt.cons _ rfl (fun u' W K' hJ hd hK=> ?_) ?_
 {have d14:_=_:=hd 14 (by kernel_rfl);have d15:_=_:=hd 15 (by kernel_rfl);refine Y0 hK hJ rfl rfl rfl ?_
  try dsimp only
  go_simp}
 refine StepsAt.cons _ rfl (fun u' W K' hJ hd hK=> ?_) ?_
 {have d16:_=_:=hd 16 (by kernel_rfl);refine Y0 hK hJ rfl rfl rfl ?_
  try dsimp only
  go_simp}
 refine StepsAt.cons _ rfl (fun u' W K' hJ hd hK=> ?_) ?_
 {have dg:_=_:=hd 17 (by kernel_rfl);refine Y0 hK hJ rfl rfl ?_ ?_
  {simp[Region.wanted,yielded,dg]}
  {try dsimp only
   go_simp}}
 refine StepsAt.cons _ rfl (fun u' W K' hJ hd hK=> ?_) ?_
 {have dg:_=_:=hd 17 (by kernel_rfl);have d18:_=_:=hd 18 (by kernel_rfl);refine Y0 hK hJ rfl rfl ?_ ?_
  {simp[Region.wanted,yielded,dg]}
  {try dsimp only
   go_simp}}
 refine StepsAt.cons _ rfl (fun u' W K' hJ hd hK=> ?_) ?_
 {have d17:_=_:=hd 17 (by kernel_rfl);have d19:_=_:=hd 19 (by kernel_rfl);refine Y0 hK hJ rfl rfl rfl ?_
  try dsimp only
  go_simp}
 refine StepsAt.cons _ rfl (fun u' W K' hJ hd hK=> ?_) ?_
 {have d20:_=_:=hd 20 (by kernel_rfl);refine Y0 hK hJ rfl rfl rfl ?_
  try dsimp only
  go_simp}
 refine StepsAt.cons _ rfl (fun u' W K' hJ hd hK=> ?_) ?_
 {have dg:_=_:=hd 21 (by kernel_rfl);obtain ⟨_,⟨y0,y1,y2,y3,y4⟩,_⟩:=HXJ6.out.next hJ;simp only[Nat.zero_add] at y0 y1 y2 y3 y4;refine Y0 hK hJ rfl rfl ?_ ?_
  {simp[Region.wanted,yielded,dg]}
  {try dsimp only
   go_simp}}
 refine StepsAt.cons _ rfl (fun u' W K' hJ hd hK=> ?_) ?_
 {have dg:_=_:=hd 21 (by kernel_rfl);refine Z02 (v:= .slice (some ⟨W.heap.size,0,none⟩) 1 1) (W':=W.alloc (.cells #[.string ⟨#[98]⟩] 9)) ?_ ?_ (hK.out _ _ ⟨_,rfl,Zcm W [98]⟩ (Z00 hJ (Z01 W (.cells #[.string ⟨#[98]⟩] 9))) (Z01 W (.cells #[.string ⟨#[98]⟩] 9)))
  {simp[Region.wanted,yielded,dg]}
  {try dsimp only
   go_simp}}
 refine StepsAt.cons _ rfl (fun u' W K' hJ hd hK=> ?_) ?_
 {have dg:_=_:=hd 21 (by kernel_rfl);obtain ⟨A23,d23,s23⟩:=hd 23 (by kernel_rfl);refine Z0F (f:=22) (args:=#[.slice A23 1 1]) (W':=W) ?_ ?_ ((ZbW [[98]] j HJE.out A23 1 W s23 (by decide) (by decide)).mono fun e w' ⟨q',he,ha,hb⟩=>⟨_,he,hK.out _ _ ⟨q',rfl,ha⟩ (Z00 hJ hb) hb⟩)
  {simp[Region.wanted,yielded,dg]}
  {try dsimp only
   go_simp}}
 refine StepsAt.cons _ rfl (fun u' W K' hJ hd hK=> ?_) ?_
 {have dg:_=_:=hd 21 (by kernel_rfl);have d22:_=_:=hd 22 (by kernel_rfl);obtain ⟨q24,d24,a24⟩:=hd 24 (by kernel_rfl);refine Z0F (f:=8) (args:=#[.agg (Y8 j qj),.agg (Y8 j q24)]) (W':=W) ?_ ?_ ((Z39 j j qj q24 W (HJ6.out.next hJ) a24).mono fun e w' h=>⟨_,h.1,hK.out _ _ (by rw[Z2y]; rfl) (Z00 hJ h.2) h.2⟩)
  {simp[Region.wanted,yielded,dg]}
  {try dsimp only
   go_simp}}
 refine StepsAt.cons _ rfl (fun u' W K' hJ hd hK=> ?_) ?_
 {have d21:_=_:=hd 21 (by kernel_rfl);have d25:_=_:=hd 25 (by kernel_rfl);refine Y0 hK hJ rfl rfl rfl ?_
  try dsimp only
  go_simp}
 refine StepsAt.cons _ rfl (fun u' W K' hJ hd hK=> ?_) ?_
 {have d26:_=_:=hd 26 (by kernel_rfl);refine Y0 hK hJ rfl rfl rfl ?_
  try dsimp only
  go_simp}
 refine StepsAt.cons _ rfl (fun u' W K' hJ hd hK=> ?_) ?_
 {have dg:_=_:=hd 27 (by kernel_rfl);obtain ⟨_,⟨y0,y1,y2,y3,y4⟩,_⟩:=HXM6.out.next hJ;simp only[Nat.zero_add] at y0 y1 y2 y3 y4;refine Y0 hK hJ rfl rfl ?_ ?_
  {simp[Region.wanted,yielded,dg]}
  {try dsimp only
   go_simp}}
 refine StepsAt.cons _ rfl (fun u' W K' hJ hd hK=> ?_) ?_
 {have dg:_=_:=hd 27 (by kernel_rfl);refine Z02 (v:= .slice (some ⟨W.heap.size,0,none⟩) 3 3) (W':=W.alloc (.cells #[.string ⟨#[97]⟩,.string ⟨#[98]⟩,.string ⟨#[99]⟩] 9)) ?_ ?_ (hK.out _ _ ⟨_,rfl,Zd7 W [97] [98] [99]⟩ (Z00 hJ (Z01 W (.cells #[.string ⟨#[97]⟩,.string ⟨#[98]⟩,.string ⟨#[99]⟩] 9))) (Z01 W (.cells #[.string ⟨#[97]⟩,.string ⟨#[98]⟩,.string ⟨#[99]⟩] 9)))
  {simp[Region.wanted,yielded,dg]}
  {try dsimp only
   go_simp}}
 refine StepsAt.cons _ rfl (fun u' W K' hJ hd hK=> ?_) ?_
 {have dg:_=_:=hd 27 (by kernel_rfl);obtain ⟨A29,d29,s29⟩:=hd 29 (by kernel_rfl);refine Z0F (f:=22) (args:=#[.slice A29 3 3]) (W':=W) ?_ ?_ ((ZbW [[97],[98],[99]] m HME.out A29 3 W s29 (by decide) (by decide)).mono fun e w' ⟨q',he,ha,hb⟩=>⟨_,he,hK.out _ _ ⟨q',rfl,ha⟩ (Z00 hJ hb) hb⟩)
  {simp[Region.wanted,yielded,dg]}
  {try dsimp only
   go_simp}}
 refine StepsAt.cons _ rfl (fun u' W K' hJ hd hK=> ?_) ?_
 {have dg:_=_:=hd 27 (by kernel_rfl);have d28:_=_:=hd 28 (by kernel_rfl);obtain ⟨q30,d30,a30⟩:=hd 30 (by kernel_rfl);refine Z0F (f:=8) (args:=#[.agg (Y8 m qm),.agg (Y8 m q30)]) (W':=W) ?_ ?_ ((Z39 m m qm q30 W (HM6.out.next hJ) a30).mono fun e w' h=>⟨_,h.1,hK.out _ _ (by rw[Z2y]; rfl) (Z00 hJ h.2) h.2⟩)
  {simp[Region.wanted,yielded,dg]}
  {try dsimp only
   go_simp}}
 refine StepsAt.cons _ rfl (fun u' W K' hJ hd hK=> ?_) ?_
 {have d27:_=_:=hd 27 (by kernel_rfl);have d31:_=_:=hd 31 (by kernel_rfl);refine Y0 hK hJ rfl rfl rfl ?_
  try dsimp only
  go_simp}
 refine StepsAt.cons _ rfl (fun u' W K' hJ hd hK=> ?_) StepsAt.nil
 {have d32:_=_:=hd 32 (by kernel_rfl);refine Y0 hK hJ rfl rfl rfl ?_
  try dsimp only
  go_simp}
 intro u' W' hJ' hok
 try dsimp only
 rw[show u' 33= .bool true from hok 33 (by decide)];clear hok;go_wp2;go_ret;exact ⟨rfl,Z00 HB6.out hJ'⟩
end SubM
end Go.Proofs.YtlomianlcnmfgaaGreatDoor
