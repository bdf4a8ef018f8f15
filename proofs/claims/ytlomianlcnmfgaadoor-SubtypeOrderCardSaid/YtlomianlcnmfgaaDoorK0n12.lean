/- What the proofs of SubtypeBelows, SubtypeBoth, SubtypeGreatest, SubtypeLeast, SubtypeOrder want, part 12. -/
import Derived.Test.YtlomianlcnmfgaaDoorK0n11
set_option linter.unusedVariables false
set_option linter.unusedSimpArgs false
set_option linter.unusedSectionVars false
set_option maxRecDepth 100000
set_option maxHeartbeats 16000000
namespace Go.Proofs.YtlomianlcnmfgaaDoor
open Go.RowKit Shp Sub
namespace SubM
def JIs (up:Bool) (a b:Sh) (w:World) (e:Ending) (w':World):Prop:=
 ∃q,e= .returned (.tuple #[sv ((J up a b).getD Z0d) q,.bool (J up a b).isSome])/\Kept (fun b=>w.heap.size<=b) w' ((J up a b).getD Z0d,q)/\Below w.heap.size w w'
theorem Z3w {up:Bool} {a b:Sh} {w W:World} (hb:Below w.heap.size w W) (h:J up a b=none):JIs up a b w (.returned (.tuple #[.agg #[.int .i64 0,.string ⟨#[]⟩,.string ⟨#[]⟩,.slice none 0 0,.slice none 0 0],.bool false])) W:=
 ⟨noneQ12,by rw[h]; rfl,by rw[h]; exact Zap _ _,hb⟩
theorem Z53 (up:Bool) (a b:Sh) (pa pb:Ptr) (w:World) (ha:ShAt w w.heap.size pa a) (hb:ShAt w w.heap.size pb b) (hg:WGlobs w):
 Calls Tryd.prog 29 #[sv a pa,sv b pb,.func (.func (bfn up)) #[] #[]] w (JIs up a b w):=by
 have hen:=Z2K up;have hb1:=Z02 w (.cells (Y8 a pa) 25);obtain ⟨w1,hw1⟩: ∃w1,w1=w.alloc (.cells (Y8 a pa) 25):=⟨_,rfl⟩;have hs1:w1.heap.size=w.heap.size+1:=by rw[hw1]; simp
 have hb2:=Z02 w1 (.cells (Y8 b pb) 25);obtain ⟨w2,hw2⟩: ∃w2,w2=w1.alloc (.cells (Y8 b pb) 25):=⟨_,rfl⟩;have hs2:w2.heap.size=w1.heap.size+1:=by rw[hw2]; simp
 have hb3:=Z02 w2 (.cells Yb 25);obtain ⟨w3,hw3⟩: ∃w3,w3=w2.alloc (.cells Yb 25):=⟨_,rfl⟩;have hs3:w3.heap.size=w2.heap.size+1:=by rw[hw3]; simp
 rw[<-hw1] at hb1;rw[<-hw2] at hb2;rw[<-hw3] at hb3;have hbw:=Z00 hb1 (Z00 hb2 hb3);have hrc:Rc (w.heap.size+1+1) w3:=by
  have h:=Z1y hw3
  rwa [show w2.heap.size=w.heap.size+1+1 from by omega] at h
 have hB1:Box5 w1 w.heap.size a pa:=by rw[hw1]; exact Z03 w a pa
 have hB2:Box5 w2 w1.heap.size b pb:=by rw[hw2]; exact Z03 w1 b pb
 have hBA:=(hB1.next hb2).next hb3;have hBB:=hB2.next hb3;rw[hs1] at hBB;have HBA:=Y1 hBA;have HBB:=Y1 hBB;have HA:=Y1 (ha.next hbw);have HB:=Y1 (hb.next hbw);have HG:=Y1 (hg.next hbw);have HW:=Y1 hbw;have HZ:Hid (w3.heap.size=w.heap.size+1+1+1):=Y1 (by omega);have HR:=Y1 hrc;obtain ⟨_,⟨a0,a1,a2,a3,a4⟩,_⟩:=hBA;obtain ⟨_,⟨b0,b1,b2,b3,b4⟩,_⟩:=hBB;simp only[Nat.zero_add] at a0 a1 a2 a3 a4 b0 b1 b2 b3 b4;have hw1':=hw1.symm;have hw2':=hw2.symm;have hw3':=hw3.symm;have lw:w.heap.size+1+1 < w3.heap.size:=by omega
 clear hw1 hw2 hw3 hb1 hb2 hb3 hB1 hB2 hbw ha hb hg hrc;unfold sv;go_enter Tryd.func29,Tryd.ntmps29
 go_wp2_with fail
 refine (mayBe_walk a pa w3 HA.out HG.out).mono ?_;rintro e w4 ⟨rfl,hb4⟩;have HB4:=Y1 hb4;clear hb4 a0 a1 a2 a3 a4 b0 b1 b2 b3 b4;by_cases ca:check a=0
 {have HCA:=Y1 ca;rw[decide_eq_true ca];clear ca;obtain ⟨_,⟨b0,b1,b2,b3,b4⟩,_⟩:=HBB.out.next HB4.out;simp only[Nat.zero_add] at b0 b1 b2 b3 b4
  go_wp2_with fail
  refine (mayBe_walk b pb w4 (HB.out.next HB4.out) (HG.out.next HB4.out)).mono ?_;rintro e w5 ⟨rfl,hb5⟩;have HB5:=Y1 (Z00 HB4.out hb5);clear hb5 b0 b1 b2 b3 b4;by_cases cb:check b=0
  {have HCB:=Y1 cb;rw[decide_eq_true cb];clear cb;obtain ⟨_,⟨a0,a1,a2,a3,a4⟩,_⟩:=HBA.out.next HB5.out;obtain ⟨_,⟨b0,b1,b2,b3,b4⟩,_⟩:=HBB.out.next HB5.out;simp only[Nat.zero_add] at a0 a1 a2 a3 a4 b0 b1 b2 b3 b4;have hta:Two 40 a b:=⟨(Z09 HCA.out).2.2,(Z09 HCB.out).2.2,(Z09 HCA.out).2.1,(Z09 HCB.out).2.1,(Z09 HCA.out).1,(Z09 HCB.out).1⟩;have HU:=Y1 (Z99 40 up a b pa pb w5.heap.size w5 hta (HA.out.next HB5.out) (HB.out.next HB5.out) (Nat.le_refl _));have HJ:Hid (J up a b=Sub.whole (bound 40 up a b)):=Y1 (by unfold J; rw[if_pos ⟨HCA.out,HCB.out⟩]);unfold sv at HU;clear hta
   go_wp2_with fail
   refine HU.out.mono ?_;rintro e w6 ⟨t,q,rfl,hb6,hj⟩;have hb7:=Z02 w6 (.cells (Y8 t q) 25);obtain ⟨w7,hw7⟩: ∃w7,w7=w6.alloc (.cells (Y8 t q) 25):=⟨_,rfl⟩;have hbx:Box5 w7 w6.heap.size t q:=by rw[hw7]; exact Z03 w6 t q
   rw[<-hw7] at hb7;have HB7:=Y1 (Z00 HB5.out (Z00 hb6 hb7));have HBX:=Y1 hbx;have HKP:Hid (∀j,bound 40 up a b=some j->t=j/\ShAt w7 w7.heap.size q j):=Y1 (fun j hb=>by
    obtain ⟨e,hk⟩:=hj j hb;exact ⟨e,(hk.upd (T:=fun _=>False) (Upd.new hb7) (fun _ _ _ h=>h)).here⟩)
   obtain ⟨_,⟨x0,x1,x2,x3,x4⟩,_⟩:=hbx;simp only[Nat.zero_add] at x0 x1 x2 x3 x4;have hw7':=hw7.symm;have hl7:w.heap.size+1+1 < w6.heap.size:=by have:=HB5.out.size; have:=hb6.size; omega
   clear hw7 hb6 hb7 hj HU a0 a1 a2 a3 a4 b0 b1 b2 b3 b4 hen;cases hbd:bound 40 up a b with
   | none=>
    have HN:Hid (J up a b=none):=Y1 (by rw[HJ.out,hbd]; rfl);simp only[Option.isSome_none];clear hbd;unfold sv;have hR:=HR.out.upd (T:=fun _=>False) (Upd.new (HB7.out)) (fun h=>h);have HLY:=Y1 (RX.lay_at Z0d noneQ12 (W:=w7) (g:=w.heap.size+1+1) hR.ex);have HUP:=Y1 (RX.lay_upd w7 (w.heap.size+1+1) Z0d noneQ12);obtain ⟨v0,y0⟩:=hR.ex 0 (by omega);obtain ⟨v1,y1⟩:=hR.ex 1 (by omega);obtain ⟨v2,y2⟩:=hR.ex 2 (by omega);obtain ⟨v3,y3⟩:=hR.ex 3 (by omega);obtain ⟨v4,y4⟩:=hR.ex 4 (by omega);have z0:=hR.fz 0;have z1:=hR.fz 1;have z2:=hR.fz 2;have z3:=hR.fz 3;have z4:=hR.fz 4;clear hR;go_wp2;obtain ⟨u0,u1,u2,u3,u4⟩:=HLY.out;unfold RX.lay Z0d at u0 u1 u2 u3 u4;simp only[Nat.zero_add,List.length_nil] at u0 u1 u2 u3 u4;refine bodyPost_ret (v:= .tuple #[.agg #[.int .i64 0,.string ⟨#[]⟩,.string ⟨#[]⟩,.slice none 0 0,.slice none 0 0],.bool false]) (by simp[results,Tryd.results29,go_sem,u0,u1,u2,u3,u4]) rfl ?_;exact Z3w ((Z00 HW.out (HB7.out)).trans (HUP.out.below (by have h1:=HW.out.size; have h2:=(HB7.out).size; omega) (fun x hx=>by omega))) (HN.out)
   | some j=>
    obtain ⟨rfl,hat⟩:=HKP.out j hbd;have HJ2:Hid (J up a b=Sub.whole (some t)):=Y1 (by rw[HJ.out,hbd]);have HAT:=Y1 hat;simp only[Option.isSome_some];clear hbd hat;unfold sv
    go_wp2_with fail
    refine (mayBe_walk t q w7 HAT.out (HG.out.next HB7.out)).mono ?_;rintro e w8 ⟨rfl,hb8⟩;have HB8:=Y1 (Z00 HB7.out hb8);have HA8:=Y1 (HAT.out.next hb8);have HBX8:=Y1 (HBX.out.next hb8);clear hb8 x0 x1 x2 x3 x4;by_cases ct:check t=0
    {have HCT:=Y1 ct;rw[decide_eq_true ct];clear ct;obtain ⟨_,⟨x0,x1,x2,x3,x4⟩,_⟩:=HBX8.out;simp only[Nat.zero_add] at x0 x1 x2 x3 x4
     go_wp2_with fail
     refine (Z5u t q w8 HA8.out (HG.out.next HB8.out) HCT.out).mono ?_;rintro e w9 ⟨q9,F,rfl,hown,hF,hb9⟩;have HJS:Hid (J up a b=some (sorted t)):=Y1 (by rw[HJ2.out]; unfold Sub.whole; simp[HCT.out]);obtain ⟨z,hz⟩: ∃z,z=sorted t:=⟨_,rfl⟩;rw[<-hz] at hown HJS ⊢;have hb39:=Z00 HB8.out hb9;have hR:=HR.out.upd (T:=fun _=>False) (Upd.new hb39) (fun h=>h);have hK:Kept (fun b=>w3.heap.size<=b) w9 (z,q9):=ZaY hown (fun b hb=>by have h1:=hF b hb; have h2:=HB8.out.size; omega);have HK:=Y1 (hK.move (S':=fun b=>w.heap.size<=b) (RX.lay_upd w9 (w.heap.size+1+1) z q9) (fun b _ hf=>⟨fun e=>by have e:b=w.heap.size+1+1:=e; omega,by omega⟩));have HBF:=Y1 ((Z00 HW.out hb39).trans ((RX.lay_upd w9 (w.heap.size+1+1) z q9).below (by have h1:=HW.out.size; have h2:=hb39.size; omega) (fun x hx=>by omega)));have HLY:=Y1 (RX.lay_at z q9 (W:=w9) (g:=w.heap.size+1+1) hR.ex);obtain ⟨v0,y0⟩:=hR.ex 0 (by omega);obtain ⟨v1,y1⟩:=hR.ex 1 (by omega);obtain ⟨v2,y2⟩:=hR.ex 2 (by omega);obtain ⟨v3,y3⟩:=hR.ex 3 (by omega);obtain ⟨v4,y4⟩:=hR.ex 4 (by omega);have z0:=hR.fz 0;have z1:=hR.fz 1;have z2:=hR.fz 2;have z3:=hR.fz 3;have z4:=hR.fz 4;clear hR hK hown hF hb9 hb39 hz x0 x1 x2 x3 x4;go_wp2;obtain ⟨u0,u1,u2,u3,u4⟩:=HLY.out;unfold RX.lay at u0 u1 u2 u3 u4;simp only[Nat.zero_add] at u0 u1 u2 u3 u4;refine bodyPost_ret (v:= .tuple #[sv z q9,.bool true]) (by simp[results,Tryd.results29,go_sem,u0,u1,u2,u3,u4]) rfl ?_;refine ⟨q9, ?_, ?_,HBF.out⟩
     {rw[HJS.out]; rfl}
     {rw[HJS.out]; exact HK.out}}
    {have HN:Hid (J up a b=none):=Y1 (by rw[HJ2.out]; unfold Sub.whole; simp[ct]);rw[decide_eq_false ct];clear ct;have hR:=HR.out.upd (T:=fun _=>False) (Upd.new (HB8.out)) (fun h=>h);have HLY:=Y1 (RX.lay_at Z0d noneQ12 (W:=w8) (g:=w.heap.size+1+1) hR.ex);have HUP:=Y1 (RX.lay_upd w8 (w.heap.size+1+1) Z0d noneQ12);obtain ⟨v0,y0⟩:=hR.ex 0 (by omega);obtain ⟨v1,y1⟩:=hR.ex 1 (by omega);obtain ⟨v2,y2⟩:=hR.ex 2 (by omega);obtain ⟨v3,y3⟩:=hR.ex 3 (by omega);obtain ⟨v4,y4⟩:=hR.ex 4 (by omega);have z0:=hR.fz 0;have z1:=hR.fz 1;have z2:=hR.fz 2;have z3:=hR.fz 3;have z4:=hR.fz 4;clear hR;go_wp2;obtain ⟨u0,u1,u2,u3,u4⟩:=HLY.out;unfold RX.lay Z0d at u0 u1 u2 u3 u4;simp only[Nat.zero_add,List.length_nil] at u0 u1 u2 u3 u4;refine bodyPost_ret (v:= .tuple #[.agg #[.int .i64 0,.string ⟨#[]⟩,.string ⟨#[]⟩,.slice none 0 0,.slice none 0 0],.bool false]) (by simp[results,Tryd.results29,go_sem,u0,u1,u2,u3,u4]) rfl ?_;exact Z3w ((Z00 HW.out (HB8.out)).trans (HUP.out.below (by have h1:=HW.out.size; have h2:=(HB8.out).size; omega) (fun x hx=>by omega))) (HN.out)}}
  {have HN:Hid (J up a b=none):=Y1 (by unfold J; rw[if_neg (fun h=>cb h.2)]);rw[decide_eq_false cb];clear cb hen;have hR:=HR.out.upd (T:=fun _=>False) (Upd.new (HB5.out)) (fun h=>h);have HLY:=Y1 (RX.lay_at Z0d noneQ12 (W:=w5) (g:=w.heap.size+1+1) hR.ex);have HUP:=Y1 (RX.lay_upd w5 (w.heap.size+1+1) Z0d noneQ12);obtain ⟨v0,y0⟩:=hR.ex 0 (by omega);obtain ⟨v1,y1⟩:=hR.ex 1 (by omega);obtain ⟨v2,y2⟩:=hR.ex 2 (by omega);obtain ⟨v3,y3⟩:=hR.ex 3 (by omega);obtain ⟨v4,y4⟩:=hR.ex 4 (by omega);have z0:=hR.fz 0;have z1:=hR.fz 1;have z2:=hR.fz 2;have z3:=hR.fz 3;have z4:=hR.fz 4;clear hR;go_wp2;obtain ⟨u0,u1,u2,u3,u4⟩:=HLY.out;unfold RX.lay Z0d at u0 u1 u2 u3 u4;simp only[Nat.zero_add,List.length_nil] at u0 u1 u2 u3 u4;refine bodyPost_ret (v:= .tuple #[.agg #[.int .i64 0,.string ⟨#[]⟩,.string ⟨#[]⟩,.slice none 0 0,.slice none 0 0],.bool false]) (by simp[results,Tryd.results29,go_sem,u0,u1,u2,u3,u4]) rfl ?_;exact Z3w ((Z00 HW.out (HB5.out)).trans (HUP.out.below (by have h1:=HW.out.size; have h2:=(HB5.out).size; omega) (fun x hx=>by omega))) (HN.out)}}
 {have HN:Hid (J up a b=none):=Y1 (by unfold J; rw[if_neg (fun h=>ca h.1)]);rw[decide_eq_false ca];clear ca hen;have hR:=HR.out.upd (T:=fun _=>False) (Upd.new (HB4.out)) (fun h=>h);have HLY:=Y1 (RX.lay_at Z0d noneQ12 (W:=w4) (g:=w.heap.size+1+1) hR.ex);have HUP:=Y1 (RX.lay_upd w4 (w.heap.size+1+1) Z0d noneQ12);obtain ⟨v0,y0⟩:=hR.ex 0 (by omega);obtain ⟨v1,y1⟩:=hR.ex 1 (by omega);obtain ⟨v2,y2⟩:=hR.ex 2 (by omega);obtain ⟨v3,y3⟩:=hR.ex 3 (by omega);obtain ⟨v4,y4⟩:=hR.ex 4 (by omega);have z0:=hR.fz 0;have z1:=hR.fz 1;have z2:=hR.fz 2;have z3:=hR.fz 3;have z4:=hR.fz 4;clear hR;go_wp2;obtain ⟨u0,u1,u2,u3,u4⟩:=HLY.out;unfold RX.lay Z0d at u0 u1 u2 u3 u4;simp only[Nat.zero_add,List.length_nil] at u0 u1 u2 u3 u4;refine bodyPost_ret (v:= .tuple #[.agg #[.int .i64 0,.string ⟨#[]⟩,.string ⟨#[]⟩,.slice none 0 0,.slice none 0 0],.bool false]) (by simp[results,Tryd.results29,go_sem,u0,u1,u2,u3,u4]) rfl ?_;exact Z3w ((Z00 HW.out (HB4.out)).trans (HUP.out.below (by have h1:=HW.out.size; have h2:=(HB4.out).size; omega) (fun x hx=>by omega))) (HN.out)}
section
variable (a b : Sh) (pa pb : Ptr) (w : World) (ha : ShAt w w.heap.size pa a) (hb : ShAt w w.heap.size pb b) (hg : WGlobs w)
include a b pa pb w ha hb hg
theorem Z1t:
 Calls Tryd.prog 14 #[sv a pa,sv b pb] w (JIs true a b w):=by
 have hb1:=Z02 w (.cells (Y8 a pa) 25);obtain ⟨w1,hw1⟩: ∃w1,w1=w.alloc (.cells (Y8 a pa) 25):=⟨_,rfl⟩;have hs1:w1.heap.size=w.heap.size+1:=by rw[hw1]; simp
 have hb2:=Z02 w1 (.cells (Y8 b pb) 25);obtain ⟨w2,hw2⟩: ∃w2,w2=w1.alloc (.cells (Y8 b pb) 25):=⟨_,rfl⟩;have hs2:w2.heap.size=w1.heap.size+1:=by rw[hw2]; simp
 have hb3:=Z02 w2 (.cells Yb 25);obtain ⟨w3,hw3⟩: ∃w3,w3=w2.alloc (.cells Yb 25):=⟨_,rfl⟩;have hs3:w3.heap.size=w2.heap.size+1:=by rw[hw3]; simp
 rw[<-hw1] at hb1;rw[<-hw2] at hb2;rw[<-hw3] at hb3;have hbw:=Z00 hb1 (Z00 hb2 hb3);have hrc:Rc (w.heap.size+1+1) w3:=by
  have h:=Z1y hw3
  rwa [show w2.heap.size=w.heap.size+1+1 from by omega] at h
 have hB1:Box5 w1 w.heap.size a pa:=by rw[hw1]; exact Z03 w a pa
 have hB2:Box5 w2 w1.heap.size b pb:=by rw[hw2]; exact Z03 w1 b pb
 have hBA:=(hB1.next hb2).next hb3;have hBB:=hB2.next hb3;rw[hs1] at hBB;have HBA:=Y1 hBA;have HBB:=Y1 hBB;have HA:=Y1 (ha.next hbw);have HB:=Y1 (hb.next hbw);have HG:=Y1 (hg.next hbw);have HW:=Y1 hbw;have HZ:Hid (w3.heap.size=w.heap.size+1+1+1):=Y1 (by omega);have HR:=Y1 hrc;obtain ⟨_,⟨a0,a1,a2,a3,a4⟩,_⟩:=hBA;obtain ⟨_,⟨b0,b1,b2,b3,b4⟩,_⟩:=hBB;simp only[Nat.zero_add] at a0 a1 a2 a3 a4 b0 b1 b2 b3 b4;have hw1':=hw1.symm;have hw2':=hw2.symm;have hw3':=hw3.symm;have lw:w.heap.size+1+1 < w3.heap.size:=by omega
 clear hw1 hw2 hw3 hb1 hb2 hb3 hB1 hB2 hbw ha hb hg hrc;have HE:=Y1 (Z53 true a b pa pb w3 HA.out HB.out HG.out);unfold sv bfn at HE;simp only[Bool.false_eq_true,if_true,if_false] at HE;unfold sv;go_enter Tryd.func14,Tryd.ntmps14
 go_wp2_with fail
 refine HE.out.mono ?_;rintro e w9 ⟨q9,rfl,hK,hb39⟩;obtain ⟨z,hz⟩: ∃z,z=(J true a b).getD Z0d:=⟨_,rfl⟩;have HZZ:=Y1 hz;rw[<-hz] at hK ⊢;have hR:=HR.out.upd (T:=fun _=>False) (Upd.new hb39) (fun h=>h);have HK:=Y1 (hK.move (S':=fun b=>w.heap.size<=b) (RX.lay_upd w9 (w.heap.size+1+1) z q9) (fun b _ hf=>⟨fun e=>by have e:b=w.heap.size+1+1:=e; omega,by omega⟩));have HBF:=Y1 ((Z00 HW.out hb39).trans ((RX.lay_upd w9 (w.heap.size+1+1) z q9).below (by have h1:=HW.out.size; have h2:=hb39.size; omega) (fun x hx=>by omega)));have HLY:=Y1 (RX.lay_at z q9 (W:=w9) (g:=w.heap.size+1+1) hR.ex);obtain ⟨v0,y0⟩:=hR.ex 0 (by omega);obtain ⟨v1,y1⟩:=hR.ex 1 (by omega);obtain ⟨v2,y2⟩:=hR.ex 2 (by omega);obtain ⟨v3,y3⟩:=hR.ex 3 (by omega);obtain ⟨v4,y4⟩:=hR.ex 4 (by omega);have z0:=hR.fz 0;have z1:=hR.fz 1;have z2:=hR.fz 2;have z3:=hR.fz 3;have z4:=hR.fz 4;clear hR hK hb39 hz HE a0 a1 a2 a3 a4 b0 b1 b2 b3 b4;unfold sv;go_wp2;obtain ⟨u0,u1,u2,u3,u4⟩:=HLY.out;unfold RX.lay at u0 u1 u2 u3 u4;simp only[Nat.zero_add] at u0 u1 u2 u3 u4;refine bodyPost_ret (v:= .tuple #[sv z q9,.bool (J true a b).isSome]) (by simp[results,Tryd.results14,go_sem,u0,u1,u2,u3,u4]) rfl ?_;exact ⟨q9,by rw[HZZ.out],by rw[<-HZZ.out]; exact HK.out,HBF.out⟩
theorem Z1R:
 Calls Tryd.prog 16 #[sv a pa,sv b pb] w (JIs false a b w):=by
 have hb1:=Z02 w (.cells (Y8 a pa) 25);obtain ⟨w1,hw1⟩: ∃w1,w1=w.alloc (.cells (Y8 a pa) 25):=⟨_,rfl⟩;have hs1:w1.heap.size=w.heap.size+1:=by rw[hw1]; simp
 have hb2:=Z02 w1 (.cells (Y8 b pb) 25);obtain ⟨w2,hw2⟩: ∃w2,w2=w1.alloc (.cells (Y8 b pb) 25):=⟨_,rfl⟩;have hs2:w2.heap.size=w1.heap.size+1:=by rw[hw2]; simp
 have hb3:=Z02 w2 (.cells Yb 25);obtain ⟨w3,hw3⟩: ∃w3,w3=w2.alloc (.cells Yb 25):=⟨_,rfl⟩;have hs3:w3.heap.size=w2.heap.size+1:=by rw[hw3]; simp
 rw[<-hw1] at hb1;rw[<-hw2] at hb2;rw[<-hw3] at hb3;have hbw:=Z00 hb1 (Z00 hb2 hb3);have hrc:Rc (w.heap.size+1+1) w3:=by
  have h:=Z1y hw3
  rwa [show w2.heap.size=w.heap.size+1+1 from by omega] at h
 have hB1:Box5 w1 w.heap.size a pa:=by rw[hw1]; exact Z03 w a pa
 have hB2:Box5 w2 w1.heap.size b pb:=by rw[hw2]; exact Z03 w1 b pb
 have hBA:=(hB1.next hb2).next hb3;have hBB:=hB2.next hb3;rw[hs1] at hBB;have HBA:=Y1 hBA;have HBB:=Y1 hBB;have HA:=Y1 (ha.next hbw);have HB:=Y1 (hb.next hbw);have HG:=Y1 (hg.next hbw);have HW:=Y1 hbw;have HZ:Hid (w3.heap.size=w.heap.size+1+1+1):=Y1 (by omega);have HR:=Y1 hrc;obtain ⟨_,⟨a0,a1,a2,a3,a4⟩,_⟩:=hBA;obtain ⟨_,⟨b0,b1,b2,b3,b4⟩,_⟩:=hBB;simp only[Nat.zero_add] at a0 a1 a2 a3 a4 b0 b1 b2 b3 b4;have hw1':=hw1.symm;have hw2':=hw2.symm;have hw3':=hw3.symm;have lw:w.heap.size+1+1 < w3.heap.size:=by omega
 clear hw1 hw2 hw3 hb1 hb2 hb3 hB1 hB2 hbw ha hb hg hrc;have HE:=Y1 (Z53 false a b pa pb w3 HA.out HB.out HG.out);unfold sv bfn at HE;simp only[Bool.false_eq_true,if_true,if_false] at HE;unfold sv;go_enter Tryd.func16,Tryd.ntmps16
 go_wp2_with fail
 refine HE.out.mono ?_;rintro e w9 ⟨q9,rfl,hK,hb39⟩;obtain ⟨z,hz⟩: ∃z,z=(J false a b).getD Z0d:=⟨_,rfl⟩;have HZZ:=Y1 hz;rw[<-hz] at hK ⊢;have hR:=HR.out.upd (T:=fun _=>False) (Upd.new hb39) (fun h=>h);have HK:=Y1 (hK.move (S':=fun b=>w.heap.size<=b) (RX.lay_upd w9 (w.heap.size+1+1) z q9) (fun b _ hf=>⟨fun e=>by have e:b=w.heap.size+1+1:=e; omega,by omega⟩));have HBF:=Y1 ((Z00 HW.out hb39).trans ((RX.lay_upd w9 (w.heap.size+1+1) z q9).below (by have h1:=HW.out.size; have h2:=hb39.size; omega) (fun x hx=>by omega)));have HLY:=Y1 (RX.lay_at z q9 (W:=w9) (g:=w.heap.size+1+1) hR.ex);obtain ⟨v0,y0⟩:=hR.ex 0 (by omega);obtain ⟨v1,y1⟩:=hR.ex 1 (by omega);obtain ⟨v2,y2⟩:=hR.ex 2 (by omega);obtain ⟨v3,y3⟩:=hR.ex 3 (by omega);obtain ⟨v4,y4⟩:=hR.ex 4 (by omega);have z0:=hR.fz 0;have z1:=hR.fz 1;have z2:=hR.fz 2;have z3:=hR.fz 3;have z4:=hR.fz 4;clear hR hK hb39 hz HE a0 a1 a2 a3 a4 b0 b1 b2 b3 b4;unfold sv;go_wp2;obtain ⟨u0,u1,u2,u3,u4⟩:=HLY.out;unfold RX.lay at u0 u1 u2 u3 u4;simp only[Nat.zero_add] at u0 u1 u2 u3 u4;refine bodyPost_ret (v:= .tuple #[sv z q9,.bool (J false a b).isSome]) (by simp[results,Tryd.results16,go_sem,u0,u1,u2,u3,u4]) rfl ?_;exact ⟨q9,by rw[HZZ.out],by rw[<-HZZ.out]; exact HK.out,HBF.out⟩
end
end SubM
end Go.Proofs.YtlomianlcnmfgaaDoor
namespace Go.Proofs.YtlomianlcnmfgaaDoor
open Go.RowKit Shp Sub
namespace SubM
theorem Zaq {g gm hi b:Nat} (hg:hi<=g) (hh:gm < hi) (hb:rowB (some ⟨g,0,none⟩)=some b) (e:b=gm):False:=by
 have e2:g=b:=by simpa[rowB] using hb
 omega
section
variable {w0 W W1 : World} {gm hi : Nat} {k : Int} {o nm : List UInt8} {nl : List (List UInt8)} {l : List El} {AN AP : Option Addr} {cN cP : Nat}
theorem Mk.ups (h:Mk w0 gm hi k o nm nl l AN cN AP cP W) {b:Nat} (hb:b=gm\/rowB AN=some b\/rowB AP=some b):w0.heap.size<=b:=by
 rcases hb with rfl | hb | hb
 {exact h.lo}
 {have:=(Z0b h.rN b hb).1; have:=h.lo; have:=h.gh; omega}
 {have:=(Z0b h.rP b hb).1; have:=h.lo; have:=h.gh; omega}
theorem soc3 {W:World} {b x y:Nat} {v:Value} (h:x≠y): (W.setCell ⟨b,x,none⟩ v).cell? ⟨b,y,none⟩=W.cell? ⟨b,y,none⟩:=RX.soc h
section
variable (h : Mk w0 gm hi k o nm nl l AN cN AP cP W) {g c : Nat}
include h g c
theorem Mk.putN {n:List UInt8} (hg:W.grownBy W1 (rowB AN)) (hrow:W1.ownsRow hi 9 1 (.slice (some ⟨g,0,none⟩) (nl.length+1) c) (nl.length+1) (namesE nl++ [.string ⟨n.toArray⟩]))
 (hat:rowB AN=some g\/g=W.heap.size):Mk w0 gm hi k o nm (nl++ [n]) l (some ⟨g,0,none⟩) c AP cP (W1.setCell ⟨gm,3,none⟩ (.slice (some ⟨g,0,none⟩) (nl.length+1) c)):=by
 have hgm:gm < W.heap.size:=Nat.lt_of_lt_of_le h.gh h.hw;have hu:Upd (fun b=>rowB AN=some b) W W1:=(Upd.refl _ W).grown hg (fun k h _=>h);have hn: ¬rowB AN=some gm:=fun e=>by have:=(Z0b h.rN _ e).1; have:=h.gh; omega
 have hu2:Upd (fun b=>b=gm) W1 (W1.setCell ⟨gm,3,none⟩ (.slice (some ⟨g,0,none⟩) (nl.length+1) c)):=Upd.set (Upd.refl (fun b=>b=gm) W1) ⟨gm,3,none⟩ (fun _=>rfl) _;have hgh:=h.gh;have hgg:=(Z0b hrow g rfl).1;refine ⟨h.up.trans (((hu.mono (T:=fun b=>b=gm\/rowB AN=some b\/rowB AP=some b) (fun b _ hb=>Or.inr (Or.inl hb))).trans (hu2.mono (fun b _ hb=>Or.inl hb))).below h.up.size (fun b hb=>h.ups hb)),h.lo,h.gh,Nat.le_trans h.hw (Nat.le_trans hu.size hu2.size),
  (soc3 (by omega)).trans ((hu.cell hgm hn).trans h.c0),(soc3 (by omega)).trans ((hu.cell hgm hn).trans h.c1),(soc3 (by omega)).trans ((hu.cell hgm hn).trans h.c2), ?_,(soc3 (by omega)).trans ((hu.cell hgm hn).trans h.c4),fun j=>(World.frozen?_setCell ..).trans ((hu.frozen hgm hn).trans (h.fz j)), ?_, ?_,Or.inr ?_⟩
 {rw[List.length_append]; exact World.cell?_setCell_same _ _ _ ((hu.cell hgm hn).trans h.c3)}
 {rw[List.length_append,Z3D]; exact Z0r hrow hu2 (fun b hb e=>Zaq hgg hgh hb e)}
 {refine Z0r (Z0r h.rP hu (fun b hb e=> ?_)) hu2 (fun b hb e=> ?_)
  {rcases h.ne with hne | hne
   {rw[hne] at e; cases e}
   {exact hne (e.trans hb.symm)}}
  {have:=(Z0b h.rP b hb).1;have e3:b=gm:=e;omega}}
 {intro e;have e2:rowB AP=some g:=by rw[<-e]; rfl
  rcases hat with h1 | h1
  {rcases h.ne with hne | hne
   {rw[hne] at h1; cases h1}
   {exact hne (h1.trans e2.symm)}}
  {have:=(Z0b h.rP g e2).2; omega}}
theorem Mk.putP {x:El} (hg:W.grownBy W1 (rowB AP)) (hrow:W1.ownsRow hi 25 5 (.slice (some ⟨g,0,none⟩) (l.length+1) c) (l.length+1) (cellsE l++Z0u x))
 (hat:rowB AP=some g\/g=W.heap.size):Mk w0 gm hi k o nm nl (l++ [x]) AN cN (some ⟨g,0,none⟩) c (W1.setCell ⟨gm,4,none⟩ (.slice (some ⟨g,0,none⟩) (l.length+1) c)):=by
 have hgm:gm < W.heap.size:=Nat.lt_of_lt_of_le h.gh h.hw;have hu:Upd (fun b=>rowB AP=some b) W W1:=(Upd.refl _ W).grown hg (fun k h _=>h);have hn: ¬rowB AP=some gm:=fun e=>by have:=(Z0b h.rP _ e).1; have:=h.gh; omega
 have hu2:Upd (fun b=>b=gm) W1 (W1.setCell ⟨gm,4,none⟩ (.slice (some ⟨g,0,none⟩) (l.length+1) c)):=Upd.set (Upd.refl (fun b=>b=gm) W1) ⟨gm,4,none⟩ (fun _=>rfl) _;have hgh:=h.gh;have hgg:=(Z0b hrow g rfl).1;refine ⟨h.up.trans (((hu.mono (T:=fun b=>b=gm\/rowB AN=some b\/rowB AP=some b) (fun b _ hb=>Or.inr (Or.inr hb))).trans (hu2.mono (fun b _ hb=>Or.inl hb))).below h.up.size (fun b hb=>h.ups hb)),h.lo,h.gh,Nat.le_trans h.hw (Nat.le_trans hu.size hu2.size),
  (soc3 (by omega)).trans ((hu.cell hgm hn).trans h.c0),(soc3 (by omega)).trans ((hu.cell hgm hn).trans h.c1),(soc3 (by omega)).trans ((hu.cell hgm hn).trans h.c2),(soc3 (by omega)).trans ((hu.cell hgm hn).trans h.c3), ?_,fun j=>(World.frozen?_setCell ..).trans ((hu.frozen hgm hn).trans (h.fz j)), ?_, ?_, ?_⟩
 {rw[List.length_append]; exact World.cell?_setCell_same _ _ _ ((hu.cell hgm hn).trans h.c4)}
 {refine Z0r (Z0r h.rN hu (fun b hb e=> ?_)) hu2 (fun b hb e=> ?_)
  {rcases h.ne with hne | hne
   {rw[hne] at hb; cases hb}
   {exact hne (hb.trans e.symm)}}
  {have:=(Z0b h.rN b hb).1;have e3:b=gm:=e;omega}}
 {rw[List.length_append,Z0R,Z1s]; exact Z0r hrow hu2 (fun b hb e=>Zaq hgg hgh hb e)}
 {rcases h.ne with hne | hne
  {exact Or.inl hne}
  {refine Or.inr (fun e=> ?_);have e2:rowB AN=some g:=by rw[e]; rfl
   rcases hat with h1 | h1
   {exact hne (e2.trans h1.symm)}
   {have:=(Z0b h.rN g e2).2; omega}}}
end
end
end SubM
end Go.Proofs.YtlomianlcnmfgaaDoor
namespace Go.Proofs.YtlomianlcnmfgaaDoor
open Go.RowKit Shp Sub
namespace SubM
def intT:Sh:=⟨1,[],[],[],[]⟩
def recT (l:List (List UInt8)):Sh:=⟨6,[],[],l,l.map (fun _=>intT)⟩
theorem ZaZ (S:Nat->Prop) (W:World):Kept S W (intT,noneQ12):=fun W' _ _=>
 .mk _ _ 0 0 (fun _=>noneQ12) ⟨by simp[intT],by simp[intT],by simp[intT],by simp[intT],by simp[intT],by simp[intT],by simp[intT],fun _=>rfl,fun _=>rfl⟩ (Or.inl rfl) (Or.inl rfl) (fun i hi=>by simp[intT] at hi) (fun i hi=>by simp[intT] at hi)
def KR (w:World) (l:List (List UInt8)) (k:Nat) (W:World):Prop:=Rc w.heap.size W/\ ∃AN cN AP cP,Mk w (w.heap.size+1) (w.heap.size+2) 6 [] [] (l.take k) (List.replicate k (intT,noneQ12)) AN cN AP cP W
theorem Z7J (l:List (List UInt8)) (A:Option Addr) (c:Nat) (w:World) (hA:Strs w w.heap.size A (strs l)) (hl:l.length<=1000) (hx: ∀x∈l,x.length<=1000):
 Calls Tryd.prog 22 #[.slice A l.length c] w fun e w'=> ∃q,e= .returned (sv (recT l) q)/\Kept (fun b=>w.heap.size<=b) w' (recT l,q)/\Below w.heap.size w w':=by
 obtain ⟨i0,hif0,hz0,hs0,hb0⟩:=Z39 Z5d;obtain ⟨i1,hif1,hz1,hs1,hb1⟩:=Z39 Z7Z;have hba:=Z02 w (.cells Yb 25);obtain ⟨w1,hw1⟩: ∃w1,w1=w.alloc (.cells Yb 25):=⟨_,rfl⟩;have hrc:=Z1y hw1;have hs:w1.heap.size=w.heap.size+1:=by rw[hw1]; simp
 have hbb:=Z02 w1 (.cells #[.int .i64 6,.string ⟨#[]⟩,.string ⟨#[]⟩,.slice none 0 0,.slice none 0 0] 25);obtain ⟨w2,hw2⟩: ∃w2,w2=w1.alloc (.cells #[.int .i64 6,.string ⟨#[]⟩,.string ⟨#[]⟩,.slice none 0 0,.slice none 0 0] 25):=⟨_,rfl⟩;have hs2:w2.heap.size=w.heap.size+2:=by rw[hw2]; simp[hs]
 rw[<-hw1] at hba;rw[<-hw2] at hbb;have h0:KR w l 0 w2:=by
  refine ⟨hrc.upd (T:=fun _=>False) (Upd.new hbb) (fun h=>h),none,0,none,0,Z00 hba hbb,by omega,by omega,by omega, ?_, ?_, ?_, ?_, ?_,fun j=> ?_,World.ownsRow_nil _ _ _ _,World.ownsRow_nil _ _ _ _,Or.inl rfl⟩ <;> (rw[hw2, <-hs]; simp[go_sem])
 have HK0:=Y1 h0;have HA:=Y1 hA;have HL:=Y1 hl;have HX:=Y1 hx;have HW:Hid ((w.alloc (.cells Yb 25)).alloc (.cells #[.int .i64 6,.string ⟨#[]⟩,.string ⟨#[]⟩,.slice none 0 0,.slice none 0 0] 25)=w2):=Y1 (by rw[hw2,hw1]);clear hba hbb hrc h0 hA hl hx hs hs2 hw2 hw1;go_enter Tryd.func22,Tryd.ntmps22
 go_wp2_with fail
 rw[HW.out]
 go_loopw [4] (fun ii wr=> ∃k:Nat,k<=l.length/\ii= .int .i64 (k:Int)/\Hid (KR w l k wr)) (fun i _=>l.length - (intOf i).toNat)
 case atStart=>exact ⟨0,Nat.zero_le _,rfl,HK0⟩
 case round=>
  obtain ⟨k,hk,rfl,HK⟩:=hrel;have hll:=HL.out;by_cases hlt:k < l.length
  {have hi1: (k:Int) < (l.length:Int):=by omega
   obtain ⟨hR,AN,cN,AP,cP,hM⟩:=HK.out;rcases (HA.out.next hM.up).cell7 with h | ⟨g,off,rfl,hg,hc⟩
   {omega}
   obtain ⟨n,hn⟩: ∃n,n=l[k]'hlt:=⟨_,rfl⟩;have hcell:=hc k hlt;rw[<-hn] at hcell;have HN:=Y1 hn;have hrep: (List.replicate k ((intT,noneQ12):El)).length=k:=by simp
   have htk: (l.take k).length=k:=by rw[List.length_take]; omega
   have c3:=hM.c3;have c4:=hM.c4;have f3:=hM.fz 3;have f4:=hM.fz 4;have hgw:w.heap.size+1 < wr.heap.size:=by have:=hM.hw; omega
   rw[htk] at c3;rw[hrep] at c4;have HM:=Y1 hM;have HRR:=Y1 hR;clear hc hM hR hn hg;have mixed:Tryd.prog.follows .mixedOrders=true:=by kernel_rfl
   have hown0: (wr.alloc (.cells #[.string ⟨n.toArray⟩] 9)).ownsRow (w.heap.size+2) 9 1 (.slice AN k cN) k (namesE (l.take k)):=by
    have h:=Z0r (S:=fun _=>False) HM.out.rN (Upd.new (Z02 wr (.cells #[.string ⟨n.toArray⟩] 9))) (fun _ _ h=>h);rw[htk] at h;exact h
   have HO:=Y1 hown0;have HS2:Hid (w.heap.size+2<=wr.heap.size):=Y1 HM.out.hw;have HF:Hid (∀(g1 cap:Nat) (w1:World),w1.ownsRow (w.heap.size+2) 9 1 (.slice (some ⟨g1,0,none⟩) (k+1) cap) (k+1) (namesE (l.take k)++ [.string ⟨n.toArray⟩])->(wr.alloc (.cells #[.string ⟨n.toArray⟩] 9)).drew.grownBy w1 (rowB AN)->(rowB AN=some g1\/g1=(wr.alloc (.cells #[.string ⟨n.toArray⟩] 9)).heap.size)->
    w1.cell? ⟨w.heap.size+1,3,none⟩=some (.slice AN k cN)/\w1.frozen? ⟨w.heap.size+1,3,none⟩=false/\w.heap.size+1 < w1.heap.size/\Rc w.heap.size (w1.setCell ⟨w.heap.size+1,3,none⟩ (.slice (some ⟨g1,0,none⟩) (k+1) cap))/\
    Mk w (w.heap.size+1) (w.heap.size+2) 6 [] [] (l.take k++ [n]) (List.replicate k (intT,noneQ12)) (some ⟨g1,0,none⟩) cap AP cP (w1.setCell ⟨w.heap.size+1,3,none⟩ (.slice (some ⟨g1,0,none⟩) (k+1) cap))):=Y1 (fun g1 cap w1 hown hg hat=>by
    have hb:=(Z02 wr (.cells #[.string ⟨n.toArray⟩] 9)).drew;have hu:Upd (fun b=>rowB AN=some b) wr w1:=(Upd.new (S:=fun b=>rowB AN=some b) hb).grown hg (fun k h _=>h);have hn: ¬rowB AN=some (w.heap.size+1):=fun e=>by have:=(Z0b HM.out.rN _ e).1; omega
    have hm:=(HM.out.new hb).putN (g:=g1) (c:=cap) (n:=n) hg (by rw[htk]; exact hown) hat;rw[htk] at hm;refine ⟨(hu.cell hgw hn).trans c3,(hu.frozen hgw hn).trans f3,Nat.lt_of_lt_of_le hgw hu.size, ?_,hm⟩;have hu2:Upd (fun b=>b=w.heap.size+1) w1 (w1.setCell ⟨w.heap.size+1,3,none⟩ (.slice (some ⟨g1,0,none⟩) (k+1) cap)):=Upd.set (Upd.refl (fun b=>b=w.heap.size+1) w1) ⟨w.heap.size+1,3,none⟩ (fun _=>rfl) _;exact (HRR.out.upd hu (fun e=>by have:=(Z0b HM.out.rN _ e).1; omega)).upd hu2 (by omega))
   clear hown0
   go_wp2_with fail
   go_region_law ((refine step_append_lies _ rfl _ _ 22 rfl (w.heap.size+2) 9 i1 (.string ByteArray.empty) 1 16 Tryd.underlying22 hif1 hz1 hs1 hb1 rfl (by decide) (.slice AN k cN) _ _ (by simp[Act.eval]) HO.out ⟨wr.heap.size,0,none⟩ 1 1 [.string ⟨n.toArray⟩] (by simp[Act.eval]) rfl (by intro j v hv; rcases j with _ | j; (rw[Z0W]; simp at hv; subst hv; simp[go_sem]); (simp at hv)) (by intro v hv; simp at hv; subst hv; rfl) (by decide) (by unfold maxLen; omega) (by omega) (by have:=HS2.out; simp; omega) _ rfl ?_); intro g1 cap w1 hown1 hgrow hat hlt1; rw[Z1E] at hgrow hat; obtain ⟨d3,e3,e4,hrc1,hm1⟩:=HF.out g1 cap w1 hown1 hgrow hat; have HM1:=Y1 hm1; have HR1:=Y1 hrc1; clear hown1 hgrow hat hlt1 hrc1 hm1)
   all_goals
    clear hcell c3 c4 f3 f4 d3 e3 e4;obtain ⟨W2,hW2⟩: ∃W2,w1.setCell ⟨w.heap.size+1,3,none⟩ (.slice (some ⟨g1,0,none⟩) (k+1) cap)=W2:=⟨_,rfl⟩;rw[hW2] at HM1 HR1 ⊢;clear hW2;have d4:=HM1.out.c4;rw[hrep] at d4;have f4:=HM1.out.fz 4;have hgw2:w.heap.size+1 < W2.heap.size:=by have:=HM1.out.hw; omega
    have HP:=Y1 (Z0r (S:=fun _=>False) HM1.out.rP (Upd.new (Z02 W2 (.cells #[.int .i64 1,.string ⟨#[]⟩,.string ⟨#[]⟩,.slice none 0 0,.slice none 0 0] 25))) (fun _ _ h=>h));rw[hrep] at HP;have HS3:Hid (w.heap.size+2<=W2.heap.size):=Y1 HM1.out.hw
    go_wp2_with (at_builtin; refine wpList_append_lies _ rfl _ _ 23 rfl (w.heap.size+2) 25 i0 (.agg #[.int .i64 0,.string ByteArray.empty,.string ByteArray.empty,.slice none 0 0,.slice none 0 0]) 5 88 Tryd.underlying23 hif0 hz0 hs0 hb0 rfl (by decide) _ _ _ rfl HP.out ⟨W2.heap.size,0,none⟩ 1 1 (Z0u (intT,noneQ12)) rfl rfl (by intro j v hv; rw[Z0W,Nat.zero_add]; rcases j with _ | _ | _ | _ | _ | j <;> (simp[Z0u,intT] at hv; try (subst hv; simp[go_sem]))) (Z51 _) (by decide) (by unfold maxLen; omega) (by omega) (by have:=HS3.out; simp; omega) _ rfl ?_)
    intro g2 cap2 w3 hown2 hgrow2 hat2 hlt2;rw[Z1E] at hgrow2 hat2;have hb2:=Z02 W2 (.cells #[.int .i64 1,.string ⟨#[]⟩,.string ⟨#[]⟩,.slice none 0 0,.slice none 0 0] 25);have hsz2: (W2.alloc (.cells #[.int .i64 1,.string ⟨#[]⟩,.string ⟨#[]⟩,.slice none 0 0,.slice none 0 0] 25)).heap.size=W2.heap.size+1:=by simp
    have hm2:=(HM1.out.new hb2).putP (g:=g2) (c:=cap2) (x:=(intT,noneQ12)) hgrow2 (by rw[hrep]; exact hown2) (by rw[hsz2]; exact hat2);rw[hrep] at hm2;have hu3:Upd (fun b=>rowB AP=some b) W2 w3:=(Upd.new (S:=fun b=>rowB AP=some b) hb2).grown hgrow2 (fun k h _=>h);have hn3: ¬rowB AP=some (w.heap.size+1):=fun e=>by have:=(Z0b HM1.out.rP _ e).1; omega
    have d5:=(hu3.cell hgw2 hn3).trans d4;have f5:=(hu3.frozen hgw2 hn3).trans f4;have hgw3:w.heap.size+1 < w3.heap.size:=Nat.lt_of_lt_of_le hgw2 hu3.size;have hu4:Upd (fun b=>b=w.heap.size+1) w3 (w3.setCell ⟨w.heap.size+1,4,none⟩ (.slice (some ⟨g2,0,none⟩) (k+1) cap2)):=Upd.set (Upd.refl (fun b=>b=w.heap.size+1) w3) ⟨w.heap.size+1,4,none⟩ (fun _=>rfl) _;have HEND:Hid (KR w l (k+1) (w3.setCell ⟨w.heap.size+1,4,none⟩ (.slice (some ⟨g2,0,none⟩) (k+1) cap2))):=Y1 (by
     refine ⟨(HR1.out.upd hu3 (fun e=>by have:=(Z0b HM1.out.rP _ e).1; omega)).upd hu4 (by omega),some ⟨g1,0,none⟩,cap,some ⟨g2,0,none⟩,cap2, ?_⟩;rw[List.take_succ_eq_append_getElem hlt, <-HN.out,List.replicate_succ'];exact hm2)
    clear hown2 hgrow2 hat2 hlt2 hb2 hsz2 hm2 hu3 hn3 hu4 d4 f4 HP;go_wp2
    go_roundw
    case rel=>exact ⟨k+1,by omega,by go_num,HEND⟩
    case measure=>simp[intOf]; omega}
  {obtain rfl:k=l.length:=by omega
   have hi1: ¬(l.length:Int) < (l.length:Int):=by omega
   obtain ⟨hR,AN,cN,AP,cP,hM⟩:=HK.out;rw[List.take_length] at hM;have hkp:=hM.at_ (n0:=0) (fun x hx=>by rw[List.eq_of_mem_replicate hx]; exact ZaZ _ _) (by simp) (by simp) (fun x hx=>by have:=HX.out x hx; omega) (by omega) (by simp; omega);have hre: ((List.replicate l.length ((intT,noneQ12):El)).map Prod.fst)=l.map (fun _=>intT):=by rw[List.map_replicate,List.map_const']
   rw[hre] at hkp;obtain ⟨c0,c1,c2,c3,c4⟩:Sh5 wr (w.heap.size+1) 0 (recT l) ⟨AN,cN,AP,cP⟩:=⟨hM.c0,hM.c1,hM.c2,hM.c3,by have:=hM.c4; simpa[recT] using this⟩;simp only[Nat.zero_add] at c0 c1 c2 c3 c4;have HF:=Y1 (Kept.move (x:=(recT l,⟨AN,cN,AP,cP⟩)) (S':=fun b=>w.heap.size<=b) hkp (RX.lay_upd wr w.heap.size (recT l) ⟨AN,cN,AP,cP⟩) (fun b _ hf=>⟨fun e=>by have e:b=w.heap.size:=e; rcases hf with hf | hf <;> omega,by rcases hf with hf | hf <;> omega⟩));have HBF:=Y1 (hM.up.trans ((RX.lay_upd wr w.heap.size (recT l) ⟨AN,cN,AP,cP⟩).below hM.up.size (fun x hx=>by omega)));have HLY:=Y1 (RX.lay_at (recT l) ⟨AN,cN,AP,cP⟩ (W:=wr) (g:=w.heap.size) hR.ex);obtain ⟨v0,y0⟩:=hR.ex 0 (by omega);obtain ⟨v1,y1⟩:=hR.ex 1 (by omega);obtain ⟨v2,y2⟩:=hR.ex 2 (by omega);obtain ⟨v3,y3⟩:=hR.ex 3 (by omega);obtain ⟨v4,y4⟩:=hR.ex 4 (by omega);have z0:=hR.fz 0;have z1:=hR.fz 1;have z2:=hR.fz 2;have z3:=hR.fz 3;have z4:=hR.fz 4;clear hkp hM hR hre HK;obtain ⟨T,hT⟩: ∃T,T=recT l:=⟨_,rfl⟩;rw[<-hT] at c0 c1 c2 c3 c4 HF HBF HLY;have HT:=Y1 hT;clear hT;go_wp2;obtain ⟨u0,u1,u2,u3,u4⟩:=HLY.out;unfold RX.lay at u0 u1 u2 u3 u4;simp only[Nat.zero_add] at u0 u1 u2 u3 u4;refine bodyPost_ret (v:=sv T ⟨AN,cN,AP,cP⟩) (by simp[results,Tryd.results22,go_sem,u0,u1,u2,u3,u4]) rfl ?_;rw[<-HT.out];exact ⟨_,rfl,HF.out,HBF.out⟩}
end SubM
end Go.Proofs.YtlomianlcnmfgaaDoor
namespace Go.Proofs.YtlomianlcnmfgaaDoor
section
open Go.RowKit Shp
theorem Z1j (t:Sh): ∀(u:Sh) (q r:Ptr) (w:World),ShAt w w.heap.size q t->ShAt w w.heap.size r u->
 Y9 17 #[.agg (Y8 t q),.agg (Y8 u r)] w (.bool (eqB t u)):=by
 induction t using Sh.ind with
 | h t ih=>
 intro u q r w hq hr;cases hh:headB t u with
 | false=>exact Z7B t u q r w hq hr hh
 | true=>
 have HH:=Y1 hh;have hs:=hh;simp only[headB,Bool.and_eq_true,beq_iff_eq,decide_eq_true_eq] at hs;obtain ⟨⟨⟨⟨g1,g2⟩,g3⟩,g4⟩,g5⟩:=hs;have HG4:=Y1 g4;have HG5:=Y1 g5;have HL:=Y1 hq.small.l;have HM:=Y1 hq.small.m;have HP:=Y1 hq.part;have HR:=Y1 hr.part;have HSN:=Y1 hq.strs;have HSM:=Y1 hr.strs;have hb0:=Z02 w (.cells (Y8 t q) 25);have hb1:=Z0z hb0 (.cells (Y8 u r) 25);have HB1:=Y1 hb1;have hB:=(Z03 w t q).next (Z02 _ (.cells (Y8 u r) 25));have hC:=Z03 (w.alloc (.cells (Y8 t q) 25)) u r;rw[World.size_alloc] at hC;have HB:=Y1 hB;have HC:=Y1 hC;obtain ⟨_,⟨c0,c1,c2,c3,c4⟩,_⟩:=hB;obtain ⟨_,⟨d0,d1,d2,d3,d4⟩,_⟩:=hC;have n1: (t.kind !=u.kind)=false:=by rw[g1]; simp
 have n2: (t.of_ !=u.of_)=false:=by rw[g2]; simp
 have n3: (t.name !=u.name)=false:=by rw[g3]; simp
 have n4: ((t.names.length:Int) !=(u.names.length:Int))=false:=by rw[g4]; simp
 have n5: ((t.parts.length:Int) !=(u.parts.length:Int))=false:=by rw[g5]; simp
 have e1: (t.kind==u.kind)=true:=by rw[g1]; simp
 have e2: (t.of_==u.of_)=true:=by rw[g2]; simp
 have e3: (t.name==u.name)=true:=by rw[g3]; simp
 have e4: ((t.names.length:Int)==(u.names.length:Int))=true:=by rw[g4]; simp
 have e5: ((t.parts.length:Int)==(u.parts.length:Int))=true:=by rw[g5]; simp
 clear hb0 hb1 hq hr hh g1 g2 g3 g4 g5;go_enter Tryd.func17,Tryd.ntmps17
 go_wp2_with fail
 generalize hW0: (w.alloc (.cells (Y8 t q) 25)).alloc (.cells (Y8 u r) 25)=W0 at HB HC HB1 ⊢;clear hW0 c0 c1 c2 c3 c4 d0 d1 d2 d3 d4 n1 n2 n3 n4 n5 e1 e2 e3 e4 e5
 go_loopw [5] (fun ii wr=> ∃i:Nat,ii= .int .i64 i/\i<=t.names.length/\Hid (∀j (h:j < t.names.length) (h':j < u.names.length),j < i->t.names[j]'h=u.names[j]'h')/\Below W0.heap.size W0 wr) (fun i _=>t.names.length - (intOf i).toNat)
 case atStart=>exact ⟨0,rfl,Nat.zero_le _,Y1 (fun j _ _ hj=>absurd hj (by omega)),Below.refl _ _⟩
 case round=>
  obtain ⟨i,rfl,hi,HN,hb⟩:=hrel;have hbw:Below w.heap.size w wr:=HB1.out.trans (hb.mono HB1.out.size);have hl:=HL.out;obtain ⟨_,⟨c0,_,_,c3,c4⟩,_⟩:=HB.out.next hb;obtain ⟨_,⟨d0,_,_,d3,d4⟩,_⟩:=HC.out.next hb;by_cases hlt:i < t.names.length
  {have hi1: (i:Int) < (t.names.length:Int):=by omega
   have hi2: (i:Int) < (u.names.length:Int):=by have:=HG4.out; omega
   have hi3:i < u.names.length:=by omega
   rcases (HSN.out.next hbw).cell7 with h0 | ⟨g,off,hqA,hg,hc⟩
   {omega}
   {rcases (HSM.out.next hbw).cell7 with h0 | ⟨g',off',hrA,hg',hc'⟩
    {omega}
    {have p:=hc i hlt;have p':=hc' i hi3;obtain ⟨x,hx⟩: ∃x,x=t.names[i]'hlt:=⟨_,rfl⟩;obtain ⟨y,hy⟩: ∃y,y=u.names[i]'hi3:=⟨_,rfl⟩;rw[<-hx] at p;rw[<-hy] at p';have HX:=Y1 hx;have HY:=Y1 hy;rw[hqA] at c3;rw[hrA] at d3;clear hx hy hc hc' hqA hrA;cases hxy: (x==y)
     {have HF:Hid (eqB t u=false):=Y1 (Zae hlt hi3 (by rw[<-HX.out, <-HY.out]; intro h; rw[h] at hxy; simp at hxy));have n1: (x !=y)=true:=by unfold bne; rw[hxy]; rfl
      go_wp2_with fail
      go_quiet (fail)
      go_wp2;go_ret;exact ⟨by rw[HF.out]; rfl,Z0l hbw _⟩}
     {have n1: (x !=y)=false:=by unfold bne; rw[hxy]; rfl
      have HE:Hid (t.names[i]'hlt=u.names[i]'hi3):=Y1 (by rw[<-HX.out, <-HY.out]; simpa using hxy)
      go_wp2_with fail
      go_quiet (fail)
      go_wp2
      go_roundw
      case rel=>exact ⟨i+1,by go_num,by omega,Y1 (fun j hj hj' hji=>by
       rcases Nat.lt_succ_iff_lt_or_eq.1 hji with h | rfl
       {exact HN.out j hj hj' h}
       · exact HE.out),Z0l hb _⟩
      case measure=>simp[intOf]; omega}}}}
  {have HNN:Hid (∀j (h:j < t.names.length) (h':j < u.names.length),t.names[j]'h=u.names[j]'h'):=Y1 (fun j h h'=>HN.out j h h' (by omega));have HBW:=Y1 hb;clear hbw hb HN
   go_wp2_with fail
   go_loopw [6] (fun ii wx=> ∃k:Nat,ii= .int .i64 k/\k<=t.parts.length/\Hid (∀j (h:j < t.parts.length) (h':j < u.parts.length),j < k->eqB (t.parts[j]'h) (u.parts[j]'h')=true)/\Hid (Below W0.heap.size W0 wx)) (fun i _=>t.parts.length - (intOf i).toNat)
   case atStart=>exact ⟨0,rfl,Nat.zero_le _,Y1 (fun j _ _ hj=>absurd hj (by omega)),HBW⟩
   case round=>
    obtain ⟨k,rfl,hk,HN,HBX⟩:=hrel;have hb:=HBX.out;have hbw:Below w.heap.size w wr:=HB1.out.trans (hb.mono HB1.out.size);have hm:=HM.out;clear c0 c3 c4 d0 d3 d4;obtain ⟨_,⟨c0,_,_,c3,c4⟩,_⟩:=HB.out.next hb;obtain ⟨_,⟨d0,_,_,d3,d4⟩,_⟩:=HC.out.next hb;by_cases hlt2:k < t.parts.length
    {have hi1: (k:Int) < (t.parts.length:Int):=by omega
     have hi2: (k:Int) < (u.parts.length:Int):=by have:=HG5.out; omega
     have hi3:k < u.parts.length:=by omega
     rcases HP.out with h0 | ⟨g,off,qs,hqP,hg,hc,hra⟩
     {omega}
     {rcases HR.out with h0 | ⟨g',off',qs',hrP,hg',hc',hra'⟩
      {omega}
      {obtain ⟨x,hx⟩: ∃x,x=t.parts[k]:=⟨_,rfl⟩;obtain ⟨y,hy⟩: ∃y,y=u.parts[k]:=⟨_,rfl⟩;obtain ⟨p0,p1,p2,p3,p4⟩:=(hc k hlt2).keep hg hbw;obtain ⟨s0,s1,s2,s3,s4⟩:=(hc' k hi3).keep hg' hbw;have hat:ShAt wr wr.heap.size (qs k) x:=by rw[hx]; exact (hra k hlt2).next hbw
       have hat':ShAt wr wr.heap.size (qs' k) y:=by rw[hy]; exact (hra' k hi3).next hbw
       have ihx:=ih t.parts[k] (List.getElem_mem _) y (qs k) (qs' k) wr.drew;rw[<-hx] at p0 p1 p2 p3 p4 ihx;rw[<-hy] at s0 s1 s2 s3 s4;have IH:=ihx (hat.next Y2.drew) (hat'.next Y2.drew);rw[hqP] at c4;rw[hrP] at d4;have HX:=Y1 hx;have HY:=Y1 hy;clear hx hy hc hc' hra hra' hat hat' ihx ih hqP hrP
       go_wp2_with fail
       cases hxy:eqB x y
       {have HF:Hid (eqB t u=false):=Y1 (Zaf hlt2 hi3 (by rw[<-HX.out, <-HY.out]; exact hxy));rw[hxy] at IH;clear hxy
        go_still_tail 10,(by kernel_rfl)
        change wpList _ _ _ _ _ wr.drew
        go_wp2_with fail
        refine IH.mono ?_;rintro e w2 ⟨rfl,hb2⟩;go_wp2;go_ret;exact ⟨by rw[HF.out]; rfl,Z00 hbw.drew hb2⟩}
       {have HE:Hid (eqB (t.parts[k]'hlt2) (u.parts[k]'hi3)=true):=Y1 (by rw[<-HX.out, <-HY.out]; exact hxy);rw[hxy] at IH;clear hxy
        go_still_tail 10,(by kernel_rfl)
        change wpList _ _ _ _ _ wr.drew
        go_wp2_with fail
        refine IH.mono ?_;rintro e w2 ⟨rfl,hb2⟩;go_wp2
        go_roundw
        case rel=>exact ⟨k+1,by go_num,by omega,Y1 (fun j hj hj' hji=>by
         rcases Nat.lt_succ_iff_lt_or_eq.1 hji with h | rfl
         {exact HN.out j hj hj' h}
         · exact HE.out),Y1 (Z00 hb.drew hb2)⟩
        case measure=>simp[intOf]; omega}}}}
    {have HF:Hid (eqB t u=true):=Y1 (Zbm HH.out HNN.out (fun j hj hj'=>HN.out j hj hj' (by omega)));go_wp2;go_ret;exact ⟨by rw[HF.out]; rfl,hbw⟩}}
end
end Go.Proofs.YtlomianlcnmfgaaDoor
