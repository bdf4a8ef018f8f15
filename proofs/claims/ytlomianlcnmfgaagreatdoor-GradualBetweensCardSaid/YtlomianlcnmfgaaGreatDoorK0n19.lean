/- What the proofs of GradualBetweens want, part 19. -/
import Derived.Test.YtlomianlcnmfgaaGreatDoorK0n18
set_option linter.unusedVariables false
set_option linter.unusedSimpArgs false
set_option linter.unusedSectionVars false
set_option maxRecDepth 100000
set_option maxHeartbeats 16000000
namespace Go.Proofs.YtlomianlcnmfgaaGreatDoor
open Go.RowKit Shp Sub
namespace SubM
theorem Z5R {f:Nat} (hI:DOk f) (up:Bool) (s t:Sh) (ps pt:Ptr) (n0:Nat) (w:World) (h2:Two (f+1) s t) (hr: ∀i p q,s.parts[i]? =some p->t.parts[i]? =some q->Grd.R true f (if i+1=s.parts.length then up else !up) p q) (hs:ShAt w n0 ps s) (ht:ShAt w n0 pt t) (hn:n0<=w.heap.size)
 (hk:s.kind=t.kind) (ho:s.of_=t.of_) (hnm:s.name=t.name) (h4:s.kind≠4) (h6: ¬(s.kind=6\/s.kind=7)) (hpl:s.parts.length=t.parts.length):
 Calls Tryz.prog 31 #[.agg (Y8 s ps),.agg (Y8 t pt)] w (NIs (Grd.dnamed (f+1) s t) n0 w):=by
 obtain ⟨i0,hif0,hz0,hs0,hb0⟩:=Z0S Z1R;obtain ⟨i1,hif1,hz1,hsz1,hbz1⟩:=Z0S Z28;have hb1:=Z01 w (.cells (Y8 s ps) 25);obtain ⟨w1,hw1⟩: ∃w1,w1=w.alloc (.cells (Y8 s ps) 25):=⟨_,rfl⟩;have hs1:w1.heap.size=w.heap.size+1:=by rw[hw1]; simp
 have hb2:=Z01 w1 (.cells (Y8 t pt) 25);obtain ⟨w2,hw2⟩: ∃w2,w2=w1.alloc (.cells (Y8 t pt) 25):=⟨_,rfl⟩;have hs2:w2.heap.size=w.heap.size+2:=by rw[hw2]; simp[hs1]
 have hb3:=Z01 w2 (.cells Yb 25);obtain ⟨w3,hw3⟩: ∃w3,w3=w2.alloc (.cells Yb 25):=⟨_,rfl⟩;have hs3:w3.heap.size=w.heap.size+3:=by rw[hw3]; simp[hs2]
 have hb4:=Z01 w3 (.cells #[.int .i64 s.kind,.string ⟨s.of_.toArray⟩,.string ⟨s.name.toArray⟩,.slice none 0 0,.slice none 0 0] 25);obtain ⟨w4,hw4⟩: ∃w4,w4=w3.alloc (.cells #[.int .i64 s.kind,.string ⟨s.of_.toArray⟩,.string ⟨s.name.toArray⟩,.slice none 0 0,.slice none 0 0] 25):=⟨_,rfl⟩;have hs4:w4.heap.size=w.heap.size+4:=by rw[hw4]; simp[hs3]
 rw[<-hw1] at hb1;rw[<-hw2] at hb2;rw[<-hw3] at hb3;rw[<-hw4] at hb4;have hbw:=Z00 (Z00 hb1 (Z00 hb2 hb3)) hb4;have hB1:Box5 w1 w.heap.size s ps:=by rw[hw1]; exact Z05 w s ps
 have hB2:Box5 w2 w1.heap.size t pt:=by rw[hw2]; exact Z05 w1 t pt
 have hB13:=((hB1.next hb2).next hb3).next hb4;have hB23:=(hB2.next hb3).next hb4;rw[hs1] at hB23;have hR3:Rc (w.heap.size+2) w3:=by have h:=Z0I hw3; rwa [hs2] at h
 have hR4:Rc (w.heap.size+2) w4:=hR3.upd (T:=fun _=>False) (Upd.new hb4) (fun h=>h);have hu4:Upd (fun _=>False) w w4:=Upd.new hbw;have hc5:Sh5 w4 (w.heap.size+3) 0 ⟨s.kind,s.of_,s.name,[],[]⟩ noneQ12:=by
  rw[<-hs3,hw4]; refine ⟨?_, ?_, ?_, ?_, ?_⟩ <;> simp[go_sem]
 have hfz: ∀j,w4.frozen? ⟨w.heap.size+3,j,none⟩=false:=fun j=>by rw[<-hs3,hw4]; simp[go_sem]
 have hK0:KBs w w4 n0 (w.heap.size+3) (w.heap.size+4) (w.heap.size+2) s.kind s.of_ s.name [] [] [] none 0 none 0 w4:=by
  obtain ⟨c0,c1,c2,c3,c4⟩:=hc5;simp only[Nat.zero_add] at c0 c1 c2 c3 c4;exact ⟨⟨hbw,by omega,by omega,by omega,c0,c1,c2,c3,c4,hfz,World.ownsRow_nil _ _ _ _,World.ownsRow_nil _ _ _ _,Or.inl rfl⟩,rfl,fun x hx=>absurd hx (by simp),hR4,Upd.refl _ _⟩
 have HX2:=Y1 hB13;have HX3:=Y1 hB23;have HS:=Y1 (Z0a hs hn hu4 (fun _ _ h=>h));have HT:=Y1 (Z0a ht hn hu4 (fun _ _ h=>h));have HK0:=Y1 hK0;have HN:=Y1 hn;have HZ4:=Y1 hs4;have HI:=Y1 hI;have H2:=Y1 h2;have HR:=Y1 hr;have HLT:=Y1 (And.intro h2.la h2.swap.la);have HPL:=Y1 hpl;have HSM:=Y1 (And.intro hs.small ht.small);have hf4: ¬(s.kind=4\/t.kind=4):=by omega
 obtain ⟨M,hM⟩: ∃M,M=List.zipWith (Grd.dnamed f) s.parts t.parts:=⟨_,rfl⟩;have HD:Hid (Grd.dnamed (f+1) s t=⟨s.kind,s.of_,s.name,[],M⟩):=Y1 (by
  conv=>lhs; unfold Grd.dnamed; rw[if_neg hf4,if_neg h6, <-hM]
  skip)
 have HMM:=Y1 hM;have HML:Hid (M.length=s.parts.length):=Y1 (by rw[hM,List.length_zipWith]; omega);obtain ⟨_,⟨a0,a1,a2,a3,a4⟩,_⟩:=hB13;obtain ⟨_,⟨b0,b1,b2,b3,b4⟩,_⟩:=hB23;simp only[Nat.zero_add] at a0 a1 a2 a3 a4 b0 b1 b2 b3 b4;have m4: (s.kind==4)=false:=by simpa using h4
 have m4': (t.kind==4)=false:=by rw[<-hk]; simpa using h4
 have m6: (s.kind==6)=false:=by simpa using fun h=>h6 (Or.inl h)
 have m7: (s.kind==7)=false:=by simpa using fun h=>h6 (Or.inr h)
 have HW:Hid ((((w.alloc (.cells (Y8 s ps) 25)).alloc (.cells (Y8 t pt) 25)).alloc (.cells Yb 25)).alloc (.cells #[.int .i64 s.kind,.string ⟨s.of_.toArray⟩,.string ⟨s.name.toArray⟩,.slice none 0 0,.slice none 0 0] 25)=w4):=Y1 (by rw[hw4,hw3,hw2,hw1]);clear hK0 hbw hR3 hR4 hu4 hc5 hfz hs ht hn h2 hr hI hb1 hb2 hb3 hb4 hs1 hs2 hs3 hs4 hB1 hB2 a0 a1 a2 a3 a4 b0 b1 b2 b3 b4 hf4 hk ho hnm h4 h6 hM hpl;clear hw4 hw3 hw2 hw1;go_enter Tryz.func31,Tryz.ntmps31
 go_wp2_with fail
 rw[HW.out];clear HW m4 m4' m6 m7
 go_loopw [10] (fun ii wr=> ∃i:Nat,ii= .int .i64 i/\i<=s.parts.length/\Hid (∃l AP cP,KBs w w4 n0 (w.heap.size+3) (w.heap.size+4) (w.heap.size+2) s.kind s.of_ s.name [] (M.take i) l none 0 AP cP wr)) (fun i _=>s.parts.length - (intOf i).toNat)
 case atStart=>exact ⟨0,rfl,Nat.zero_le _,Y1 ⟨[],none,0,HK0.out⟩⟩
 case round=>
  obtain ⟨i,rfl,hi,HKB⟩:=hrel;obtain ⟨l,AP,cP,hKB⟩:=HKB.out;have hlt1:=HLT.out.1;have hlt2:=HLT.out.2;have hpl:=HPL.out;have hU:=hKB.up;have hz4:=HZ4.out;have hn:=HN.out;have hx2:=Z0e HX2.out hU (by omega);have hx3:=Z0e HX3.out hU (by omega);have hTw:=Z0a HT.out (by omega) hU (fun x hx hs=>by omega);have hSw:=Z0a HS.out (by omega) hU (fun x hx hs=>by omega);obtain ⟨_,⟨a0,a1,a2,a3,a4⟩,_⟩:=hx2;obtain ⟨_,⟨b0,b1,b2,b3,b4⟩,_⟩:=hx3;simp only[Nat.zero_add] at a0 a1 a2 a3 a4 b0 b1 b2 b3 b4;by_cases hlt:i < s.parts.length
  {have hl3:i < t.parts.length:=by omega
   have hi1: (i:Int) < (s.parts.length:Int):=by omega
   have hi3: (i:Int) < (t.parts.length:Int):=by omega
   obtain ⟨k,hkl⟩: ∃k,s.parts.length=k+1:=⟨s.parts.length - 1,by omega⟩;have hsub: (s.parts.length:Int) - 1=(k:Int):=by omega
   have kw:IntKind.i64.wrap (k:Int)=(k:Int):=IntWalk.i64_in _ (by omega);rcases hSw.part with h0 | ⟨g,off,qs,hqP,hg,hc,hra⟩
   {omega}
   rcases hTw.part with h0 | ⟨g',off',qs',hqP',hg',hc',hra'⟩
   {omega}
   have hX5:=hc i hlt;have hXA:=hra i hlt;have hY5:=hc' i hl3;have hYA:=hra' i hl3;obtain ⟨x,hx⟩: ∃x,x=s.parts[i]'hlt:=⟨_,rfl⟩;obtain ⟨y,hy⟩: ∃y,y=t.parts[i]'hl3:=⟨_,rfl⟩;obtain ⟨qx,hqx⟩: ∃z,z=qs i:=⟨_,rfl⟩;obtain ⟨qy,hqy⟩: ∃z,z=qs' i:=⟨_,rfl⟩;rw[<-hx, <-hqx] at hX5 hXA;rw[<-hy, <-hqy] at hY5 hYA;have hT:Two f x y:=by
    rw[hx,hy];exact H2.out.part (List.getElem_mem _) (List.getElem_mem _)
   have hRR:Grd.R true f (if i+1=s.parts.length then up else !up) x y:=HR.out i x y (by rw[List.getElem?_eq_getElem (by omega),hx]) (by rw[List.getElem?_eq_getElem (by omega),hy]);obtain ⟨up',hup⟩: ∃u,u=(if i+1=s.parts.length then up else !up):=⟨_,rfl⟩;rw[<-hup] at hRR;clear hup;obtain ⟨r,hre⟩: ∃r,r=Grd.dnamed f x y:=⟨_,rfl⟩;have hil:i < M.length:=by rw[HML.out]; omega
   have HDP:Hid (∀h:i < M.length,M[i]'h=r):=Y1 (by
    have hm:=HMM.out;subst hm;intro h;rw[List.getElem_zipWith,hre,hx,hy])
   have HIL:=Y1 hil;have HLI:=Y1 hlt;have hwr:w.heap.size+4<=wr.heap.size:=hKB.mm.hw;have hn0w:n0<=wr.heap.size:=by omega
   have hb5:=Z01 wr (.cells Yb 25);obtain ⟨w5,hw5⟩: ∃w5,wr.alloc (.cells Yb 25)=w5:=⟨_,rfl⟩;have hs5:w5.heap.size=wr.heap.size+1:=by rw[<-hw5]; simp
   have hr5:Rc wr.heap.size w5:=Z0I hw5.symm;rw[hw5] at hb5;have hU5:=RX.lay_upd w5 wr.heap.size Z0c noneQ12;have hr0:=ZaF hr5 Z0c noneQ12;have hs6: (RX.lay w5 wr.heap.size Z0c noneQ12).heap.size=wr.heap.size+1:=by rw[RX.lay_size]; exact hs5
   obtain ⟨w6,hw6⟩: ∃w6,((((w5.setCell ⟨wr.heap.size,0,none⟩ (.int .i64 0)).setCell ⟨wr.heap.size,1,none⟩ (.string ⟨#[]⟩)).setCell ⟨wr.heap.size,2,none⟩ (.string ⟨#[]⟩)).setCell ⟨wr.heap.size,3,none⟩ (.slice none 0 0)).setCell ⟨wr.heap.size,4,none⟩ (.slice none 0 0)=w6:=⟨_,rfl⟩;change Upd _ w5 (((((w5.setCell ⟨wr.heap.size,0,none⟩ (.int .i64 0)).setCell ⟨wr.heap.size,1,none⟩ (.string ⟨#[]⟩)).setCell ⟨wr.heap.size,2,none⟩ (.string ⟨#[]⟩)).setCell ⟨wr.heap.size,3,none⟩ (.slice none 0 0)).setCell ⟨wr.heap.size,4,none⟩ (.slice none 0 0)) at hU5;change Rc _ (((((w5.setCell ⟨wr.heap.size,0,none⟩ (.int .i64 0)).setCell ⟨wr.heap.size,1,none⟩ (.string ⟨#[]⟩)).setCell ⟨wr.heap.size,2,none⟩ (.string ⟨#[]⟩)).setCell ⟨wr.heap.size,3,none⟩ (.slice none 0 0)).setCell ⟨wr.heap.size,4,none⟩ (.slice none 0 0)) at hr0;change (((((w5.setCell ⟨wr.heap.size,0,none⟩ (.int .i64 0)).setCell ⟨wr.heap.size,1,none⟩ (.string ⟨#[]⟩)).setCell ⟨wr.heap.size,2,none⟩ (.string ⟨#[]⟩)).setCell ⟨wr.heap.size,3,none⟩ (.slice none 0 0)).setCell ⟨wr.heap.size,4,none⟩ (.slice none 0 0)).heap.size=_ at hs6;rw[hw6] at hU5 hr0 hs6;have hb6:Below wr.heap.size wr w6:=hb5.trans (hU5.below (by omega) (fun x hx=>by omega));obtain ⟨v0,r0⟩:=hr5.ex 0 (by omega);obtain ⟨v1,r1⟩:=hr5.ex 1 (by omega);obtain ⟨v2,r2⟩:=hr5.ex 2 (by omega);obtain ⟨v3,r3⟩:=hr5.ex 3 (by omega);obtain ⟨v4,r4⟩:=hr5.ex 4 (by omega);have f0:=hr5.fz 0;have f1:=hr5.fz 1;have f2:=hr5.fz 2;have f3:=hr5.fz 3;have f4:=hr5.fz 4;have hbd:Below wr.heap.size wr w6.drew:=Z00 hb6 Y2.drew;have hud:Upd (fun _=>False) wr w6.drew:=Upd.new hbd;have hr1:Rc wr.heap.size w6.drew:=hr0.upd (T:=fun _=>False) ((Upd.refl _ w6).drew) (fun h=>h);have hsd:w6.drew.heap.size=wr.heap.size+1:=by rw[<-hs6]; rfl
   have HC:=Y1 (HI.out up' x y qx qy n0 w6.drew hT hRR (Z0a hXA hn0w hud (fun _ _ h=>h)) (Z0a hYA hn0w hud (fun _ _ h=>h)) (by omega));rw[<-hre] at HC;unfold sv at HC;obtain ⟨a0,a1,a2,a3,a4⟩:Sh5 w6 w.heap.size 0 s ps:=((Z0e HX2.out hU (by omega)).next hb6).2.1;obtain ⟨b0,b1,b2,b3,b4⟩:Sh5 w6 (w.heap.size+1) 0 t pt:=((Z0e HX3.out hU (by omega)).next hb6).2.1;obtain ⟨x0,x1,x2,x3,x4⟩:=hX5.keep (show g < wr.heap.size by omega) hb6;obtain ⟨y0,y1,y2,y3,y4⟩:=hY5.keep (show g' < wr.heap.size by omega) hb6;simp only[Nat.zero_add] at a0 a1 a2 a3 a4 b0 b1 b2 b3 b4;rw[hqP] at a4;rw[hqP'] at b4;have HKW:=Y1 hKB;have HBD:=Y1 hbd;have HR6:=Y1 hr1;have HSD:=Y1 hsd;have HWR:=Y1 (And.intro hwr hn0w);clear hx hy hqx hqy hc hra hc' hra' hqP hqP' hXA hYA hT hRR hre hr0 hr1 hb5 hr5 hU5 hb6 hbd hud hsd hs5 hs6 hKB hU hTw hSw hz4 hn hwr hn0w hg hg' hil hpl hkl;by_cases k8:s.kind=8
   {have m8: (s.kind==8)=true:=by rw[k8]; rfl
    clear k8;by_cases hik:i < k
    {have hi8: (i:Int) < (k:Int):=by omega
     have HCC:=Y1 HC.out.2
     go_wp2_with fail
     clear r0 r1 r2 r3 r4 f0 f1 f2 f3 f4 v0 v1 v2 v3 v4 hw5 hw6
     go_still_tail 10,(by kernel_rfl)
     change wpList _ _ _ _ _ w6.drew
     go_wp2_with fail
     refine HCC.out.mono ?_;rintro e W3 ⟨qr,rfl,hb4,hkp⟩;have hsd:=HSD.out;have hb4':Below w6.drew.heap.size w6.drew W3:=⟨hb4.os,hb4.tape,hb4.output,hb4.size,hb4.block⟩;have hR3:=HR6.out.upd (T:=fun _=>False) (Upd.new hb4') (fun h=>h);obtain ⟨v0,r0⟩:=hR3.ex 0 (by omega);obtain ⟨v1,r1⟩:=hR3.ex 1 (by omega);obtain ⟨v2,r2⟩:=hR3.ex 2 (by omega);obtain ⟨v3,r3⟩:=hR3.ex 3 (by omega);obtain ⟨v4,r4⟩:=hR3.ex 4 (by omega);have f0:=hR3.fz 0;have f1:=hR3.fz 1;have f2:=hR3.fz 2;have f3:=hR3.fz 3;have f4:=hR3.fz 4;obtain ⟨W4,hW4⟩: ∃W4,RX.lay W3 wr.heap.size r qr=W4:=⟨_,rfl⟩;have hU:=RX.lay_upd W3 wr.heap.size r qr;have hq6:=RX.lay_at r qr (W:=W3) (g:=wr.heap.size) hR3.ex;rw[hW4] at hU hq6;have hlt3:wr.heap.size < W3.heap.size:=hR3.lt;have hb24:Below wr.heap.size wr W4:=(HBD.out.trans (hb4'.mono (by omega))).trans (hU.below (by omega) (fun x hx=>by omega));have hEL:Kept (fun b=>b < n0\/(wr.heap.size < b/\b < W4.heap.size)) W4 (r,qr):=hkp.move hU (fun b hb hf=>by
      have:=HWR.out.2; have:=hU.size;refine ⟨fun e=> ?_, ?_⟩
      {have e:b=wr.heap.size:=e;rcases hf with hf | hf <;> omega}
      · rcases hf with hf | hf
        {exact Or.inl hf}
        · exact Or.inr (by omega))
     have HKP:=Y1 (HKW.out.new hb24);have HEL:=Y1 hEL;have d4:=HKP.out.mm.c4;have g4:=HKP.out.mm.fz 4;have hgw:w.heap.size+3 < W4.heap.size:=by have:=HKP.out.mm.hw; omega
     have hll:=HKP.out.len;have hll2:l.length<=1000:=by rw[hll,List.length_take]; have:=HLT.out.1; have:=HML.out; omega
     have HP5:=Y1 (Z0g (S:=fun _=>False) HKP.out.mm.rP (Upd.new (Z01 W4 (.cells (Y8 r qr) 25))) (fun _ _ h=>h));have HS5:Hid (w.heap.size+4<=W4.heap.size):=Y1 HKP.out.mm.hw;obtain ⟨z0,z1,z2,z3,z4⟩:=hq6;simp only[Nat.zero_add] at z0 z1 z2 z3 z4;unfold RX.lay at hW4;clear hU hlt3 hb24 hEL hkp hb4 hb4' hR3 HC HCC a0 a1 a2 a3 a4 b0 b1 b2 b3 b4 x0 x1 x2 x3 x4 y0 y1 y2 y3 y4 hll hsd
     go_wp2_with (at_builtin; refine wpList_append_lies _ rfl _ _ 23 rfl (w.heap.size+4) 25 i0 (.agg #[.int .i64 0,.string ByteArray.empty,.string ByteArray.empty,.slice none 0 0,.slice none 0 0]) 5 88 Tryz.underlying23 hif0 hz0 hs0 hb0 rfl (by decide) _ _ _ rfl HP5.out ⟨W4.heap.size,0,none⟩ 1 1 (cells5 (r,qr)) rfl rfl (by intro j v hv; rw[Z0f,Nat.zero_add]; rcases j with _ | _ | _ | _ | _ | j <;> (simp[cells5] at hv; try (subst hv; simp[go_sem]))) (cells5_one _) (by decide) (by unfold maxLen; omega) (by omega) (by have:=HS5.out; simp; omega) _ rfl ?_)
     intro g2 cap2 w8 hown2 hgrow2 hat2 hlt2;rw[rowB_own] at hgrow2 hat2;have hat3:rowB AP=some g2\/g2=(W4.alloc (.cells (Y8 r qr) 25)).heap.size:=by
      rcases hat2 with h | h
      {exact Or.inl h}
      {exact Or.inr (by rw[h]; simp)}
     have hb8:=Z01 W4 (.cells (Y8 r qr) 25);have hEND:=HKP.out.putP (pb:=wr.heap.size) (e:=W4.heap.size) (x:=(r,qr)) (by have:=HN.out; omega) (by omega) HEL.out (Nat.le_refl _) HWR.out.1 (fun b h=>by cases h) (fun b h=>Or.inl (Z08 HKW.out.mm.rP b h).2) hb8 hgrow2 hown2 hat3;have hu8:Upd (fun b=>rowB AP=some b) W4 w8:=(Upd.new (S:=fun b=>rowB AP=some b) hb8).grown hgrow2 (fun k h _=>h);have hn8: ¬rowB AP=some (w.heap.size+3):=fun e=>by have:=(Z08 HKP.out.mm.rP _ e).1; omega
     have d5:=(hu8.cell hgw hn8).trans d4;have f5:=(hu8.frozen hgw hn8).trans g4;have hgw8:w.heap.size+3 < w8.heap.size:=Nat.lt_of_lt_of_le hgw hu8.size;have HEND:Hid (∃l' AP' cP',KBs w w4 n0 (w.heap.size+3) (w.heap.size+4) (w.heap.size+2) s.kind s.of_ s.name [] (M.take (i+1)) l' none 0 AP' cP' (w8.setCell ⟨w.heap.size+3,4,none⟩ (.slice (some ⟨g2,0,none⟩) (l.length+1) cap2))):=Y1 ⟨_,_,_,by
      rw[List.take_succ_eq_append_getElem HIL.out,HDP.out _];exact hEND⟩
     clear hown2 hgrow2 hat2 hat3 hlt2 hb8 hEND hu8 hn8 d4 g4 HP5 z0 z1 z2 z3 z4 f0 f1 f2 f3 f4 hW4;go_wp2
     go_roundw
     case rel=>exact ⟨i+1,by go_num,by have:=HLI.out; omega,HEND⟩
     case measure=>have:=HLI.out; simp[intOf]; omega}
    {have hi8:decide ((i:Int) < (k:Int))=false:=by simp; omega
     have HCC:=Y1 HC.out.1
     go_wp2_with fail
     clear r0 r1 r2 r3 r4 f0 f1 f2 f3 f4 v0 v1 v2 v3 v4 hw5 hw6
     go_still_tail 10,(by kernel_rfl)
     change wpList _ _ _ _ _ w6.drew
     go_wp2_with fail
     refine HCC.out.mono ?_;rintro e W3 ⟨qr,rfl,hb4,hkp⟩;have hsd:=HSD.out;have hb4':Below w6.drew.heap.size w6.drew W3:=⟨hb4.os,hb4.tape,hb4.output,hb4.size,hb4.block⟩;have hR3:=HR6.out.upd (T:=fun _=>False) (Upd.new hb4') (fun h=>h);obtain ⟨v0,r0⟩:=hR3.ex 0 (by omega);obtain ⟨v1,r1⟩:=hR3.ex 1 (by omega);obtain ⟨v2,r2⟩:=hR3.ex 2 (by omega);obtain ⟨v3,r3⟩:=hR3.ex 3 (by omega);obtain ⟨v4,r4⟩:=hR3.ex 4 (by omega);have f0:=hR3.fz 0;have f1:=hR3.fz 1;have f2:=hR3.fz 2;have f3:=hR3.fz 3;have f4:=hR3.fz 4;obtain ⟨W4,hW4⟩: ∃W4,RX.lay W3 wr.heap.size r qr=W4:=⟨_,rfl⟩;have hU:=RX.lay_upd W3 wr.heap.size r qr;have hq6:=RX.lay_at r qr (W:=W3) (g:=wr.heap.size) hR3.ex;rw[hW4] at hU hq6;have hlt3:wr.heap.size < W3.heap.size:=hR3.lt;have hb24:Below wr.heap.size wr W4:=(HBD.out.trans (hb4'.mono (by omega))).trans (hU.below (by omega) (fun x hx=>by omega));have hEL:Kept (fun b=>b < n0\/(wr.heap.size < b/\b < W4.heap.size)) W4 (r,qr):=hkp.move hU (fun b hb hf=>by
      have:=HWR.out.2; have:=hU.size;refine ⟨fun e=> ?_, ?_⟩
      {have e:b=wr.heap.size:=e;rcases hf with hf | hf <;> omega}
      · rcases hf with hf | hf
        {exact Or.inl hf}
        · exact Or.inr (by omega))
     have HKP:=Y1 (HKW.out.new hb24);have HEL:=Y1 hEL;have d4:=HKP.out.mm.c4;have g4:=HKP.out.mm.fz 4;have hgw:w.heap.size+3 < W4.heap.size:=by have:=HKP.out.mm.hw; omega
     have hll:=HKP.out.len;have hll2:l.length<=1000:=by rw[hll,List.length_take]; have:=HLT.out.1; have:=HML.out; omega
     have HP5:=Y1 (Z0g (S:=fun _=>False) HKP.out.mm.rP (Upd.new (Z01 W4 (.cells (Y8 r qr) 25))) (fun _ _ h=>h));have HS5:Hid (w.heap.size+4<=W4.heap.size):=Y1 HKP.out.mm.hw;obtain ⟨z0,z1,z2,z3,z4⟩:=hq6;simp only[Nat.zero_add] at z0 z1 z2 z3 z4;unfold RX.lay at hW4;clear hU hlt3 hb24 hEL hkp hb4 hb4' hR3 HC HCC a0 a1 a2 a3 a4 b0 b1 b2 b3 b4 x0 x1 x2 x3 x4 y0 y1 y2 y3 y4 hll hsd
     go_wp2_with (at_builtin; refine wpList_append_lies _ rfl _ _ 23 rfl (w.heap.size+4) 25 i0 (.agg #[.int .i64 0,.string ByteArray.empty,.string ByteArray.empty,.slice none 0 0,.slice none 0 0]) 5 88 Tryz.underlying23 hif0 hz0 hs0 hb0 rfl (by decide) _ _ _ rfl HP5.out ⟨W4.heap.size,0,none⟩ 1 1 (cells5 (r,qr)) rfl rfl (by intro j v hv; rw[Z0f,Nat.zero_add]; rcases j with _ | _ | _ | _ | _ | j <;> (simp[cells5] at hv; try (subst hv; simp[go_sem]))) (cells5_one _) (by decide) (by unfold maxLen; omega) (by omega) (by have:=HS5.out; simp; omega) _ rfl ?_)
     intro g2 cap2 w8 hown2 hgrow2 hat2 hlt2;rw[rowB_own] at hgrow2 hat2;have hat3:rowB AP=some g2\/g2=(W4.alloc (.cells (Y8 r qr) 25)).heap.size:=by
      rcases hat2 with h | h
      {exact Or.inl h}
      {exact Or.inr (by rw[h]; simp)}
     have hb8:=Z01 W4 (.cells (Y8 r qr) 25);have hEND:=HKP.out.putP (pb:=wr.heap.size) (e:=W4.heap.size) (x:=(r,qr)) (by have:=HN.out; omega) (by omega) HEL.out (Nat.le_refl _) HWR.out.1 (fun b h=>by cases h) (fun b h=>Or.inl (Z08 HKW.out.mm.rP b h).2) hb8 hgrow2 hown2 hat3;have hu8:Upd (fun b=>rowB AP=some b) W4 w8:=(Upd.new (S:=fun b=>rowB AP=some b) hb8).grown hgrow2 (fun k h _=>h);have hn8: ¬rowB AP=some (w.heap.size+3):=fun e=>by have:=(Z08 HKP.out.mm.rP _ e).1; omega
     have d5:=(hu8.cell hgw hn8).trans d4;have f5:=(hu8.frozen hgw hn8).trans g4;have hgw8:w.heap.size+3 < w8.heap.size:=Nat.lt_of_lt_of_le hgw hu8.size;have HEND:Hid (∃l' AP' cP',KBs w w4 n0 (w.heap.size+3) (w.heap.size+4) (w.heap.size+2) s.kind s.of_ s.name [] (M.take (i+1)) l' none 0 AP' cP' (w8.setCell ⟨w.heap.size+3,4,none⟩ (.slice (some ⟨g2,0,none⟩) (l.length+1) cap2))):=Y1 ⟨_,_,_,by
      rw[List.take_succ_eq_append_getElem HIL.out,HDP.out _];exact hEND⟩
     clear hown2 hgrow2 hat2 hat3 hlt2 hb8 hEND hu8 hn8 d4 g4 HP5 z0 z1 z2 z3 z4 f0 f1 f2 f3 f4 hW4;go_wp2
     go_roundw
     case rel=>exact ⟨i+1,by go_num,by have:=HLI.out; omega,HEND⟩
     case measure=>have:=HLI.out; simp[intOf]; omega}}
   {have m8: (s.kind==8)=false:=by simpa using k8
    clear k8;have HCC:=Y1 HC.out.1
    go_wp2_with fail
    clear r0 r1 r2 r3 r4 f0 f1 f2 f3 f4 v0 v1 v2 v3 v4 hw5 hw6
    go_still_tail 10,(by kernel_rfl)
    change wpList _ _ _ _ _ w6.drew
    go_wp2_with fail
    refine HCC.out.mono ?_;rintro e W3 ⟨qr,rfl,hb4,hkp⟩;have hsd:=HSD.out;have hb4':Below w6.drew.heap.size w6.drew W3:=⟨hb4.os,hb4.tape,hb4.output,hb4.size,hb4.block⟩;have hR3:=HR6.out.upd (T:=fun _=>False) (Upd.new hb4') (fun h=>h);obtain ⟨v0,r0⟩:=hR3.ex 0 (by omega);obtain ⟨v1,r1⟩:=hR3.ex 1 (by omega);obtain ⟨v2,r2⟩:=hR3.ex 2 (by omega);obtain ⟨v3,r3⟩:=hR3.ex 3 (by omega);obtain ⟨v4,r4⟩:=hR3.ex 4 (by omega);have f0:=hR3.fz 0;have f1:=hR3.fz 1;have f2:=hR3.fz 2;have f3:=hR3.fz 3;have f4:=hR3.fz 4;obtain ⟨W4,hW4⟩: ∃W4,RX.lay W3 wr.heap.size r qr=W4:=⟨_,rfl⟩;have hU:=RX.lay_upd W3 wr.heap.size r qr;have hq6:=RX.lay_at r qr (W:=W3) (g:=wr.heap.size) hR3.ex;rw[hW4] at hU hq6;have hlt3:wr.heap.size < W3.heap.size:=hR3.lt;have hb24:Below wr.heap.size wr W4:=(HBD.out.trans (hb4'.mono (by omega))).trans (hU.below (by omega) (fun x hx=>by omega));have hEL:Kept (fun b=>b < n0\/(wr.heap.size < b/\b < W4.heap.size)) W4 (r,qr):=hkp.move hU (fun b hb hf=>by
     have:=HWR.out.2; have:=hU.size;refine ⟨fun e=> ?_, ?_⟩
     {have e:b=wr.heap.size:=e;rcases hf with hf | hf <;> omega}
     · rcases hf with hf | hf
       {exact Or.inl hf}
       · exact Or.inr (by omega))
    have HKP:=Y1 (HKW.out.new hb24);have HEL:=Y1 hEL;have d4:=HKP.out.mm.c4;have g4:=HKP.out.mm.fz 4;have hgw:w.heap.size+3 < W4.heap.size:=by have:=HKP.out.mm.hw; omega
    have hll:=HKP.out.len;have hll2:l.length<=1000:=by rw[hll,List.length_take]; have:=HLT.out.1; have:=HML.out; omega
    have HP5:=Y1 (Z0g (S:=fun _=>False) HKP.out.mm.rP (Upd.new (Z01 W4 (.cells (Y8 r qr) 25))) (fun _ _ h=>h));have HS5:Hid (w.heap.size+4<=W4.heap.size):=Y1 HKP.out.mm.hw;obtain ⟨z0,z1,z2,z3,z4⟩:=hq6;simp only[Nat.zero_add] at z0 z1 z2 z3 z4;unfold RX.lay at hW4;clear hU hlt3 hb24 hEL hkp hb4 hb4' hR3 HC HCC a0 a1 a2 a3 a4 b0 b1 b2 b3 b4 x0 x1 x2 x3 x4 y0 y1 y2 y3 y4 hll hsd
    go_wp2_with (at_builtin; refine wpList_append_lies _ rfl _ _ 23 rfl (w.heap.size+4) 25 i0 (.agg #[.int .i64 0,.string ByteArray.empty,.string ByteArray.empty,.slice none 0 0,.slice none 0 0]) 5 88 Tryz.underlying23 hif0 hz0 hs0 hb0 rfl (by decide) _ _ _ rfl HP5.out ⟨W4.heap.size,0,none⟩ 1 1 (cells5 (r,qr)) rfl rfl (by intro j v hv; rw[Z0f,Nat.zero_add]; rcases j with _ | _ | _ | _ | _ | j <;> (simp[cells5] at hv; try (subst hv; simp[go_sem]))) (cells5_one _) (by decide) (by unfold maxLen; omega) (by omega) (by have:=HS5.out; simp; omega) _ rfl ?_)
    intro g2 cap2 w8 hown2 hgrow2 hat2 hlt2;rw[rowB_own] at hgrow2 hat2;have hat3:rowB AP=some g2\/g2=(W4.alloc (.cells (Y8 r qr) 25)).heap.size:=by
     rcases hat2 with h | h
     {exact Or.inl h}
     {exact Or.inr (by rw[h]; simp)}
    have hb8:=Z01 W4 (.cells (Y8 r qr) 25);have hEND:=HKP.out.putP (pb:=wr.heap.size) (e:=W4.heap.size) (x:=(r,qr)) (by have:=HN.out; omega) (by omega) HEL.out (Nat.le_refl _) HWR.out.1 (fun b h=>by cases h) (fun b h=>Or.inl (Z08 HKW.out.mm.rP b h).2) hb8 hgrow2 hown2 hat3;have hu8:Upd (fun b=>rowB AP=some b) W4 w8:=(Upd.new (S:=fun b=>rowB AP=some b) hb8).grown hgrow2 (fun k h _=>h);have hn8: ¬rowB AP=some (w.heap.size+3):=fun e=>by have:=(Z08 HKP.out.mm.rP _ e).1; omega
    have d5:=(hu8.cell hgw hn8).trans d4;have f5:=(hu8.frozen hgw hn8).trans g4;have hgw8:w.heap.size+3 < w8.heap.size:=Nat.lt_of_lt_of_le hgw hu8.size;have HEND:Hid (∃l' AP' cP',KBs w w4 n0 (w.heap.size+3) (w.heap.size+4) (w.heap.size+2) s.kind s.of_ s.name [] (M.take (i+1)) l' none 0 AP' cP' (w8.setCell ⟨w.heap.size+3,4,none⟩ (.slice (some ⟨g2,0,none⟩) (l.length+1) cap2))):=Y1 ⟨_,_,_,by
     rw[List.take_succ_eq_append_getElem HIL.out,HDP.out _];exact hEND⟩
    clear hown2 hgrow2 hat2 hat3 hlt2 hb8 hEND hu8 hn8 d4 g4 HP5 z0 z1 z2 z3 z4 f0 f1 f2 f3 f4 hW4;go_wp2
    go_roundw
    case rel=>exact ⟨i+1,by go_num,by have:=HLI.out; omega,HEND⟩
    case measure=>have:=HLI.out; simp[intOf]; omega}}
  {have hi1: ¬(i:Int) < (s.parts.length:Int):=by omega
   obtain rfl:i=s.parts.length:=by omega
   have hz:M.length=s.parts.length:=by rw[HML.out]
   have hKF:KBs w w4 n0 (w.heap.size+3) (w.heap.size+4) (w.heap.size+2) s.kind s.of_ s.name [] M l none 0 AP cP wr:=by
    have h:=hKB;rw[<-hz,List.take_length] at h;exact h
   obtain ⟨h5,hkp⟩:=hKF.fin HSM.out.1.o HSM.out.1.n (fun x hx=>by cases hx) (by simp) (by omega);have hfin:=Z16 (r:=Grd.dnamed (f+1) s t) (rc:=w.heap.size+2) (hi:=w.heap.size+4) (n0:=n0) (W':=wr) HN.out (by omega) (by omega) hKF.mm.up (by rw[HD.out]; exact hkp);rw[HD.out] at hfin;obtain ⟨r,hre⟩: ∃r:Sh,r=⟨s.kind,s.of_,s.name,[],M⟩:=⟨_,rfl⟩;rw[<-hre] at h5 hfin;have HRE:=Y1 hre;have HF:=Y1 hfin;have hR:=hKF.rr;obtain ⟨x0,x1,x2,x3,x4⟩:=h5;simp only[Nat.zero_add] at x0 x1 x2 x3 x4;obtain ⟨v0,y0⟩:=hR.ex 0 (by omega);obtain ⟨v1,y1⟩:=hR.ex 1 (by omega);obtain ⟨v2,y2⟩:=hR.ex 2 (by omega);obtain ⟨v3,y3⟩:=hR.ex 3 (by omega);obtain ⟨v4,y4⟩:=hR.ex 4 (by omega);have z0:=hR.fz 0;have z1:=hR.fz 1;have z2:=hR.fz 2;have z3:=hR.fz 3;have z4:=hR.fz 4;obtain ⟨u0,u1,u2,u3,u4⟩:=RX.lay_at r ⟨none,0,AP,cP⟩ (W:=wr) (g:=w.heap.size+2) hR.ex;simp only[Nat.zero_add] at u0 u1 u2 u3 u4;have HU:=Y1 (And.intro u0 (And.intro u1 (And.intro u2 (And.intro u3 u4))));clear hfin hkp hKF hKB hR u0 u1 u2 u3 u4 hre hz hU hTw hSw;go_wp2;obtain ⟨u0,u1,u2,u3,u4⟩:=HU.out;unfold RX.lay at u0 u1 u2 u3 u4;refine bodyPost_ret (v:=sv r ⟨none,0,AP,cP⟩) (by simp[results,Tryz.results31,go_sem,u0,u1,u2,u3,u4]) rfl ?_;rw[HD.out, <-HRE.out];exact HF.out}
end SubM
end Go.Proofs.YtlomianlcnmfgaaGreatDoor
namespace Go.Proofs.YtlomianlcnmfgaaGreatDoor
open Go.RowKit Shp Sub
namespace SubM
theorem Z6S {f:Nat} (hI:DOk f) (up:Bool) (s t:Sh) (ps pt:Ptr) (n0:Nat) (w:World) (h2:Two (f+1) s t) (hr: ∀i p q,s.parts[i]? =some p->t.parts[i]? =some q->Grd.R true f (if i+1=s.parts.length then up else !up) p q) (hs:ShAt w n0 ps s) (ht:ShAt w n0 pt t) (hn:n0<=w.heap.size)
 (hk:s.kind=t.kind) (ho:s.of_=t.of_) (hnm:s.name=t.name) (h4:s.kind≠4) (h6: ¬(s.kind=6\/s.kind=7)) (hpl:s.parts.length=t.parts.length):
 Calls Tryz.prog 32 #[.agg (Y8 t pt),.agg (Y8 s ps)] w (NIs (Grd.dnamed (f+1) s t) n0 w):=by
 obtain ⟨i0,hif0,hz0,hs0,hb0⟩:=Z0S Z1R;obtain ⟨i1,hif1,hz1,hsz1,hbz1⟩:=Z0S Z28;have hb1:=Z01 w (.cells (Y8 t pt) 25);obtain ⟨w1,hw1⟩: ∃w1,w1=w.alloc (.cells (Y8 t pt) 25):=⟨_,rfl⟩;have hs1:w1.heap.size=w.heap.size+1:=by rw[hw1]; simp
 have hb2:=Z01 w1 (.cells (Y8 s ps) 25);obtain ⟨w2,hw2⟩: ∃w2,w2=w1.alloc (.cells (Y8 s ps) 25):=⟨_,rfl⟩;have hs2:w2.heap.size=w.heap.size+2:=by rw[hw2]; simp[hs1]
 have hb3:=Z01 w2 (.cells Yb 25);obtain ⟨w3,hw3⟩: ∃w3,w3=w2.alloc (.cells Yb 25):=⟨_,rfl⟩;have hs3:w3.heap.size=w.heap.size+3:=by rw[hw3]; simp[hs2]
 have hb4:=Z01 w3 (.cells #[.int .i64 t.kind,.string ⟨t.of_.toArray⟩,.string ⟨t.name.toArray⟩,.slice none 0 0,.slice none 0 0] 25);obtain ⟨w4,hw4⟩: ∃w4,w4=w3.alloc (.cells #[.int .i64 t.kind,.string ⟨t.of_.toArray⟩,.string ⟨t.name.toArray⟩,.slice none 0 0,.slice none 0 0] 25):=⟨_,rfl⟩;have hs4:w4.heap.size=w.heap.size+4:=by rw[hw4]; simp[hs3]
 rw[<-hw1] at hb1;rw[<-hw2] at hb2;rw[<-hw3] at hb3;rw[<-hw4] at hb4;have hbw:=Z00 (Z00 hb1 (Z00 hb2 hb3)) hb4;have hB1:Box5 w1 w.heap.size t pt:=by rw[hw1]; exact Z05 w t pt
 have hB2:Box5 w2 w1.heap.size s ps:=by rw[hw2]; exact Z05 w1 s ps
 have hB13:=((hB1.next hb2).next hb3).next hb4;have hB23:=(hB2.next hb3).next hb4;rw[hs1] at hB23;have hR3:Rc (w.heap.size+2) w3:=by have h:=Z0I hw3; rwa [hs2] at h
 have hR4:Rc (w.heap.size+2) w4:=hR3.upd (T:=fun _=>False) (Upd.new hb4) (fun h=>h);have hu4:Upd (fun _=>False) w w4:=Upd.new hbw;have hc5:Sh5 w4 (w.heap.size+3) 0 ⟨t.kind,t.of_,t.name,[],[]⟩ noneQ12:=by
  rw[<-hs3,hw4]; refine ⟨?_, ?_, ?_, ?_, ?_⟩ <;> simp[go_sem]
 have hfz: ∀j,w4.frozen? ⟨w.heap.size+3,j,none⟩=false:=fun j=>by rw[<-hs3,hw4]; simp[go_sem]
 have hK0:KBs w w4 n0 (w.heap.size+3) (w.heap.size+4) (w.heap.size+2) t.kind t.of_ t.name [] [] [] none 0 none 0 w4:=by
  obtain ⟨c0,c1,c2,c3,c4⟩:=hc5;simp only[Nat.zero_add] at c0 c1 c2 c3 c4;exact ⟨⟨hbw,by omega,by omega,by omega,c0,c1,c2,c3,c4,hfz,World.ownsRow_nil _ _ _ _,World.ownsRow_nil _ _ _ _,Or.inl rfl⟩,rfl,fun x hx=>absurd hx (by simp),hR4,Upd.refl _ _⟩
 have HX2:=Y1 hB13;have HX3:=Y1 hB23;have HS:=Y1 (Z0a hs hn hu4 (fun _ _ h=>h));have HT:=Y1 (Z0a ht hn hu4 (fun _ _ h=>h));have HK0:=Y1 hK0;have HN:=Y1 hn;have HZ4:=Y1 hs4;have HI:=Y1 hI;have H2:=Y1 h2;have HR:=Y1 hr;have HLT:=Y1 (And.intro h2.la h2.swap.la);have HPL:=Y1 hpl;have HSM:=Y1 (And.intro hs.small ht.small);have hf4: ¬(s.kind=4\/t.kind=4):=by omega
 obtain ⟨M,hM⟩: ∃M,M=List.zipWith (Grd.dnamed f) s.parts t.parts:=⟨_,rfl⟩;have HD:Hid (Grd.dnamed (f+1) s t=⟨t.kind,t.of_,t.name,[],M⟩):=Y1 (by
  conv=>lhs; unfold Grd.dnamed; rw[if_neg hf4,if_neg h6, <-hM]
  rw[hk,ho,hnm])
 have HMM:=Y1 hM;have HML:Hid (M.length=s.parts.length):=Y1 (by rw[hM,List.length_zipWith]; omega);obtain ⟨_,⟨a0,a1,a2,a3,a4⟩,_⟩:=hB13;obtain ⟨_,⟨b0,b1,b2,b3,b4⟩,_⟩:=hB23;simp only[Nat.zero_add] at a0 a1 a2 a3 a4 b0 b1 b2 b3 b4;have m4: (t.kind==4)=false:=by rw[<-hk]; simpa using h4
 have m4': (s.kind==4)=false:=by simpa using h4
 have m6: (t.kind==6)=false:=by rw[<-hk]; simpa using fun h=>h6 (Or.inl h)
 have m7: (t.kind==7)=false:=by rw[<-hk]; simpa using fun h=>h6 (Or.inr h)
 have HW:Hid ((((w.alloc (.cells (Y8 t pt) 25)).alloc (.cells (Y8 s ps) 25)).alloc (.cells Yb 25)).alloc (.cells #[.int .i64 t.kind,.string ⟨t.of_.toArray⟩,.string ⟨t.name.toArray⟩,.slice none 0 0,.slice none 0 0] 25)=w4):=Y1 (by rw[hw4,hw3,hw2,hw1]);clear hK0 hbw hR3 hR4 hu4 hc5 hfz hs ht hn h2 hr hI hb1 hb2 hb3 hb4 hs1 hs2 hs3 hs4 hB1 hB2 a0 a1 a2 a3 a4 b0 b1 b2 b3 b4 hf4 hk ho hnm h4 h6 hM hpl;clear hw4 hw3 hw2 hw1;go_enter Tryz.func32,Tryz.ntmps32
 go_wp2_with fail
 rw[HW.out];clear HW m4 m4' m6 m7
 go_loopw [10] (fun ii wr=> ∃i:Nat,ii= .int .i64 i/\i<=t.parts.length/\Hid (∃l AP cP,KBs w w4 n0 (w.heap.size+3) (w.heap.size+4) (w.heap.size+2) t.kind t.of_ t.name [] (M.take i) l none 0 AP cP wr)) (fun i _=>t.parts.length - (intOf i).toNat)
 case atStart=>exact ⟨0,rfl,Nat.zero_le _,Y1 ⟨[],none,0,HK0.out⟩⟩
 case round=>
  obtain ⟨i,rfl,hi,HKB⟩:=hrel;obtain ⟨l,AP,cP,hKB⟩:=HKB.out;have hlt1:=HLT.out.1;have hlt2:=HLT.out.2;have hpl:=HPL.out;have hU:=hKB.up;have hz4:=HZ4.out;have hn:=HN.out;have hx2:=Z0e HX2.out hU (by omega);have hx3:=Z0e HX3.out hU (by omega);have hTw:=Z0a HT.out (by omega) hU (fun x hx hs=>by omega);have hSw:=Z0a HS.out (by omega) hU (fun x hx hs=>by omega);obtain ⟨_,⟨a0,a1,a2,a3,a4⟩,_⟩:=hx2;obtain ⟨_,⟨b0,b1,b2,b3,b4⟩,_⟩:=hx3;simp only[Nat.zero_add] at a0 a1 a2 a3 a4 b0 b1 b2 b3 b4;by_cases hlt:i < t.parts.length
  {have hl3:i < s.parts.length:=by omega
   have hi1: (i:Int) < (t.parts.length:Int):=by omega
   have hi3: (i:Int) < (s.parts.length:Int):=by omega
   obtain ⟨k,hkl⟩: ∃k,t.parts.length=k+1:=⟨t.parts.length - 1,by omega⟩;have hsub: (t.parts.length:Int) - 1=(k:Int):=by omega
   have kw:IntKind.i64.wrap (k:Int)=(k:Int):=IntWalk.i64_in _ (by omega);rcases hTw.part with h0 | ⟨g,off,qs,hqP,hg,hc,hra⟩
   {omega}
   rcases hSw.part with h0 | ⟨g',off',qs',hqP',hg',hc',hra'⟩
   {omega}
   have hX5:=hc i hlt;have hXA:=hra i hlt;have hY5:=hc' i hl3;have hYA:=hra' i hl3;obtain ⟨x,hx⟩: ∃x,x=t.parts[i]'hlt:=⟨_,rfl⟩;obtain ⟨y,hy⟩: ∃y,y=s.parts[i]'hl3:=⟨_,rfl⟩;obtain ⟨qx,hqx⟩: ∃z,z=qs i:=⟨_,rfl⟩;obtain ⟨qy,hqy⟩: ∃z,z=qs' i:=⟨_,rfl⟩;rw[<-hx, <-hqx] at hX5 hXA;rw[<-hy, <-hqy] at hY5 hYA;have hT:Two f y x:=by
    rw[hx,hy];exact H2.out.part (List.getElem_mem _) (List.getElem_mem _)
   have hRR:Grd.R true f (if i+1=s.parts.length then up else !up) y x:=HR.out i y x (by rw[List.getElem?_eq_getElem (by omega),hy]) (by rw[List.getElem?_eq_getElem (by omega),hx]);obtain ⟨up',hup⟩: ∃u,u=(if i+1=s.parts.length then up else !up):=⟨_,rfl⟩;rw[<-hup] at hRR;clear hup;obtain ⟨r,hre⟩: ∃r,r=Grd.dnamed f y x:=⟨_,rfl⟩;have hil:i < M.length:=by rw[HML.out]; omega
   have HDP:Hid (∀h:i < M.length,M[i]'h=r):=Y1 (by
    have hm:=HMM.out;subst hm;intro h;rw[List.getElem_zipWith,hre,hy,hx])
   have HIL:=Y1 hil;have HLI:=Y1 hlt;have hwr:w.heap.size+4<=wr.heap.size:=hKB.mm.hw;have hn0w:n0<=wr.heap.size:=by omega
   have hb5:=Z01 wr (.cells Yb 25);obtain ⟨w5,hw5⟩: ∃w5,wr.alloc (.cells Yb 25)=w5:=⟨_,rfl⟩;have hs5:w5.heap.size=wr.heap.size+1:=by rw[<-hw5]; simp
   have hr5:Rc wr.heap.size w5:=Z0I hw5.symm;rw[hw5] at hb5;have hU5:=RX.lay_upd w5 wr.heap.size Z0c noneQ12;have hr0:=ZaF hr5 Z0c noneQ12;have hs6: (RX.lay w5 wr.heap.size Z0c noneQ12).heap.size=wr.heap.size+1:=by rw[RX.lay_size]; exact hs5
   obtain ⟨w6,hw6⟩: ∃w6,((((w5.setCell ⟨wr.heap.size,0,none⟩ (.int .i64 0)).setCell ⟨wr.heap.size,1,none⟩ (.string ⟨#[]⟩)).setCell ⟨wr.heap.size,2,none⟩ (.string ⟨#[]⟩)).setCell ⟨wr.heap.size,3,none⟩ (.slice none 0 0)).setCell ⟨wr.heap.size,4,none⟩ (.slice none 0 0)=w6:=⟨_,rfl⟩;change Upd _ w5 (((((w5.setCell ⟨wr.heap.size,0,none⟩ (.int .i64 0)).setCell ⟨wr.heap.size,1,none⟩ (.string ⟨#[]⟩)).setCell ⟨wr.heap.size,2,none⟩ (.string ⟨#[]⟩)).setCell ⟨wr.heap.size,3,none⟩ (.slice none 0 0)).setCell ⟨wr.heap.size,4,none⟩ (.slice none 0 0)) at hU5;change Rc _ (((((w5.setCell ⟨wr.heap.size,0,none⟩ (.int .i64 0)).setCell ⟨wr.heap.size,1,none⟩ (.string ⟨#[]⟩)).setCell ⟨wr.heap.size,2,none⟩ (.string ⟨#[]⟩)).setCell ⟨wr.heap.size,3,none⟩ (.slice none 0 0)).setCell ⟨wr.heap.size,4,none⟩ (.slice none 0 0)) at hr0;change (((((w5.setCell ⟨wr.heap.size,0,none⟩ (.int .i64 0)).setCell ⟨wr.heap.size,1,none⟩ (.string ⟨#[]⟩)).setCell ⟨wr.heap.size,2,none⟩ (.string ⟨#[]⟩)).setCell ⟨wr.heap.size,3,none⟩ (.slice none 0 0)).setCell ⟨wr.heap.size,4,none⟩ (.slice none 0 0)).heap.size=_ at hs6;rw[hw6] at hU5 hr0 hs6;have hb6:Below wr.heap.size wr w6:=hb5.trans (hU5.below (by omega) (fun x hx=>by omega));obtain ⟨v0,r0⟩:=hr5.ex 0 (by omega);obtain ⟨v1,r1⟩:=hr5.ex 1 (by omega);obtain ⟨v2,r2⟩:=hr5.ex 2 (by omega);obtain ⟨v3,r3⟩:=hr5.ex 3 (by omega);obtain ⟨v4,r4⟩:=hr5.ex 4 (by omega);have f0:=hr5.fz 0;have f1:=hr5.fz 1;have f2:=hr5.fz 2;have f3:=hr5.fz 3;have f4:=hr5.fz 4;have hbd:Below wr.heap.size wr w6.drew:=Z00 hb6 Y2.drew;have hud:Upd (fun _=>False) wr w6.drew:=Upd.new hbd;have hr1:Rc wr.heap.size w6.drew:=hr0.upd (T:=fun _=>False) ((Upd.refl _ w6).drew) (fun h=>h);have hsd:w6.drew.heap.size=wr.heap.size+1:=by rw[<-hs6]; rfl
   have HC:=Y1 (HI.out up' y x qy qx n0 w6.drew hT hRR (Z0a hYA hn0w hud (fun _ _ h=>h)) (Z0a hXA hn0w hud (fun _ _ h=>h)) (by omega));rw[<-hre] at HC;unfold sv at HC;obtain ⟨a0,a1,a2,a3,a4⟩:Sh5 w6 w.heap.size 0 t pt:=((Z0e HX2.out hU (by omega)).next hb6).2.1;obtain ⟨b0,b1,b2,b3,b4⟩:Sh5 w6 (w.heap.size+1) 0 s ps:=((Z0e HX3.out hU (by omega)).next hb6).2.1;obtain ⟨x0,x1,x2,x3,x4⟩:=hX5.keep (show g < wr.heap.size by omega) hb6;obtain ⟨y0,y1,y2,y3,y4⟩:=hY5.keep (show g' < wr.heap.size by omega) hb6;simp only[Nat.zero_add] at a0 a1 a2 a3 a4 b0 b1 b2 b3 b4;rw[hqP] at a4;rw[hqP'] at b4;have HKW:=Y1 hKB;have HBD:=Y1 hbd;have HR6:=Y1 hr1;have HSD:=Y1 hsd;have HWR:=Y1 (And.intro hwr hn0w);clear hx hy hqx hqy hc hra hc' hra' hqP hqP' hXA hYA hT hRR hre hr0 hr1 hb5 hr5 hU5 hb6 hbd hud hsd hs5 hs6 hKB hU hTw hSw hz4 hn hwr hn0w hg hg' hil hpl hkl;by_cases k8:t.kind=8
   {have m8: (t.kind==8)=true:=by rw[k8]; rfl
    clear k8;by_cases hik:i < k
    {have hi8: (i:Int) < (k:Int):=by omega
     have HCC:=Y1 HC.out.1
     go_wp2_with fail
     clear r0 r1 r2 r3 r4 f0 f1 f2 f3 f4 v0 v1 v2 v3 v4 hw5 hw6
     go_still_tail 10,(by kernel_rfl)
     change wpList _ _ _ _ _ w6.drew
     go_wp2_with fail
     refine HCC.out.mono ?_;rintro e W3 ⟨qr,rfl,hb4,hkp⟩;have hsd:=HSD.out;have hb4':Below w6.drew.heap.size w6.drew W3:=⟨hb4.os,hb4.tape,hb4.output,hb4.size,hb4.block⟩;have hR3:=HR6.out.upd (T:=fun _=>False) (Upd.new hb4') (fun h=>h);obtain ⟨v0,r0⟩:=hR3.ex 0 (by omega);obtain ⟨v1,r1⟩:=hR3.ex 1 (by omega);obtain ⟨v2,r2⟩:=hR3.ex 2 (by omega);obtain ⟨v3,r3⟩:=hR3.ex 3 (by omega);obtain ⟨v4,r4⟩:=hR3.ex 4 (by omega);have f0:=hR3.fz 0;have f1:=hR3.fz 1;have f2:=hR3.fz 2;have f3:=hR3.fz 3;have f4:=hR3.fz 4;obtain ⟨W4,hW4⟩: ∃W4,RX.lay W3 wr.heap.size r qr=W4:=⟨_,rfl⟩;have hU:=RX.lay_upd W3 wr.heap.size r qr;have hq6:=RX.lay_at r qr (W:=W3) (g:=wr.heap.size) hR3.ex;rw[hW4] at hU hq6;have hlt3:wr.heap.size < W3.heap.size:=hR3.lt;have hb24:Below wr.heap.size wr W4:=(HBD.out.trans (hb4'.mono (by omega))).trans (hU.below (by omega) (fun x hx=>by omega));have hEL:Kept (fun b=>b < n0\/(wr.heap.size < b/\b < W4.heap.size)) W4 (r,qr):=hkp.move hU (fun b hb hf=>by
      have:=HWR.out.2; have:=hU.size;refine ⟨fun e=> ?_, ?_⟩
      {have e:b=wr.heap.size:=e;rcases hf with hf | hf <;> omega}
      · rcases hf with hf | hf
        {exact Or.inl hf}
        · exact Or.inr (by omega))
     have HKP:=Y1 (HKW.out.new hb24);have HEL:=Y1 hEL;have d4:=HKP.out.mm.c4;have g4:=HKP.out.mm.fz 4;have hgw:w.heap.size+3 < W4.heap.size:=by have:=HKP.out.mm.hw; omega
     have hll:=HKP.out.len;have hll2:l.length<=1000:=by rw[hll,List.length_take]; have:=HLT.out.1; have:=HML.out; omega
     have HP5:=Y1 (Z0g (S:=fun _=>False) HKP.out.mm.rP (Upd.new (Z01 W4 (.cells (Y8 r qr) 25))) (fun _ _ h=>h));have HS5:Hid (w.heap.size+4<=W4.heap.size):=Y1 HKP.out.mm.hw;obtain ⟨z0,z1,z2,z3,z4⟩:=hq6;simp only[Nat.zero_add] at z0 z1 z2 z3 z4;unfold RX.lay at hW4;clear hU hlt3 hb24 hEL hkp hb4 hb4' hR3 HC HCC a0 a1 a2 a3 a4 b0 b1 b2 b3 b4 x0 x1 x2 x3 x4 y0 y1 y2 y3 y4 hll hsd
     go_wp2_with (at_builtin; refine wpList_append_lies _ rfl _ _ 23 rfl (w.heap.size+4) 25 i0 (.agg #[.int .i64 0,.string ByteArray.empty,.string ByteArray.empty,.slice none 0 0,.slice none 0 0]) 5 88 Tryz.underlying23 hif0 hz0 hs0 hb0 rfl (by decide) _ _ _ rfl HP5.out ⟨W4.heap.size,0,none⟩ 1 1 (cells5 (r,qr)) rfl rfl (by intro j v hv; rw[Z0f,Nat.zero_add]; rcases j with _ | _ | _ | _ | _ | j <;> (simp[cells5] at hv; try (subst hv; simp[go_sem]))) (cells5_one _) (by decide) (by unfold maxLen; omega) (by omega) (by have:=HS5.out; simp; omega) _ rfl ?_)
     intro g2 cap2 w8 hown2 hgrow2 hat2 hlt2;rw[rowB_own] at hgrow2 hat2;have hat3:rowB AP=some g2\/g2=(W4.alloc (.cells (Y8 r qr) 25)).heap.size:=by
      rcases hat2 with h | h
      {exact Or.inl h}
      {exact Or.inr (by rw[h]; simp)}
     have hb8:=Z01 W4 (.cells (Y8 r qr) 25);have hEND:=HKP.out.putP (pb:=wr.heap.size) (e:=W4.heap.size) (x:=(r,qr)) (by have:=HN.out; omega) (by omega) HEL.out (Nat.le_refl _) HWR.out.1 (fun b h=>by cases h) (fun b h=>Or.inl (Z08 HKW.out.mm.rP b h).2) hb8 hgrow2 hown2 hat3;have hu8:Upd (fun b=>rowB AP=some b) W4 w8:=(Upd.new (S:=fun b=>rowB AP=some b) hb8).grown hgrow2 (fun k h _=>h);have hn8: ¬rowB AP=some (w.heap.size+3):=fun e=>by have:=(Z08 HKP.out.mm.rP _ e).1; omega
     have d5:=(hu8.cell hgw hn8).trans d4;have f5:=(hu8.frozen hgw hn8).trans g4;have hgw8:w.heap.size+3 < w8.heap.size:=Nat.lt_of_lt_of_le hgw hu8.size;have HEND:Hid (∃l' AP' cP',KBs w w4 n0 (w.heap.size+3) (w.heap.size+4) (w.heap.size+2) t.kind t.of_ t.name [] (M.take (i+1)) l' none 0 AP' cP' (w8.setCell ⟨w.heap.size+3,4,none⟩ (.slice (some ⟨g2,0,none⟩) (l.length+1) cap2))):=Y1 ⟨_,_,_,by
      rw[List.take_succ_eq_append_getElem HIL.out,HDP.out _];exact hEND⟩
     clear hown2 hgrow2 hat2 hat3 hlt2 hb8 hEND hu8 hn8 d4 g4 HP5 z0 z1 z2 z3 z4 f0 f1 f2 f3 f4 hW4;go_wp2
     go_roundw
     case rel=>exact ⟨i+1,by go_num,by have:=HLI.out; omega,HEND⟩
     case measure=>have:=HLI.out; simp[intOf]; omega}
    {have hi8:decide ((i:Int) < (k:Int))=false:=by simp; omega
     have HCC:=Y1 HC.out.2
     go_wp2_with fail
     clear r0 r1 r2 r3 r4 f0 f1 f2 f3 f4 v0 v1 v2 v3 v4 hw5 hw6
     go_still_tail 10,(by kernel_rfl)
     change wpList _ _ _ _ _ w6.drew
     go_wp2_with fail
     refine HCC.out.mono ?_;rintro e W3 ⟨qr,rfl,hb4,hkp⟩;have hsd:=HSD.out;have hb4':Below w6.drew.heap.size w6.drew W3:=⟨hb4.os,hb4.tape,hb4.output,hb4.size,hb4.block⟩;have hR3:=HR6.out.upd (T:=fun _=>False) (Upd.new hb4') (fun h=>h);obtain ⟨v0,r0⟩:=hR3.ex 0 (by omega);obtain ⟨v1,r1⟩:=hR3.ex 1 (by omega);obtain ⟨v2,r2⟩:=hR3.ex 2 (by omega);obtain ⟨v3,r3⟩:=hR3.ex 3 (by omega);obtain ⟨v4,r4⟩:=hR3.ex 4 (by omega);have f0:=hR3.fz 0;have f1:=hR3.fz 1;have f2:=hR3.fz 2;have f3:=hR3.fz 3;have f4:=hR3.fz 4;obtain ⟨W4,hW4⟩: ∃W4,RX.lay W3 wr.heap.size r qr=W4:=⟨_,rfl⟩;have hU:=RX.lay_upd W3 wr.heap.size r qr;have hq6:=RX.lay_at r qr (W:=W3) (g:=wr.heap.size) hR3.ex;rw[hW4] at hU hq6;have hlt3:wr.heap.size < W3.heap.size:=hR3.lt;have hb24:Below wr.heap.size wr W4:=(HBD.out.trans (hb4'.mono (by omega))).trans (hU.below (by omega) (fun x hx=>by omega));have hEL:Kept (fun b=>b < n0\/(wr.heap.size < b/\b < W4.heap.size)) W4 (r,qr):=hkp.move hU (fun b hb hf=>by
      have:=HWR.out.2; have:=hU.size;refine ⟨fun e=> ?_, ?_⟩
      {have e:b=wr.heap.size:=e;rcases hf with hf | hf <;> omega}
      · rcases hf with hf | hf
        {exact Or.inl hf}
        · exact Or.inr (by omega))
     have HKP:=Y1 (HKW.out.new hb24);have HEL:=Y1 hEL;have d4:=HKP.out.mm.c4;have g4:=HKP.out.mm.fz 4;have hgw:w.heap.size+3 < W4.heap.size:=by have:=HKP.out.mm.hw; omega
     have hll:=HKP.out.len;have hll2:l.length<=1000:=by rw[hll,List.length_take]; have:=HLT.out.1; have:=HML.out; omega
     have HP5:=Y1 (Z0g (S:=fun _=>False) HKP.out.mm.rP (Upd.new (Z01 W4 (.cells (Y8 r qr) 25))) (fun _ _ h=>h));have HS5:Hid (w.heap.size+4<=W4.heap.size):=Y1 HKP.out.mm.hw;obtain ⟨z0,z1,z2,z3,z4⟩:=hq6;simp only[Nat.zero_add] at z0 z1 z2 z3 z4;unfold RX.lay at hW4;clear hU hlt3 hb24 hEL hkp hb4 hb4' hR3 HC HCC a0 a1 a2 a3 a4 b0 b1 b2 b3 b4 x0 x1 x2 x3 x4 y0 y1 y2 y3 y4 hll hsd
     go_wp2_with (at_builtin; refine wpList_append_lies _ rfl _ _ 23 rfl (w.heap.size+4) 25 i0 (.agg #[.int .i64 0,.string ByteArray.empty,.string ByteArray.empty,.slice none 0 0,.slice none 0 0]) 5 88 Tryz.underlying23 hif0 hz0 hs0 hb0 rfl (by decide) _ _ _ rfl HP5.out ⟨W4.heap.size,0,none⟩ 1 1 (cells5 (r,qr)) rfl rfl (by intro j v hv; rw[Z0f,Nat.zero_add]; rcases j with _ | _ | _ | _ | _ | j <;> (simp[cells5] at hv; try (subst hv; simp[go_sem]))) (cells5_one _) (by decide) (by unfold maxLen; omega) (by omega) (by have:=HS5.out; simp; omega) _ rfl ?_)
     intro g2 cap2 w8 hown2 hgrow2 hat2 hlt2;rw[rowB_own] at hgrow2 hat2;have hat3:rowB AP=some g2\/g2=(W4.alloc (.cells (Y8 r qr) 25)).heap.size:=by
      rcases hat2 with h | h
      {exact Or.inl h}
      {exact Or.inr (by rw[h]; simp)}
     have hb8:=Z01 W4 (.cells (Y8 r qr) 25);have hEND:=HKP.out.putP (pb:=wr.heap.size) (e:=W4.heap.size) (x:=(r,qr)) (by have:=HN.out; omega) (by omega) HEL.out (Nat.le_refl _) HWR.out.1 (fun b h=>by cases h) (fun b h=>Or.inl (Z08 HKW.out.mm.rP b h).2) hb8 hgrow2 hown2 hat3;have hu8:Upd (fun b=>rowB AP=some b) W4 w8:=(Upd.new (S:=fun b=>rowB AP=some b) hb8).grown hgrow2 (fun k h _=>h);have hn8: ¬rowB AP=some (w.heap.size+3):=fun e=>by have:=(Z08 HKP.out.mm.rP _ e).1; omega
     have d5:=(hu8.cell hgw hn8).trans d4;have f5:=(hu8.frozen hgw hn8).trans g4;have hgw8:w.heap.size+3 < w8.heap.size:=Nat.lt_of_lt_of_le hgw hu8.size;have HEND:Hid (∃l' AP' cP',KBs w w4 n0 (w.heap.size+3) (w.heap.size+4) (w.heap.size+2) t.kind t.of_ t.name [] (M.take (i+1)) l' none 0 AP' cP' (w8.setCell ⟨w.heap.size+3,4,none⟩ (.slice (some ⟨g2,0,none⟩) (l.length+1) cap2))):=Y1 ⟨_,_,_,by
      rw[List.take_succ_eq_append_getElem HIL.out,HDP.out _];exact hEND⟩
     clear hown2 hgrow2 hat2 hat3 hlt2 hb8 hEND hu8 hn8 d4 g4 HP5 z0 z1 z2 z3 z4 f0 f1 f2 f3 f4 hW4;go_wp2
     go_roundw
     case rel=>exact ⟨i+1,by go_num,by have:=HLI.out; omega,HEND⟩
     case measure=>have:=HLI.out; simp[intOf]; omega}}
   {have m8: (t.kind==8)=false:=by simpa using k8
    clear k8;have HCC:=Y1 HC.out.2
    go_wp2_with fail
    clear r0 r1 r2 r3 r4 f0 f1 f2 f3 f4 v0 v1 v2 v3 v4 hw5 hw6
    go_still_tail 10,(by kernel_rfl)
    change wpList _ _ _ _ _ w6.drew
    go_wp2_with fail
    refine HCC.out.mono ?_;rintro e W3 ⟨qr,rfl,hb4,hkp⟩;have hsd:=HSD.out;have hb4':Below w6.drew.heap.size w6.drew W3:=⟨hb4.os,hb4.tape,hb4.output,hb4.size,hb4.block⟩;have hR3:=HR6.out.upd (T:=fun _=>False) (Upd.new hb4') (fun h=>h);obtain ⟨v0,r0⟩:=hR3.ex 0 (by omega);obtain ⟨v1,r1⟩:=hR3.ex 1 (by omega);obtain ⟨v2,r2⟩:=hR3.ex 2 (by omega);obtain ⟨v3,r3⟩:=hR3.ex 3 (by omega);obtain ⟨v4,r4⟩:=hR3.ex 4 (by omega);have f0:=hR3.fz 0;have f1:=hR3.fz 1;have f2:=hR3.fz 2;have f3:=hR3.fz 3;have f4:=hR3.fz 4;obtain ⟨W4,hW4⟩: ∃W4,RX.lay W3 wr.heap.size r qr=W4:=⟨_,rfl⟩;have hU:=RX.lay_upd W3 wr.heap.size r qr;have hq6:=RX.lay_at r qr (W:=W3) (g:=wr.heap.size) hR3.ex;rw[hW4] at hU hq6;have hlt3:wr.heap.size < W3.heap.size:=hR3.lt;have hb24:Below wr.heap.size wr W4:=(HBD.out.trans (hb4'.mono (by omega))).trans (hU.below (by omega) (fun x hx=>by omega));have hEL:Kept (fun b=>b < n0\/(wr.heap.size < b/\b < W4.heap.size)) W4 (r,qr):=hkp.move hU (fun b hb hf=>by
     have:=HWR.out.2; have:=hU.size;refine ⟨fun e=> ?_, ?_⟩
     {have e:b=wr.heap.size:=e;rcases hf with hf | hf <;> omega}
     · rcases hf with hf | hf
       {exact Or.inl hf}
       · exact Or.inr (by omega))
    have HKP:=Y1 (HKW.out.new hb24);have HEL:=Y1 hEL;have d4:=HKP.out.mm.c4;have g4:=HKP.out.mm.fz 4;have hgw:w.heap.size+3 < W4.heap.size:=by have:=HKP.out.mm.hw; omega
    have hll:=HKP.out.len;have hll2:l.length<=1000:=by rw[hll,List.length_take]; have:=HLT.out.1; have:=HML.out; omega
    have HP5:=Y1 (Z0g (S:=fun _=>False) HKP.out.mm.rP (Upd.new (Z01 W4 (.cells (Y8 r qr) 25))) (fun _ _ h=>h));have HS5:Hid (w.heap.size+4<=W4.heap.size):=Y1 HKP.out.mm.hw;obtain ⟨z0,z1,z2,z3,z4⟩:=hq6;simp only[Nat.zero_add] at z0 z1 z2 z3 z4;unfold RX.lay at hW4;clear hU hlt3 hb24 hEL hkp hb4 hb4' hR3 HC HCC a0 a1 a2 a3 a4 b0 b1 b2 b3 b4 x0 x1 x2 x3 x4 y0 y1 y2 y3 y4 hll hsd
    go_wp2_with (at_builtin; refine wpList_append_lies _ rfl _ _ 23 rfl (w.heap.size+4) 25 i0 (.agg #[.int .i64 0,.string ByteArray.empty,.string ByteArray.empty,.slice none 0 0,.slice none 0 0]) 5 88 Tryz.underlying23 hif0 hz0 hs0 hb0 rfl (by decide) _ _ _ rfl HP5.out ⟨W4.heap.size,0,none⟩ 1 1 (cells5 (r,qr)) rfl rfl (by intro j v hv; rw[Z0f,Nat.zero_add]; rcases j with _ | _ | _ | _ | _ | j <;> (simp[cells5] at hv; try (subst hv; simp[go_sem]))) (cells5_one _) (by decide) (by unfold maxLen; omega) (by omega) (by have:=HS5.out; simp; omega) _ rfl ?_)
    intro g2 cap2 w8 hown2 hgrow2 hat2 hlt2;rw[rowB_own] at hgrow2 hat2;have hat3:rowB AP=some g2\/g2=(W4.alloc (.cells (Y8 r qr) 25)).heap.size:=by
     rcases hat2 with h | h
     {exact Or.inl h}
     {exact Or.inr (by rw[h]; simp)}
    have hb8:=Z01 W4 (.cells (Y8 r qr) 25);have hEND:=HKP.out.putP (pb:=wr.heap.size) (e:=W4.heap.size) (x:=(r,qr)) (by have:=HN.out; omega) (by omega) HEL.out (Nat.le_refl _) HWR.out.1 (fun b h=>by cases h) (fun b h=>Or.inl (Z08 HKW.out.mm.rP b h).2) hb8 hgrow2 hown2 hat3;have hu8:Upd (fun b=>rowB AP=some b) W4 w8:=(Upd.new (S:=fun b=>rowB AP=some b) hb8).grown hgrow2 (fun k h _=>h);have hn8: ¬rowB AP=some (w.heap.size+3):=fun e=>by have:=(Z08 HKP.out.mm.rP _ e).1; omega
    have d5:=(hu8.cell hgw hn8).trans d4;have f5:=(hu8.frozen hgw hn8).trans g4;have hgw8:w.heap.size+3 < w8.heap.size:=Nat.lt_of_lt_of_le hgw hu8.size;have HEND:Hid (∃l' AP' cP',KBs w w4 n0 (w.heap.size+3) (w.heap.size+4) (w.heap.size+2) t.kind t.of_ t.name [] (M.take (i+1)) l' none 0 AP' cP' (w8.setCell ⟨w.heap.size+3,4,none⟩ (.slice (some ⟨g2,0,none⟩) (l.length+1) cap2))):=Y1 ⟨_,_,_,by
     rw[List.take_succ_eq_append_getElem HIL.out,HDP.out _];exact hEND⟩
    clear hown2 hgrow2 hat2 hat3 hlt2 hb8 hEND hu8 hn8 d4 g4 HP5 z0 z1 z2 z3 z4 f0 f1 f2 f3 f4 hW4;go_wp2
    go_roundw
    case rel=>exact ⟨i+1,by go_num,by have:=HLI.out; omega,HEND⟩
    case measure=>have:=HLI.out; simp[intOf]; omega}}
  {have hi1: ¬(i:Int) < (t.parts.length:Int):=by omega
   obtain rfl:i=t.parts.length:=by omega
   have hz:M.length=t.parts.length:=by rw[HML.out]; omega
   have hKF:KBs w w4 n0 (w.heap.size+3) (w.heap.size+4) (w.heap.size+2) t.kind t.of_ t.name [] M l none 0 AP cP wr:=by
    have h:=hKB;rw[<-hz,List.take_length] at h;exact h
   obtain ⟨h5,hkp⟩:=hKF.fin HSM.out.2.o HSM.out.2.n (fun x hx=>by cases hx) (by simp) (by omega);have hfin:=Z16 (r:=Grd.dnamed (f+1) s t) (rc:=w.heap.size+2) (hi:=w.heap.size+4) (n0:=n0) (W':=wr) HN.out (by omega) (by omega) hKF.mm.up (by rw[HD.out]; exact hkp);rw[HD.out] at hfin;obtain ⟨r,hre⟩: ∃r:Sh,r=⟨t.kind,t.of_,t.name,[],M⟩:=⟨_,rfl⟩;rw[<-hre] at h5 hfin;have HRE:=Y1 hre;have HF:=Y1 hfin;have hR:=hKF.rr;obtain ⟨x0,x1,x2,x3,x4⟩:=h5;simp only[Nat.zero_add] at x0 x1 x2 x3 x4;obtain ⟨v0,y0⟩:=hR.ex 0 (by omega);obtain ⟨v1,y1⟩:=hR.ex 1 (by omega);obtain ⟨v2,y2⟩:=hR.ex 2 (by omega);obtain ⟨v3,y3⟩:=hR.ex 3 (by omega);obtain ⟨v4,y4⟩:=hR.ex 4 (by omega);have z0:=hR.fz 0;have z1:=hR.fz 1;have z2:=hR.fz 2;have z3:=hR.fz 3;have z4:=hR.fz 4;obtain ⟨u0,u1,u2,u3,u4⟩:=RX.lay_at r ⟨none,0,AP,cP⟩ (W:=wr) (g:=w.heap.size+2) hR.ex;simp only[Nat.zero_add] at u0 u1 u2 u3 u4;have HU:=Y1 (And.intro u0 (And.intro u1 (And.intro u2 (And.intro u3 u4))));clear hfin hkp hKF hKB hR u0 u1 u2 u3 u4 hre hz hU hTw hSw;go_wp2;obtain ⟨u0,u1,u2,u3,u4⟩:=HU.out;unfold RX.lay at u0 u1 u2 u3 u4;refine bodyPost_ret (v:=sv r ⟨none,0,AP,cP⟩) (by simp[results,Tryz.results32,go_sem,u0,u1,u2,u3,u4]) rfl ?_;rw[HD.out, <-HRE.out];exact HF.out}
end SubM
end Go.Proofs.YtlomianlcnmfgaaGreatDoor
