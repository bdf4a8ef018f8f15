/- What the proofs of SubtypeJoins, SubtypeMeets want, part 19. -/
import Derived.Test.YtlomianlcnmfgaaGreatDoorK0n18
set_option linter.unusedVariables false
set_option linter.unusedSimpArgs false
set_option linter.unusedSectionVars false
set_option maxRecDepth 100000
set_option maxHeartbeats 16000000
namespace Go.Proofs.YtlomianlcnmfgaaGreatDoor
open Go.RowKit Shp Sub
namespace SubM
def RestIs (n0 hi:Nat) (r0:Sh) (L:List Fld) (w:World) (e:Ending) (w':World):Prop:=
 ∃q:Ptr,e= .returned (sv ⟨r0.kind,[],[],r0.names++L.map Prod.fst,r0.parts++L.map Prod.snd⟩ q)/\Upd (fun b=>hi<=b) w w'/\Kept (fun b=>b < n0\/hi<=b) w' (⟨r0.kind,[],[],r0.names++L.map Prod.fst,r0.parts++L.map Prod.snd⟩,q)
theorem Zck (r0 a b:Sh) (q0 pa pb:Ptr) (n0 hi:Nat) (w:World) (l0:List El) (ho:r0.of_= []) (hm:r0.name= []) (ha:ShAt w n0 pa a) (hb:ShAt w n0 pb b) (hn:n0<=hi) (hh:hi<=w.heap.size) (hA:Rec a) (hB:Rec b)
 (hlb:b.names.length<=400) (hln:r0.names.length<=400) (hlp:r0.parts.length<=400) (hnm: ∀x∈r0.names,x.length<=1000) (hl0:l0.map Prod.fst=r0.parts)
 (rN:w.ownsRow hi 9 1 (.slice q0.A r0.names.length q0.c) r0.names.length (namesE r0.names)) (rP:w.ownsRow hi 25 5 (.slice q0.P l0.length q0.d) l0.length (cellsE l0)) (ne:rowB q0.A=none\/rowB q0.A≠rowB q0.P) (kp: ∀x∈l0,Kept (Free n0 hi q0.A q0.P) w x):
 Calls Tryz.prog 45 #[.agg (Y8 r0 q0),.agg (Y8 a pa),.agg (Y8 b pb)] w (RestIs n0 hi r0 (left a b) w):=by
 obtain ⟨i0,hif0,hz0,hs0,hb0⟩:=Z0S Z1R;obtain ⟨i1,hif1,hz1,hsz1,hbz1⟩:=Z0S Z28;have hb1:=Z01 w (.cells (Y8 r0 q0) 25);obtain ⟨w1,hw1⟩: ∃w1,w1=w.alloc (.cells (Y8 r0 q0) 25):=⟨_,rfl⟩;have hs1:w1.heap.size=w.heap.size+1:=by rw[hw1]; simp
 have hb2:=Z01 w1 (.cells (Y8 a pa) 25);obtain ⟨w2,hw2⟩: ∃w2,w2=w1.alloc (.cells (Y8 a pa) 25):=⟨_,rfl⟩;have hs2:w2.heap.size=w.heap.size+2:=by rw[hw2]; simp[hs1]
 have hb3:=Z01 w2 (.cells (Y8 b pb) 25);obtain ⟨w3,hw3⟩: ∃w3,w3=w2.alloc (.cells (Y8 b pb) 25):=⟨_,rfl⟩;have hs3:w3.heap.size=w.heap.size+3:=by rw[hw3]; simp[hs2]
 have hb4:=Z01 w3 (.cells Yb 25);obtain ⟨w4,hw4⟩: ∃w4,w4=w3.alloc (.cells Yb 25):=⟨_,rfl⟩;have hs4:w4.heap.size=w.heap.size+4:=by rw[hw4]; simp[hs3]
 have hB1:Box5 w1 w.heap.size r0 q0:=by rw[hw1]; exact Z05 w r0 q0
 have hB2:Box5 w2 w1.heap.size a pa:=by rw[hw2]; exact Z05 w1 a pa
 have hB3:Box5 w3 w2.heap.size b pb:=by rw[hw3]; exact Z05 w2 b pb
 rw[<-hw1] at hb1;rw[<-hw2] at hb2;rw[<-hw3] at hb3;rw[<-hw4] at hb4;have hbw:=Z00 hb1 (Z00 hb2 (Z00 hb3 hb4));have hB14:=((hB1.next hb2).next hb3).next hb4;have hB24:=(hB2.next hb3).next hb4;have hB34:=hB3.next hb4;rw[hs1] at hB24;rw[hs2] at hB34;have hR4:Rc (w.heap.size+3) w4:=by have h:=Z0I hw4; rwa [hs3] at h
 have hu4:Upd (fun _=>False) w w4:=Upd.new hbw;have hll:l0.length=r0.parts.length:=by have:=congrArg List.length hl0; simpa using this
 have hK0:KBr w4 n0 hi w.heap.size (w.heap.size+4) (w.heap.size+3) r0.kind (r0.names++(leftTo a b 0).map Prod.fst) (r0.parts++(leftTo a b 0).map Prod.snd) l0 q0.A q0.c q0.P q0.d w4:=by
  have e0:leftTo a b 0= []:=by unfold leftTo; simp
  obtain ⟨_,⟨c0,c1,c2,c3,c4⟩,f0,f1,f2,f3,f4⟩:=hB14;simp only[Nat.zero_add] at c0 c1 c2 c3 c4;rw[e0,List.map_nil,List.map_nil,List.append_nil,List.append_nil];rw[ho] at c1;rw[hm] at c2;rw[<-hll] at c4;refine ⟨Upd.refl _ _,hn,hh,by omega,by omega,by omega,c0,c1,c2,c3,c4,fun j=> ?_,Z0g rN hu4 (fun _ _ h=>h),Z0g rP hu4 (fun _ _ h=>h),ne,fun b hb=>Or.inl (Z08 rN b hb),fun b hb=>Or.inl (Z08 rP b hb),hl0,fun x hx=> ?_,hR4⟩
  {have hz:w.heap.size < w1.heap.size:=by omega
   rw[((Upd.new (S:=fun _=>False) (Z00 hb2 (Z00 hb3 hb4))).frozen hz (fun h=>h)),hw1]; simp[go_sem]}
  {refine (kp x hx).move hu4 (fun b hb hf=>⟨fun h=>h, ?_⟩);rcases hf with hf | ⟨hf,f1,f2⟩
   {exact Or.inl hf}
   {exact Or.inr ⟨Or.inl ⟨hf,hb⟩,f1,f2⟩}}
 have HX2:=Y1 hB24;have HX3:=Y1 hB34;have HS:=Y1 (Z0a ha (Nat.le_trans hn hh) hu4 (fun _ _ h=>h));have HT:=Y1 (Z0a hb (Nat.le_trans hn hh) hu4 (fun _ _ h=>h));have HK0:=Y1 hK0;have HN:=Y1 (And.intro hn hh);have HZ4:=Y1 hs4;have HA:=Y1 hA;have HB:=Y1 hB;have HLT:=Y1 hlb;have HLN:=Y1 (And.intro hln (And.intro hlp hnm));have HBW:=Y1 hbw;obtain ⟨_,⟨a0,a1,a2,a3,a4⟩,_⟩:=hB24;obtain ⟨_,⟨b0,b1,b2,b3,b4⟩,_⟩:=hB34;simp only[Nat.zero_add] at a0 a1 a2 a3 a4 b0 b1 b2 b3 b4;have HW:Hid ((((w.alloc (.cells (Y8 r0 q0) 25)).alloc (.cells (Y8 a pa) 25)).alloc (.cells (Y8 b pb) 25)).alloc (.cells Yb 25)=w4):=Y1 (by rw[hw4,hw3,hw2,hw1]);clear hK0 hbw hR4 hu4 ha hb hn hh hA hB hb1 hb2 hb3 hb4 hs1 hs2 hs3 hs4 hB1 hB2 hB3 hB14 a0 a1 a2 a3 a4 b0 b1 b2 b3 b4 hlb hln hlp hnm hl0 rN rP ne kp ho hm hll;clear hw4 hw3 hw2 hw1;go_enter Tryz.func45,Tryz.ntmps45
 go_wp2_with fail
 rw[HW.out];clear HW
 go_loopw [7] (fun ii wr=> ∃i:Nat,ii= .int .i64 i/\i<=b.names.length/\Hid (∃l AN cN AP cP,KBr w4 n0 hi w.heap.size (w.heap.size+4) (w.heap.size+3) r0.kind (r0.names++(leftTo a b i).map Prod.fst) (r0.parts++(leftTo a b i).map Prod.snd) l AN cN AP cP wr)) (fun i _=>b.names.length - (intOf i).toNat)
 case atStart=>exact ⟨0,rfl,Nat.zero_le _,Y1 ⟨l0,_,_,_,_,HK0.out⟩⟩
 case round=>
  obtain ⟨i,rfl,hi5,HKB⟩:=hrel;obtain ⟨l,AN,cN,AP,cP,hKB⟩:=HKB.out;have hlt4:=HLT.out;have hU:=hKB.up;have hz4:=HZ4.out;have hn:=HN.out.1;have hh:=HN.out.2;have hx2:=Z0e HX2.out hU (by unfold Old; omega);have hx3:=Z0e HX3.out hU (by unfold Old; omega);have hTw:=Z0a HT.out (by omega) hU (fun x hx hs=>by unfold Old at hs; omega);have hSw:=Z0a HS.out (by omega) hU (fun x hx hs=>by unfold Old at hs; omega);obtain ⟨_,⟨a0,a1,a2,a3,a4⟩,_⟩:=hx2;obtain ⟨_,⟨b0,b1,b2,b3,b4⟩,_⟩:=hx3;simp only[Nat.zero_add] at a0 a1 a2 a3 a4 b0 b1 b2 b3 b4;by_cases hlt:i < b.names.length
  {have hi1: (i:Int) < (b.names.length:Int):=by omega
   have hip:i < b.parts.length:=by have:=HB.out.l; omega
   have hi2: (i:Int) < (b.parts.length:Int):=by omega
   rcases hTw.strs.cell7 with h0 | ⟨g,off,hqA,hg,hc⟩
   {omega}
   have hcx:=hc i hlt;obtain ⟨x,hx⟩: ∃x,x=b.names[i]'hlt:=⟨_,rfl⟩;rw[<-hx] at hcx;have HX:=Y1 hx;rcases hTw.part with h0 | ⟨g',off',qs,hqP,hg',hc',hra⟩
   {omega}
   have hY5:=hc' i hip;have hYA:=hra i hip;obtain ⟨z,hz⟩: ∃z,z=b.parts[i]'hip:=⟨_,rfl⟩;obtain ⟨qz,hqz⟩: ∃q,q=qs i:=⟨_,rfl⟩;rw[<-hz, <-hqz] at hY5 hYA;have HZP:=Y1 hz;have HIP:=Y1 hip;have HLTI:=Y1 hlt;have hwr:w.heap.size+4<=wr.heap.size:=hKB.zw;have hn0w:n0<=wr.heap.size:=by omega
   have HSW:=Y1 hSw;have HX2W:=Y1 (Z0e HX2.out hU (by unfold Old; omega));have HX3W:=Y1 (Z0e HX3.out hU (by unfold Old; omega));have HY5:=Y1 hY5;have HYA:=Y1 hYA;have HCX:=Y1 hcx;have HWR:=Y1 (And.intro hwr hn0w);have HG:=Y1 (And.intro hg hg');have HQA:=Y1 hqA;have HQP:=Y1 hqP;have HKW:=Y1 hKB;obtain ⟨p,hp⟩: ∃p,(get a x).getD Z0c=p:=⟨_,rfl⟩;obtain ⟨ok,hok⟩: ∃ok,(get a x).isSome=ok:=⟨_,rfl⟩;have HP:=Y1 (And.intro hp hok);clear hp hok hYA hz hqz hra hc' hc hx hg hg' hcx hqA hqP hU hTw hSw hKB hn0w hwr hz4 hn hh hY5
   go_wp2_with fail
   refine Z21 (rs:= [0,1,2,3,4,5,6,7,8,9,10,11,12])
    (fun u'=> { tmps:=#[.agg (Y8 r0 q0),.agg (Y8 a pa),.agg (Y8 b pb),.pointer (some { block:=w.heap.size,off:=0 }),.pointer (some { block:=w.heap.size+1,off:=0 }),.pointer (some { block:=w.heap.size+1+1,off:=0 }),.pointer (some { block:=w.heap.size+1+1+1,off:=0 }),.int .i64 ↑i,u' 10,u' 12,.int .i64 ↑i,.pointer (some { block:=w.heap.size+1+1,off:=3 }),.slice pb.A b.names.length pb.c,.int .i64 ↑b.names.length,.bool true,u15,u16,u' 7,u' 0,u' 1,u' 2,u' 3,u' 4,u' 5,u' 6,u' 8,u' 9,u27,u28,u29,u30,u31,u32,u33,u34,u35,u36,u37,u38,u39,u40,u41,u42,u43,u44,u45,u46,u47,u48,undef],defers:= [] })
    (fun j=>([u18,u19,u20,u21,u22,u23,u24,u17,u25,u26,u8,undef,u9]:List Value).getD j undef) (TakeN n0 wr (gtakeP (.agg (Y8 a pa)) (.pointer (some ⟨w.heap.size+2,3,none⟩)) (.slice (some ⟨g,off,none⟩) b.names.length pb.c) (.int .i64 (i:Int)) (.pointer (some ⟨g,off+i,none⟩)) (.string ⟨x.toArray⟩) n0 wr p ok) p) (by kernel_rfl) (by kernel_rfl) (by kernel_rfl) TakeN.start ?_ ?_
   refine StepsInv.cons _ rfl (fun d u' W K' hI hd hw hK=> ?_) ?_
   {obtain ⟨_,⟨y0,y1,y2,y3,y4⟩,_⟩:=HX2W.out.next hI.up;simp only[Nat.zero_add] at y0 y1 y2 y3 y4;refine Z02 (v:=(.agg (Y8 a pa))) (W':=W) rfl ?_ (hK.out _ _ (hI.step (by decide) (by decide) rfl Y2))
    try dsimp only
    go_simp}
   refine StepsInv.cons _ rfl (fun d u' W K' hI hd hw hK=> ?_) ?_
   {refine Z02 (v:=(.pointer (some ⟨w.heap.size+2,3,none⟩))) (W':=W) rfl ?_ (hK.out _ _ (hI.step (by decide) (by decide) rfl Y2))
    try dsimp only
    go_simp}
   refine StepsInv.cons _ rfl (fun d u' W K' hI hd hw hK=> ?_) ?_
   {have d1:u' 1=(.pointer (some ⟨w.heap.size+2,3,none⟩)):=hI.vals 1 (hw 1 (by kernel_rfl));obtain ⟨_,⟨y0,y1,y2,y3,y4⟩,_⟩:=HX3W.out.next hI.up;simp only[Nat.zero_add] at y0 y1 y2 y3 y4;rw[HQA.out] at y3;refine Z02 (v:=(.slice (some ⟨g,off,none⟩) b.names.length pb.c)) (W':=W) rfl ?_ (hK.out _ _ (hI.step (by decide) (by decide) rfl Y2))
    try dsimp only
    go_simp}
   refine StepsInv.cons _ rfl (fun d u' W K' hI hd hw hK=> ?_) ?_
   {refine Z02 (v:=(.int .i64 (i:Int))) (W':=W) rfl ?_ (hK.out _ _ (hI.step (by decide) (by decide) rfl Y2))
    try dsimp only
    go_simp}
   refine StepsInv.cons _ rfl (fun d u' W K' hI hd hw hK=> ?_) ?_
   {have d2:u' 2=(.slice (some ⟨g,off,none⟩) b.names.length pb.c):=hI.vals 2 (hw 2 (by kernel_rfl));have d3:u' 3=(.int .i64 (i:Int)):=hI.vals 3 (hw 3 (by kernel_rfl));refine Z02 (v:=(.pointer (some ⟨g,off+i,none⟩))) (W':=W) rfl ?_ (hK.out _ _ (hI.step (by decide) (by decide) rfl Y2))
    try dsimp only
    go_simp}
   refine StepsInv.cons _ rfl (fun d u' W K' hI hd hw hK=> ?_) ?_
   {have d4:u' 4=(.pointer (some ⟨g,off+i,none⟩)):=hI.vals 4 (hw 4 (by kernel_rfl));have hcx:=(hI.up.cell (p:=⟨g,off+i,none⟩) (show g < wr.heap.size by have:=HG.out.1; have:=HWR.out.2; omega)).trans HCX.out;refine Z02 (v:=(.string ⟨x.toArray⟩)) (W':=W) rfl ?_ (hK.out _ _ (hI.step (by decide) (by decide) rfl Y2))
    try dsimp only
    go_simp}
   refine StepsInv.cons _ rfl (fun d u' W K' hI hd hw hK=> ?_) ?_
   {have d0:u' 0=(.agg (Y8 a pa)):=hI.vals 0 (hw 0 (by kernel_rfl));have d5:u' 5=(.string ⟨x.toArray⟩):=hI.vals 5 (hw 5 (by kernel_rfl));refine Z0F (f:=44) (args:=#[(.agg (Y8 a pa)),(.string ⟨x.toArray⟩)]) (W':=W) rfl ?_ ((Zc5 (by have:=HWR.out.2; omega) HSW.out HA.out HP.out.1 HP.out.2 hI.up).mono fun e w' ⟨q,he,hs,hb⟩=>⟨_,he,hK.out _ _ (hI.step (by decide) (by decide) ⟨q,rfl,hs⟩ hb)⟩)
    try dsimp only
    go_simp}
   refine StepsInv.cons _ rfl (fun d u' W K' hI hd hw hK=> ?_) ?_
   {obtain ⟨q,d6,hs⟩:=hI.vals 6 (hw 6 (by kernel_rfl));refine Z02 (v:= .tuple #[.agg (Y8 p q),.bool ok]) (W':=W) rfl ?_ (hK.out _ _ (hI.step (by decide) (by decide) ⟨q,rfl,hs⟩ Y2))
    try dsimp only
    go_simp}
   refine StepsInv.cons _ rfl (fun d u' W K' hI hd hw hK=> ?_) ?_
   {obtain ⟨q,d7,hs⟩:=hI.vals 7 (hw 7 (by kernel_rfl));refine Z02 (v:= .agg (Y8 p q)) (W':=W) rfl ?_ (hK.out _ _ (hI.step (by decide) (by decide) ⟨q,rfl,hs⟩ Y2))
    try dsimp only
    go_simp}
   refine StepsInv.cons _ rfl (fun d u' W K' hI hd hw hK=> ?_) ?_
   {obtain ⟨q,d7,hs⟩:=hI.vals 7 (hw 7 (by kernel_rfl));refine Z02 (v:= .bool ok) (W':=W) rfl ?_ (hK.out _ _ (hI.step (by decide) (by decide) rfl Y2))
    try dsimp only
    go_simp}
   refine StepsInv.cons _ rfl (fun d u' W K' hI hd hw hK=> ?_) ?_
   {refine Z02 (v:= .pointer (some ⟨W.heap.size,0,none⟩)) (W':=W.alloc (.cells Yb 25)) rfl ?_ (hK.out _ _ (hI.alloc hd (fun _=>trivial)))
    try dsimp only
    go_simp}
   refine StepsInv.cons _ rfl (fun d u' W K' hI hd hw hK=> ?_) ?_
   {obtain ⟨q,d8,hs⟩:=hI.vals 8 (hw 8 (by kernel_rfl));obtain ⟨b',d10,hb1,hr⟩:=hI.al (hw 10 (by kernel_rfl)) hd;obtain ⟨v0,y0⟩:=hr.ex 0 (by omega);obtain ⟨v1,y1⟩:=hr.ex 1 (by omega);obtain ⟨v2,y2⟩:=hr.ex 2 (by omega);obtain ⟨v3,y3⟩:=hr.ex 3 (by omega);obtain ⟨v4,y4⟩:=hr.ex 4 (by omega);have z0:=hr.fz 0;have z1:=hr.fz 1;have z2:=hr.fz 2;have z3:=hr.fz 3;have z4:=hr.fz 4;refine Z0q (W':=RX.lay W b' p q) rfl ?_ (hK.out _ _ (hI.store (hw 10 (by kernel_rfl)) hd (fun _=>trivial) d10 hs));unfold RX.lay
    try dsimp only
    go_simp}
   refine StepsInv.cons _ rfl (fun d u' W K' hI hd hw hK=> ?_) StepsInv.nil
   {have d9:u' 9= .bool ok:=hI.vals 9 (hw 9 (by kernel_rfl));refine Z02 (v:= .bool ok) (W':=W) rfl ?_ (hK.out _ _ (hI.step (by decide) (by decide) rfl Y2))
    try dsimp only
    go_simp}
   intro dd z' W2 hI hdn
   try dsimp only
   obtain ⟨h10,b',q,z10,hb1,hs,hbx⟩:=hI.st (hdn 11 (by decide));rw[z10,show z' 12= .bool ok from hI.vals 12 (hdn 12 (by decide))];have hb3:=hI.up;clear hI hdn h10 z10 a0 a1 a2 a3 a4 b0 b1 b2 b3 b4 hbx hs hb1;have HKP:=Y1 (HKW.out.new hb3);have HTB:=Y1 (HX3W.out.next hb3);have HY5W:=Y1 (HY5.out.keep (show g' < wr.heap.size by have:=HG.out.2; have:=HWR.out.2; omega) hb3);have HYAW:=Y1 (Z0a HYA.out (by have:=HWR.out.2; omega) (Upd.new (S:=fun _=>False) hb3) (fun _ _ h=>h));have HCN:=Y1 ((hb3.cell (p:=⟨g,off+i,none⟩) (show g < wr.heap.size by have:=HG.out.1; have:=HWR.out.2; omega)).trans HCX.out);have HZW:Hid (n0<=W2.heap.size):=Y1 (by have:=HWR.out.2; have:=hb3.size; omega);clear hb3;cases ok with
   | true=>
    have hnone: (get a (b.names[i]'HLTI.out)).isNone=false:=by
     have h:=HP.out.2; rw[<-HX.out]; cases hq:get a x with
     | none=>rw[hq] at h; cases h
     | some v=>rfl
    have HNX:=Y1 (ZcE (a:=a) HLTI.out HIP.out);rw[hnone] at HNX;simp only[Bool.false_eq_true,if_false,List.append_nil] at HNX;have hlti:=HLTI.out;clear hnone;go_wp2
    go_roundw
    case rel=>exact ⟨i+1,by go_num,by omega,Y1 ⟨l,AN,cN,AP,cP,by rw[HNX.out]; exact HKP.out⟩⟩
    case measure=>simp[intOf]; omega
   | false=>
    have hnone: (get a (b.names[i]'HLTI.out)).isNone=true:=by
     have h:=HP.out.2; rw[<-HX.out]; cases hq:get a x with
     | none=>rfl
     | some v=>rw[hq] at h; cases h
    have HNX:=Y1 (ZcE (a:=a) HLTI.out HIP.out);rw[hnone] at HNX;simp only[if_true] at HNX;clear hnone;obtain ⟨nl,hnl⟩: ∃nl,nl=r0.names++(leftTo a b i).map Prod.fst:=⟨_,rfl⟩;obtain ⟨pl,hpl⟩: ∃pl,pl=r0.parts++(leftTo a b i).map Prod.snd:=⟨_,rfl⟩;have hlN:nl.length<=800:=by
     rw[hnl,List.length_append];have h1:=(Zc9 (a:=a) (i:=i) HB.out).length_le;have:=HLN.out.1; have:=HLT.out; omega
    have hlP:pl.length=nl.length+r0.parts.length - r0.names.length/\pl.length<=800:=by
     rw[hpl,hnl,List.length_append,List.length_append,List.length_map,List.length_map];have h1:=(Zc9 (a:=a) (i:=i) HB.out).length_le;rw[List.length_map] at h1;have:=HLN.out.1; have:=HLN.out.2.1; have:=HLT.out; omega
    have HNL:=Y1 (And.intro hnl hpl);have HLL:=Y1 (And.intro hlN hlP.2);have HKQ:=HKP;rw[<-hnl, <-hpl] at HKQ;have hX: (NR.mk W2 w.heap.size hi AN cN nl (w.heap.size+2) g off b.names.length pb.c i x).Good:=by
     obtain ⟨_,⟨c0,c1,c2,c3,c4⟩,_⟩:=HTB.out;simp only[Nat.zero_add] at c3;rw[HQA.out] at c3;have hzw:=HKQ.out.zw;have hg:=HKQ.out.hg;refine ⟨HKQ.out.gw,HKQ.out.hg,HKQ.out.noN (c:=w.heap.size) (Nat.le_refl _) (by omega),HKQ.out.c3,HKQ.out.fz,HKQ.out.rN,⟨⟨by show w.heap.size+2 < W2.heap.size; omega,fun h=> ?_⟩,c3⟩,⟨⟨by show g < W2.heap.size; have:=HG.out.1; have:=HZW.out; omega,fun h=> ?_⟩,HCN.out⟩,by show nl.length<=1000; omega⟩
     {rcases h with h | h
      {have h:w.heap.size+2=w.heap.size:=h;omega}
      {exact HKQ.out.noN (c:=w.heap.size+2) (by omega) (by omega) h}}
     {rcases h with h | h
      {have h:g=w.heap.size:=h;have:=HG.out.1; have:=HN.out; omega}
      {have:=(Z08 HKQ.out.rN g h).1; have:=HG.out.1; have:=HN.out; omega}}
    have HXN:=Y1 hX;clear hX hnl hpl hlN hlP
    go_wp2_with fail
    refine Z1u (rs:= [0,1,2,3,4,5,6,7,8,9,10])
     (fun u'=> { tmps:=#[.agg (Y8 r0 q0),.agg (Y8 a pa),.agg (Y8 b pb),.pointer (some { block:=w.heap.size,off:=0 }),.pointer (some { block:=w.heap.size+1,off:=0 }),.pointer (some { block:=w.heap.size+1+1,off:=0 }),.pointer (some { block:=w.heap.size+1+1+1,off:=0 }),.int .i64 ↑i,.pointer (some { block:=b',off:=0 }),.bool false,.int .i64 ↑i,.pointer (some { block:=w.heap.size+1+1,off:=3 }),.slice pb.A b.names.length pb.c,.int .i64 ↑b.names.length,.bool true,u15,u16,z' 7,z' 0,z' 1,z' 2,z' 3,z' 4,z' 5,z' 6,z' 8,z' 9,.bool false,.bool true,u' 0,u' 1,u' 2,u' 3,u' 4,u' 5,u' 6,u' 7,u' 8,u' 9,u39,u40,u41,u42,u43,u44,u45,u46,u47,u48,undef],defers:= [] })
     (fun j=>([u29,u30,u31,u32,u33,u34,u35,u36,u37,u38,undef]:List Value).getD j undef) (NR.RI2 ⟨W2,w.heap.size,hi,AN,cN,nl,w.heap.size+2,g,off,b.names.length,pb.c,i,x⟩) (by kernel_rfl) (by kernel_rfl) (by kernel_rfl) HXN.out.start ?_ ?_
    refine StepsInv.cons2 _ rfl (fun d u' W K' hs hI hd hw hK=> ?_) ?_
    {refine Z02 (v:= .pointer (some ⟨w.heap.size,3,none⟩)) (W':=W) rfl ?_ (hK.out _ _ (hI.pure (by decide) (fun v' h=>by cases h; rfl)));go_simp}
    refine StepsInv.cons2 _ rfl (fun d u' W K' hs hI hd hw hK=> ?_) ?_
    {have d0:u' 0= .pointer (some ⟨w.heap.size,3,none⟩):=hI.vals 0 (hw 0 (by kernel_rfl)) _ rfl;have h10:d 10=false:=Z0i hs rfl (by kernel_rfl) hd;have c3:=hI.c3;rw[h10] at c3;simp only[Bool.false_eq_true,if_false] at c3;change W.cell? ⟨w.heap.size,3,none⟩=_ at c3;refine Z02 (v:= .slice AN nl.length cN) (W':=W) rfl ?_ (hK.out _ _ (hI.pure (by decide) (fun v' h=>by cases h; rfl)));go_simp}
    refine StepsInv.cons2 _ rfl (fun d u' W K' hs hI hd hw hK=> ?_) ?_
    {refine Z02 (v:= .pointer (some ⟨w.heap.size+2,3,none⟩)) (W':=W) rfl ?_ (hK.out _ _ (hI.pure (by decide) (fun v' h=>by cases h; rfl)));go_simp}
    refine StepsInv.cons2 _ rfl (fun d u' W K' hs hI hd hw hK=> ?_) ?_
    {have d2:u' 2= .pointer (some ⟨w.heap.size+2,3,none⟩):=hI.vals 2 (hw 2 (by kernel_rfl)) _ rfl;obtain ⟨c3,_⟩:=hI.look HXN.out
     try dsimp only at c3
     refine Z02 (v:= .slice (some ⟨g,off,none⟩) b.names.length pb.c) (W':=W) rfl ?_ (hK.out _ _ (hI.pure (by decide) (fun v' h=>by cases h; rfl)));go_simp}
    refine StepsInv.cons2 _ rfl (fun d u' W K' hs hI hd hw hK=> ?_) ?_
    {refine Z02 (v:= .int .i64 (i:Int)) (W':=W) rfl ?_ (hK.out _ _ (hI.pure (by decide) (fun v' h=>by cases h; rfl)));go_simp}
    refine StepsInv.cons2 _ rfl (fun d u' W K' hs hI hd hw hK=> ?_) ?_
    {have d3:u' 3= .slice (some ⟨g,off,none⟩) b.names.length pb.c:=hI.vals 3 (hw 3 (by kernel_rfl)) _ rfl;have d4:u' 4= .int .i64 (i:Int):=hI.vals 4 (hw 4 (by kernel_rfl)) _ rfl;refine Z02 (v:= .pointer (some ⟨g,off+i,none⟩)) (W':=W) rfl ?_ (hK.out _ _ (hI.pure (by decide) (fun v' h=>by cases h; rfl)));go_simp}
    refine StepsInv.cons2 _ rfl (fun d u' W K' hs hI hd hw hK=> ?_) ?_
    {have d5:u' 5= .pointer (some ⟨g,off+i,none⟩):=hI.vals 5 (hw 5 (by kernel_rfl)) _ rfl;obtain ⟨_,c3⟩:=hI.look HXN.out
     try dsimp only at c3
     refine Z02 (v:= .string ⟨x.toArray⟩) (W':=W) rfl ?_ (hK.out _ _ (hI.pure (by decide) (fun v' h=>by cases h; rfl)));go_simp}
    refine StepsInv.cons2 _ rfl (fun d u' W K' hs hI hd hw hK=> ?_) ?_
    {have d6:u' 6= .string ⟨x.toArray⟩:=hI.vals 6 (hw 6 (by kernel_rfl)) _ rfl;have h8:d 8=false:=Z0i hs rfl (by kernel_rfl) hd;refine Z02 (v:= .slice (some ⟨W.heap.size,0,none⟩) 1 1) (W':=W.alloc (.cells #[.string ⟨x.toArray⟩] 9)) rfl ?_ (hK.out _ _ (hI.s7 HXN.out h8));go_simp}
    refine StepsInv.cons2 _ rfl (fun d u' W K' hs hI hd hw hK=> ?_) ?_
    {have d1:u' 1= .slice AN nl.length cN:=hI.vals 1 (hw 1 (by kernel_rfl)) _ rfl;obtain ⟨zz,d7,z1,z2,z3⟩:=hI.f7 (hw 7 (by kernel_rfl)) hd;have h10:d 10=false:=Z0i hs rfl (by kernel_rfl) hd;have hln:=HXN.out.ln;have hsz:=hI.up.size;have hhw:hi<=W.heap.size:=by have:=HKQ.out.hg; have:=hI.gmw HXN.out; change w.heap.size < _ at this; omega
     refine step_append_lies W rfl _ _ 22 rfl hi 9 i1 (.string ByteArray.empty) 1 16 Tryz.underlying22 hif1 hz1 hsz1 hbz1 rfl (by decide) _ _ _ (by show u' 1=_; exact d1) (hI.n0 hd) ⟨zz,0,none⟩ 1 1 [.string ⟨x.toArray⟩] (by show u' 7=_; exact d7) rfl (fun j v hv=>by
      rcases j with _ | j
      {rw[Z0f,z3]; simpa using hv}
      · simp at hv) (by intro v hv; simp at hv; subst hv; rfl) (by decide) (by show nl.length+1<=maxLen; unfold maxLen; change nl.length<=1000 at hln; omega) (by show (nl.length+1) * 16<=140737488355328; change nl.length<=1000 at hln; omega) (by exact hhw) _ rfl ?_
     intro g1 cp W' hown hg hat hlt;rw[rowB_own] at hg hat;exact hK.out _ _ (hI.s8 HXN.out h10 hown hg hat)}
    refine StepsInv.cons2 _ rfl (fun d u' W K' hs hI hd hw hK=> ?_) ?_
    {refine Z02 (v:= .pointer (some ⟨w.heap.size,3,none⟩)) (W':=W) rfl ?_ (hK.out _ _ (hI.pure (by decide) (fun v' h=>by cases h; rfl)));go_simp}
    refine StepsInv.cons2 _ rfl (fun d u' W K' hs hI hd hw hK=> ?_) StepsInv.nil
    {have d9:u' 9= .pointer (some ⟨w.heap.size,3,none⟩):=hI.vals 9 (hw 9 (by kernel_rfl)) _ rfl;have w8:=hw 8 (by kernel_rfl);obtain ⟨g1,c,e,_⟩:=hI.n1 w8;change u' 8= .slice (some ⟨g1,0,none⟩) (nl.length+1) c at e;have hst:=hI.s10 HXN.out w8;have cc:=hI.c3;rw[hd] at cc;simp only[Bool.false_eq_true,if_false] at cc;change W.cell? ⟨w.heap.size,3,none⟩=_ at cc;have hfz:=hI.fz 3;change W.frozen? ⟨w.heap.size,3,none⟩=_ at hfz;rw[e] at hst;change NR.RI2 _ _ _ (W.setCell ⟨w.heap.size,3,none⟩ _) at hst;refine Z0q (W':=W.setCell ⟨w.heap.size,3,none⟩ (.slice (some ⟨g1,0,none⟩) (nl.length+1) c)) rfl ?_ (hK.out undef _ hst);go_simp}
    intro dd2 z2' W5 hI hdn
    try dsimp only
    obtain ⟨AN',cN',hK5,hr5,hU5⟩:=NR.done (gm:=w.heap.size) (hi:=hi) (n0:=n0) (z:=w.heap.size+4) (rc:=w.heap.size+3) hI HXN.out (fun j hj=>hdn j (by show j < 11; omega)) rfl rfl rfl rfl rfl HKQ.out;change Upd (fun b=>b=w.heap.size\/rowB AN=some b) W2 W5 at hU5;change KBr _ _ _ _ _ _ _ (nl++ [x]) _ _ _ _ _ _ _ at hK5;clear hI hdn;have hT5: ∀c,(w.heap.size < c/\c < w.heap.size+4)\/c < n0-> ¬(c=w.heap.size\/rowB AN=some c):=fun c hc h=>by
     have hn:=HN.out;rcases h with h | h
     {omega}
     {have h1:=HKQ.out.nN c h;unfold Old at h1;omega}
    have HK5:=Y1 hK5;have hl5:=hK5.len;have hTB5:=Z0e HTB.out hU5 (hT5 _ (Or.inl ⟨by omega,by omega⟩));have HY5W5:Hid (Sh5 W5 g' (off'+i * 5) z qz):=Y1 (HY5W.out.of (fun k=>hU5.cell (by have:=HG.out.2; have:=HZW.out; omega) (hT5 _ (Or.inr HG.out.2))));have HYAW5:=Y1 (Z0a HYAW.out HZW.out hU5 (fun c hc=>hT5 c (Or.inr hc)));have HS5:=Y1 hU5.size;have hX: (PR.mk W5 w.heap.size hi AP cP l (w.heap.size+2) g' off' b.parts.length pb.d i (z,qz)).Good:=by
     obtain ⟨_,⟨c0,c1,c2,c3,c4⟩,_⟩:=hTB5;simp only[Nat.zero_add] at c4;rw[HQP.out] at c4;have hzw:=HK5.out.zw;have hg:=HK5.out.hg;refine ⟨HK5.out.gw,HK5.out.hg,HK5.out.noP (c:=w.heap.size) (Nat.le_refl _) (by omega),HK5.out.c4,HK5.out.fz,HK5.out.rP,⟨⟨by show w.heap.size+2 < W5.heap.size; omega,fun h=> ?_⟩,c4⟩,⟨⟨by show g' < W5.heap.size; have:=HG.out.2; have:=HZW.out; have:=HS5.out; omega,fun h=> ?_⟩,HY5W5.out⟩,by show l.length<=1000; rw[hl5]; have:=HLL.out.2; omega⟩
     {rcases h with h | h
      {have h:w.heap.size+2=w.heap.size:=h;omega}
      {exact HK5.out.noP (c:=w.heap.size+2) (by omega) (by omega) h}}
     {rcases h with h | h
      {have h:g'=w.heap.size:=h;have:=HG.out.2; have:=HN.out; omega}
      {have:=(Z08 HK5.out.rP g' h).1; have:=HG.out.2; have:=HN.out; omega}}
    have HXP:=Y1 hX;clear hX hK5 hr5 hU5 hT5 hTB5 hl5
    go_wp2_with fail
    refine Z1u (rs:= [0,1,2,3,4,5,6,7,8,9,10])
     (fun u'=> { tmps:=#[.agg (Y8 r0 q0),.agg (Y8 a pa),.agg (Y8 b pb),.pointer (some { block:=w.heap.size,off:=0 }),.pointer (some { block:=w.heap.size+1,off:=0 }),.pointer (some { block:=w.heap.size+1+1,off:=0 }),.pointer (some { block:=w.heap.size+1+1+1,off:=0 }),.int .i64 ↑i,.pointer (some { block:=b',off:=0 }),.bool false,.int .i64 ↑i,.pointer (some { block:=w.heap.size+1+1,off:=3 }),.slice pb.A b.names.length pb.c,.int .i64 ↑b.names.length,.bool true,u15,u16,z' 7,z' 0,z' 1,z' 2,z' 3,z' 4,z' 5,z' 6,z' 8,z' 9,.bool false,.bool true,z2' 0,z2' 1,z2' 2,z2' 3,z2' 4,z2' 5,z2' 6,z2' 7,z2' 8,z2' 9,u' 0,u' 1,u' 2,u' 3,u' 4,u' 5,u' 6,u' 7,u' 8,u' 9,undef],defers:= [] })
     (fun j=>([u39,u40,u41,u42,u43,u44,u45,u46,u47,u48,undef]:List Value).getD j undef) (PR.RI2 ⟨W5,w.heap.size,hi,AP,cP,l,w.heap.size+2,g',off',b.parts.length,pb.d,i,(z,qz)⟩) (by kernel_rfl) (by kernel_rfl) (by kernel_rfl) HXP.out.start ?_ ?_
    refine StepsInv.cons2 _ rfl (fun d u' W K' hs hI hd hw hK=> ?_) ?_
    {refine Z02 (v:= .pointer (some ⟨w.heap.size,4,none⟩)) (W':=W) rfl ?_ (hK.out _ _ (hI.pure (by decide) (fun v' h=>by cases h; rfl)));go_simp}
    refine StepsInv.cons2 _ rfl (fun d u' W K' hs hI hd hw hK=> ?_) ?_
    {have d0:u' 0= .pointer (some ⟨w.heap.size,4,none⟩):=hI.vals 0 (hw 0 (by kernel_rfl)) _ rfl;have h10:d 10=false:=Z0i hs rfl (by kernel_rfl) hd;have c3:=hI.c3;rw[h10] at c3;simp only[Bool.false_eq_true,if_false] at c3;change W.cell? ⟨w.heap.size,4,none⟩=_ at c3;refine Z02 (v:= .slice AP l.length cP) (W':=W) rfl ?_ (hK.out _ _ (hI.pure (by decide) (fun v' h=>by cases h; rfl)));go_simp}
    refine StepsInv.cons2 _ rfl (fun d u' W K' hs hI hd hw hK=> ?_) ?_
    {refine Z02 (v:= .pointer (some ⟨w.heap.size+2,4,none⟩)) (W':=W) rfl ?_ (hK.out _ _ (hI.pure (by decide) (fun v' h=>by cases h; rfl)));go_simp}
    refine StepsInv.cons2 _ rfl (fun d u' W K' hs hI hd hw hK=> ?_) ?_
    {have d2:u' 2= .pointer (some ⟨w.heap.size+2,4,none⟩):=hI.vals 2 (hw 2 (by kernel_rfl)) _ rfl;obtain ⟨c3,_⟩:=hI.look HXP.out
     try dsimp only at c3
     refine Z02 (v:= .slice (some ⟨g',off',none⟩) b.parts.length pb.d) (W':=W) rfl ?_ (hK.out _ _ (hI.pure (by decide) (fun v' h=>by cases h; rfl)));go_simp}
    refine StepsInv.cons2 _ rfl (fun d u' W K' hs hI hd hw hK=> ?_) ?_
    {refine Z02 (v:= .int .i64 (i:Int)) (W':=W) rfl ?_ (hK.out _ _ (hI.pure (by decide) (fun v' h=>by cases h; rfl)));go_simp}
    refine StepsInv.cons2 _ rfl (fun d u' W K' hs hI hd hw hK=> ?_) ?_
    {have d3:u' 3= .slice (some ⟨g',off',none⟩) b.parts.length pb.d:=hI.vals 3 (hw 3 (by kernel_rfl)) _ rfl;have d4:u' 4= .int .i64 (i:Int):=hI.vals 4 (hw 4 (by kernel_rfl)) _ rfl;refine Z02 (v:= .pointer (some ⟨g',off'+i * 5,none⟩)) (W':=W) rfl ?_ (hK.out _ _ (hI.pure (by decide) (fun v' h=>by cases h; rfl)));go_simp}
    refine StepsInv.cons2 _ rfl (fun d u' W K' hs hI hd hw hK=> ?_) ?_
    {have d5:u' 5= .pointer (some ⟨g',off'+i * 5,none⟩):=hI.vals 5 (hw 5 (by kernel_rfl)) _ rfl;obtain ⟨_,y0,y1,y2,y3,y4⟩:=hI.look HXP.out
     try dsimp only at y0 y1 y2 y3 y4
     refine Z02 (v:= .agg (Y8 z qz)) (W':=W) rfl ?_ (hK.out _ _ (hI.pure (by decide) (fun v' h=>by cases h; rfl)));go_simp}
    refine StepsInv.cons2 _ rfl (fun d u' W K' hs hI hd hw hK=> ?_) ?_
    {have d6:u' 6= .agg (Y8 z qz):=hI.vals 6 (hw 6 (by kernel_rfl)) _ rfl;have h8:d 8=false:=Z0i hs rfl (by kernel_rfl) hd;refine Z02 (v:= .slice (some ⟨W.heap.size,0,none⟩) 1 1) (W':=W.alloc (.cells (Y8 z qz) 25)) rfl ?_ (hK.out _ _ (hI.s7 HXP.out h8));go_simp}
    refine StepsInv.cons2 _ rfl (fun d u' W K' hs hI hd hw hK=> ?_) ?_
    {have d1:u' 1= .slice AP l.length cP:=hI.vals 1 (hw 1 (by kernel_rfl)) _ rfl;obtain ⟨zz,d7,z1,z2,z3⟩:=hI.f7 (hw 7 (by kernel_rfl)) hd;have h10:d 10=false:=Z0i hs rfl (by kernel_rfl) hd;have hln:=HXP.out.ln;have hsz:=hI.up.size;have hhw:hi<=W.heap.size:=by have:=HKQ.out.hg; have:=hI.gmw HXP.out; change w.heap.size < _ at this; omega
     refine step_append_lies W rfl _ _ 23 rfl hi 25 i0 (.agg #[.int .i64 0,.string ByteArray.empty,.string ByteArray.empty,.slice none 0 0,.slice none 0 0]) 5 88 Tryz.underlying23 hif0 hz0 hs0 hb0 rfl (by decide) _ _ _ (by show u' 1=_; exact d1) (hI.n0 hd) ⟨zz,0,none⟩ 1 1 (cells5 (z,qz)) (by show u' 7=_; exact d7) rfl (fun j v hv=>by
      rw[Z0f,Nat.zero_add]; exact z3 j v hv) (cells5_one _) (by decide) (by show l.length+1<=maxLen; unfold maxLen; change l.length<=1000 at hln; omega) (by show (l.length+1) * 88<=140737488355328; change l.length<=1000 at hln; omega) (by exact hhw) _ rfl ?_
     intro g1 cp W' hown hg hat hlt;rw[rowB_own] at hg hat;exact hK.out _ _ (hI.s8 HXP.out h10 hown hg hat)}
    refine StepsInv.cons2 _ rfl (fun d u' W K' hs hI hd hw hK=> ?_) ?_
    {refine Z02 (v:= .pointer (some ⟨w.heap.size,4,none⟩)) (W':=W) rfl ?_ (hK.out _ _ (hI.pure (by decide) (fun v' h=>by cases h; rfl)));go_simp}
    refine StepsInv.cons2 _ rfl (fun d u' W K' hs hI hd hw hK=> ?_) StepsInv.nil
    {have d9:u' 9= .pointer (some ⟨w.heap.size,4,none⟩):=hI.vals 9 (hw 9 (by kernel_rfl)) _ rfl;have w8:=hw 8 (by kernel_rfl);obtain ⟨g1,c,e,_⟩:=hI.n1 w8;change u' 8= .slice (some ⟨g1,0,none⟩) (l.length+1) c at e;have hst:=hI.s10 HXP.out w8;have cc:=hI.c3;rw[hd] at cc;simp only[Bool.false_eq_true,if_false] at cc;change W.cell? ⟨w.heap.size,4,none⟩=_ at cc;have hfz:=hI.fz 4;change W.frozen? ⟨w.heap.size,4,none⟩=_ at hfz;rw[e] at hst;change PR.RI2 _ _ _ (W.setCell ⟨w.heap.size,4,none⟩ _) at hst;refine Z0q (W':=W.setCell ⟨w.heap.size,4,none⟩ (.slice (some ⟨g1,0,none⟩) (l.length+1) c)) rfl ?_ (hK.out undef _ hst);go_simp}
    intro dd3 z3' W6 hI hdn
    try dsimp only
    obtain ⟨AP',cP',hK6,hU6⟩:=PR.done (gm:=w.heap.size) (hi:=hi) (n0:=n0) (z:=w.heap.size+4) (rc:=w.heap.size+3) hI HXP.out (fun j hj=>hdn j (by show j < 11; omega)) rfl rfl rfl rfl rfl (Kept.old HYAW5.out (by show n0<=W5.heap.size; have:=HZW.out; have:=HS5.out; omega) (fun b hb=>hb)) HK5.out;change KBr _ _ _ _ _ _ _ _ (pl++ [z]) (l++ [(z,qz)]) _ _ _ _ _ at hK6;have HEND:Hid (∃l AN cN AP cP,KBr w4 n0 hi w.heap.size (w.heap.size+4) (w.heap.size+3) r0.kind (r0.names++(leftTo a b (i+1)).map Prod.fst) (r0.parts++(leftTo a b (i+1)).map Prod.snd) l AN cN AP cP W6):=Y1 ⟨_,_,_,_,_,by
     rw[HNX.out,List.map_append,List.map_append, <-List.append_assoc, <-List.append_assoc, <-HNL.out.1, <-HNL.out.2,List.map_singleton,List.map_singleton, <-HX.out, <-HZP.out];exact hK6⟩
    have hlti:=HLTI.out;clear hI hdn hK6 hU6;go_wp2
    go_roundw
    case rel=>exact ⟨i+1,by go_num,by omega,HEND⟩
    case measure=>simp[intOf]; omega}
  {have hi1: ¬(i:Int) < (b.names.length:Int):=by omega
   obtain rfl:i=b.names.length:=by omega
   have hKF:=hKB;rw[ZcP HB.out] at hKF;obtain ⟨r,hre⟩: ∃r:Sh,r=⟨r0.kind,[],[],r0.names++(left a b).map Prod.fst,r0.parts++(left a b).map Prod.snd⟩:=⟨_,rfl⟩;have hnn:=Zc9 (a:=a) (i:=b.names.length) HB.out;rw[ZcP HB.out] at hnn;have hnl:=hnn.length_le;have hnl2: (left a b).length<=400:=by have:=hnl; rw[List.length_map] at this; omega
   obtain ⟨h5,hkp⟩:=hKF.fin (fun x hx=>by
    rcases List.mem_append.1 hx with hx | hx
    {exact HLN.out.2.2 x hx}
    · have:=Z1l (HB.out.isName (hnn.subset hx)); omega) (by rw[List.length_append]; have:=HLN.out.1; omega) (by rw[List.length_append,List.length_map]; have:=HLN.out.2.1; omega)
   rw[<-hre] at h5 hkp;have HRE:=Y1 hre;have HKP:=Y1 hkp;have hR:=hKF.rr;have HUW:Hid (Upd (fun b=>hi<=b) w wr):=Y1 ((Upd.new (S:=fun b=>hi<=b) HBW.out).trans (hU.mono (fun b _ hb=>by unfold Old at hb; omega)));obtain ⟨x0,x1,x2,x3,x4⟩:=h5;simp only[Nat.zero_add] at x0 x1 x2 x3 x4;obtain ⟨v0,y0⟩:=hR.ex 0 (by omega);obtain ⟨v1,y1⟩:=hR.ex 1 (by omega);obtain ⟨v2,y2⟩:=hR.ex 2 (by omega);obtain ⟨v3,y3⟩:=hR.ex 3 (by omega);obtain ⟨v4,y4⟩:=hR.ex 4 (by omega);have z0:=hR.fz 0;have z1:=hR.fz 1;have z2:=hR.fz 2;have z3:=hR.fz 3;have z4:=hR.fz 4;obtain ⟨u0,u1,u2,u3,u4⟩:=RX.lay_at r ⟨AN,cN,AP,cP⟩ (W:=wr) (g:=w.heap.size+3) hR.ex;simp only[Nat.zero_add] at u0 u1 u2 u3 u4;have HU:=Y1 (And.intro u0 (And.intro u1 (And.intro u2 (And.intro u3 u4))));clear hkp hKF hKB hR u0 u1 u2 u3 u4 hre hU hTw hSw hnn hnl hnl2;go_wp2;obtain ⟨u0,u1,u2,u3,u4⟩:=HU.out;unfold RX.lay at u0 u1 u2 u3 u4;refine bodyPost_ret (v:=sv r ⟨AN,cN,AP,cP⟩) (by simp[results,Tryz.results45,go_sem,u0,u1,u2,u3,u4]) rfl ?_;have hul:=RX.lay_upd wr (w.heap.size+3) r ⟨AN,cN,AP,cP⟩;refine ⟨⟨AN,cN,AP,cP⟩,by rw[HRE.out],HUW.out.trans (hul.mono (fun b _ hb=>by show hi<=b; omega)), ?_⟩;rw[<-HRE.out];refine (HKP.out.upd hul (fun b _ hb e=> ?_)).more (fun b _ hb=> ?_)
   {have e:b=w.heap.size+3:=e;unfold Old at hb;omega}
   {unfold Old at hb;rcases hb with hb | hb
    {exact Or.inl hb}
    {exact Or.inr (by omega)}}}
end SubM
end Go.Proofs.YtlomianlcnmfgaaGreatDoor
namespace Go.Proofs.YtlomianlcnmfgaaGreatDoor
open Go.RowKit Shp Sub
namespace SubM
def DocF (f:Nat):Prop:=
 ∀(up:Bool) (a b:Sh) (pa pb:Ptr) (n0:Nat) (w:World),Two f a b->ShAt w n0 pa a->ShAt w n0 pb b->n0<=w.heap.size->
  Calls Tryz.prog (dfn up) #[.agg (Y8 a pa),.agg (Y8 b pb)] w (GetIs n0 (bound f up a b) w)
def getT (v0 v1 v2 v3 v4 v5 v6 v7:Value):Nat->Value->Prop
 | 0,v=>v=v0
 | 1,v=>v=v1
 | 2,v=>v=v2
 | 3,v=>v=v3
 | 4,v=>v=v4
 | 5,v=>v=v5
 | 6,v=>v=v6
 | 7,v=>v=v7
 | _,_=>True
theorem Zc2 {o:Option Sh} {r:Sh} {q:Ptr} {n0 hi rc:Nat} {w W:World} (ho:o=some r) (hn:n0<=w.heap.size) (h1:w.heap.size<=rc) (h2:rc < hi) (hb:Below w.heap.size w W) (hk:Kept (fun b=>b < n0\/hi<=b) W (r,q)):
 GetIs n0 o w (.returned (.tuple #[sv r q,.bool true])) (RX.lay W rc r q):=by
 have hu:=RX.lay_upd W rc r q;refine ⟨r,q,by rw[ho]; rfl,hb.trans (hu.below hb.size (fun x hx=>by omega)),fun j hj=> ?_⟩;rw[ho] at hj;cases hj;exact ⟨rfl,hk.move hu (fun b _ hf=>⟨fun e=>by have e:b=rc:=e; rcases hf with hf | hf <;> omega,by rcases hf with hf | hf <;> omega⟩)⟩
theorem get_none {o:Option Sh} {n0 rc:Nat} {w W:World} (ho:o=none) (h1:w.heap.size<=rc) (hb:Below w.heap.size w W):
 GetIs n0 o w (.returned (.tuple #[.agg #[.int .i64 0,.string ⟨#[]⟩,.string ⟨#[]⟩,.slice none 0 0,.slice none 0 0],.bool false])) (put5 W rc (.int .i64 0) (.string ⟨#[]⟩) (.string ⟨#[]⟩) (.slice none 0 0) (.slice none 0 0)):=
 ⟨Z0c,noneQ12,by rw[ho]; rfl,Z1n hb h1 _ _ _ _ _,fun j hj=>by rw[ho] at hj; cases hj⟩
end SubM
end Go.Proofs.YtlomianlcnmfgaaGreatDoor
