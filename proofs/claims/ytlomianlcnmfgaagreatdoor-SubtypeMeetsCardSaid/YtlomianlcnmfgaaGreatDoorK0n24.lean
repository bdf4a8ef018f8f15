/- What the proofs of SubtypeJoins, SubtypeMeets want, part 24. -/
import Derived.Test.YtlomianlcnmfgaaGreatDoorK0n19
set_option linter.unusedVariables false
set_option linter.unusedSimpArgs false
set_option linter.unusedSectionVars false
set_option maxRecDepth 100000
set_option maxHeartbeats 16000000
namespace Go.Proofs.YtlomianlcnmfgaaGreatDoor
open Go.RowKit Shp Sub
namespace SubM
theorem Zdq {f:Nat} (hI:DocF f) (a b:Sh) (pa pb:Ptr) (n0:Nat) (w:World) (h2:Two (f+1) a b) (ha:ShAt w n0 pa a) (hb:ShAt w n0 pb b) (hn:n0<=w.heap.size)
 (hk:a.kind=b.kind) (ho:a.of_=b.of_) (hnm:a.name=b.name) (h6:a.kind=7):
 Calls Tryz.prog 21 #[.agg (Y8 a pa),.agg (Y8 b pb)] w (GetIs n0 (bound (f+1) true a b) w):=by
 obtain ⟨i0,hif0,hz0,hs0,hb0⟩:=Z0S Z1R;obtain ⟨i1,hif1,hz1,hsz1,hbz1⟩:=Z0S Z28;have HBO:=Y1 (Zct (f:=f) (up:=true) hk (by unfold Wide; rw[h6]; decide));have hb1:=Z01 w (.cells (Y8 a pa) 25);obtain ⟨w1,hw1⟩: ∃w1,w1=w.alloc (.cells (Y8 a pa) 25):=⟨_,rfl⟩;have hs1:w1.heap.size=w.heap.size+1:=by rw[hw1]; simp
 have hb2:=Z01 w1 (.cells (Y8 b pb) 25);obtain ⟨w2,hw2⟩: ∃w2,w2=w1.alloc (.cells (Y8 b pb) 25):=⟨_,rfl⟩;have hs2:w2.heap.size=w.heap.size+2:=by rw[hw2]; simp[hs1]
 have hb3:=Z01 w2 (.cells Yb 25);obtain ⟨w3,hw3⟩: ∃w3,w3=w2.alloc (.cells Yb 25):=⟨_,rfl⟩;have hs3:w3.heap.size=w.heap.size+3:=by rw[hw3]; simp[hs2]
 have hb4:=Z01 w3 (.cells #[.int .i64 a.kind,.string ⟨#[]⟩,.string ⟨#[]⟩,.slice none 0 0,.slice none 0 0] 25);obtain ⟨w4,hw4⟩: ∃w4,w4=w3.alloc (.cells #[.int .i64 a.kind,.string ⟨#[]⟩,.string ⟨#[]⟩,.slice none 0 0,.slice none 0 0] 25):=⟨_,rfl⟩;have hs4:w4.heap.size=w.heap.size+4:=by rw[hw4]; simp[hs3]
 rw[<-hw1] at hb1;rw[<-hw2] at hb2;rw[<-hw3] at hb3;rw[<-hw4] at hb4;have hbw:=Z00 (Z00 hb1 (Z00 hb2 hb3)) hb4;have hB1:Box5 w1 w.heap.size a pa:=by rw[hw1]; exact Z05 w a pa
 have hB2:Box5 w2 w1.heap.size b pb:=by rw[hw2]; exact Z05 w1 b pb
 have hB13:=((hB1.next hb2).next hb3).next hb4;have hB23:=(hB2.next hb3).next hb4;rw[hs1] at hB23;have hR3:Rc (w.heap.size+2) w3:=by have h:=Z0I hw3; rwa [hs2] at h
 have hR4:Rc (w.heap.size+2) w4:=hR3.upd (T:=fun _=>False) (Upd.new hb4) (fun h=>h);have hu4:Upd (fun _=>False) w w4:=Upd.new hbw;have hc5:Sh5 w4 (w.heap.size+3) 0 ⟨a.kind,[],[],[],[]⟩ noneQ12:=by
  rw[<-hs3,hw4]; refine ⟨?_, ?_, ?_, ?_, ?_⟩ <;> simp[go_sem]
 have hfz: ∀j,w4.frozen? ⟨w.heap.size+3,j,none⟩=false:=fun j=>by rw[<-hs3,hw4]; simp[go_sem]
 have hK0:KBs w w4 n0 (w.heap.size+3) (w.heap.size+4) (w.heap.size+2) a.kind [] [] [] [] [] none 0 none 0 w4:=by
  obtain ⟨c0,c1,c2,c3,c4⟩:=hc5;simp only[Nat.zero_add] at c0 c1 c2 c3 c4;exact ⟨⟨hbw,by omega,by omega,by omega,c0,c1,c2,c3,c4,hfz,World.ownsRow_nil _ _ _ _,World.ownsRow_nil _ _ _ _,Or.inl rfl⟩,rfl,fun x hx=>absurd hx (by simp),hR4,Upd.refl _ _⟩
 have HX2:=Y1 hB13;have HX3:=Y1 hB23;have HT:=Y1 (Z0a ha hn hu4 (fun _ _ h=>h));have HS:=Y1 (Z0a hb hn hu4 (fun _ _ h=>h));have HK0:=Y1 hK0;have HN:=Y1 hn;have HZ4:=Y1 hs4;have HI:=Y1 hI;have H2:=Y1 h2;have HB:=Y1 (Z0d h2.ra (by omega));have HA:=Y1 (Z0d h2.rb (by omega));have HLT:=Y1 (h2.ln (Z0d h2.ra (by omega)));have HLS:=Y1 (h2.swap.ln (Z0d h2.rb (by omega)));obtain ⟨_,⟨a0,a1,a2,a3,a4⟩,_⟩:=hB13;obtain ⟨_,⟨b0,b1,b2,b3,b4⟩,_⟩:=hB23;simp only[Nat.zero_add] at a0 a1 a2 a3 a4 b0 b1 b2 b3 b4;have n1: (a.kind !=b.kind)=false:=by rw[hk]; simp
 have n2: (a.of_ !=b.of_)=false:=by rw[ho]; simp
 have n3: (a.name !=b.name)=false:=by rw[hnm]; simp
 have e1: (a.kind==b.kind)=true:=by rw[hk]; simp
 have e2: (a.of_==b.of_)=true:=by rw[ho]; simp
 have e3: (a.name==b.name)=true:=by rw[hnm]; simp
 have k5:=Y3 5 h6 rfl;have k6:=Y3 6 h6 rfl;have k7:=Y4 7 h6 rfl;have HW:Hid ((((w.alloc (.cells (Y8 a pa) 25)).alloc (.cells (Y8 b pb) 25)).alloc (.cells Yb 25)).alloc (.cells #[.int .i64 a.kind,.string ⟨#[]⟩,.string ⟨#[]⟩,.slice none 0 0,.slice none 0 0] 25)=w4):=Y1 (by rw[hw4,hw3,hw2,hw1]);clear hK0 hbw hR3 hR4 hu4 hc5 hfz ha hb hn h2 hI hb1 hb2 hb3 hb4 hs1 hs2 hs3 hs4 hB1 hB2 hk ho hnm h6;clear hw4 hw3 hw2 hw1;go_enter Tryz.func21,Tryz.ntmps21
 go_wp2_with fail
 rw[HW.out];clear HW n1 n2 n3 e1 e2 e3 k5 k6 k7 a0 a1 a2 a3 a4 b0 b1 b2 b3 b4
 go_loopw [15] (fun ii wr=> ∃i:Nat,ii= .int .i64 i/\i<=a.names.length/\Hid (∃(L:List Fld) (l:List El) (AN:Option Addr) (cN:Nat) (AP:Option Addr) (cP:Nat),(allOf (wideStep (bound f true)) ((callsA a b).take i)=some L)/\KBs w w4 n0 (w.heap.size+3) (w.heap.size+4) (w.heap.size+2) a.kind [] [] (L.map Prod.fst) (L.map Prod.snd) l AN cN AP cP wr)) (fun i _=>a.names.length - (intOf i).toNat)
 case atStart=>exact ⟨0,rfl,Nat.zero_le _,Y1 ⟨[],[],none,0,none,0,by rw[List.take_zero]; rfl,HK0.out⟩⟩
 case round=>
  obtain ⟨i,rfl,hi,HKB⟩:=hrel;obtain ⟨L,l,AN,cN,AP,cP,hINV,hKB⟩:=HKB.out;have hlt4:=HLT.out;have hU:=hKB.up;have hz4:=HZ4.out;have hn:=HN.out;have hLL:L.length<=400/\ ∀x∈L.map Prod.fst,x.length<=1000:=by
   have hs: (L.map Prod.fst).Sublist a.names:=by
    rw[Zcu HB.out hINV]; exact List.take_sublist _ _
   refine ⟨?_,fun x hx=>by have:=Z1l (HB.out.isName (hs.subset hx)); omega⟩;have:=hs.length_le;rw[List.length_map] at this;omega
  have HLL:=Y1 hLL;have HINV:=Y1 hINV;have hx2:=Z0e HX2.out hU (by omega);have hx3:=Z0e HX3.out hU (by omega);have hTw:=Z0a HT.out (by omega) hU (fun x hx hs=>by omega);have hSw:=Z0a HS.out (by omega) hU (fun x hx hs=>by omega);obtain ⟨_,⟨a0,a1,a2,a3,a4⟩,_⟩:=hx2;obtain ⟨_,⟨b0,b1,b2,b3,b4⟩,_⟩:=hx3;simp only[Nat.zero_add] at a0 a1 a2 a3 a4 b0 b1 b2 b3 b4;clear hINV hLL;by_cases hlt:i < a.names.length
  {have hi1: (i:Int) < (a.names.length:Int):=by omega
   have hip:i < a.parts.length:=by have:=HB.out.l; omega
   have hi2: (i:Int) < (a.parts.length:Int):=by omega
   rcases hTw.strs.cell7 with h0 | ⟨g,off,hqA,hg,hc⟩
   {omega}
   have hcx:=hc i hlt;obtain ⟨x,hx⟩: ∃x,x=a.names[i]'hlt:=⟨_,rfl⟩;rw[<-hx] at hcx;have HX:=Y1 hx;rcases hTw.part with h0 | ⟨g',off',qs,hqP,hg',hc',hra⟩
   {omega}
   have hY5:=hc' i hip;have hYA:=hra i hip;obtain ⟨z,hz⟩: ∃z,z=a.parts[i]'hip:=⟨_,rfl⟩;obtain ⟨qz,hqz⟩: ∃q,q=qs i:=⟨_,rfl⟩;rw[<-hz, <-hqz] at hY5 hYA;have HZP:=Y1 hz;have HIP:=Y1 hip;have HLTI:=Y1 hlt;have hb6:=Z01 wr (.cells (Y8 z qz) 25);have hx6:=Z05 wr z qz;have hr0:=Zcv wr z qz;obtain ⟨w6,hw6⟩: ∃w6,wr.alloc (.cells (Y8 z qz) 25)=w6:=⟨_,rfl⟩;have hs6:w6.heap.size=wr.heap.size+1:=by rw[<-hw6]; simp
   rw[hw6] at hb6 hx6 hr0;have hwr:w.heap.size+4<=wr.heap.size:=hKB.mm.hw;have hn0w:n0<=wr.heap.size:=by omega
   have hu6:Upd (fun _=>False) wr w6:=Upd.new hb6;have HS6:=Y1 (Z0a hSw hn0w hu6 (fun _ _ h=>h));have HX26:=Y1 ((Z0e HX2.out hU (by omega)).next hb6);have HX36:=Y1 ((Z0e HX3.out hU (by omega)).next hb6);have HY56:=Y1 (hY5.keep (show g' < wr.heap.size by omega) hb6);have HYA6:=Y1 (Z0a hYA hn0w hu6 (fun _ _ h=>h));have HCX6:=Y1 ((hb6.cell (p:=⟨g,off+i,none⟩) (show g < wr.heap.size by omega)).trans hcx);have HX6:=Y1 hx6;have HR0:=Y1 hr0;have HB6:=Y1 hb6;have HSZ6:=Y1 hs6;have HWR:=Y1 (And.intro hwr hn0w);have HG:=Y1 (And.intro hg hg');have HQA:=Y1 hqA;have HQP:=Y1 hqP;have HKW:=Y1 hKB;obtain ⟨p,hp⟩: ∃p,(get b x).getD Z0c=p:=⟨_,rfl⟩;obtain ⟨ok,hok⟩: ∃ok,(get b x).isSome=ok:=⟨_,rfl⟩;have HP:=Y1 (And.intro hp hok);rw[hqP] at a4;obtain ⟨y0,y1,y2,y3,y4⟩:=hY5;clear hp hok hYA hz hqz hra hc' hc hx hg hg' hcx hqA hqP hx6 hr0 hb6 hU hTw hSw hKB hu6 hn0w hwr hz4 hn
   go_wp2_with fail
   refine Z21 (rs:= [0,1,2,3,4,5,6,7,8,9,10,11,12])
    (fun u'=> { tmps:=#[.agg (Y8 a pa),.agg (Y8 b pb),.pointer (some { block:=w.heap.size,off:=0 }),.pointer (some { block:=w.heap.size+1,off:=0 }),.pointer (some { block:=w.heap.size+1+1,off:=0 }),u5,undef,undef,undef,undef,undef,undef,undef,undef,.pointer (some { block:=w.heap.size+1+1+1,off:=0 }),.int .i64 ↑i,.pointer (some { block:=wr.heap.size,off:=0 }),u' 10,u' 12,u19,u20,.pointer (some { block:=w.heap.size,off:=0 }),.int .i64 a.kind,.pointer (some { block:=w.heap.size+1,off:=0 }),.int .i64 b.kind,.bool false,.bool false,.pointer (some { block:=w.heap.size,off:=1 }),.string { data:=a.of_.toArray },.pointer (some { block:=w.heap.size+1,off:=1 }),.string { data:=b.of_.toArray },.bool false,.bool false,.bool false,.pointer (some { block:=w.heap.size,off:=2 }),.string { data:=a.name.toArray },.pointer (some { block:=w.heap.size+1,off:=2 }),.string { data:=b.name.toArray },.bool false,.bool false,undef,.pointer (some { block:=w.heap.size,off:=0 }),.int .i64 a.kind,.bool false,.bool false,undef,undef,undef,undef,undef,undef,undef,undef,undef,undef,undef,undef,undef,undef,undef,undef,undef,undef,.bool false,.bool false,undef,undef,undef,undef,undef,undef,undef,undef,undef,undef,undef,undef,undef,undef,undef,undef,undef,undef,undef,undef,undef,undef,undef,undef,undef,undef,undef,undef,undef,undef,undef,undef,undef,undef,undef,undef,undef,undef,undef,undef,undef,undef,undef,undef,undef,undef,undef,undef,undef,undef,.bool true,.bool true,.pointer (some { block:=w.heap.size,off:=0 }),.int .i64 a.kind,.agg #[.int .i64 a.kind,.string { data:=#[] },.string { data:=#[] },.slice none 0 0,.slice none 0 0],.int .i64 ↑i,.pointer (some { block:=w.heap.size,off:=3 }),.slice pa.A a.names.length pa.c,.int .i64 ↑a.names.length,.bool true,u125,u126,.pointer (some { block:=w.heap.size,off:=4 }),.slice (some { block:=g',off:=off' }) a.parts.length pa.d,.int .i64 ↑i,.pointer (some { block:=g',off:=off'+i * 5 }),.agg (Y8 z qz),u' 7,u' 0,u' 1,u' 2,u' 3,u' 4,u' 5,u' 6,u' 8,u' 9,u142,u143,u144,u145,u146,u147,u148,u149,u150,u151,u152,u153,u154,u155,u156,u157,u158,u159,u160,u161,u162,u163,u164,u165,u166,u167,u168,undef,undef,undef,undef,undef,undef,undef,undef,undef,undef,undef,undef],defers:= [] })
    (fun j=>([u133,u134,u135,u136,u137,u138,u139,u132,u140,u141,u17,undef,u18]:List Value).getD j undef) (TakeN n0 w6 (gtakeP (.agg (Y8 b pb)) (.pointer (some ⟨w.heap.size,3,none⟩)) (.slice (some ⟨g,off,none⟩) a.names.length pa.c) (.int .i64 (i:Int)) (.pointer (some ⟨g,off+i,none⟩)) (.string ⟨x.toArray⟩) n0 w6 p ok) p) (by kernel_rfl) (by kernel_rfl) (by kernel_rfl) TakeN.start ?_ ?_
   refine StepsInv.cons _ rfl (fun d u' W K' hI hd hw hK=> ?_) ?_
   {obtain ⟨_,⟨y0,y1,y2,y3,y4⟩,_⟩:=HX36.out.next hI.up;simp only[Nat.zero_add] at y0 y1 y2 y3 y4;refine Z02 (v:=(.agg (Y8 b pb))) (W':=W) rfl ?_ (hK.out _ _ (hI.step (by decide) (by decide) rfl Y2))
    try dsimp only
    go_simp}
   refine StepsInv.cons _ rfl (fun d u' W K' hI hd hw hK=> ?_) ?_
   {refine Z02 (v:=(.pointer (some ⟨w.heap.size,3,none⟩))) (W':=W) rfl ?_ (hK.out _ _ (hI.step (by decide) (by decide) rfl Y2))
    try dsimp only
    go_simp}
   refine StepsInv.cons _ rfl (fun d u' W K' hI hd hw hK=> ?_) ?_
   {have d1:u' 1=(.pointer (some ⟨w.heap.size,3,none⟩)):=hI.vals 1 (hw 1 (by kernel_rfl));obtain ⟨_,⟨y0,y1,y2,y3,y4⟩,_⟩:=HX26.out.next hI.up;simp only[Nat.zero_add] at y0 y1 y2 y3 y4;rw[HQA.out] at y3;refine Z02 (v:=(.slice (some ⟨g,off,none⟩) a.names.length pa.c)) (W':=W) rfl ?_ (hK.out _ _ (hI.step (by decide) (by decide) rfl Y2))
    try dsimp only
    go_simp}
   refine StepsInv.cons _ rfl (fun d u' W K' hI hd hw hK=> ?_) ?_
   {refine Z02 (v:=(.int .i64 (i:Int))) (W':=W) rfl ?_ (hK.out _ _ (hI.step (by decide) (by decide) rfl Y2))
    try dsimp only
    go_simp}
   refine StepsInv.cons _ rfl (fun d u' W K' hI hd hw hK=> ?_) ?_
   {have d2:u' 2=(.slice (some ⟨g,off,none⟩) a.names.length pa.c):=hI.vals 2 (hw 2 (by kernel_rfl));have d3:u' 3=(.int .i64 (i:Int)):=hI.vals 3 (hw 3 (by kernel_rfl));refine Z02 (v:=(.pointer (some ⟨g,off+i,none⟩))) (W':=W) rfl ?_ (hK.out _ _ (hI.step (by decide) (by decide) rfl Y2))
    try dsimp only
    go_simp}
   refine StepsInv.cons _ rfl (fun d u' W K' hI hd hw hK=> ?_) ?_
   {have d4:u' 4=(.pointer (some ⟨g,off+i,none⟩)):=hI.vals 4 (hw 4 (by kernel_rfl));have hcx:=(hI.up.cell (p:=⟨g,off+i,none⟩) (show g < w6.heap.size by have:=HG.out.1; have:=HWR.out.2; have:=HSZ6.out; omega)).trans HCX6.out;refine Z02 (v:=(.string ⟨x.toArray⟩)) (W':=W) rfl ?_ (hK.out _ _ (hI.step (by decide) (by decide) rfl Y2))
    try dsimp only
    go_simp}
   refine StepsInv.cons _ rfl (fun d u' W K' hI hd hw hK=> ?_) ?_
   {have d0:u' 0=(.agg (Y8 b pb)):=hI.vals 0 (hw 0 (by kernel_rfl));have d5:u' 5=(.string ⟨x.toArray⟩):=hI.vals 5 (hw 5 (by kernel_rfl));refine Z0F (f:=44) (args:=#[(.agg (Y8 b pb)),(.string ⟨x.toArray⟩)]) (W':=W) rfl ?_ ((Zc5 (by have:=HWR.out.2; have:=HSZ6.out; omega) HS6.out HA.out HP.out.1 HP.out.2 hI.up).mono fun e w' ⟨q,he,hs,hb⟩=>⟨_,he,hK.out _ _ (hI.step (by decide) (by decide) ⟨q,rfl,hs⟩ hb)⟩)
    try dsimp only
    go_simp}
   refine StepsInv.cons _ rfl (fun d u' W K' hI hd hw hK=> ?_) ?_
   {obtain ⟨q,d6,hs⟩:=hI.vals 6 (hw 6 (by kernel_rfl));refine Z02 (v:= .tuple #[.agg (Y8 p q),.bool ok]) (W':=W) rfl ?_ (hK.out _ _ (hI.step (by decide) (by decide) ⟨q,rfl,hs⟩ Y2))
    try dsimp only
    go_simp}
   refine StepsInv.cons _ rfl (fun d u' W K' hI hd hw hK=> ?_) ?_
   {obtain ⟨q,d7,hs⟩:=hI.vals 7 (hw 7 (by kernel_rfl));refine Z02 (v:= .agg (Y8 p q)) (W':=W) rfl ?_ (hK.out _ _ (hI.step (by decide) (by decide) ⟨q,rfl,hs⟩ Y2))
    try dsimp only
    go_simp}
   refine StepsInv.cons _ rfl (fun d u' W K' hI hd hw hK=> ?_) ?_
   {obtain ⟨q,d7,hs⟩:=hI.vals 7 (hw 7 (by kernel_rfl));refine Z02 (v:= .bool ok) (W':=W) rfl ?_ (hK.out _ _ (hI.step (by decide) (by decide) rfl Y2))
    try dsimp only
    go_simp}
   refine StepsInv.cons _ rfl (fun d u' W K' hI hd hw hK=> ?_) ?_
   {refine Z02 (v:= .pointer (some ⟨W.heap.size,0,none⟩)) (W':=W.alloc (.cells Yb 25)) rfl ?_ (hK.out _ _ (hI.alloc hd (fun _=>trivial)))
    try dsimp only
    go_simp}
   refine StepsInv.cons _ rfl (fun d u' W K' hI hd hw hK=> ?_) ?_
   {obtain ⟨q,d8,hs⟩:=hI.vals 8 (hw 8 (by kernel_rfl));obtain ⟨b',d10,hb1,hr⟩:=hI.al (hw 10 (by kernel_rfl)) hd;obtain ⟨v0,y0⟩:=hr.ex 0 (by omega);obtain ⟨v1,y1⟩:=hr.ex 1 (by omega);obtain ⟨v2,y2⟩:=hr.ex 2 (by omega);obtain ⟨v3,y3⟩:=hr.ex 3 (by omega);obtain ⟨v4,y4⟩:=hr.ex 4 (by omega);have z0:=hr.fz 0;have z1:=hr.fz 1;have z2:=hr.fz 2;have z3:=hr.fz 3;have z4:=hr.fz 4;refine Z0q (W':=RX.lay W b' p q) rfl ?_ (hK.out _ _ (hI.store (hw 10 (by kernel_rfl)) hd (fun _=>trivial) d10 hs));unfold RX.lay
    try dsimp only
    go_simp}
   refine StepsInv.cons _ rfl (fun d u' W K' hI hd hw hK=> ?_) StepsInv.nil
   {have d9:u' 9= .bool ok:=hI.vals 9 (hw 9 (by kernel_rfl));refine Z02 (v:= .bool ok) (W':=W) rfl ?_ (hK.out _ _ (hI.step (by decide) (by decide) rfl Y2))
    try dsimp only
    go_simp}
   intro dd z' U2 hI hdn
   try dsimp only
   obtain ⟨h10,b',q,z10,hb1,hs,hbx⟩:=hI.st (hdn 11 (by decide));rw[z10,show z' 12= .bool ok from hI.vals 12 (hdn 12 (by decide))];have hb3:=hI.up;clear hI hdn h10 z10 a0 a1 a2 a3 a4 b0 b1 b2 b3 b4 y0 y1 y2 y3 y4 hw6 hs6;have HBX:=Y1 hbx;have HBL:=Y1 hb1;have HSP:=Y1 (Z0a hs (by have:=HWR.out.2; have:=HSZ6.out; omega) (Upd.new (S:=fun _=>False) hb3) (fun _ _ h=>h));have HB62:=Y1 (Z00 HB6.out hb3);have HX2W:=Y1 (HX26.out.next hb3);have HX3W:=Y1 (HX36.out.next hb3);have HY5W:=Y1 (HY56.out.keep (show g' < w6.heap.size by have:=HG.out.2; have:=HWR.out.2; have:=HSZ6.out; omega) hb3);have HYAW:=Y1 (Z0a HYA6.out (by have:=HWR.out.2; have:=HSZ6.out; omega) (Upd.new (S:=fun _=>False) hb3) (fun _ _ h=>h));have HX6W:=Y1 (HX6.out.next hb3);have HR6:Hid (Rc wr.heap.size U2):=Y1 (HR0.out.upd (T:=fun _=>False) (Upd.new hb3) (fun h=>h));have HCXW:=Y1 ((hb3.cell (p:=⟨g,off+i,none⟩) (show g < w6.heap.size by have:=HG.out.1; have:=HWR.out.2; have:=HSZ6.out; omega)).trans HCX6.out);have HZW:Hid (wr.heap.size < U2.heap.size):=Y1 (by have:=HSZ6.out; have:=hb3.size; have:=hbx.1; omega);clear hb3 hs hbx hb1;cases ok with
   | false=>
    have hgn:get b (a.names[i]'HLTI.out)=none:=by
     rw[<-HX.out];cases hq:get b x with
     | none=>rfl
     | some v=>have:=HP.out.2; rw[hq] at this; cases this
    have HNX:Hid (allOf (wideStep (bound f true)) ((callsA a b).take (i+1))=some (L++ [(x,z)])):=Y1 (by
     have h:=Zc7 (g:=bound f true) (b:=b) HB.out HLTI.out HIP.out (x:=z) HINV.out (by rw[hgn, <-HZP.out]; rfl);rw[<-HX.out] at h;exact h)
    have HEL:Hid (Kept (fun b=>b < n0\/(wr.heap.size < b/\b < U2.heap.size)) U2 (z,qz)):=Y1 (Kept.old HYAW.out (by have:=HWR.out.2; have:=HZW.out; omega) (fun b hb=>Or.inl hb));have HBP:=HB62;have HBXP:=HX6W;have HBXL:Hid (wr.heap.size<=wr.heap.size):=Y1 (Nat.le_refl _);have HTB:=HX2W;have HCN:=HCXW;clear hgn;have HKP:=Y1 (HKW.out.new HBP.out);obtain ⟨nl,hnl⟩: ∃nl,nl=L.map Prod.fst:=⟨_,rfl⟩;have HNL:=Y1 hnl;have hX: (NX.mk U2 (w.heap.size+3) (w.heap.size+4) AN cN nl (w.heap.size) g off a.names.length pa.c i x).Good:=by
     obtain ⟨_,⟨c0,c1,c2,c3,c4⟩,_⟩:=HTB.out;simp only[Nat.zero_add] at c3;rw[HQA.out] at c3;refine ⟨HKP.out.mm.gh,HKP.out.mm.hw, ?_,HKP.out.mm.fz, ?_,⟨by show w.heap.size < w.heap.size+3; omega,c3⟩,⟨by show g < w.heap.size+3; have:=HG.out.1; have:=HN.out; omega,HCN.out⟩,by show nl.length<=1000; rw[hnl,List.length_map]; have:=HLL.out.1; omega⟩
     {have:=HKP.out.mm.c3; rw[<-hnl] at this; exact this}
     {have:=HKP.out.mm.rN; rw[<-hnl] at this; exact this}
    have HXN:=Y1 hX;clear hX hnl
    go_wp2_with fail
    refine Z1u (rs:= [0,1,2,3,4,5,6,7,8,9,10])
     (fun u'=> { tmps:=#[.agg (Y8 a pa),.agg (Y8 b pb),.pointer (some { block:=w.heap.size,off:=0 }),.pointer (some { block:=w.heap.size+1,off:=0 }),.pointer (some { block:=w.heap.size+1+1,off:=0 }),u5,undef,undef,undef,undef,undef,undef,undef,undef,.pointer (some { block:=w.heap.size+1+1+1,off:=0 }),.int .i64 ↑i,.pointer (some { block:=wr.heap.size,off:=0 }),.pointer (some { block:=b',off:=0 }),.bool false,u19,u20,.pointer (some { block:=w.heap.size,off:=0 }),.int .i64 a.kind,.pointer (some { block:=w.heap.size+1,off:=0 }),.int .i64 b.kind,.bool false,.bool false,.pointer (some { block:=w.heap.size,off:=1 }),.string { data:=a.of_.toArray },.pointer (some { block:=w.heap.size+1,off:=1 }),.string { data:=b.of_.toArray },.bool false,.bool false,.bool false,.pointer (some { block:=w.heap.size,off:=2 }),.string { data:=a.name.toArray },.pointer (some { block:=w.heap.size+1,off:=2 }),.string { data:=b.name.toArray },.bool false,.bool false,undef,.pointer (some { block:=w.heap.size,off:=0 }),.int .i64 a.kind,.bool false,.bool false,undef,undef,undef,undef,undef,undef,undef,undef,undef,undef,undef,undef,undef,undef,undef,undef,undef,undef,.bool false,.bool false,undef,undef,undef,undef,undef,undef,undef,undef,undef,undef,undef,undef,undef,undef,undef,undef,undef,undef,undef,undef,undef,undef,undef,undef,undef,undef,undef,undef,undef,undef,undef,undef,undef,undef,undef,undef,undef,undef,undef,undef,undef,undef,undef,undef,undef,undef,undef,undef,undef,undef,.bool true,.bool true,.pointer (some { block:=w.heap.size,off:=0 }),.int .i64 a.kind,.agg #[.int .i64 a.kind,.string { data:=#[] },.string { data:=#[] },.slice none 0 0,.slice none 0 0],.int .i64 ↑i,.pointer (some { block:=w.heap.size,off:=3 }),.slice pa.A a.names.length pa.c,.int .i64 ↑a.names.length,.bool true,u125,u126,.pointer (some { block:=w.heap.size,off:=4 }),.slice (some { block:=g',off:=off' }) a.parts.length pa.d,.int .i64 ↑i,.pointer (some { block:=g',off:=off'+i * 5 }),.agg (Y8 z qz),z' 7,z' 0,z' 1,z' 2,z' 3,z' 4,z' 5,z' 6,z' 8,z' 9,.bool false,u143,u144,u145,u146,u147,u148,u149,u150,u151,u152,u' 0,u' 1,u' 2,u' 3,u' 4,u' 5,u' 6,u' 7,u' 8,u' 9,u163,u164,u165,u166,u167,u168,undef,undef,undef,undef,undef,undef,undef,undef,undef,undef,undef,undef],defers:= [] })
     (fun j=>([u153,u154,u155,u156,u157,u158,u159,u160,u161,u162,undef]:List Value).getD j undef) (NX.NI ⟨U2,w.heap.size+3,w.heap.size+4,AN,cN,nl,w.heap.size,g,off,a.names.length,pa.c,i,x⟩) (by kernel_rfl) (by kernel_rfl) (by kernel_rfl) HXN.out.start ?_ ?_
    refine StepsInv.cons2 _ rfl (fun d u' W K' hs hI hd hw hK=> ?_) ?_
    {refine Z02 (v:= .pointer (some ⟨w.heap.size+3,3,none⟩)) (W':=W) rfl ?_ (hK.out _ _ (hI.pure (by decide) (fun v' h=>by cases h; rfl)));go_simp}
    refine StepsInv.cons2 _ rfl (fun d u' W K' hs hI hd hw hK=> ?_) ?_
    {have d0:u' 0= .pointer (some ⟨w.heap.size+3,3,none⟩):=hI.vals 0 (hw 0 (by kernel_rfl)) _ rfl;have h10:d 10=false:=Z0i hs rfl (by kernel_rfl) hd;have c3:=hI.c3;rw[h10] at c3;simp only[Bool.false_eq_true,if_false] at c3;change W.cell? ⟨w.heap.size+3,3,none⟩=_ at c3;refine Z02 (v:= .slice AN nl.length cN) (W':=W) rfl ?_ (hK.out _ _ (hI.pure (by decide) (fun v' h=>by cases h; rfl)));go_simp}
    refine StepsInv.cons2 _ rfl (fun d u' W K' hs hI hd hw hK=> ?_) ?_
    {refine Z02 (v:= .pointer (some ⟨w.heap.size,3,none⟩)) (W':=W) rfl ?_ (hK.out _ _ (hI.pure (by decide) (fun v' h=>by cases h; rfl)));go_simp}
    refine StepsInv.cons2 _ rfl (fun d u' W K' hs hI hd hw hK=> ?_) ?_
    {have d2:u' 2= .pointer (some ⟨w.heap.size,3,none⟩):=hI.vals 2 (hw 2 (by kernel_rfl)) _ rfl;obtain ⟨c3,_⟩:=hI.look HXN.out
     try dsimp only at c3
     refine Z02 (v:= .slice (some ⟨g,off,none⟩) a.names.length pa.c) (W':=W) rfl ?_ (hK.out _ _ (hI.pure (by decide) (fun v' h=>by cases h; rfl)));go_simp}
    refine StepsInv.cons2 _ rfl (fun d u' W K' hs hI hd hw hK=> ?_) ?_
    {refine Z02 (v:= .int .i64 (i:Int)) (W':=W) rfl ?_ (hK.out _ _ (hI.pure (by decide) (fun v' h=>by cases h; rfl)));go_simp}
    refine StepsInv.cons2 _ rfl (fun d u' W K' hs hI hd hw hK=> ?_) ?_
    {have d3:u' 3= .slice (some ⟨g,off,none⟩) a.names.length pa.c:=hI.vals 3 (hw 3 (by kernel_rfl)) _ rfl;have d4:u' 4= .int .i64 (i:Int):=hI.vals 4 (hw 4 (by kernel_rfl)) _ rfl;refine Z02 (v:= .pointer (some ⟨g,off+i,none⟩)) (W':=W) rfl ?_ (hK.out _ _ (hI.pure (by decide) (fun v' h=>by cases h; rfl)));go_simp}
    refine StepsInv.cons2 _ rfl (fun d u' W K' hs hI hd hw hK=> ?_) ?_
    {have d5:u' 5= .pointer (some ⟨g,off+i,none⟩):=hI.vals 5 (hw 5 (by kernel_rfl)) _ rfl;obtain ⟨_,c3⟩:=hI.look HXN.out
     try dsimp only at c3
     refine Z02 (v:= .string ⟨x.toArray⟩) (W':=W) rfl ?_ (hK.out _ _ (hI.pure (by decide) (fun v' h=>by cases h; rfl)));go_simp}
    refine StepsInv.cons2 _ rfl (fun d u' W K' hs hI hd hw hK=> ?_) ?_
    {have d6:u' 6= .string ⟨x.toArray⟩:=hI.vals 6 (hw 6 (by kernel_rfl)) _ rfl;have h8:d 8=false:=Z0i hs rfl (by kernel_rfl) hd;refine Z02 (v:= .slice (some ⟨W.heap.size,0,none⟩) 1 1) (W':=W.alloc (.cells #[.string ⟨x.toArray⟩] 9)) rfl ?_ (hK.out _ _ (hI.s7 HXN.out h8));go_simp}
    refine StepsInv.cons2 _ rfl (fun d u' W K' hs hI hd hw hK=> ?_) ?_
    {have d1:u' 1= .slice AN nl.length cN:=hI.vals 1 (hw 1 (by kernel_rfl)) _ rfl;obtain ⟨zz,d7,z1,z2,z3⟩:=hI.f7 (hw 7 (by kernel_rfl)) hd;have h10:d 10=false:=Z0i hs rfl (by kernel_rfl) hd;have hln:=HXN.out.ln;have hsz:=hI.up.size;have hhw:=HXN.out.hw;refine step_append_lies W rfl _ _ 22 rfl (w.heap.size+4) 9 i1 (.string ByteArray.empty) 1 16 Tryz.underlying22 hif1 hz1 hsz1 hbz1 rfl (by decide) _ _ _ (by show u' 1=_; exact d1) (hI.n0 hd) ⟨zz,0,none⟩ 1 1 [.string ⟨x.toArray⟩] (by show u' 7=_; exact d7) rfl (fun j v hv=>by
      rcases j with _ | j
      {rw[Z0f,z3]; simpa using hv}
      · simp at hv) (by intro v hv; simp at hv; subst hv; rfl) (by decide) (by show nl.length+1<=maxLen; unfold maxLen; change nl.length<=1000 at hln; omega) (by show (nl.length+1) * 16<=140737488355328; change nl.length<=1000 at hln; omega) (by change w.heap.size+4<=U2.heap.size at hhw; change U2.heap.size<=_ at hsz; omega) _ rfl ?_
     intro g1 cp W' hown hg hat hlt;rw[rowB_own] at hg hat;exact hK.out _ _ (hI.s8 HXN.out h10 hown hg hat)}
    refine StepsInv.cons2 _ rfl (fun d u' W K' hs hI hd hw hK=> ?_) ?_
    {refine Z02 (v:= .pointer (some ⟨w.heap.size+3,3,none⟩)) (W':=W) rfl ?_ (hK.out _ _ (hI.pure (by decide) (fun v' h=>by cases h; rfl)));go_simp}
    refine StepsInv.cons2 _ rfl (fun d u' W K' hs hI hd hw hK=> ?_) StepsInv.nil
    {have d9:u' 9= .pointer (some ⟨w.heap.size+3,3,none⟩):=hI.vals 9 (hw 9 (by kernel_rfl)) _ rfl;have w8:=hw 8 (by kernel_rfl);obtain ⟨g1,c,e,_⟩:=hI.n1 w8;change u' 8= .slice (some ⟨g1,0,none⟩) (nl.length+1) c at e;have hst:=hI.s10 HXN.out w8;have cc:=hI.c3;rw[hd] at cc;simp only[Bool.false_eq_true,if_false] at cc;change W.cell? ⟨w.heap.size+3,3,none⟩=_ at cc;have hfz:=hI.fz 3;change W.frozen? ⟨w.heap.size+3,3,none⟩=_ at hfz;rw[e] at hst;change NX.NI _ _ _ (W.setCell ⟨w.heap.size+3,3,none⟩ _) at hst;refine Z0q (W':=W.setCell ⟨w.heap.size+3,3,none⟩ (.slice (some ⟨g1,0,none⟩) (nl.length+1) c)) rfl ?_ (hK.out undef _ hst);go_simp}
    intro dd2 z2' W5 hI hdn
    try dsimp only
    obtain ⟨AN',cN',hK5,hr5,hU5⟩:=NX.done (gm:=w.heap.size+3) (hi:=w.heap.size+4) (n0:=n0) (rc:=w.heap.size+2) hI HXN.out (fun j hj=>hdn j (by show j < 11; omega)) rfl rfl rfl rfl rfl (by have:=HN.out; omega) (by omega) (by rw[HNL.out]; exact HKP.out);change Upd (fun b=>b=w.heap.size+3\/rowB AN=some b) U2 W5 at hU5;change KBs _ _ _ _ _ _ _ _ _ (nl++ [x]) _ _ _ _ _ _ _ at hK5;clear hI hdn;have hAN: ∀b,rowB AN=some b->w.heap.size+4<=b/\b < wr.heap.size:=fun b h=>Z08 HKW.out.mm.rN b h;have hAP: ∀b,rowB AP=some b->w.heap.size+4<=b/\b < wr.heap.size:=fun b h=>Z08 HKW.out.mm.rP b h;have HK5:=Y1 hK5;have hzp:=HBP.out.size;have hwr:=HWR.out;have hEL5:Kept (fun b=>b < n0\/(wr.heap.size < b/\b < U2.heap.size)) W5 (z,qz):=HEL.out.upd hU5 (fun b hb hS hT=>by
     rcases hT with hT | hT
     {have:=HN.out; omega}
     · have:=hAN b hT; have:=HN.out; omega)
    have HEL5:=Y1 hEL5;have hbxl:=HBXL.out;have hb5:=Z0e HBXP.out hU5 (fun hT=>by
     rcases hT with hT | hT
     {omega}
     · have:=hAN _ hT; omega)
    obtain ⟨_,⟨x0,x1,x2,x3,x4⟩,_⟩:=hb5;simp only[Nat.zero_add] at x0 x1 x2 x3 x4;have d4:=HK5.out.mm.c4;have f4:=HK5.out.mm.fz 4;have hgw:w.heap.size+3 < W5.heap.size:=by have:=HK5.out.mm.hw; omega
    have hll:=HK5.out.len;have hll2:l.length<=400:=by rw[hll,List.length_map]; exact HLL.out.1
    have HP5:=Y1 (Z0g (S:=fun _=>False) HK5.out.mm.rP (Upd.new (Z01 W5 (.cells (Y8 z qz) 25))) (fun _ _ h=>h));have HS5:Hid (w.heap.size+4<=W5.heap.size):=Y1 HK5.out.mm.hw;have HR5:=Y1 hr5;have HZ5:=Y1 hU5.size;clear hK5 hr5 hU5 hAN hAP hEL5 hll hzp hwr hbxl
    go_wp2_with (at_builtin; refine wpList_append_lies _ rfl _ _ 23 rfl (w.heap.size+4) 25 i0 (.agg #[.int .i64 0,.string ByteArray.empty,.string ByteArray.empty,.slice none 0 0,.slice none 0 0]) 5 88 Tryz.underlying23 hif0 hz0 hs0 hb0 rfl (by decide) _ _ _ rfl HP5.out ⟨W5.heap.size,0,none⟩ 1 1 (cells5 (z,qz)) rfl rfl (by intro j v hv; rw[Z0f,Nat.zero_add]; rcases j with _ | _ | _ | _ | _ | j <;> (simp[cells5] at hv; try (subst hv; simp[go_sem]))) (cells5_one _) (by decide) (by unfold maxLen; omega) (by omega) (by have:=HS5.out; simp; omega) _ rfl ?_)
    intro g2 cap2 w8 hown2 hgrow2 hat2 hlt2;rw[rowB_own] at hgrow2 hat2;have hat3:rowB AP=some g2\/g2=(W5.alloc (.cells (Y8 z qz) 25)).heap.size:=by
     rcases hat2 with h | h
     {exact Or.inl h}
     {exact Or.inr (by rw[h]; simp)}
    have hb8:=Z01 W5 (.cells (Y8 z qz) 25);have hEND:=HK5.out.putP (pb:=wr.heap.size) (e:=U2.heap.size) (x:=(z,qz)) (by have:=HN.out; omega) (by omega) HEL5.out HZ5.out HWR.out.1 (fun b h=>by
     rcases HR5.out b h with h | h
     {exact Or.inl (Z08 HKW.out.mm.rN b h).2}
     · exact Or.inr h) (fun b h=>Or.inl (Z08 HKW.out.mm.rP b h).2) hb8 hgrow2 hown2 hat3
    have hu8:Upd (fun b=>rowB AP=some b) W5 w8:=(Upd.new (S:=fun b=>rowB AP=some b) hb8).grown hgrow2 (fun k h _=>h);have hn8: ¬rowB AP=some (w.heap.size+3):=fun e=>by have:=(Z08 HK5.out.mm.rP _ e).1; omega
    have d5:=(hu8.cell hgw hn8).trans d4;have f5:=(hu8.frozen hgw hn8).trans f4;have hgw8:w.heap.size+3 < w8.heap.size:=Nat.lt_of_lt_of_le hgw hu8.size;have HEND:Hid (∃(L':List Fld) (l':List El) (AN':Option Addr) (cN':Nat) (AP':Option Addr) (cP':Nat),(allOf (wideStep (bound f true)) ((callsA a b).take (i+1))=some L')/\KBs w w4 n0 (w.heap.size+3) (w.heap.size+4) (w.heap.size+2) a.kind [] [] (L'.map Prod.fst) (L'.map Prod.snd) l' AN' cN' AP' cP' (w8.setCell ⟨w.heap.size+3,4,none⟩ (.slice (some ⟨g2,0,none⟩) (l.length+1) cap2))):=Y1 ⟨L++ [(x,z)],l++ [(z,qz)],_,_,_,_,HNX.out,by
     rw[List.map_append,List.map_append, <-HNL.out];exact hEND⟩
    have hlti:=HLTI.out;clear hown2 hgrow2 hat2 hat3 hlt2 hb8 hEND hu8 hn8 d4 f4 HP5;go_wp2
    go_roundw
    case rel=>exact ⟨i+1,by go_num,by omega,HEND⟩
    case measure=>simp[intOf]; omega
   | true=>
    have HGT:Hid (get b x=some p):=Y1 (by
     cases hq:get b x with
     | none=>have:=HP.out.2; rw[hq] at this; cases this
     | some v=>have:=HP.out.1; rw[hq] at this; rw[<-this]; rfl)
    have hgs:get b (a.names[i]'HLTI.out)=some p:=by rw[<-HX.out]; exact HGT.out
    have hTg:get a (a.names[i]'HLTI.out)=some z:=by rw[HZP.out]; exact Z1a HB.out HLTI.out HIP.out
    have hTwo:Two f z p:=H2.out.part (Z06 hTg) (Z06 hgs);have hn2:n0<=U2.heap.size:=by have:=HWR.out.2; have:=HZW.out; omega
    have HN2:=Y1 hn2;have HNB:Hid (wideStep (bound f true) ((a.names[i]'HLTI.out,some (a.parts[i]'HIP.out),get b (a.names[i]'HLTI.out)):Cl)=(bound f true z p).map (fun y=>(a.names[i]'HLTI.out,y))):=Y1 (by rw[hgs, <-HZP.out]; rfl);have HC:Hid (Calls Tryz.prog 21 #[.agg (Y8 z qz),.agg (Y8 p q)] U2 (GetIs n0 (bound f true z p) U2)):=Y1 (HI.out true z p qz q n0 U2 hTwo HYAW.out HSP.out hn2);obtain ⟨_,⟨x0,x1,x2,x3,x4⟩,_⟩:=HBX.out;obtain ⟨_,⟨c0,c1,c2,c3,c4⟩,_⟩:=HX6W.out;simp only[Nat.zero_add] at x0 x1 x2 x3 x4 c0 c1 c2 c3 c4;clear hgs hTg hTwo
    go_wp2_with fail
    refine HC.out.mono ?_;rintro e W3 ⟨t,qt,rfl,hb4,hj⟩;unfold sv;have HJ:=Y1 hj;have hb7:=Z01 W3 (.cells (Y8 t qt) 25);have hx7:=Z05 W3 t qt;obtain ⟨W7,hW7⟩: ∃W7,W3.alloc (.cells (Y8 t qt) 25)=W7:=⟨_,rfl⟩;have hs7:W7.heap.size=W3.heap.size+1:=by rw[<-hW7]; simp
    rw[hW7] at hb7 hx7;have hb27:Below U2.heap.size U2 W7:=Z00 hb4 hb7;have hR7:=HR6.out.upd (T:=fun _=>False) (Upd.new hb27) (fun h=>h);have HB4:=Y1 hb4;have HB7:=Y1 hb7;have HS7:=Y1 hs7;have HB27:=Y1 hb27;have HR7:=Y1 hR7;have HX7:=Y1 hx7;obtain ⟨_,⟨q0,q1,q2,q3,q4⟩,_⟩:=hx7;simp only[Nat.zero_add] at q0 q1 q2 q3 q4;obtain ⟨is,his⟩: ∃is,(bound f true z p).isSome=is:=⟨_,rfl⟩;rw[his];cases is with
    | false=>
     have hbo:bound f true z p=none:=by
      cases e:bound f true z p with
      | none=>rfl
      | some y=>rw[e] at his; cases his
     have hst:allOf (wideStep (bound f true)) (callsA a b)=none:=ZcD HB.out HLTI.out HIP.out (by rw[HNB.out,hbo]; rfl);have hbd:bound (f+1) true a b=none:=by rw[HBO.out,hst]; rfl
     have hbw7:Below w.heap.size w W7:=(HKW.out.mm.up.trans ((Z00 HB62.out hb27).mono (by have:=HWR.out.1; omega)));have hfin:=get_none (n0:=n0) (rc:=w.heap.size+2) hbd (by omega) hbw7;have HF:=Y1 hfin;have hR9:=(HKW.out.rr.upd (T:=fun _=>False) (Upd.new (Z00 HB62.out hb27)) (fun h=>h));obtain ⟨v0,r0⟩:=hR9.ex 0 (by omega);obtain ⟨v1,r1⟩:=hR9.ex 1 (by omega);obtain ⟨v2,r2⟩:=hR9.ex 2 (by omega);obtain ⟨v3,r3⟩:=hR9.ex 3 (by omega);obtain ⟨v4,r4⟩:=hR9.ex 4 (by omega);have z0:=hR9.fz 0;have z1:=hR9.fz 1;have z2:=hR9.fz 2;have z3:=hR9.fz 3;have z4:=hR9.fz 4;clear hst hbd hbw7 hfin hR9 hbo his hb4 hb7 hs7 hb27 hR7 hj HC;go_wp2;refine bodyPost_ret (v:= .tuple #[.agg #[.int .i64 0,.string ⟨#[]⟩,.string ⟨#[]⟩,.slice none 0 0,.slice none 0 0],.bool false]) (by simp[results,Tryz.results21,go_sem,r0,r1,r2,r3,r4]) rfl ?_;exact HF.out
    | true=>
     obtain ⟨y,hbo⟩:=Option.isSome_iff_exists.1 his;obtain ⟨rfl,hky⟩:=hj y hbo;have HNX:Hid (allOf (wideStep (bound f true)) ((callsA a b).take (i+1))=some (L++ [(x,t)])):=Y1 (by
      have h:=Zc7 (g:=bound f true) (b:=b) HB.out HLTI.out HIP.out (x:=t) HINV.out (by rw[HNB.out,hbo]; rfl);rw[<-HX.out] at h;exact h)
     obtain ⟨v0,r0⟩:=hR7.ex 0 (by omega);obtain ⟨v1,r1⟩:=hR7.ex 1 (by omega);obtain ⟨v2,r2⟩:=hR7.ex 2 (by omega);obtain ⟨v3,r3⟩:=hR7.ex 3 (by omega);obtain ⟨v4,r4⟩:=hR7.ex 4 (by omega);have z0:=hR7.fz 0;have z1:=hR7.fz 1;have z2:=hR7.fz 2;have z3:=hR7.fz 3;have z4:=hR7.fz 4;obtain ⟨W4,hW4⟩: ∃W4,RX.lay W7 wr.heap.size t qt=W4:=⟨_,rfl⟩;have hU:=RX.lay_upd W7 wr.heap.size t qt;have hq6:=RX.lay_at t qt (W:=W7) (g:=wr.heap.size) hR7.ex;have hfz6:=fun j=>(RX.lay_fz W7 wr.heap.size t qt j).trans (hR7.fz j);rw[hW4] at hU hq6;have hfz7: ∀j,W4.frozen? ⟨wr.heap.size,j,none⟩=false:=fun j=>by rw[<-hW4]; exact hfz6 j
     have hlt3:wr.heap.size < W7.heap.size:=hR7.lt;have HBXP:Hid (Box5 W4 wr.heap.size t qt):=Y1 ⟨Nat.lt_of_lt_of_le hlt3 hU.size,hq6,hfz7 0,hfz7 1,hfz7 2,hfz7 3,hfz7 4⟩;have HBXL:Hid (wr.heap.size<=wr.heap.size):=Y1 (Nat.le_refl _);have hb24:Below wr.heap.size wr W4:=(HB62.out.trans (hb27.mono (by have:=HZW.out; omega))).trans (hU.below (by omega) (fun x hx=>by omega));have HBP:=Y1 hb24;have HEL:Hid (Kept (fun b=>b < n0\/(wr.heap.size < b/\b < W4.heap.size)) W4 (t,qt)):=Y1 ((hky.upd (T:=fun _=>False) (Upd.new hb7) (fun _ _ _ h=>h)).move hU (fun b hb hf=>by
      have:=HZW.out; have:=HWR.out.2; have:=hU.size;refine ⟨fun e=> ?_, ?_⟩
      {have e:b=wr.heap.size:=e;rcases hf with hf | hf <;> omega}
      · rcases hf with hf | hf
        {exact Or.inl hf}
        · exact Or.inr (by omega)))
     have HTB:=Y1 (Z0e (HX2W.out.next hb27) hU (by have:=HWR.out.1; omega));have HCN:=Y1 ((hU.cell (by have:=HG.out.1; have:=HWR.out.2; omega) (by have:=HG.out.1; have:=HWR.out.2; omega)).trans ((hb27.cell (p:=⟨g,off+i,none⟩) (show g < U2.heap.size by have:=HG.out.1; omega)).trans HCXW.out));unfold RX.lay at hW4;clear hU hq6 hfz6 hfz7 hlt3 hb24 hky hb4 hb7 hs7 hb27 hR7 hj HC hbo his x0 x1 x2 x3 x4 c0 c1 c2 c3 c4 hn2;have HKP:=Y1 (HKW.out.new HBP.out);obtain ⟨nl,hnl⟩: ∃nl,nl=L.map Prod.fst:=⟨_,rfl⟩;have HNL:=Y1 hnl;have hX: (NX.mk W4 (w.heap.size+3) (w.heap.size+4) AN cN nl (w.heap.size) g off a.names.length pa.c i x).Good:=by
      obtain ⟨_,⟨c0,c1,c2,c3,c4⟩,_⟩:=HTB.out;simp only[Nat.zero_add] at c3;rw[HQA.out] at c3;refine ⟨HKP.out.mm.gh,HKP.out.mm.hw, ?_,HKP.out.mm.fz, ?_,⟨by show w.heap.size < w.heap.size+3; omega,c3⟩,⟨by show g < w.heap.size+3; have:=HG.out.1; have:=HN.out; omega,HCN.out⟩,by show nl.length<=1000; rw[hnl,List.length_map]; have:=HLL.out.1; omega⟩
      {have:=HKP.out.mm.c3; rw[<-hnl] at this; exact this}
      {have:=HKP.out.mm.rN; rw[<-hnl] at this; exact this}
     have HXN:=Y1 hX;clear hX hnl
     go_wp2_with fail
     refine Z1u (rs:= [0,1,2,3,4,5,6,7,8,9,10])
      (fun u'=> { tmps:=#[.agg (Y8 a pa),.agg (Y8 b pb),.pointer (some { block:=w.heap.size,off:=0 }),.pointer (some { block:=w.heap.size+1,off:=0 }),.pointer (some { block:=w.heap.size+1+1,off:=0 }),u5,undef,undef,undef,undef,undef,undef,undef,undef,.pointer (some { block:=w.heap.size+1+1+1,off:=0 }),.int .i64 ↑i,.pointer (some { block:=wr.heap.size,off:=0 }),.pointer (some { block:=b',off:=0 }),.bool true,.pointer (some { block:=W3.heap.size,off:=0 }),.bool true,.pointer (some { block:=w.heap.size,off:=0 }),.int .i64 a.kind,.pointer (some { block:=w.heap.size+1,off:=0 }),.int .i64 b.kind,.bool false,.bool false,.pointer (some { block:=w.heap.size,off:=1 }),.string { data:=a.of_.toArray },.pointer (some { block:=w.heap.size+1,off:=1 }),.string { data:=b.of_.toArray },.bool false,.bool false,.bool false,.pointer (some { block:=w.heap.size,off:=2 }),.string { data:=a.name.toArray },.pointer (some { block:=w.heap.size+1,off:=2 }),.string { data:=b.name.toArray },.bool false,.bool false,undef,.pointer (some { block:=w.heap.size,off:=0 }),.int .i64 a.kind,.bool false,.bool false,undef,undef,undef,undef,undef,undef,undef,undef,undef,undef,undef,undef,undef,undef,undef,undef,undef,undef,.bool false,.bool false,undef,undef,undef,undef,undef,undef,undef,undef,undef,undef,undef,undef,undef,undef,undef,undef,undef,undef,undef,undef,undef,undef,undef,undef,undef,undef,undef,undef,undef,undef,undef,undef,undef,undef,undef,undef,undef,undef,undef,undef,undef,undef,undef,undef,undef,undef,undef,undef,undef,undef,.bool true,.bool true,.pointer (some { block:=w.heap.size,off:=0 }),.int .i64 a.kind,.agg #[.int .i64 a.kind,.string { data:=#[] },.string { data:=#[] },.slice none 0 0,.slice none 0 0],.int .i64 ↑i,.pointer (some { block:=w.heap.size,off:=3 }),.slice pa.A a.names.length pa.c,.int .i64 ↑a.names.length,.bool true,u125,u126,.pointer (some { block:=w.heap.size,off:=4 }),.slice (some { block:=g',off:=off' }) a.parts.length pa.d,.int .i64 ↑i,.pointer (some { block:=g',off:=off'+i * 5 }),.agg (Y8 z qz),z' 7,z' 0,z' 1,z' 2,z' 3,z' 4,z' 5,z' 6,z' 8,z' 9,.bool true,.tuple #[.agg (Y8 t qt),.bool true],.agg (Y8 z qz),.agg (Y8 p q),.tuple #[.agg (Y8 t qt),.bool true],.agg (Y8 t qt),.bool true,.bool true,.bool false,u151,.agg (Y8 t qt),u' 0,u' 1,u' 2,u' 3,u' 4,u' 5,u' 6,u' 7,u' 8,u' 9,u163,u164,u165,u166,u167,u168,undef,undef,undef,undef,undef,undef,undef,undef,undef,undef,undef,undef],defers:= [] })
      (fun j=>([u153,u154,u155,u156,u157,u158,u159,u160,u161,u162,undef]:List Value).getD j undef) (NX.NI ⟨W4,w.heap.size+3,w.heap.size+4,AN,cN,nl,w.heap.size,g,off,a.names.length,pa.c,i,x⟩) (by kernel_rfl) (by kernel_rfl) (by kernel_rfl) HXN.out.start ?_ ?_
     refine StepsInv.cons2 _ rfl (fun d u' W K' hs hI hd hw hK=> ?_) ?_
     {refine Z02 (v:= .pointer (some ⟨w.heap.size+3,3,none⟩)) (W':=W) rfl ?_ (hK.out _ _ (hI.pure (by decide) (fun v' h=>by cases h; rfl)));go_simp}
     refine StepsInv.cons2 _ rfl (fun d u' W K' hs hI hd hw hK=> ?_) ?_
     {have d0:u' 0= .pointer (some ⟨w.heap.size+3,3,none⟩):=hI.vals 0 (hw 0 (by kernel_rfl)) _ rfl;have h10:d 10=false:=Z0i hs rfl (by kernel_rfl) hd;have c3:=hI.c3;rw[h10] at c3;simp only[Bool.false_eq_true,if_false] at c3;change W.cell? ⟨w.heap.size+3,3,none⟩=_ at c3;refine Z02 (v:= .slice AN nl.length cN) (W':=W) rfl ?_ (hK.out _ _ (hI.pure (by decide) (fun v' h=>by cases h; rfl)));go_simp}
     refine StepsInv.cons2 _ rfl (fun d u' W K' hs hI hd hw hK=> ?_) ?_
     {refine Z02 (v:= .pointer (some ⟨w.heap.size,3,none⟩)) (W':=W) rfl ?_ (hK.out _ _ (hI.pure (by decide) (fun v' h=>by cases h; rfl)));go_simp}
     refine StepsInv.cons2 _ rfl (fun d u' W K' hs hI hd hw hK=> ?_) ?_
     {have d2:u' 2= .pointer (some ⟨w.heap.size,3,none⟩):=hI.vals 2 (hw 2 (by kernel_rfl)) _ rfl;obtain ⟨c3,_⟩:=hI.look HXN.out
      try dsimp only at c3
      refine Z02 (v:= .slice (some ⟨g,off,none⟩) a.names.length pa.c) (W':=W) rfl ?_ (hK.out _ _ (hI.pure (by decide) (fun v' h=>by cases h; rfl)));go_simp}
     refine StepsInv.cons2 _ rfl (fun d u' W K' hs hI hd hw hK=> ?_) ?_
     {refine Z02 (v:= .int .i64 (i:Int)) (W':=W) rfl ?_ (hK.out _ _ (hI.pure (by decide) (fun v' h=>by cases h; rfl)));go_simp}
     refine StepsInv.cons2 _ rfl (fun d u' W K' hs hI hd hw hK=> ?_) ?_
     {have d3:u' 3= .slice (some ⟨g,off,none⟩) a.names.length pa.c:=hI.vals 3 (hw 3 (by kernel_rfl)) _ rfl;have d4:u' 4= .int .i64 (i:Int):=hI.vals 4 (hw 4 (by kernel_rfl)) _ rfl;refine Z02 (v:= .pointer (some ⟨g,off+i,none⟩)) (W':=W) rfl ?_ (hK.out _ _ (hI.pure (by decide) (fun v' h=>by cases h; rfl)));go_simp}
     refine StepsInv.cons2 _ rfl (fun d u' W K' hs hI hd hw hK=> ?_) ?_
     {have d5:u' 5= .pointer (some ⟨g,off+i,none⟩):=hI.vals 5 (hw 5 (by kernel_rfl)) _ rfl;obtain ⟨_,c3⟩:=hI.look HXN.out
      try dsimp only at c3
      refine Z02 (v:= .string ⟨x.toArray⟩) (W':=W) rfl ?_ (hK.out _ _ (hI.pure (by decide) (fun v' h=>by cases h; rfl)));go_simp}
     refine StepsInv.cons2 _ rfl (fun d u' W K' hs hI hd hw hK=> ?_) ?_
     {have d6:u' 6= .string ⟨x.toArray⟩:=hI.vals 6 (hw 6 (by kernel_rfl)) _ rfl;have h8:d 8=false:=Z0i hs rfl (by kernel_rfl) hd;refine Z02 (v:= .slice (some ⟨W.heap.size,0,none⟩) 1 1) (W':=W.alloc (.cells #[.string ⟨x.toArray⟩] 9)) rfl ?_ (hK.out _ _ (hI.s7 HXN.out h8));go_simp}
     refine StepsInv.cons2 _ rfl (fun d u' W K' hs hI hd hw hK=> ?_) ?_
     {have d1:u' 1= .slice AN nl.length cN:=hI.vals 1 (hw 1 (by kernel_rfl)) _ rfl;obtain ⟨zz,d7,z1,z2,z3⟩:=hI.f7 (hw 7 (by kernel_rfl)) hd;have h10:d 10=false:=Z0i hs rfl (by kernel_rfl) hd;have hln:=HXN.out.ln;have hsz:=hI.up.size;have hhw:=HXN.out.hw;refine step_append_lies W rfl _ _ 22 rfl (w.heap.size+4) 9 i1 (.string ByteArray.empty) 1 16 Tryz.underlying22 hif1 hz1 hsz1 hbz1 rfl (by decide) _ _ _ (by show u' 1=_; exact d1) (hI.n0 hd) ⟨zz,0,none⟩ 1 1 [.string ⟨x.toArray⟩] (by show u' 7=_; exact d7) rfl (fun j v hv=>by
       rcases j with _ | j
       {rw[Z0f,z3]; simpa using hv}
       · simp at hv) (by intro v hv; simp at hv; subst hv; rfl) (by decide) (by show nl.length+1<=maxLen; unfold maxLen; change nl.length<=1000 at hln; omega) (by show (nl.length+1) * 16<=140737488355328; change nl.length<=1000 at hln; omega) (by change w.heap.size+4<=W4.heap.size at hhw; change W4.heap.size<=_ at hsz; omega) _ rfl ?_
      intro g1 cp W' hown hg hat hlt;rw[rowB_own] at hg hat;exact hK.out _ _ (hI.s8 HXN.out h10 hown hg hat)}
     refine StepsInv.cons2 _ rfl (fun d u' W K' hs hI hd hw hK=> ?_) ?_
     {refine Z02 (v:= .pointer (some ⟨w.heap.size+3,3,none⟩)) (W':=W) rfl ?_ (hK.out _ _ (hI.pure (by decide) (fun v' h=>by cases h; rfl)));go_simp}
     refine StepsInv.cons2 _ rfl (fun d u' W K' hs hI hd hw hK=> ?_) StepsInv.nil
     {have d9:u' 9= .pointer (some ⟨w.heap.size+3,3,none⟩):=hI.vals 9 (hw 9 (by kernel_rfl)) _ rfl;have w8:=hw 8 (by kernel_rfl);obtain ⟨g1,c,e,_⟩:=hI.n1 w8;change u' 8= .slice (some ⟨g1,0,none⟩) (nl.length+1) c at e;have hst:=hI.s10 HXN.out w8;have cc:=hI.c3;rw[hd] at cc;simp only[Bool.false_eq_true,if_false] at cc;change W.cell? ⟨w.heap.size+3,3,none⟩=_ at cc;have hfz:=hI.fz 3;change W.frozen? ⟨w.heap.size+3,3,none⟩=_ at hfz;rw[e] at hst;change NX.NI _ _ _ (W.setCell ⟨w.heap.size+3,3,none⟩ _) at hst;refine Z0q (W':=W.setCell ⟨w.heap.size+3,3,none⟩ (.slice (some ⟨g1,0,none⟩) (nl.length+1) c)) rfl ?_ (hK.out undef _ hst);go_simp}
     intro dd2 z2' W5 hI hdn
     try dsimp only
     obtain ⟨AN',cN',hK5,hr5,hU5⟩:=NX.done (gm:=w.heap.size+3) (hi:=w.heap.size+4) (n0:=n0) (rc:=w.heap.size+2) hI HXN.out (fun j hj=>hdn j (by show j < 11; omega)) rfl rfl rfl rfl rfl (by have:=HN.out; omega) (by omega) (by rw[HNL.out]; exact HKP.out);change Upd (fun b=>b=w.heap.size+3\/rowB AN=some b) W4 W5 at hU5;change KBs _ _ _ _ _ _ _ _ _ (nl++ [x]) _ _ _ _ _ _ _ at hK5;clear hI hdn;have hAN: ∀b,rowB AN=some b->w.heap.size+4<=b/\b < wr.heap.size:=fun b h=>Z08 HKW.out.mm.rN b h;have hAP: ∀b,rowB AP=some b->w.heap.size+4<=b/\b < wr.heap.size:=fun b h=>Z08 HKW.out.mm.rP b h;have HK5:=Y1 hK5;have hzp:=HBP.out.size;have hwr:=HWR.out;have hEL5:Kept (fun b=>b < n0\/(wr.heap.size < b/\b < W4.heap.size)) W5 (t,qt):=HEL.out.upd hU5 (fun b hb hS hT=>by
      rcases hT with hT | hT
      {have:=HN.out; omega}
      · have:=hAN b hT; have:=HN.out; omega)
     have HEL5:=Y1 hEL5;have hbxl:=HBXL.out;have hb5:=Z0e HBXP.out hU5 (fun hT=>by
      rcases hT with hT | hT
      {omega}
      · have:=hAN _ hT; omega)
     obtain ⟨_,⟨x0,x1,x2,x3,x4⟩,_⟩:=hb5;simp only[Nat.zero_add] at x0 x1 x2 x3 x4;have d4:=HK5.out.mm.c4;have f4:=HK5.out.mm.fz 4;have hgw:w.heap.size+3 < W5.heap.size:=by have:=HK5.out.mm.hw; omega
     have hll:=HK5.out.len;have hll2:l.length<=400:=by rw[hll,List.length_map]; exact HLL.out.1
     have HP5:=Y1 (Z0g (S:=fun _=>False) HK5.out.mm.rP (Upd.new (Z01 W5 (.cells (Y8 t qt) 25))) (fun _ _ h=>h));have HS5:Hid (w.heap.size+4<=W5.heap.size):=Y1 HK5.out.mm.hw;have HR5:=Y1 hr5;have HZ5:=Y1 hU5.size;clear hK5 hr5 hU5 hAN hAP hEL5 hll hzp hwr hbxl
     go_wp2_with (at_builtin; refine wpList_append_lies _ rfl _ _ 23 rfl (w.heap.size+4) 25 i0 (.agg #[.int .i64 0,.string ByteArray.empty,.string ByteArray.empty,.slice none 0 0,.slice none 0 0]) 5 88 Tryz.underlying23 hif0 hz0 hs0 hb0 rfl (by decide) _ _ _ rfl HP5.out ⟨W5.heap.size,0,none⟩ 1 1 (cells5 (t,qt)) rfl rfl (by intro j v hv; rw[Z0f,Nat.zero_add]; rcases j with _ | _ | _ | _ | _ | j <;> (simp[cells5] at hv; try (subst hv; simp[go_sem]))) (cells5_one _) (by decide) (by unfold maxLen; omega) (by omega) (by have:=HS5.out; simp; omega) _ rfl ?_)
     intro g2 cap2 w8 hown2 hgrow2 hat2 hlt2;rw[rowB_own] at hgrow2 hat2;have hat3:rowB AP=some g2\/g2=(W5.alloc (.cells (Y8 t qt) 25)).heap.size:=by
      rcases hat2 with h | h
      {exact Or.inl h}
      {exact Or.inr (by rw[h]; simp)}
     have hb8:=Z01 W5 (.cells (Y8 t qt) 25);have hEND:=HK5.out.putP (pb:=wr.heap.size) (e:=W4.heap.size) (x:=(t,qt)) (by have:=HN.out; omega) (by omega) HEL5.out HZ5.out HWR.out.1 (fun b h=>by
      rcases HR5.out b h with h | h
      {exact Or.inl (Z08 HKW.out.mm.rN b h).2}
      · exact Or.inr h) (fun b h=>Or.inl (Z08 HKW.out.mm.rP b h).2) hb8 hgrow2 hown2 hat3
     have hu8:Upd (fun b=>rowB AP=some b) W5 w8:=(Upd.new (S:=fun b=>rowB AP=some b) hb8).grown hgrow2 (fun k h _=>h);have hn8: ¬rowB AP=some (w.heap.size+3):=fun e=>by have:=(Z08 HK5.out.mm.rP _ e).1; omega
     have d5:=(hu8.cell hgw hn8).trans d4;have f5:=(hu8.frozen hgw hn8).trans f4;have hgw8:w.heap.size+3 < w8.heap.size:=Nat.lt_of_lt_of_le hgw hu8.size;have HEND:Hid (∃(L':List Fld) (l':List El) (AN':Option Addr) (cN':Nat) (AP':Option Addr) (cP':Nat),(allOf (wideStep (bound f true)) ((callsA a b).take (i+1))=some L')/\KBs w w4 n0 (w.heap.size+3) (w.heap.size+4) (w.heap.size+2) a.kind [] [] (L'.map Prod.fst) (L'.map Prod.snd) l' AN' cN' AP' cP' (w8.setCell ⟨w.heap.size+3,4,none⟩ (.slice (some ⟨g2,0,none⟩) (l.length+1) cap2))):=Y1 ⟨L++ [(x,t)],l++ [(t,qt)],_,_,_,_,HNX.out,by
      rw[List.map_append,List.map_append, <-HNL.out];exact hEND⟩
     have hlti:=HLTI.out;clear hown2 hgrow2 hat2 hat3 hlt2 hb8 hEND hu8 hn8 d4 f4 HP5;go_wp2
     go_roundw
     case rel=>exact ⟨i+1,by go_num,by omega,HEND⟩
     case measure=>simp[intOf]; omega}
  {have hi1: ¬(i:Int) < (a.names.length:Int):=by omega
   obtain rfl:i=a.names.length:=by omega
   have hKF:=hKB;have hINV:=HINV.out;rw[Zc1 HB.out] at hINV;have hLL:=HLL.out;have hKR:=hKF.rr;have hmm:=hKF.mm;have hr0: ∃r0:Sh,r0=⟨a.kind,[],[],L.map Prod.fst,L.map Prod.snd⟩:=⟨_,rfl⟩;obtain ⟨r0,hr0⟩:=hr0;have e0:r0.kind=a.kind:=by rw[hr0]
   have e1:r0.of_= []:=by rw[hr0]
   have e2:r0.name= []:=by rw[hr0]
   have e3:r0.names=L.map Prod.fst:=by rw[hr0]
   have e4:r0.parts=L.map Prod.snd:=by rw[hr0]
   have hl5:l.map Prod.fst=r0.parts:=by rw[e4]; exact hKF.eq
   have hlen:l.length=r0.parts.length:=by have:=congrArg List.length hl5; simpa using this
   have hc5:Sh5 wr (w.heap.size+3) 0 r0 ⟨AN,cN,AP,cP⟩:=by
    obtain ⟨q0,q1,q2,q3,q4⟩:_/\_/\_/\_/\_:=⟨hmm.c0,hmm.c1,hmm.c2,hmm.c3,hmm.c4⟩;rw[<-e3] at q3;rw[hlen] at q4;rw[<-e0] at q0;rw[<-e1] at q1;rw[<-e2] at q2;exact ⟨q0,q1,q2,q3,q4⟩
   have hrN:=hmm.rN;rw[<-e3] at hrN;have HC:=Y1 (Zck r0 a b ⟨AN,cN,AP,cP⟩ pa pb n0 (w.heap.size+4) wr l e1 e2 hTw hSw (by omega) hmm.hw HB.out HA.out HLS.out (by rw[e3,List.length_map]; omega) (by rw[e4,List.length_map]; omega) (by rw[e3]; exact hLL.2) hl5 hrN hmm.rP hmm.ne hKF.kp);obtain ⟨r,hre⟩: ∃r:Sh,r=⟨r0.kind,[],[],r0.names++(left a b).map Prod.fst,r0.parts++(left a b).map Prod.snd⟩:=⟨_,rfl⟩;have hbd:bound (f+1) true a b=some r:=by
    rw[HBO.out,hINV,hre,e0,e3,e4];show some (made a.kind (L++left a b))=_;unfold made;rw[List.map_append,List.map_append]
   have HBD:=Y1 hbd;have HRE:=Y1 hre;have HKR:=Y1 hKR;have HUP:=Y1 hmm.up;have HHW:=Y1 hmm.hw;obtain ⟨x0,x1,x2,x3,x4⟩:=hc5;simp only[Nat.zero_add] at x0 x1 x2 x3 x4;clear hKF hKB hLL hKR hmm hr0 e0 e1 e2 e3 e4 hl5 hlen hrN hre hbd hU hTw hSw hINV
   go_wp2_with fail
   refine HC.out.mono ?_;rintro e W3 ⟨qr,rfl,hu3,hk3⟩;rw[<-HRE.out] at hk3 ⊢;unfold sv;have hR3:=HKR.out.upd hu3 (by show ¬w.heap.size+4<=w.heap.size+2; omega);have hfin:=Zc2 (o:=bound (f+1) true a b) (rc:=w.heap.size+2) (hi:=w.heap.size+4) (n0:=n0) (w:=w) (W:=W3) HBD.out HN.out (by omega) (by omega) (HUP.out.trans (hu3.below (by have:=HUP.out.size; omega) (fun x hx=>by have hx:w.heap.size+4<=x:=hx; omega))) hk3;have HF:=Y1 hfin;obtain ⟨v0,y0⟩:=hR3.ex 0 (by omega);obtain ⟨v1,y1⟩:=hR3.ex 1 (by omega);obtain ⟨v2,y2⟩:=hR3.ex 2 (by omega);obtain ⟨v3,y3⟩:=hR3.ex 3 (by omega);obtain ⟨v4,y4⟩:=hR3.ex 4 (by omega);have z0:=hR3.fz 0;have z1:=hR3.fz 1;have z2:=hR3.fz 2;have z3:=hR3.fz 3;have z4:=hR3.fz 4;obtain ⟨u0,u1,u2,u3,u4⟩:=RX.lay_at r qr (W:=W3) (g:=w.heap.size+2) hR3.ex;simp only[Nat.zero_add] at u0 u1 u2 u3 u4;have HU:=Y1 (And.intro u0 (And.intro u1 (And.intro u2 (And.intro u3 u4))));clear hfin hk3 hu3 hR3 u0 u1 u2 u3 u4 x0 x1 x2 x3 x4;go_wp2;obtain ⟨u0,u1,u2,u3,u4⟩:=HU.out;unfold RX.lay at u0 u1 u2 u3 u4;refine bodyPost_ret (v:= .tuple #[sv r qr,.bool true]) (by simp[results,Tryz.results21,go_sem,u0,u1,u2,u3,u4]) rfl ?_;exact HF.out}
end SubM
end Go.Proofs.YtlomianlcnmfgaaGreatDoor
