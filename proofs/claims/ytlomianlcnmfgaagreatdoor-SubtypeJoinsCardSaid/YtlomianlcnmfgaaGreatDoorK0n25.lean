/- What the proofs of SubtypeJoins, SubtypeMeets want, part 25. -/
import Derived.Test.YtlomianlcnmfgaaGreatDoorK0n19
set_option linter.unusedVariables false
set_option linter.unusedSimpArgs false
set_option linter.unusedSectionVars false
set_option maxRecDepth 100000
set_option maxHeartbeats 16000000
namespace Go.Proofs.YtlomianlcnmfgaaGreatDoor
open Go.RowKit Shp Sub
namespace SubM
theorem Zd0 {f:Nat} (hI:DocF f) (a b:Sh) (pa pb:Ptr) (n0:Nat) (w:World) (h2:Two (f+1) a b) (ha:ShAt w n0 pa a) (hb:ShAt w n0 pb b) (hn:n0<=w.heap.size)
 (hk:a.kind=b.kind) (ho:a.of_=b.of_) (hnm:a.name=b.name) (h6:a.kind=7):
 Calls Tryz.prog 25 #[.agg (Y8 a pa),.agg (Y8 b pb)] w (GetIs n0 (bound (f+1) false a b) w):=by
 obtain ⟨i0,hif0,hz0,hs0,hb0⟩:=Z0S Z1R;obtain ⟨i1,hif1,hz1,hsz1,hbz1⟩:=Z0S Z28;have HBO:=Y1 (Zce (f:=f) (up:=false) hk (by unfold Narrow; rw[h6]; decide));have hb1:=Z01 w (.cells (Y8 a pa) 25);obtain ⟨w1,hw1⟩: ∃w1,w1=w.alloc (.cells (Y8 a pa) 25):=⟨_,rfl⟩;have hs1:w1.heap.size=w.heap.size+1:=by rw[hw1]; simp
 have hb2:=Z01 w1 (.cells (Y8 b pb) 25);obtain ⟨w2,hw2⟩: ∃w2,w2=w1.alloc (.cells (Y8 b pb) 25):=⟨_,rfl⟩;have hs2:w2.heap.size=w.heap.size+2:=by rw[hw2]; simp[hs1]
 have hb3:=Z01 w2 (.cells Yb 25);obtain ⟨w3,hw3⟩: ∃w3,w3=w2.alloc (.cells Yb 25):=⟨_,rfl⟩;have hs3:w3.heap.size=w.heap.size+3:=by rw[hw3]; simp[hs2]
 have hb4:=Z01 w3 (.cells #[.int .i64 a.kind,.string ⟨#[]⟩,.string ⟨#[]⟩,.slice none 0 0,.slice none 0 0] 25);obtain ⟨w4,hw4⟩: ∃w4,w4=w3.alloc (.cells #[.int .i64 a.kind,.string ⟨#[]⟩,.string ⟨#[]⟩,.slice none 0 0,.slice none 0 0] 25):=⟨_,rfl⟩;have hs4:w4.heap.size=w.heap.size+4:=by rw[hw4]; simp[hs3]
 rw[<-hw1] at hb1;rw[<-hw2] at hb2;rw[<-hw3] at hb3;rw[<-hw4] at hb4;have hbw:=Z00 (Z00 hb1 (Z00 hb2 hb3)) hb4;have hB1:Box5 w1 w.heap.size a pa:=by rw[hw1]; exact Z05 w a pa
 have hB2:Box5 w2 w1.heap.size b pb:=by rw[hw2]; exact Z05 w1 b pb
 have hB13:=((hB1.next hb2).next hb3).next hb4;have hB23:=(hB2.next hb3).next hb4;rw[hs1] at hB23;have hR3:Rc (w.heap.size+2) w3:=by have h:=Z0I hw3; rwa [hs2] at h
 have hR4:Rc (w.heap.size+2) w4:=hR3.upd (T:=fun _=>False) (Upd.new hb4) (fun h=>h);have hu4:Upd (fun _=>False) w w4:=Upd.new hbw;have hc5:Sh5 w4 (w.heap.size+3) 0 ⟨a.kind,[],[],[],[]⟩ noneQ12:=by
  rw[<-hs3,hw4]; refine ⟨?_, ?_, ?_, ?_, ?_⟩ <;> simp[go_sem]
 have hfz: ∀j,w4.frozen? ⟨w.heap.size+3,j,none⟩=false:=fun j=>by rw[<-hs3,hw4]; simp[go_sem]
 have hK0:KBs w w4 n0 (w.heap.size+3) (w.heap.size+4) (w.heap.size+2) a.kind [] [] [] [] [] none 0 none 0 w4:=by
  obtain ⟨c0,c1,c2,c3,c4⟩:=hc5;simp only[Nat.zero_add] at c0 c1 c2 c3 c4;exact ⟨⟨hbw,by omega,by omega,by omega,c0,c1,c2,c3,c4,hfz,World.ownsRow_nil _ _ _ _,World.ownsRow_nil _ _ _ _,Or.inl rfl⟩,rfl,fun x hx=>absurd hx (by simp),hR4,Upd.refl _ _⟩
 have HX2:=Y1 hB13;have HX3:=Y1 hB23;have HT:=Y1 (Z0a ha hn hu4 (fun _ _ h=>h));have HS:=Y1 (Z0a hb hn hu4 (fun _ _ h=>h));have HK0:=Y1 hK0;have HN:=Y1 hn;have HZ4:=Y1 hs4;have HI:=Y1 hI;have H2:=Y1 h2;have HB:=Y1 (Z0d h2.ra (by omega));have HA:=Y1 (Z0d h2.rb (by omega));have HLT:=Y1 (h2.ln (Z0d h2.ra (by omega)));have HLS:=Y1 (h2.swap.ln (Z0d h2.rb (by omega)));obtain ⟨_,⟨a0,a1,a2,a3,a4⟩,_⟩:=hB13;obtain ⟨_,⟨b0,b1,b2,b3,b4⟩,_⟩:=hB23;simp only[Nat.zero_add] at a0 a1 a2 a3 a4 b0 b1 b2 b3 b4;have n1: (a.kind !=b.kind)=false:=by rw[hk]; simp
 have n2: (a.of_ !=b.of_)=false:=by rw[ho]; simp
 have n3: (a.name !=b.name)=false:=by rw[hnm]; simp
 have e1: (a.kind==b.kind)=true:=by rw[hk]; simp
 have e2: (a.of_==b.of_)=true:=by rw[ho]; simp
 have e3: (a.name==b.name)=true:=by rw[hnm]; simp
 have k5:=Y3 5 h6 rfl;have k6:=Y3 6 h6 rfl;have k7:=Y4 7 h6 rfl;have HW:Hid ((((w.alloc (.cells (Y8 a pa) 25)).alloc (.cells (Y8 b pb) 25)).alloc (.cells Yb 25)).alloc (.cells #[.int .i64 a.kind,.string ⟨#[]⟩,.string ⟨#[]⟩,.slice none 0 0,.slice none 0 0] 25)=w4):=Y1 (by rw[hw4,hw3,hw2,hw1]);clear hK0 hbw hR3 hR4 hu4 hc5 hfz ha hb hn h2 hI hb1 hb2 hb3 hb4 hs1 hs2 hs3 hs4 hB1 hB2 hk ho hnm h6;clear hw4 hw3 hw2 hw1;go_enter Tryz.func25,Tryz.ntmps25
 go_wp2_with fail
 rw[HW.out];clear HW n1 n2 n3 e1 e2 e3 k5 k6 k7 a0 a1 a2 a3 a4 b0 b1 b2 b3 b4
 go_loopw [9] (fun ii wr=> ∃i:Nat,ii= .int .i64 i/\i<=a.names.length/\Hid (∃(L:List Fld) (l:List El) (AN:Option Addr) (cN:Nat) (AP:Option Addr) (cP:Nat),(L=((callsA a b).take i).filterMap (narrowStep (bound f false)))/\KBs w w4 n0 (w.heap.size+3) (w.heap.size+4) (w.heap.size+2) a.kind [] [] (L.map Prod.fst) (L.map Prod.snd) l AN cN AP cP wr)) (fun i _=>a.names.length - (intOf i).toNat)
 case atStart=>exact ⟨0,rfl,Nat.zero_le _,Y1 ⟨[],[],none,0,none,0,by rw[List.take_zero]; rfl,HK0.out⟩⟩
 case round=>
  obtain ⟨i,rfl,hi,HKB⟩:=hrel;obtain ⟨L,l,AN,cN,AP,cP,hINV,hKB⟩:=HKB.out;have hlt4:=HLT.out;have hU:=hKB.up;have hz4:=HZ4.out;have hn:=HN.out;have hLL:L.length<=400/\ ∀x∈L.map Prod.fst,x.length<=1000:=by
   have hs: (L.map Prod.fst).Sublist a.names:=by
    rw[hINV]; exact Zcf HB.out
   refine ⟨?_,fun x hx=>by have:=Z1l (HB.out.isName (hs.subset hx)); omega⟩;have:=hs.length_le;rw[List.length_map] at this;omega
  have HLL:=Y1 hLL;have HINV:=Y1 hINV;have hx2:=Z0e HX2.out hU (by omega);have hx3:=Z0e HX3.out hU (by omega);have hTw:=Z0a HT.out (by omega) hU (fun x hx hs=>by omega);have hSw:=Z0a HS.out (by omega) hU (fun x hx hs=>by omega);obtain ⟨_,⟨a0,a1,a2,a3,a4⟩,_⟩:=hx2;obtain ⟨_,⟨b0,b1,b2,b3,b4⟩,_⟩:=hx3;simp only[Nat.zero_add] at a0 a1 a2 a3 a4 b0 b1 b2 b3 b4;clear hINV hLL;by_cases hlt:i < a.names.length
  {have hi1: (i:Int) < (a.names.length:Int):=by omega
   have hip:i < a.parts.length:=by have:=HB.out.l; omega
   have hi2: (i:Int) < (a.parts.length:Int):=by omega
   rcases hTw.strs.cell7 with h0 | ⟨g,off,hqA,hg,hc⟩
   {omega}
   have hcx:=hc i hlt;obtain ⟨x,hx⟩: ∃x,x=a.names[i]'hlt:=⟨_,rfl⟩;rw[<-hx] at hcx;have HX:=Y1 hx;rcases hTw.part with h0 | ⟨g',off',qs,hqP,hg',hc',hra⟩
   {omega}
   have hY5:=hc' i hip;have hYA:=hra i hip;obtain ⟨z,hz⟩: ∃z,z=a.parts[i]'hip:=⟨_,rfl⟩;obtain ⟨qz,hqz⟩: ∃q,q=qs i:=⟨_,rfl⟩;rw[<-hz, <-hqz] at hY5 hYA;have HZP:=Y1 hz;have HIP:=Y1 hip;have HLTI:=Y1 hlt;have hb6:=Below.refl wr.heap.size wr;have hs6:wr.heap.size<=wr.heap.size:=Nat.le_refl _;have hwr:w.heap.size+4<=wr.heap.size:=hKB.mm.hw;have hn0w:n0<=wr.heap.size:=by omega
   have hu6:Upd (fun _=>False) wr wr:=Upd.new hb6;have HS6:=Y1 (Z0a hSw hn0w hu6 (fun _ _ h=>h));have HX26:=Y1 ((Z0e HX2.out hU (by omega)).next hb6);have HX36:=Y1 ((Z0e HX3.out hU (by omega)).next hb6);have HY56:=Y1 (hY5.keep (show g' < wr.heap.size by omega) hb6);have HYA6:=Y1 (Z0a hYA hn0w hu6 (fun _ _ h=>h));have HCX6:=Y1 ((hb6.cell (p:=⟨g,off+i,none⟩) (show g < wr.heap.size by omega)).trans hcx);have HB6:=Y1 hb6;have HSZ6:=Y1 hs6;have HWR:=Y1 (And.intro hwr hn0w);have HG:=Y1 (And.intro hg hg');have HQA:=Y1 hqA;have HQP:=Y1 hqP;have HKW:=Y1 hKB;obtain ⟨p,hp⟩: ∃p,(get b x).getD Z0c=p:=⟨_,rfl⟩;obtain ⟨ok,hok⟩: ∃ok,(get b x).isSome=ok:=⟨_,rfl⟩;have HP:=Y1 (And.intro hp hok);obtain ⟨y0,y1,y2,y3,y4⟩:=hY5;clear hp hok hYA hz hqz hra hc' hc hx hg hg' hcx hqA hqP hb6 hU hTw hSw hKB hu6 hn0w hwr hz4 hn
   go_wp2_with fail
   refine Z21 (rs:= [0,1,2,3,4,5,6,7,8,9,10,11,12])
    (fun u'=> { tmps:=#[.agg (Y8 a pa),.agg (Y8 b pb),.pointer (some { block:=w.heap.size,off:=0 }),.pointer (some { block:=w.heap.size+1,off:=0 }),.pointer (some { block:=w.heap.size+1+1,off:=0 }),.bool false,undef,undef,.pointer (some { block:=w.heap.size+1+1+1,off:=0 }),.int .i64 ↑i,u' 10,u' 12,u12,u13,undef,undef,undef,undef,undef,undef,undef,.pointer (some { block:=w.heap.size,off:=0 }),.int .i64 a.kind,.pointer (some { block:=w.heap.size+1,off:=0 }),.int .i64 b.kind,.bool false,.bool false,.pointer (some { block:=w.heap.size,off:=1 }),.string { data:=a.of_.toArray },.pointer (some { block:=w.heap.size+1,off:=1 }),.string { data:=b.of_.toArray },.bool false,.bool false,.bool false,.pointer (some { block:=w.heap.size,off:=2 }),.string { data:=a.name.toArray },.pointer (some { block:=w.heap.size+1,off:=2 }),.string { data:=b.name.toArray },.bool false,.bool false,undef,.pointer (some { block:=w.heap.size,off:=0 }),.int .i64 a.kind,.bool false,.bool false,undef,undef,undef,undef,undef,undef,undef,undef,undef,undef,undef,undef,undef,undef,undef,undef,undef,undef,.bool true,.bool true,.pointer (some { block:=w.heap.size,off:=0 }),.int .i64 a.kind,.agg #[.int .i64 a.kind,.string { data:=#[] },.string { data:=#[] },.slice none 0 0,.slice none 0 0],.int .i64 ↑i,.pointer (some { block:=w.heap.size,off:=3 }),.slice pa.A a.names.length pa.c,.int .i64 ↑a.names.length,.bool true,u73,u74,u' 7,u' 0,u' 1,u' 2,u' 3,u' 4,u' 5,u' 6,u' 8,u' 9,u85,u86,u87,u88,u89,u90,u91,u92,u93,u94,u95,u96,u97,u98,u99,u100,u101,u102,u103,u104,u105,u106,u107,u108,u109,u110,u111,u112,u113,undef,undef,undef,undef,undef,undef,undef,undef,undef,undef,undef,undef,undef,undef,undef,undef,undef,undef,undef,undef,undef,undef,undef,undef,undef,undef,undef,undef,undef,undef,undef,undef,undef,undef,undef,undef,undef,undef,undef,undef,undef,undef,undef,undef,undef,undef,undef,undef,undef,undef,undef,undef,undef,undef,undef,undef,undef,undef,undef,undef,undef,undef,undef,undef,undef,undef,undef],defers:= [] })
    (fun j=>([u76,u77,u78,u79,u80,u81,u82,u75,u83,u84,u10,undef,u11]:List Value).getD j undef) (TakeN n0 wr (gtakeP (.agg (Y8 b pb)) (.pointer (some ⟨w.heap.size,3,none⟩)) (.slice (some ⟨g,off,none⟩) a.names.length pa.c) (.int .i64 (i:Int)) (.pointer (some ⟨g,off+i,none⟩)) (.string ⟨x.toArray⟩) n0 wr p ok) p) (by kernel_rfl) (by kernel_rfl) (by kernel_rfl) TakeN.start ?_ ?_
   refine StepsInv.cons _ rfl (fun d u' W K' hI hd hw hK=> ?_) ?_
   {obtain ⟨_,⟨y0,y1,y2,y3,y4⟩,_⟩:=HX36.out.next hI.up;simp only[Nat.zero_add] at y0 y1 y2 y3 y4;refine Z02 (v:=(.agg (Y8 b pb))) (W':=W) rfl ?_ (hK.out _ _ (hI.step (by decide) (by decide) rfl Y2))
    try dsimp only
    go_simp}
   refine StepsInv.cons _ rfl (fun d u' W K' hI hd hw hK=> ?_) ?_
   {refine Z02 (v:=(.pointer (some ⟨w.heap.size,3,none⟩))) (W':=W) rfl ?_ (hK.out _ _ (hI.step (by decide) (by decide) rfl Y2))
    try dsimp only
    go_simp}
   refine StepsInv.cons _ rfl (fun d u' W K' hI hd hw hK=> ?_) ?_
   {have d1:u' 1=(.pointer (some ⟨w.heap.size,3,none⟩)):=hI.vals 1 (hw 1 (by kernel_rfl));obtain ⟨_,⟨y0,y1,y2,y3,y4⟩,_⟩:=HX26.out.next hI.up;simp only[Nat.zero_add] at y0 y1 y2 y3 y4;rw[HQA.out] at y3;refine Z02 (v:=(.slice (some ⟨g,off,none⟩) a.names.length pa.c)) (W':=W) rfl ?_ (hK.out _ _ (hI.step (by decide) (by decide) rfl Y2))
    try dsimp only
    go_simp}
   refine StepsInv.cons _ rfl (fun d u' W K' hI hd hw hK=> ?_) ?_
   {refine Z02 (v:=(.int .i64 (i:Int))) (W':=W) rfl ?_ (hK.out _ _ (hI.step (by decide) (by decide) rfl Y2))
    try dsimp only
    go_simp}
   refine StepsInv.cons _ rfl (fun d u' W K' hI hd hw hK=> ?_) ?_
   {have d2:u' 2=(.slice (some ⟨g,off,none⟩) a.names.length pa.c):=hI.vals 2 (hw 2 (by kernel_rfl));have d3:u' 3=(.int .i64 (i:Int)):=hI.vals 3 (hw 3 (by kernel_rfl));refine Z02 (v:=(.pointer (some ⟨g,off+i,none⟩))) (W':=W) rfl ?_ (hK.out _ _ (hI.step (by decide) (by decide) rfl Y2))
    try dsimp only
    go_simp}
   refine StepsInv.cons _ rfl (fun d u' W K' hI hd hw hK=> ?_) ?_
   {have d4:u' 4=(.pointer (some ⟨g,off+i,none⟩)):=hI.vals 4 (hw 4 (by kernel_rfl));have hcx:=(hI.up.cell (p:=⟨g,off+i,none⟩) (show g < wr.heap.size by have:=HG.out.1; have:=HWR.out.2; have:=HSZ6.out; omega)).trans HCX6.out;refine Z02 (v:=(.string ⟨x.toArray⟩)) (W':=W) rfl ?_ (hK.out _ _ (hI.step (by decide) (by decide) rfl Y2))
    try dsimp only
    go_simp}
   refine StepsInv.cons _ rfl (fun d u' W K' hI hd hw hK=> ?_) ?_
   {have d0:u' 0=(.agg (Y8 b pb)):=hI.vals 0 (hw 0 (by kernel_rfl));have d5:u' 5=(.string ⟨x.toArray⟩):=hI.vals 5 (hw 5 (by kernel_rfl));refine Z0F (f:=44) (args:=#[(.agg (Y8 b pb)),(.string ⟨x.toArray⟩)]) (W':=W) rfl ?_ ((Zc5 (by have:=HWR.out.2; have:=HSZ6.out; omega) HS6.out HA.out HP.out.1 HP.out.2 hI.up).mono fun e w' ⟨q,he,hs,hb⟩=>⟨_,he,hK.out _ _ (hI.step (by decide) (by decide) ⟨q,rfl,hs⟩ hb)⟩)
    try dsimp only
    go_simp}
   refine StepsInv.cons _ rfl (fun d u' W K' hI hd hw hK=> ?_) ?_
   {obtain ⟨q,d6,hs⟩:=hI.vals 6 (hw 6 (by kernel_rfl));refine Z02 (v:= .tuple #[.agg (Y8 p q),.bool ok]) (W':=W) rfl ?_ (hK.out _ _ (hI.step (by decide) (by decide) ⟨q,rfl,hs⟩ Y2))
    try dsimp only
    go_simp}
   refine StepsInv.cons _ rfl (fun d u' W K' hI hd hw hK=> ?_) ?_
   {obtain ⟨q,d7,hs⟩:=hI.vals 7 (hw 7 (by kernel_rfl));refine Z02 (v:= .agg (Y8 p q)) (W':=W) rfl ?_ (hK.out _ _ (hI.step (by decide) (by decide) ⟨q,rfl,hs⟩ Y2))
    try dsimp only
    go_simp}
   refine StepsInv.cons _ rfl (fun d u' W K' hI hd hw hK=> ?_) ?_
   {obtain ⟨q,d7,hs⟩:=hI.vals 7 (hw 7 (by kernel_rfl));refine Z02 (v:= .bool ok) (W':=W) rfl ?_ (hK.out _ _ (hI.step (by decide) (by decide) rfl Y2))
    try dsimp only
    go_simp}
   refine StepsInv.cons _ rfl (fun d u' W K' hI hd hw hK=> ?_) ?_
   {refine Z02 (v:= .pointer (some ⟨W.heap.size,0,none⟩)) (W':=W.alloc (.cells Yb 25)) rfl ?_ (hK.out _ _ (hI.alloc hd (fun _=>trivial)))
    try dsimp only
    go_simp}
   refine StepsInv.cons _ rfl (fun d u' W K' hI hd hw hK=> ?_) ?_
   {obtain ⟨q,d8,hs⟩:=hI.vals 8 (hw 8 (by kernel_rfl));obtain ⟨b',d10,hb1,hr⟩:=hI.al (hw 10 (by kernel_rfl)) hd;obtain ⟨v0,y0⟩:=hr.ex 0 (by omega);obtain ⟨v1,y1⟩:=hr.ex 1 (by omega);obtain ⟨v2,y2⟩:=hr.ex 2 (by omega);obtain ⟨v3,y3⟩:=hr.ex 3 (by omega);obtain ⟨v4,y4⟩:=hr.ex 4 (by omega);have z0:=hr.fz 0;have z1:=hr.fz 1;have z2:=hr.fz 2;have z3:=hr.fz 3;have z4:=hr.fz 4;refine Z0q (W':=RX.lay W b' p q) rfl ?_ (hK.out _ _ (hI.store (hw 10 (by kernel_rfl)) hd (fun _=>trivial) d10 hs));unfold RX.lay
    try dsimp only
    go_simp}
   refine StepsInv.cons _ rfl (fun d u' W K' hI hd hw hK=> ?_) StepsInv.nil
   {have d9:u' 9= .bool ok:=hI.vals 9 (hw 9 (by kernel_rfl));refine Z02 (v:= .bool ok) (W':=W) rfl ?_ (hK.out _ _ (hI.step (by decide) (by decide) rfl Y2))
    try dsimp only
    go_simp}
   intro dd z' U2 hI hdn
   try dsimp only
   obtain ⟨h10,b',q,z10,hb1,hs,hbx⟩:=hI.st (hdn 11 (by decide));rw[z10,show z' 12= .bool ok from hI.vals 12 (hdn 12 (by decide))];have hb3:=hI.up;clear hI hdn h10 z10 a0 a1 a2 a3 a4 b0 b1 b2 b3 b4 y0 y1 y2 y3 y4 hs6;have HBX:=Y1 hbx;have HBL:=Y1 hb1;have HSP:=Y1 (Z0a hs (by have:=HWR.out.2; have:=HSZ6.out; omega) (Upd.new (S:=fun _=>False) hb3) (fun _ _ h=>h));have HB62:=Y1 (Z00 HB6.out hb3);have HX2W:=Y1 (HX26.out.next hb3);have HX3W:=Y1 (HX36.out.next hb3);have HY5W:=Y1 (HY56.out.keep (show g' < wr.heap.size by have:=HG.out.2; have:=HWR.out.2; have:=HSZ6.out; omega) hb3);have HYAW:=Y1 (Z0a HYA6.out (by have:=HWR.out.2; have:=HSZ6.out; omega) (Upd.new (S:=fun _=>False) hb3) (fun _ _ h=>h));have HCXW:=Y1 ((hb3.cell (p:=⟨g,off+i,none⟩) (show g < wr.heap.size by have:=HG.out.1; have:=HWR.out.2; have:=HSZ6.out; omega)).trans HCX6.out);have HZW:Hid (wr.heap.size < U2.heap.size):=Y1 (by have:=HSZ6.out; have:=hb3.size; have:=hbx.1; omega);clear hb3 hs hbx hb1;cases ok with
   | false=>
    have hgn:get b (a.names[i]'HLTI.out)=none:=by
     rw[<-HX.out];cases hq:get b x with
     | none=>rfl
     | some v=>have:=HP.out.2; rw[hq] at this; cases this
    have HNX:Hid (L=((callsA a b).take (i+1)).filterMap (narrowStep (bound f false))):=Y1 (by
     rw[ZbV HB.out HLTI.out HIP.out,hgn, <-HINV.out];show L=L++ [];rw[List.append_nil])
    have HKP:=Y1 (HKW.out.new HB62.out);have hlti:=HLTI.out;clear hgn;go_wp2
    go_roundw
    case rel=>exact ⟨i+1,by go_num,by omega,Y1 ⟨L,l,AN,cN,AP,cP,HNX.out,HKP.out⟩⟩
    case measure=>simp[intOf]; omega
   | true=>
    have HGT:Hid (get b x=some p):=Y1 (by
     cases hq:get b x with
     | none=>have:=HP.out.2; rw[hq] at this; cases this
     | some v=>have:=HP.out.1; rw[hq] at this; rw[<-this]; rfl)
    have hgs:get b (a.names[i]'HLTI.out)=some p:=by rw[<-HX.out]; exact HGT.out
    have hTg:get a (a.names[i]'HLTI.out)=some z:=by rw[HZP.out]; exact Z1a HB.out HLTI.out HIP.out
    have hTwo:Two f z p:=H2.out.part (Z06 hTg) (Z06 hgs);have HTWO:=Y1 hTwo;have hn2:n0<=U2.heap.size:=by have:=HWR.out.2; have:=HZW.out; omega
    have HN2:=Y1 hn2;have HNB:Hid ((narrowStep (bound f false)) ((a.names[i]'HLTI.out,some (a.parts[i]'HIP.out),get b (a.names[i]'HLTI.out)):Cl)=(bound f false z p).map (fun y=>(x,y))):=Y1 (by rw[hgs, <-HZP.out, <-HX.out]; rfl);obtain ⟨_,⟨x0,x1,x2,x3,x4⟩,_⟩:=HBX.out;obtain ⟨_,⟨c0,c1,c2,c3,c4⟩,_⟩:=HX2W.out;obtain ⟨s0,s1,s2,s3,s4⟩:=HY5W.out;simp only[Nat.zero_add] at x0 x1 x2 x3 x4 c0 c1 c2 c3 c4;rw[HQP.out] at c4;have HC4:=Y1 c4;have hi9:=HIP.out;have hi8: (i:Int) < (a.parts.length:Int):=by omega
    clear hgs hTg hTwo
    go_wp2_with fail
    clear x0 x1 x2 x3 x4 c0 c1 c2 c3 c4 s0 s1 s2 s3 s4 hi9 hi8;refine Z1u (rs:= [0,1,2,3,4,5,6,7,8,9,10,11,12])
     (fun u=> { tmps:=#[.agg (Y8 a pa),.agg (Y8 b pb),.pointer (some { block:=w.heap.size,off:=0 }),.pointer (some { block:=w.heap.size+1,off:=0 }),.pointer (some { block:=w.heap.size+1+1,off:=0 }),.bool false,undef,undef,.pointer (some { block:=w.heap.size+1+1+1,off:=0 }),.int .i64 ↑i,.pointer (some { block:=b',off:=0 }),.bool true,u 10,u 12,undef,undef,undef,undef,undef,undef,undef,.pointer (some { block:=w.heap.size,off:=0 }),.int .i64 a.kind,.pointer (some { block:=w.heap.size+1,off:=0 }),.int .i64 b.kind,.bool false,.bool false,.pointer (some { block:=w.heap.size,off:=1 }),.string { data:=a.of_.toArray },.pointer (some { block:=w.heap.size+1,off:=1 }),.string { data:=b.of_.toArray },.bool false,.bool false,.bool false,.pointer (some { block:=w.heap.size,off:=2 }),.string { data:=a.name.toArray },.pointer (some { block:=w.heap.size+1,off:=2 }),.string { data:=b.name.toArray },.bool false,.bool false,undef,.pointer (some { block:=w.heap.size,off:=0 }),.int .i64 a.kind,.bool false,.bool false,undef,undef,undef,undef,undef,undef,undef,undef,undef,undef,undef,undef,undef,undef,undef,undef,undef,undef,.bool true,.bool true,.pointer (some { block:=w.heap.size,off:=0 }),.int .i64 a.kind,.agg #[.int .i64 a.kind,.string { data:=#[] },.string { data:=#[] },.slice none 0 0,.slice none 0 0],.int .i64 ↑i,.pointer (some { block:=w.heap.size,off:=3 }),.slice pa.A a.names.length pa.c,.int .i64 ↑a.names.length,.bool true,u73,u74,z' 7,z' 0,z' 1,z' 2,z' 3,z' 4,z' 5,z' 6,z' 8,z' 9,.bool true,.bool false,u 7,u 0,u 1,u 2,u 3,u 4,u 5,u 6,u 8,u 9,u97,u98,u99,u100,u101,u102,u103,u104,u105,u106,u107,u108,u109,u110,u111,u112,u113,undef,undef,undef,undef,undef,undef,undef,undef,undef,undef,undef,undef,undef,undef,undef,undef,undef,undef,undef,undef,undef,undef,undef,undef,undef,undef,undef,undef,undef,undef,undef,undef,undef,undef,undef,undef,undef,undef,undef,undef,undef,undef,undef,undef,undef,undef,undef,undef,undef,undef,undef,undef,undef,undef,undef,undef,undef,undef,undef,undef,undef,undef,undef,undef,undef,undef,undef],defers:= [] })
     (fun j=>([u88,u89,u90,u91,u92,u93,u94,u87,u95,u96,u12,undef,u13]:List Value).getD j undef) (GetI U2 n0 (getT (.pointer (some ⟨w.heap.size,4,none⟩)) (.slice (some ⟨g',off',none⟩) a.parts.length pa.d) (.int .i64 (i:Int)) (.pointer (some ⟨g',off'+i * 5,none⟩)) (.agg (Y8 z qz)) (.agg (Y8 p q)) undef undef) 6 (bound f false z p)) (by kernel_rfl) (by kernel_rfl) (by kernel_rfl) GetI.start ?_ ?_
    refine StepsInv.cons2 _ rfl (fun d u W K' hs hI hd hw hK=> ?_) ?_
    {refine Z02 (v:= .pointer (some ⟨w.heap.size,4,none⟩)) (W':=W) rfl ?_ (hK.out _ _ (hI.pure (by decide) rfl))
     try dsimp only
     go_simp}
    refine StepsInv.cons2 _ rfl (fun d u W K' hs hI hd hw hK=> ?_) ?_
    {have d0:u 0= .pointer (some ⟨w.heap.size,4,none⟩):=hI.vals 0 (by decide) (hw 0 (by kernel_rfl));obtain ⟨_,⟨y0,y1,y2,y3,y4⟩,_⟩:=HX2W.out.next hI.up;simp only[Nat.zero_add] at y0 y1 y2 y3 y4;rw[HQP.out] at y4;refine Z02 (v:= .slice (some ⟨g',off',none⟩) a.parts.length pa.d) (W':=W) rfl ?_ (hK.out _ _ (hI.pure (by decide) rfl))
     try dsimp only
     go_simp}
    refine StepsInv.cons2 _ rfl (fun d u W K' hs hI hd hw hK=> ?_) ?_
    {refine Z02 (v:= .int .i64 (i:Int)) (W':=W) rfl ?_ (hK.out _ _ (hI.pure (by decide) rfl))
     try dsimp only
     go_simp}
    refine StepsInv.cons2 _ rfl (fun d u W K' hs hI hd hw hK=> ?_) ?_
    {have d1:u 1= .slice (some ⟨g',off',none⟩) a.parts.length pa.d:=hI.vals 1 (by decide) (hw 1 (by kernel_rfl));have d2:u 2= .int .i64 (i:Int):=hI.vals 2 (by decide) (hw 2 (by kernel_rfl));have hi8: (i:Int) < (a.parts.length:Int):=by have:=HIP.out; omega
     refine Z02 (v:= .pointer (some ⟨g',off'+i * 5,none⟩)) (W':=W) rfl ?_ (hK.out _ _ (hI.pure (by decide) rfl))
     try dsimp only
     go_simp}
    refine StepsInv.cons2 _ rfl (fun d u W K' hs hI hd hw hK=> ?_) ?_
    {have d3:u 3= .pointer (some ⟨g',off'+i * 5,none⟩):=hI.vals 3 (by decide) (hw 3 (by kernel_rfl));obtain ⟨y0,y1,y2,y3,y4⟩:=HY5W.out.keep (show g' < U2.heap.size by have:=HG.out.2; have:=HN2.out; omega) hI.up;refine Z02 (v:= .agg (Y8 z qz)) (W':=W) rfl ?_ (hK.out _ _ (hI.pure (by decide) rfl))
     try dsimp only
     go_simp}
    refine StepsInv.cons2 _ rfl (fun d u W K' hs hI hd hw hK=> ?_) ?_
    {obtain ⟨_,⟨y0,y1,y2,y3,y4⟩,_⟩:=HBX.out.next hI.up;simp only[Nat.zero_add] at y0 y1 y2 y3 y4;refine Z02 (v:= .agg (Y8 p q)) (W':=W) rfl ?_ (hK.out _ _ (hI.pure (by decide) rfl))
     try dsimp only
     go_simp}
    refine StepsInv.cons2 _ rfl (fun d u W K' hs hI hd hw hK=> ?_) ?_
    {have d4:u 4= .agg (Y8 z qz):=hI.vals 4 (by decide) (hw 4 (by kernel_rfl));have d5:u 5= .agg (Y8 p q):=hI.vals 5 (by decide) (hw 5 (by kernel_rfl));have h1:d 7=false:=Z0i hs rfl (by kernel_rfl) hd;have h2:d 8=false:=Z0i hs rfl (by kernel_rfl) h1;have h3:d 9=false:=Z0i hs rfl (by kernel_rfl) h1;have h5:d 11=false:=Z0i hs rfl (by kernel_rfl) h2;have h6:d 12=false:=Z0i hs rfl (by kernel_rfl) h3;refine Z0F (f:=25) (args:=#[.agg (Y8 z qz),.agg (Y8 p q)]) (W':=W) rfl ?_ ((show Calls Tryz.prog 25 #[.agg (Y8 z qz),.agg (Y8 p q)] W (GetIs n0 (bound f false z p) W) from HI.out false z p qz q n0 W HTWO.out (HYAW.out.keep hI.up HN2.out) (HSP.out.keep hI.up HN2.out) (Nat.le_trans HN2.out hI.up.size)).mono fun e w' hb=> ?_)
     {try dsimp only
      go_simp}
     {obtain ⟨v,he,hr⟩:=hI.call hd (fun j hj=>by rcases hj with rfl | rfl | rfl | rfl | rfl <;> assumption) hb;exact ⟨v,he,hK.out _ _ hr⟩}}
    refine StepsInv.cons2 _ rfl (fun d u W K' hs hI hd hw hK=> ?_) ?_
    {have w7:=hw 6 (by kernel_rfl);obtain ⟨t,qt,W2,s,e7,_⟩:=hI.ca w7
     try dsimp only at e7
     unfold sv at e7;refine Z02 (v:= .tuple #[.agg (Y8 t qt),.bool (bound f false z p).isSome]) (W':=W) rfl ?_ (hK.out _ _ (hI.read w7 (by decide) hd (fun t' q' h=>⟨fun _=>e7.symm,nofun,nofun,nofun⟩)));go_simp}
    refine StepsInv.cons2 _ rfl (fun d u W K' hs hI hd hw hK=> ?_) ?_
    {have w8:=hw 7 (by kernel_rfl);have w7:d 6=true:=hs 7 _ rfl w8 6 (by kernel_rfl);obtain ⟨t,qt,W2,s,e7,_,_,_,e8,_⟩:=hI.ca w7
     try dsimp only at e7 e8
     have d8:=(e8 w8).trans e7;have e7s:=e7;unfold sv at d8;refine Z02 (v:= .agg (Y8 t qt)) (W':=W) rfl ?_ (hK.out _ _ (hI.read w7 (by decide) hd (fun t' q' h=>⟨nofun,fun _=>by rw[e7s] at h; simp only[Value.tuple.injEq] at h; have:=congrArg (fun a:Array Value=>a[0]?) h; unfold sv at this ⊢; simpa using this,nofun,nofun⟩)));go_simp}
    refine StepsInv.cons2 _ rfl (fun d u W K' hs hI hd hw hK=> ?_) ?_
    {have w8:=hw 7 (by kernel_rfl);have w7:d 6=true:=hs 7 _ rfl w8 6 (by kernel_rfl);obtain ⟨t,qt,W2,s,e7,_,_,_,e8,_⟩:=hI.ca w7
     try dsimp only at e7 e8
     have d8:=(e8 w8).trans e7;unfold sv at d8;refine Z02 (v:= .bool (bound f false z p).isSome) (W':=W) rfl ?_ (hK.out _ _ (hI.read w7 (by decide) hd (fun t' q' h=>⟨nofun,nofun,fun _=>rfl,nofun⟩)));go_simp}
    refine StepsInv.cons2 _ rfl (fun d u W K' hs hI hd hw hK=> ?_) ?_
    {have h12:d 11=false:=Z0i hs rfl (by kernel_rfl) hd;refine Z02 (v:= .pointer (some ⟨W.heap.size,0,none⟩)) (W':=W.alloc (.cells Yb 25)) rfl ?_ (hK.out _ _ (hI.alloc hd h12));go_simp}
    refine StepsInv.cons2 _ rfl (fun d u W K' hs hI hd hw hK=> ?_) ?_
    {have w11:=hw 10 (by kernel_rfl);have w9:=hw 8 (by kernel_rfl);have w7:=hw 6 (by kernel_rfl);obtain ⟨t,qt,W2,s,e7,_,_,_,_,e9,_⟩:=hI.ca w7
     try dsimp only at e7 e9
     have d9:=e9 w9;obtain ⟨g1,e11,g2,g3,g4,g5⟩:=hI.al w11
     try dsimp only at e11
     have hst:=hI.store w7 w11 e11 e7 (fun t' q' h=>ZbN h);refine Z0q (W':=RX.lay W g1 t qt) rfl ?_ (hK.out undef _ hst);obtain ⟨v0,x0⟩:=g5 0 (by omega);obtain ⟨v1,x1⟩:=g5 1 (by omega);obtain ⟨v2,x2⟩:=g5 2 (by omega);obtain ⟨v3,x3⟩:=g5 3 (by omega);obtain ⟨v4,x4⟩:=g5 4 (by omega);have y0:=g4 0;have y1:=g4 1;have y2:=g4 2;have y3:=g4 3;have y4:=g4 4;unfold sv at d9;go_simp;rfl}
    refine StepsInv.cons2 _ rfl (fun d u W K' hs hI hd hw hK=> ?_) StepsInv.nil
    {have w10:=hw 9 (by kernel_rfl);have w8:d 7=true:=hs 9 _ rfl w10 7 (by kernel_rfl);have w7:d 6=true:=hs 7 _ rfl w8 6 (by kernel_rfl);obtain ⟨t,qt,W2,s,e7,_,_,_,_,_,e10,_⟩:=hI.ca w7
     try dsimp only at e7 e10
     have d10:=e10 w10;refine Z02 (v:= .bool (bound f false z p).isSome) (W':=W) rfl ?_ (hK.out _ _ (hI.read w7 (by decide) hd (fun t' q' h=>⟨nofun,nofun,nofun,fun _=>rfl⟩)));go_simp}
    intro d s' W4 hI hd
    try dsimp only
    have w7:=hd 6 (by decide);have w11:=hd 10 (by decide);obtain ⟨g1,e11,g2,g3,g4,_⟩:=hI.al w11;obtain ⟨t,qt,W2,s,e7,s1,s2,hj,_,_,_,hu,hgs,h12,h13⟩:=hI.ca w7;have d13:=h13 (hd 12 (by decide));have hl5:=h12 (hd 11 (by decide)) g1 e11;have hsep:=hgs g1 w11 e11
    try dsimp only at d13 e11
    have hup:=hI.up;rw[e11,d13];have HG4:=Y1 g4;have HG1:Hid (U2.heap.size<=g1/\g1 < W4.heap.size):=Y1 ⟨g2,g3⟩;have HL5:=Y1 hl5;have HUP:=Y1 hup;have HJ:Hid (∀j,bound f false z p=some j->t=j/\Kept (fun b=>b < n0\/(wr.heap.size < b/\b < W4.heap.size)) W4 (j,qt)):=Y1 (fun j hb=>by
     obtain ⟨e1,e2⟩:=hj j hb;have hsu:=hup.size;refine ⟨e1,(e2.move (S':=fun b=>b < n0\/(U2.heap.size<=b/\b≠g1)) hu (fun b hb hf=>⟨fun ht=> ?_, ?_⟩)).more (fun b hb hf=> ?_)⟩
     {obtain ⟨_,ht2⟩:=ht;rw[e11] at ht2;have e3:g1=b:=by simp at ht2 <;> exact ht2
      have:=HN2.out;rcases hsep with h | h
      {rcases hf with hf | hf <;> omega}
      {omega}}
     {rcases hf with hf | hf
      {exact Or.inl hf}
      {have hne:b≠g1:=fun e=>by
        rcases hsep with h | h <;> omega
       exact Or.inr ⟨by omega,hne⟩}}
     · have:=HZW.out
       rcases hf with hf | hf
       {exact Or.inl hf}
       · exact Or.inr ⟨by omega,hb⟩)
    have HBP:=Y1 (Z00 HB62.out hup);have HTB:=Y1 (HX2W.out.next hup);have HCN:=Y1 ((hup.cell (p:=⟨g,off+i,none⟩) (show g < U2.heap.size by have:=HG.out.1; have:=HN2.out; omega)).trans HCXW.out);clear hup hj hu hgs hsep g2 g3 g4 e7 e11 d13 h12 h13 hI hd w7 w11 s1 s2 hl5;obtain ⟨is,his⟩: ∃is,(bound f false z p).isSome=is:=⟨_,rfl⟩;rw[his];cases is with
    | false=>
     have hbo:bound f false z p=none:=by
      cases e:bound f false z p with
      | none=>rfl
      | some y=>rw[e] at his; cases his
     have HNX:Hid (L=((callsA a b).take (i+1)).filterMap (narrowStep (bound f false))):=Y1 (by
      rw[ZbV HB.out HLTI.out HIP.out,HNB.out,hbo, <-HINV.out];show L=L++ [];rw[List.append_nil])
     have HKP:=Y1 (HKW.out.new HBP.out);have hlti:=HLTI.out;clear hbo his HJ;go_wp2
     go_roundw
     case rel=>exact ⟨i+1,by go_num,by omega,Y1 ⟨L,l,AN,cN,AP,cP,HNX.out,HKP.out⟩⟩
     case measure=>simp[intOf]; omega
    | true=>
     obtain ⟨y,hbo⟩:=Option.isSome_iff_exists.1 his;obtain ⟨rfl,hky⟩:=HJ.out y hbo;have HEL:=Y1 hky;have HNX:Hid (L++ [(x,t)]=((callsA a b).take (i+1)).filterMap (narrowStep (bound f false))):=Y1 (by
      rw[ZbV HB.out HLTI.out HIP.out,HNB.out,hbo, <-HINV.out];rfl)
     have HBXP:Hid (Box5 W4 g1 t qt):=Y1 ⟨HG1.out.2,HL5.out,HG4.out 0,HG4.out 1,HG4.out 2,HG4.out 3,HG4.out 4⟩;have HBXL:Hid (wr.heap.size<=g1):=Y1 (by have:=HG1.out.1; have:=HZW.out; omega);clear hbo his HJ hky HL5;have HKP:=Y1 (HKW.out.new HBP.out);obtain ⟨nl,hnl⟩: ∃nl,nl=L.map Prod.fst:=⟨_,rfl⟩;have HNL:=Y1 hnl;have hX: (NX.mk W4 (w.heap.size+3) (w.heap.size+4) AN cN nl (w.heap.size) g off a.names.length pa.c i x).Good:=by
      obtain ⟨_,⟨c0,c1,c2,c3,c4⟩,_⟩:=HTB.out;simp only[Nat.zero_add] at c3;rw[HQA.out] at c3;refine ⟨HKP.out.mm.gh,HKP.out.mm.hw, ?_,HKP.out.mm.fz, ?_,⟨by show w.heap.size < w.heap.size+3; omega,c3⟩,⟨by show g < w.heap.size+3; have:=HG.out.1; have:=HN.out; omega,HCN.out⟩,by show nl.length<=1000; rw[hnl,List.length_map]; have:=HLL.out.1; omega⟩
      {have:=HKP.out.mm.c3; rw[<-hnl] at this; exact this}
      {have:=HKP.out.mm.rN; rw[<-hnl] at this; exact this}
     have HXN:=Y1 hX;clear hX hnl
     go_wp2_with fail
     refine Z1u (rs:= [0,1,2,3,4,5,6,7,8,9,10])
      (fun u'=> { tmps:=#[.agg (Y8 a pa),.agg (Y8 b pb),.pointer (some { block:=w.heap.size,off:=0 }),.pointer (some { block:=w.heap.size+1,off:=0 }),.pointer (some { block:=w.heap.size+1+1,off:=0 }),.bool false,undef,undef,.pointer (some { block:=w.heap.size+1+1+1,off:=0 }),.int .i64 ↑i,.pointer (some { block:=b',off:=0 }),.bool true,.pointer (some { block:=g1,off:=0 }),.bool true,undef,undef,undef,undef,undef,undef,undef,.pointer (some { block:=w.heap.size,off:=0 }),.int .i64 a.kind,.pointer (some { block:=w.heap.size+1,off:=0 }),.int .i64 b.kind,.bool false,.bool false,.pointer (some { block:=w.heap.size,off:=1 }),.string { data:=a.of_.toArray },.pointer (some { block:=w.heap.size+1,off:=1 }),.string { data:=b.of_.toArray },.bool false,.bool false,.bool false,.pointer (some { block:=w.heap.size,off:=2 }),.string { data:=a.name.toArray },.pointer (some { block:=w.heap.size+1,off:=2 }),.string { data:=b.name.toArray },.bool false,.bool false,undef,.pointer (some { block:=w.heap.size,off:=0 }),.int .i64 a.kind,.bool false,.bool false,undef,undef,undef,undef,undef,undef,undef,undef,undef,undef,undef,undef,undef,undef,undef,undef,undef,undef,.bool true,.bool true,.pointer (some { block:=w.heap.size,off:=0 }),.int .i64 a.kind,.agg #[.int .i64 a.kind,.string { data:=#[] },.string { data:=#[] },.slice none 0 0,.slice none 0 0],.int .i64 ↑i,.pointer (some { block:=w.heap.size,off:=3 }),.slice pa.A a.names.length pa.c,.int .i64 ↑a.names.length,.bool true,u73,u74,z' 7,z' 0,z' 1,z' 2,z' 3,z' 4,z' 5,z' 6,z' 8,z' 9,.bool true,.bool false,s' 7,s' 0,s' 1,s' 2,s' 3,s' 4,s' 5,s' 6,s' 8,s' 9,.bool true,u' 0,u' 1,u' 2,u' 3,u' 4,u' 5,u' 6,u' 7,u' 8,u' 9,u108,u109,u110,u111,u112,u113,undef,undef,undef,undef,undef,undef,undef,undef,undef,undef,undef,undef,undef,undef,undef,undef,undef,undef,undef,undef,undef,undef,undef,undef,undef,undef,undef,undef,undef,undef,undef,undef,undef,undef,undef,undef,undef,undef,undef,undef,undef,undef,undef,undef,undef,undef,undef,undef,undef,undef,undef,undef,undef,undef,undef,undef,undef,undef,undef,undef,undef,undef,undef,undef,undef,undef,undef],defers:= [] })
      (fun j=>([u98,u99,u100,u101,u102,u103,u104,u105,u106,u107,undef]:List Value).getD j undef) (NX.NI ⟨W4,w.heap.size+3,w.heap.size+4,AN,cN,nl,w.heap.size,g,off,a.names.length,pa.c,i,x⟩) (by kernel_rfl) (by kernel_rfl) (by kernel_rfl) HXN.out.start ?_ ?_
     refine StepsInv.cons2 _ rfl (fun d u' W K' hs hI hd hw hK=> ?_) ?_
     {refine Z02 (v:= .pointer (some ⟨w.heap.size+3,3,none⟩)) (W':=W) rfl ?_ (hK.out _ _ (hI.pure (by decide) (fun v' h=>by cases h; rfl)));go_simp}
     refine StepsInv.cons2 _ rfl (fun d u' W K' hs hI hd hw hK=> ?_) ?_
     {have d0:u' 0= .pointer (some ⟨w.heap.size+3,3,none⟩):=hI.vals 0 (hw 0 (by kernel_rfl)) _ rfl;have h10:d 10=false:=Z0i hs rfl (by kernel_rfl) hd;have c3:=hI.c3;rw[h10] at c3;simp only[Bool.false_eq_true,if_false] at c3;change W.cell? ⟨w.heap.size+3,3,none⟩=_ at c3;refine Z02 (v:= .slice AN nl.length cN) (W':=W) rfl ?_ (hK.out _ _ (hI.pure (by decide) (fun v' h=>by cases h; rfl)));go_simp}
     refine StepsInv.cons2 _ rfl (fun d u' W K' hs hI hd hw hK=> ?_) ?_
     {refine Z02 (v:= .pointer (some ⟨w.heap.size,3,none⟩)) (W':=W) rfl ?_ (hK.out _ _ (hI.pure (by decide) (fun v' h=>by cases h; rfl)));go_simp}
     refine StepsInv.cons2 _ rfl (fun d u' W K' hs hI hd hw hK=> ?_) ?_
     {have d2:u' 2= .pointer (some ⟨w.heap.size,3,none⟩):=hI.vals 2 (hw 2 (by kernel_rfl)) _ rfl;obtain ⟨c3,_⟩:=hI.look HXN.out
      try dsimp only at c3
      refine Z02 (v:= .slice (some ⟨g,off,none⟩) a.names.length pa.c) (W':=W) rfl ?_ (hK.out _ _ (hI.pure (by decide) (fun v' h=>by cases h; rfl)));go_simp}
     refine StepsInv.cons2 _ rfl (fun d u' W K' hs hI hd hw hK=> ?_) ?_
     {refine Z02 (v:= .int .i64 (i:Int)) (W':=W) rfl ?_ (hK.out _ _ (hI.pure (by decide) (fun v' h=>by cases h; rfl)));go_simp}
     refine StepsInv.cons2 _ rfl (fun d u' W K' hs hI hd hw hK=> ?_) ?_
     {have d3:u' 3= .slice (some ⟨g,off,none⟩) a.names.length pa.c:=hI.vals 3 (hw 3 (by kernel_rfl)) _ rfl;have d4:u' 4= .int .i64 (i:Int):=hI.vals 4 (hw 4 (by kernel_rfl)) _ rfl;refine Z02 (v:= .pointer (some ⟨g,off+i,none⟩)) (W':=W) rfl ?_ (hK.out _ _ (hI.pure (by decide) (fun v' h=>by cases h; rfl)));go_simp}
     refine StepsInv.cons2 _ rfl (fun d u' W K' hs hI hd hw hK=> ?_) ?_
     {have d5:u' 5= .pointer (some ⟨g,off+i,none⟩):=hI.vals 5 (hw 5 (by kernel_rfl)) _ rfl;obtain ⟨_,c3⟩:=hI.look HXN.out
      try dsimp only at c3
      refine Z02 (v:= .string ⟨x.toArray⟩) (W':=W) rfl ?_ (hK.out _ _ (hI.pure (by decide) (fun v' h=>by cases h; rfl)));go_simp}
     refine StepsInv.cons2 _ rfl (fun d u' W K' hs hI hd hw hK=> ?_) ?_
     {have d6:u' 6= .string ⟨x.toArray⟩:=hI.vals 6 (hw 6 (by kernel_rfl)) _ rfl;have h8:d 8=false:=Z0i hs rfl (by kernel_rfl) hd;refine Z02 (v:= .slice (some ⟨W.heap.size,0,none⟩) 1 1) (W':=W.alloc (.cells #[.string ⟨x.toArray⟩] 9)) rfl ?_ (hK.out _ _ (hI.s7 HXN.out h8));go_simp}
     refine StepsInv.cons2 _ rfl (fun d u' W K' hs hI hd hw hK=> ?_) ?_
     {have d1:u' 1= .slice AN nl.length cN:=hI.vals 1 (hw 1 (by kernel_rfl)) _ rfl;obtain ⟨zz,d7,z1,z2,z3⟩:=hI.f7 (hw 7 (by kernel_rfl)) hd;have h10:d 10=false:=Z0i hs rfl (by kernel_rfl) hd;have hln:=HXN.out.ln;have hsz:=hI.up.size;have hhw:=HXN.out.hw;refine step_append_lies W rfl _ _ 22 rfl (w.heap.size+4) 9 i1 (.string ByteArray.empty) 1 16 Tryz.underlying22 hif1 hz1 hsz1 hbz1 rfl (by decide) _ _ _ (by show u' 1=_; exact d1) (hI.n0 hd) ⟨zz,0,none⟩ 1 1 [.string ⟨x.toArray⟩] (by show u' 7=_; exact d7) rfl (fun j v hv=>by
       rcases j with _ | j
       {rw[Z0f,z3]; simpa using hv}
       · simp at hv) (by intro v hv; simp at hv; subst hv; rfl) (by decide) (by show nl.length+1<=maxLen; unfold maxLen; change nl.length<=1000 at hln; omega) (by show (nl.length+1) * 16<=140737488355328; change nl.length<=1000 at hln; omega) (by change w.heap.size+4<=W4.heap.size at hhw; change W4.heap.size<=_ at hsz; omega) _ rfl ?_
      intro g1 cp W' hown hg hat hlt;rw[rowB_own] at hg hat;exact hK.out _ _ (hI.s8 HXN.out h10 hown hg hat)}
     refine StepsInv.cons2 _ rfl (fun d u' W K' hs hI hd hw hK=> ?_) ?_
     {refine Z02 (v:= .pointer (some ⟨w.heap.size+3,3,none⟩)) (W':=W) rfl ?_ (hK.out _ _ (hI.pure (by decide) (fun v' h=>by cases h; rfl)));go_simp}
     refine StepsInv.cons2 _ rfl (fun d u' W K' hs hI hd hw hK=> ?_) StepsInv.nil
     {have d9:u' 9= .pointer (some ⟨w.heap.size+3,3,none⟩):=hI.vals 9 (hw 9 (by kernel_rfl)) _ rfl;have w8:=hw 8 (by kernel_rfl);obtain ⟨g1,c,e,_⟩:=hI.n1 w8;change u' 8= .slice (some ⟨g1,0,none⟩) (nl.length+1) c at e;have hst:=hI.s10 HXN.out w8;have cc:=hI.c3;rw[hd] at cc;simp only[Bool.false_eq_true,if_false] at cc;change W.cell? ⟨w.heap.size+3,3,none⟩=_ at cc;have hfz:=hI.fz 3;change W.frozen? ⟨w.heap.size+3,3,none⟩=_ at hfz;rw[e] at hst;change NX.NI _ _ _ (W.setCell ⟨w.heap.size+3,3,none⟩ _) at hst;refine Z0q (W':=W.setCell ⟨w.heap.size+3,3,none⟩ (.slice (some ⟨g1,0,none⟩) (nl.length+1) c)) rfl ?_ (hK.out undef _ hst);go_simp}
     intro dd2 z2' W5 hI hdn
     try dsimp only
     obtain ⟨AN',cN',hK5,hr5,hU5⟩:=NX.done (gm:=w.heap.size+3) (hi:=w.heap.size+4) (n0:=n0) (rc:=w.heap.size+2) hI HXN.out (fun j hj=>hdn j (by show j < 11; omega)) rfl rfl rfl rfl rfl (by have:=HN.out; omega) (by omega) (by rw[HNL.out]; exact HKP.out);change Upd (fun b=>b=w.heap.size+3\/rowB AN=some b) W4 W5 at hU5;change KBs _ _ _ _ _ _ _ _ _ (nl++ [x]) _ _ _ _ _ _ _ at hK5;clear hI hdn;have hAN: ∀b,rowB AN=some b->w.heap.size+4<=b/\b < wr.heap.size:=fun b h=>Z08 HKW.out.mm.rN b h;have hAP: ∀b,rowB AP=some b->w.heap.size+4<=b/\b < wr.heap.size:=fun b h=>Z08 HKW.out.mm.rP b h;have HK5:=Y1 hK5;have hzp:=HBP.out.size;have hwr:=HWR.out;have hEL5:Kept (fun b=>b < n0\/(wr.heap.size < b/\b < W4.heap.size)) W5 (t,qt):=HEL.out.upd hU5 (fun b hb hS hT=>by
      rcases hT with hT | hT
      {have:=HN.out; omega}
      · have:=hAN b hT; have:=HN.out; omega)
     have HEL5:=Y1 hEL5;have hbxl:=HBXL.out;have hb5:=Z0e HBXP.out hU5 (fun hT=>by
      rcases hT with hT | hT
      {omega}
      · have:=hAN _ hT; omega)
     obtain ⟨_,⟨x0,x1,x2,x3,x4⟩,_⟩:=hb5;simp only[Nat.zero_add] at x0 x1 x2 x3 x4;have d4:=HK5.out.mm.c4;have f4:=HK5.out.mm.fz 4;have hgw:w.heap.size+3 < W5.heap.size:=by have:=HK5.out.mm.hw; omega
     have hll:=HK5.out.len;have hll2:l.length<=400:=by rw[hll,List.length_map]; exact HLL.out.1
     have HP5:=Y1 (Z0g (S:=fun _=>False) HK5.out.mm.rP (Upd.new (Z01 W5 (.cells (Y8 t qt) 25))) (fun _ _ h=>h));have HS5:Hid (w.heap.size+4<=W5.heap.size):=Y1 HK5.out.mm.hw;have HR5:=Y1 hr5;have HZ5:=Y1 hU5.size;clear hK5 hr5 hU5 hAN hAP hEL5 hll hzp hwr hbxl
     go_wp2_with (at_builtin; refine wpList_append_lies _ rfl _ _ 23 rfl (w.heap.size+4) 25 i0 (.agg #[.int .i64 0,.string ByteArray.empty,.string ByteArray.empty,.slice none 0 0,.slice none 0 0]) 5 88 Tryz.underlying23 hif0 hz0 hs0 hb0 rfl (by decide) _ _ _ rfl HP5.out ⟨W5.heap.size,0,none⟩ 1 1 (cells5 (t,qt)) rfl rfl (by intro j v hv; rw[Z0f,Nat.zero_add]; rcases j with _ | _ | _ | _ | _ | j <;> (simp[cells5] at hv; try (subst hv; simp[go_sem]))) (cells5_one _) (by decide) (by unfold maxLen; omega) (by omega) (by have:=HS5.out; simp; omega) _ rfl ?_)
     intro g2 cap2 w8 hown2 hgrow2 hat2 hlt2;rw[rowB_own] at hgrow2 hat2;have hat3:rowB AP=some g2\/g2=(W5.alloc (.cells (Y8 t qt) 25)).heap.size:=by
      rcases hat2 with h | h
      {exact Or.inl h}
      {exact Or.inr (by rw[h]; simp)}
     have hb8:=Z01 W5 (.cells (Y8 t qt) 25);have hEND:=HK5.out.putP (pb:=wr.heap.size) (e:=W4.heap.size) (x:=(t,qt)) (by have:=HN.out; omega) (by omega) HEL5.out HZ5.out HWR.out.1 (fun b h=>by
      rcases HR5.out b h with h | h
      {exact Or.inl (Z08 HKW.out.mm.rN b h).2}
      · exact Or.inr h) (fun b h=>Or.inl (Z08 HKW.out.mm.rP b h).2) hb8 hgrow2 hown2 hat3
     have hu8:Upd (fun b=>rowB AP=some b) W5 w8:=(Upd.new (S:=fun b=>rowB AP=some b) hb8).grown hgrow2 (fun k h _=>h);have hn8: ¬rowB AP=some (w.heap.size+3):=fun e=>by have:=(Z08 HK5.out.mm.rP _ e).1; omega
     have d5:=(hu8.cell hgw hn8).trans d4;have f5:=(hu8.frozen hgw hn8).trans f4;have hgw8:w.heap.size+3 < w8.heap.size:=Nat.lt_of_lt_of_le hgw hu8.size;have HEND:Hid (∃(L':List Fld) (l':List El) (AN':Option Addr) (cN':Nat) (AP':Option Addr) (cP':Nat),(L'=((callsA a b).take (i+1)).filterMap (narrowStep (bound f false)))/\KBs w w4 n0 (w.heap.size+3) (w.heap.size+4) (w.heap.size+2) a.kind [] [] (L'.map Prod.fst) (L'.map Prod.snd) l' AN' cN' AP' cP' (w8.setCell ⟨w.heap.size+3,4,none⟩ (.slice (some ⟨g2,0,none⟩) (l.length+1) cap2))):=Y1 ⟨L++ [(x,t)],l++ [(t,qt)],_,_,_,_,HNX.out,by
      rw[List.map_append,List.map_append, <-HNL.out];exact hEND⟩
     have hlti:=HLTI.out;clear hown2 hgrow2 hat2 hat3 hlt2 hb8 hEND hu8 hn8 d4 f4 HP5;go_wp2
     go_roundw
     case rel=>exact ⟨i+1,by go_num,by omega,HEND⟩
     case measure=>simp[intOf]; omega}
  {have hi1: ¬(i:Int) < (a.names.length:Int):=by omega
   obtain rfl:i=a.names.length:=by omega
   have hKF:=hKB;have hINV:=HINV.out;rw[Zc1 HB.out] at hINV;have hKF2:=hKF;rw[hINV] at hKF2;have hLL:=HLL.out;obtain ⟨h5,hkp⟩:=hKF.fin (by simp) (by simp) (fun x hx=>by have:=hLL.2 x hx; omega) (by rw[List.length_map]; omega) (by rw[List.length_map]; omega);have hbd:bound (f+1) false a b=some ⟨a.kind,[],[],L.map Prod.fst,L.map Prod.snd⟩:=by rw[HBO.out, <-hINV]; rfl
   have hfin:=Zc2 (o:=bound (f+1) false a b) (rc:=w.heap.size+2) (hi:=w.heap.size+4) (n0:=n0) (w:=w) (W:=wr) hbd HN.out (by omega) (by omega) hKF.mm.up hkp;obtain ⟨r,hre⟩: ∃r:Sh,r=⟨a.kind,[],[],L.map Prod.fst,L.map Prod.snd⟩:=⟨_,rfl⟩;rw[<-hre] at h5 hfin;have HF:=Y1 hfin;have hR:=hKF.rr;obtain ⟨x0,x1,x2,x3,x4⟩:=h5;simp only[Nat.zero_add] at x0 x1 x2 x3 x4;obtain ⟨v0,y0⟩:=hR.ex 0 (by omega);obtain ⟨v1,y1⟩:=hR.ex 1 (by omega);obtain ⟨v2,y2⟩:=hR.ex 2 (by omega);obtain ⟨v3,y3⟩:=hR.ex 3 (by omega);obtain ⟨v4,y4⟩:=hR.ex 4 (by omega);have z0:=hR.fz 0;have z1:=hR.fz 1;have z2:=hR.fz 2;have z3:=hR.fz 3;have z4:=hR.fz 4;obtain ⟨u0,u1,u2,u3,u4⟩:=RX.lay_at r ⟨AN,cN,AP,cP⟩ (W:=wr) (g:=w.heap.size+2) hR.ex;simp only[Nat.zero_add] at u0 u1 u2 u3 u4;have HU:=Y1 (And.intro u0 (And.intro u1 (And.intro u2 (And.intro u3 u4))));clear hfin hkp hKF hKF2 hKB hR u0 u1 u2 u3 u4 hre hU hTw hSw hbd hINV;go_wp2;obtain ⟨u0,u1,u2,u3,u4⟩:=HU.out;unfold RX.lay at u0 u1 u2 u3 u4;refine bodyPost_ret (v:= .tuple #[sv r ⟨AN,cN,AP,cP⟩,.bool true]) (by simp[results,Tryz.results25,go_sem,u0,u1,u2,u3,u4]) rfl ?_;exact HF.out}
end SubM
end Go.Proofs.YtlomianlcnmfgaaGreatDoor
