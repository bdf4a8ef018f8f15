/- What the proofs of SubtypeJoins, SubtypeMeets want, part 21. -/
import Derived.Test.YtlomianlcnmfgaaGreatDoorK0n20
set_option linter.unusedVariables false
set_option linter.unusedSimpArgs false
set_option linter.unusedSectionVars false
set_option maxRecDepth 100000
set_option maxHeartbeats 16000000
namespace Go.Proofs.YtlomianlcnmfgaaGreatDoor
open Go.RowKit Shp Sub
namespace SubM
theorem Zdz {f:Nat} (hI:DocF f) (a b:Sh) (pa pb:Ptr) (n0:Nat) (w:World) (h2:Two (f+1) a b) (ha:ShAt w n0 pa a) (hb:ShAt w n0 pb b) (hn:n0<=w.heap.size) (hk:a.kind=b.kind) (ho:a.of_=b.of_) (hnm:a.name=b.name) (h8:a.kind=8):
 Calls Tryz.prog 46 #[.agg (Y8 a pa),.agg (Y8 b pb),.bool true] w (GetIs n0 (bound (f+1) true a b) w):=by
 obtain ⟨i0,hif0,hz0,hs0,hb0⟩:=Z0S Z1R;have HBO:Hid (bound (f+1) true a b=(placesOf (bound f (!true)) (bound f true) a.parts b.parts).map (fun ps=>⟨8,[],[],[],ps⟩)):=Y1 (by rw[<-h8]; exact Zc4 h2.ra hk ho hnm (Or.inr h8));have hb1:=Z01 w (.cells (Y8 a pa) 25);obtain ⟨w1,hw1⟩: ∃w1,w1=w.alloc (.cells (Y8 a pa) 25):=⟨_,rfl⟩;have hs1:w1.heap.size=w.heap.size+1:=by rw[hw1]; simp
 have hb2:=Z01 w1 (.cells (Y8 b pb) 25);obtain ⟨w2,hw2⟩: ∃w2,w2=w1.alloc (.cells (Y8 b pb) 25):=⟨_,rfl⟩;have hs2:w2.heap.size=w.heap.size+2:=by rw[hw2]; simp[hs1]
 have hb3:=Z01 w2 (.cells Yb 25);obtain ⟨w3,hw3⟩: ∃w3,w3=w2.alloc (.cells Yb 25):=⟨_,rfl⟩;have hs3:w3.heap.size=w.heap.size+3:=by rw[hw3]; simp[hs2]
 have hb4:=Z01 w3 (.cells #[.int .i64 8,.string ⟨#[]⟩,.string ⟨#[]⟩,.slice none 0 0,.slice none 0 0] 25);obtain ⟨w4,hw4⟩: ∃w4,w4=w3.alloc (.cells #[.int .i64 8,.string ⟨#[]⟩,.string ⟨#[]⟩,.slice none 0 0,.slice none 0 0] 25):=⟨_,rfl⟩;have hs4:w4.heap.size=w.heap.size+4:=by rw[hw4]; simp[hs3]
 rw[<-hw1] at hb1;rw[<-hw2] at hb2;rw[<-hw3] at hb3;rw[<-hw4] at hb4;have hbw3:=Z00 hb1 (Z00 hb2 hb3);have hbw:=Z00 hbw3 hb4;have hB1:Box5 w1 w.heap.size a pa:=by rw[hw1]; exact Z05 w a pa
 have hB2:Box5 w2 w1.heap.size b pb:=by rw[hw2]; exact Z05 w1 b pb
 have hB12:=(hB1.next hb2).next hb3;have hB22:=hB2.next hb3;have hB13:=hB12.next hb4;have hB23:=hB22.next hb4;rw[hs1] at hB23 hB22;have hR3:Rc (w.heap.size+2) w3:=by have h:=Z0I hw3; rwa [hs2] at h
 have hR4:Rc (w.heap.size+2) w4:=hR3.upd (T:=fun _=>False) (Upd.new hb4) (fun h=>h);have hu4:Upd (fun _=>False) w w4:=Upd.new hbw;have hc5:Sh5 w4 (w.heap.size+3) 0 ⟨8,[],[],[],[]⟩ noneQ12:=by
  rw[<-hs3,hw4]; refine ⟨?_, ?_, ?_, ?_, ?_⟩ <;> simp[go_sem]
 have hfz: ∀j,w4.frozen? ⟨w.heap.size+3,j,none⟩=false:=fun j=>by rw[<-hs3,hw4]; simp[go_sem]
 have hK0:KBs w w4 n0 (w.heap.size+3) (w.heap.size+4) (w.heap.size+2) 8 [] [] [] [] [] none 0 none 0 w4:=by
  obtain ⟨c0,c1,c2,c3,c4⟩:=hc5;simp only[Nat.zero_add] at c0 c1 c2 c3 c4;exact ⟨⟨hbw,by omega,by omega,by omega,c0,c1,c2,c3,c4,hfz,World.ownsRow_nil _ _ _ _,World.ownsRow_nil _ _ _ _,Or.inl rfl⟩,rfl,fun x hx=>absurd hx (by simp),hR4,Upd.refl _ _⟩
 have HX2:=Y1 hB13;have HX3:=Y1 hB23;have HS:=Y1 (Z0a ha hn hu4 (fun _ _ h=>h));have HT:=Y1 (Z0a hb hn hu4 (fun _ _ h=>h));have HK0:=Y1 hK0;have HN:=Y1 hn;have HZ4:=Y1 hs4;have HZ3:=Y1 hs3;have HI:=Y1 hI;have H2:=Y1 h2;have HLT:=Y1 (And.intro h2.la h2.swap.la);have HB3:=Y1 hbw3;have HR3:=Y1 hR3;have hla:=h2.la;have hlb:=h2.swap.la;obtain ⟨_,⟨a0,a1,a2,a3,a4⟩,_⟩:=hB12;obtain ⟨_,⟨b0,b1,b2,b3,b4⟩,_⟩:=hB22;simp only[Nat.zero_add] at a0 a1 a2 a3 a4 b0 b1 b2 b3 b4;have HW:Hid (w3.alloc (.cells #[.int .i64 8,.string ⟨#[]⟩,.string ⟨#[]⟩,.slice none 0 0,.slice none 0 0] 25)=w4):=Y1 hw4.symm;have hW3: (((w.alloc (.cells (Y8 a pa) 25)).alloc (.cells (Y8 b pb) 25)).alloc (.cells Yb 25))=w3:=by rw[hw3,hw2,hw1]
 clear hK0 hbw hR4 hu4 hc5 hfz ha hb hn h2 hI hb1 hb2 hb3 hb4 hs1 hs2 hs4 hB1 hB2 hB13 hB23 hk ho hnm h8 hbw3;clear hw4 hw3 hw2 hw1;go_enter Tryz.func46,Tryz.ntmps46;by_cases hpl:a.parts.length=b.parts.length
 rotate_left
 {have m1: ((a.parts.length:Int) !=(b.parts.length:Int))=true:=by simpa using fun h=>hpl (by omega)
  have hbd:bound (f+1) true a b=none:=by rw[HBO.out,Zcw hpl]; rfl
  have HF:=Y1 (get_none (n0:=n0) (rc:=w.heap.size+2) hbd (by omega) HB3.out);obtain ⟨v0,r0⟩:=hR3.ex 0 (by omega);obtain ⟨v1,r1⟩:=hR3.ex 1 (by omega);obtain ⟨v2,r2⟩:=hR3.ex 2 (by omega);obtain ⟨v3,r3⟩:=hR3.ex 3 (by omega);obtain ⟨v4,r4⟩:=hR3.ex 4 (by omega);have z0:=hR3.fz 0;have z1:=hR3.fz 1;have z2:=hR3.fz 2;have z3:=hR3.fz 3;have z4:=hR3.fz 4;clear hpl hbd hR3;go_wp2;refine bodyPost_ret (v:= .tuple #[.agg #[.int .i64 0,.string ⟨#[]⟩,.string ⟨#[]⟩,.slice none 0 0,.slice none 0 0],.bool false]) (by simp[results,Tryz.results46,go_sem,r0,r1,r2,r3,r4]) rfl ?_;exact HF.out}
 have m1: ((a.parts.length:Int) !=(b.parts.length:Int))=false:=by simp[hpl]
 have HPL:=Y1 hpl;clear hR3 hpl
 go_wp2_with fail
 rw[HW.out];clear HW m1 a0 a1 a2 a3 a4 b0 b1 b2 b3 b4 hW3 hla hlb
 go_loopw [9] (fun ii wr=> ∃i:Nat,ii= .int .i64 i/\i<=a.parts.length/\Hid (∃(ps:List Sh) (l:List El) (AP:Option Addr) (cP:Nat),(ps.length=i/\ ∀j (h1:j < a.parts.length) (h2:j < b.parts.length),j < ps.length->plc f true a.parts.length j (a.parts[j]'h1) (b.parts[j]'h2)=ps[j]?)/\KBs w w4 n0 (w.heap.size+3) (w.heap.size+4) (w.heap.size+2) 8 [] [] [] ps l none 0 AP cP wr)) (fun i _=>a.parts.length - (intOf i).toNat)
 case atStart=>exact ⟨0,rfl,Nat.zero_le _,Y1 ⟨[],[],none,0,⟨rfl,fun j h1 h2 hj=>by simp at hj⟩,HK0.out⟩⟩
 case round=>
  obtain ⟨i,rfl,hi,HKB⟩:=hrel;obtain ⟨ps,l,AP,cP,hINV,hKB⟩:=HKB.out;have HINV:=Y1 hINV;have hlt1:=HLT.out.1;have hlt2:=HLT.out.2;have hpl:=HPL.out;have hU:=hKB.up;have hz4:=HZ4.out;have hn:=HN.out;have hx2:=Z0e HX2.out hU (by omega);have hx3:=Z0e HX3.out hU (by omega);have hTw:=Z0a HT.out (by omega) hU (fun x hx hs=>by omega);have hSw:=Z0a HS.out (by omega) hU (fun x hx hs=>by omega);obtain ⟨_,⟨a0,a1,a2,a3,a4⟩,_⟩:=hx2;obtain ⟨_,⟨b0,b1,b2,b3,b4⟩,_⟩:=hx3;simp only[Nat.zero_add] at a0 a1 a2 a3 a4 b0 b1 b2 b3 b4;clear hINV;by_cases hlt:i < a.parts.length
  {have hl3:i < b.parts.length:=by omega
   have hi1: (i:Int) < (a.parts.length:Int):=by omega
   have hi3: (i:Int) < (b.parts.length:Int):=by omega
   obtain ⟨k,hkl⟩: ∃k,a.parts.length=k+1:=⟨a.parts.length - 1,by omega⟩;have hsub: (a.parts.length:Int) - 1=(k:Int):=by omega
   have kw:IntKind.i64.wrap (k:Int)=(k:Int):=IntWalk.i64_in _ (by omega);obtain ⟨lst,hlst⟩: ∃c,((i:Int)==(k:Int))=c:=⟨_,rfl⟩;have HLST:Hid ((lst=true->i+1=a.parts.length)/\(lst=false->i+1≠a.parts.length)):=Y1 ⟨fun h=>by rw[h] at hlst; have:=of_decide_eq_true hlst; omega,fun h=>by rw[h] at hlst; have:=of_decide_eq_false hlst; omega⟩;rcases hSw.part with h0 | ⟨g,off,qs,hqP,hg,hc,hra⟩
   {omega}
   rcases hTw.part with h0 | ⟨g',off',qs',hqP',hg',hc',hra'⟩
   {omega}
   have hX5:=hc i hlt;have hXA:=hra i hlt;have hY5:=hc' i hl3;have hYA:=hra' i hl3;obtain ⟨x,hx⟩: ∃x,x=a.parts[i]'hlt:=⟨_,rfl⟩;obtain ⟨y,hy⟩: ∃y,y=b.parts[i]'hl3:=⟨_,rfl⟩;obtain ⟨qx,hqx⟩: ∃z,z=qs i:=⟨_,rfl⟩;obtain ⟨qy,hqy⟩: ∃z,z=qs' i:=⟨_,rfl⟩;rw[<-hx, <-hqx] at hX5 hXA;rw[<-hy, <-hqy] at hY5 hYA;have hT:Two f x y:=by
    rw[hx,hy];exact H2.out.part (List.getElem_mem _) (List.getElem_mem _)
   have HTW:=Y1 hT;have HXY:=Y1 (And.intro hx hy);have HLI:=Y1 (And.intro hlt hl3);have hwr:w.heap.size+4<=wr.heap.size:=hKB.mm.hw;have hn0w:n0<=wr.heap.size:=by omega
   have HX2W:=Y1 (Z0e HX2.out hU (by omega));have HX3W:=Y1 (Z0e HX3.out hU (by omega));have HX5:=Y1 hX5;have HY5:=Y1 hY5;have HXA:=Y1 hXA;have HYA:=Y1 hYA;have HG:=Y1 (And.intro hg hg');have HQP:=Y1 (And.intro hqP hqP');have HKW:=Y1 hKB;have HWR:=Y1 (And.intro hwr hn0w);clear hx hy hqx hqy hc hra hc' hra' hqP hqP' hXA hYA hT hKB hU hTw hSw hz4 hn hwr hn0w hg hg' hkl hX5 hY5 hpl
   go_wp2_with fail
   clear a0 a1 a2 a3 a4 b0 b1 b2 b3 b4 kw hsub hlst;refine Z1u (rs:= [0,1,2,3,4,5,6,7,8,9,10,11,12,13,14,15,16])
    (fun u=> { tmps:=#[.agg (Y8 a pa),.agg (Y8 b pb),.bool true,.pointer (some { block:=w.heap.size,off:=0 }),.pointer (some { block:=w.heap.size+1,off:=0 }),undef,.pointer (some { block:=w.heap.size+1+1,off:=0 }),u7,.pointer (some { block:=w.heap.size+3,off:=0 }),.int .i64 ↑i,.bool lst,u 14,u 16,.pointer (some { block:=w.heap.size,off:=4 }),.slice pa.P a.parts.length pa.d,.int .i64 ↑a.parts.length,.pointer (some { block:=w.heap.size+1,off:=4 }),.slice pb.P b.parts.length pb.d,.int .i64 ↑b.parts.length,.bool false,undef,.agg #[.int .i64 8,.string { data:=#[] },.string { data:=#[] },.slice none 0 0,.slice none 0 0],.int .i64 ↑i,.pointer (some { block:=w.heap.size,off:=4 }),.slice pa.P a.parts.length pa.d,.int .i64 ↑a.parts.length,.bool true,u27,u28,.int .i64 ↑i,.pointer (some { block:=w.heap.size,off:=4 }),.slice pa.P a.parts.length pa.d,.int .i64 ↑a.parts.length,.int .i64 ↑k,.bool lst,u 11,u 0,u 1,u 2,u 3,u 4,u 5,u 6,u 7,u 8,u 9,u 10,u 12,u 13,u49,u50,u51,u52,u53,u54,u55,u56,u57,u58,u59,u60,u61,u62,u63,u64,u65,u66,u67,u68,u69,u70,u71,u72,u73,u74,undef],defers:= [] })
    (fun j=>([u36,u37,u38,u39,u40,u41,u42,u43,u44,u45,u46,u35,u47,u48,u11,undef,u12]:List Value).getD j undef) (GetI wr n0 (Zcy (.pointer (some ⟨w.heap.size,4,none⟩)) (.slice (some ⟨g,off,none⟩) a.parts.length pa.d) (.int .i64 (i:Int)) (.pointer (some ⟨g,off+i * 5,none⟩)) (.agg (Y8 x qx)) (.pointer (some ⟨w.heap.size+1,4,none⟩)) (.slice (some ⟨g',off',none⟩) b.parts.length pb.d) (.int .i64 (i:Int)) (.pointer (some ⟨g',off'+i * 5,none⟩)) (.agg (Y8 y qy))) 10 (bound f false x y)) (by kernel_rfl) (by kernel_rfl) (by kernel_rfl) GetI.start ?_ ?_
   refine StepsInv.cons2 _ rfl (fun d u W K' hs hI hd hw hK=> ?_) ?_
   {refine Z02 (v:= .pointer (some ⟨w.heap.size,4,none⟩)) (W':=W) rfl ?_ (hK.out _ _ (hI.pure (by decide) rfl))
    try dsimp only
    go_simp}
   refine StepsInv.cons2 _ rfl (fun d u W K' hs hI hd hw hK=> ?_) ?_
   {have d0:u 0= .pointer (some ⟨w.heap.size,4,none⟩):=hI.vals 0 (by decide) (hw 0 (by kernel_rfl));obtain ⟨_,⟨y0,y1,y2,y3,y4⟩,_⟩:=HX2W.out.next hI.up;simp only[Nat.zero_add] at y0 y1 y2 y3 y4;rw[HQP.out.1] at y4;refine Z02 (v:= .slice (some ⟨g,off,none⟩) a.parts.length pa.d) (W':=W) rfl ?_ (hK.out _ _ (hI.pure (by decide) rfl))
    try dsimp only
    go_simp}
   refine StepsInv.cons2 _ rfl (fun d u W K' hs hI hd hw hK=> ?_) ?_
   {refine Z02 (v:= .int .i64 (i:Int)) (W':=W) rfl ?_ (hK.out _ _ (hI.pure (by decide) rfl))
    try dsimp only
    go_simp}
   refine StepsInv.cons2 _ rfl (fun d u W K' hs hI hd hw hK=> ?_) ?_
   {have d1:u 1= .slice (some ⟨g,off,none⟩) a.parts.length pa.d:=hI.vals 1 (by decide) (hw 1 (by kernel_rfl));have d2:u 2= .int .i64 (i:Int):=hI.vals 2 (by decide) (hw 2 (by kernel_rfl));have hi8: (i:Int) < (a.parts.length:Int):=by have:=HLI.out.1; omega
    refine Z02 (v:= .pointer (some ⟨g,off+i * 5,none⟩)) (W':=W) rfl ?_ (hK.out _ _ (hI.pure (by decide) rfl))
    try dsimp only
    go_simp}
   refine StepsInv.cons2 _ rfl (fun d u W K' hs hI hd hw hK=> ?_) ?_
   {have d3:u 3= .pointer (some ⟨g,off+i * 5,none⟩):=hI.vals 3 (by decide) (hw 3 (by kernel_rfl));obtain ⟨y0,y1,y2,y3,y4⟩:=HX5.out.keep (show g < wr.heap.size by have:=HG.out.1; have:=HWR.out.2; omega) hI.up;refine Z02 (v:= .agg (Y8 x qx)) (W':=W) rfl ?_ (hK.out _ _ (hI.pure (by decide) rfl))
    try dsimp only
    go_simp}
   refine StepsInv.cons2 _ rfl (fun d u W K' hs hI hd hw hK=> ?_) ?_
   {refine Z02 (v:= .pointer (some ⟨w.heap.size+1,4,none⟩)) (W':=W) rfl ?_ (hK.out _ _ (hI.pure (by decide) rfl))
    try dsimp only
    go_simp}
   refine StepsInv.cons2 _ rfl (fun d u W K' hs hI hd hw hK=> ?_) ?_
   {have d5:u 5= .pointer (some ⟨w.heap.size+1,4,none⟩):=hI.vals 5 (by decide) (hw 5 (by kernel_rfl));obtain ⟨_,⟨y0,y1,y2,y3,y4⟩,_⟩:=HX3W.out.next hI.up;simp only[Nat.zero_add] at y0 y1 y2 y3 y4;rw[HQP.out.2] at y4;refine Z02 (v:= .slice (some ⟨g',off',none⟩) b.parts.length pb.d) (W':=W) rfl ?_ (hK.out _ _ (hI.pure (by decide) rfl))
    try dsimp only
    go_simp}
   refine StepsInv.cons2 _ rfl (fun d u W K' hs hI hd hw hK=> ?_) ?_
   {refine Z02 (v:= .int .i64 (i:Int)) (W':=W) rfl ?_ (hK.out _ _ (hI.pure (by decide) rfl))
    try dsimp only
    go_simp}
   refine StepsInv.cons2 _ rfl (fun d u W K' hs hI hd hw hK=> ?_) ?_
   {have d6:u 6= .slice (some ⟨g',off',none⟩) b.parts.length pb.d:=hI.vals 6 (by decide) (hw 6 (by kernel_rfl));have d7:u 7= .int .i64 (i:Int):=hI.vals 7 (by decide) (hw 7 (by kernel_rfl));have hi8: (i:Int) < (b.parts.length:Int):=by have:=HLI.out.2; omega
    refine Z02 (v:= .pointer (some ⟨g',off'+i * 5,none⟩)) (W':=W) rfl ?_ (hK.out _ _ (hI.pure (by decide) rfl))
    try dsimp only
    go_simp}
   refine StepsInv.cons2 _ rfl (fun d u W K' hs hI hd hw hK=> ?_) ?_
   {have d8:u 8= .pointer (some ⟨g',off'+i * 5,none⟩):=hI.vals 8 (by decide) (hw 8 (by kernel_rfl));obtain ⟨y0,y1,y2,y3,y4⟩:=HY5.out.keep (show g' < wr.heap.size by have:=HG.out.2; have:=HWR.out.2; omega) hI.up;refine Z02 (v:= .agg (Y8 y qy)) (W':=W) rfl ?_ (hK.out _ _ (hI.pure (by decide) rfl))
    try dsimp only
    go_simp}
   refine StepsInv.cons2 _ rfl (fun d u W K' hs hI hd hw hK=> ?_) ?_
   {have d4:u 4= .agg (Y8 x qx):=hI.vals 4 (by decide) (hw 4 (by kernel_rfl));have d9:u 9= .agg (Y8 y qy):=hI.vals 9 (by decide) (hw 9 (by kernel_rfl));have h1:d 11=false:=Z0i hs rfl (by kernel_rfl) hd;have h2:d 12=false:=Z0i hs rfl (by kernel_rfl) h1;have h3:d 13=false:=Z0i hs rfl (by kernel_rfl) h1;have h5:d 15=false:=Z0i hs rfl (by kernel_rfl) h2;have h6:d 16=false:=Z0i hs rfl (by kernel_rfl) h3;refine Z0F (f:=25) (args:=#[.agg (Y8 x qx),.agg (Y8 y qy)]) (W':=W) rfl ?_ ((show Calls Tryz.prog 25 #[.agg (Y8 x qx),.agg (Y8 y qy)] W (GetIs n0 (bound f false x y) W) from HI.out false x y qx qy n0 W HTW.out (HXA.out.keep hI.up HWR.out.2) (HYA.out.keep hI.up HWR.out.2) (Nat.le_trans HWR.out.2 hI.up.size)).mono fun e w' hb=> ?_)
    {try dsimp only
     go_simp}
    {obtain ⟨v,he,hr⟩:=hI.call hd (fun j hj=>by rcases hj with rfl | rfl | rfl | rfl | rfl <;> assumption) hb;exact ⟨v,he,hK.out _ _ hr⟩}}
   refine StepsInv.cons2 _ rfl (fun d u W K' hs hI hd hw hK=> ?_) ?_
   {have w7:=hw 10 (by kernel_rfl);obtain ⟨t,qt,W2,s,e7,_⟩:=hI.ca w7
    try dsimp only at e7
    unfold sv at e7;refine Z02 (v:= .tuple #[.agg (Y8 t qt),.bool (bound f false x y).isSome]) (W':=W) rfl ?_ (hK.out _ _ (hI.read w7 (by decide) hd (fun t' q' h=>⟨fun _=>e7.symm,nofun,nofun,nofun⟩)));go_simp}
   refine StepsInv.cons2 _ rfl (fun d u W K' hs hI hd hw hK=> ?_) ?_
   {have w8:=hw 11 (by kernel_rfl);have w7:d 10=true:=hs 11 _ rfl w8 10 (by kernel_rfl);obtain ⟨t,qt,W2,s,e7,_,_,_,e8,_⟩:=hI.ca w7
    try dsimp only at e7 e8
    have d8:=(e8 w8).trans e7;have e7s:=e7;unfold sv at d8;refine Z02 (v:= .agg (Y8 t qt)) (W':=W) rfl ?_ (hK.out _ _ (hI.read w7 (by decide) hd (fun t' q' h=>⟨nofun,fun _=>by rw[e7s] at h; simp only[Value.tuple.injEq] at h; have:=congrArg (fun a:Array Value=>a[0]?) h; unfold sv at this ⊢; simpa using this,nofun,nofun⟩)));go_simp}
   refine StepsInv.cons2 _ rfl (fun d u W K' hs hI hd hw hK=> ?_) ?_
   {have w8:=hw 11 (by kernel_rfl);have w7:d 10=true:=hs 11 _ rfl w8 10 (by kernel_rfl);obtain ⟨t,qt,W2,s,e7,_,_,_,e8,_⟩:=hI.ca w7
    try dsimp only at e7 e8
    have d8:=(e8 w8).trans e7;unfold sv at d8;refine Z02 (v:= .bool (bound f false x y).isSome) (W':=W) rfl ?_ (hK.out _ _ (hI.read w7 (by decide) hd (fun t' q' h=>⟨nofun,nofun,fun _=>rfl,nofun⟩)));go_simp}
   refine StepsInv.cons2 _ rfl (fun d u W K' hs hI hd hw hK=> ?_) ?_
   {have h12:d 15=false:=Z0i hs rfl (by kernel_rfl) hd;refine Z02 (v:= .pointer (some ⟨W.heap.size,0,none⟩)) (W':=W.alloc (.cells Yb 25)) rfl ?_ (hK.out _ _ (hI.alloc hd h12));go_simp}
   refine StepsInv.cons2 _ rfl (fun d u W K' hs hI hd hw hK=> ?_) ?_
   {have w11:=hw 14 (by kernel_rfl);have w9:=hw 12 (by kernel_rfl);have w7:=hw 10 (by kernel_rfl);obtain ⟨t,qt,W2,s,e7,_,_,_,_,e9,_⟩:=hI.ca w7
    try dsimp only at e7 e9
    have d9:=e9 w9;obtain ⟨g1,e11,g2,g3,g4,g5⟩:=hI.al w11
    try dsimp only at e11
    have hst:=hI.store w7 w11 e11 e7 (fun t' q' h=>ZbN h);refine Z0q (W':=RX.lay W g1 t qt) rfl ?_ (hK.out undef _ hst);obtain ⟨v0,x0⟩:=g5 0 (by omega);obtain ⟨v1,x1⟩:=g5 1 (by omega);obtain ⟨v2,x2⟩:=g5 2 (by omega);obtain ⟨v3,x3⟩:=g5 3 (by omega);obtain ⟨v4,x4⟩:=g5 4 (by omega);have y0:=g4 0;have y1:=g4 1;have y2:=g4 2;have y3:=g4 3;have y4:=g4 4;unfold sv at d9;go_simp;rfl}
   refine StepsInv.cons2 _ rfl (fun d u W K' hs hI hd hw hK=> ?_) StepsInv.nil
   {have w10:=hw 13 (by kernel_rfl);have w8:d 11=true:=hs 13 _ rfl w10 11 (by kernel_rfl);have w7:d 10=true:=hs 11 _ rfl w8 10 (by kernel_rfl);obtain ⟨t,qt,W2,s,e7,_,_,_,_,_,e10,_⟩:=hI.ca w7
    try dsimp only at e7 e10
    have d10:=e10 w10;refine Z02 (v:= .bool (bound f false x y).isSome) (W':=W) rfl ?_ (hK.out _ _ (hI.read w7 (by decide) hd (fun t' q' h=>⟨nofun,nofun,nofun,fun _=>rfl⟩)));go_simp}
   intro d s' W4 hI hd
   try dsimp only
   have w7:=hd 10 (by decide);have w11:=hd 14 (by decide);obtain ⟨g1,e11,g2,g3,g4,_⟩:=hI.al w11;obtain ⟨t,qt,W2,s,e7,s1,s2,hj,_,_,_,hu,hgs,h12,h13⟩:=hI.ca w7;have d13:=h13 (hd 16 (by decide));have hl5:=h12 (hd 15 (by decide)) g1 e11;have hsep:=hgs g1 w11 e11
   try dsimp only at d13 e11
   have hup:=hI.up;rw[e11,d13];have HG4:=Y1 g4;have HG1:Hid (wr.heap.size<=g1/\g1 < W4.heap.size):=Y1 ⟨g2,g3⟩;have HL5:=Y1 hl5;have hwr2:=HWR.out.2;have HJ:Hid (∀j,bound f false x y=some j->t=j/\Kept (fun b=>b < n0\/(wr.heap.size<=b/\b < W4.heap.size)) W4 (j,qt)):=Y1 (fun j hb=>by
    obtain ⟨e1,e2⟩:=hj j hb;have hsu:=hup.size;refine ⟨e1,(e2.move (S':=fun b=>b < n0\/(wr.heap.size<=b/\b≠g1)) hu (fun b hb hf=>⟨fun ht=> ?_, ?_⟩)).more (fun b hb hf=> ?_)⟩
    {obtain ⟨_,ht2⟩:=ht;rw[e11] at ht2;have e3:g1=b:=by simp at ht2 <;> exact ht2
     rcases hsep with h | h
     {rcases hf with hf | hf <;> omega}
     {omega}}
    {rcases hf with hf | hf
     {exact Or.inl hf}
     {have hne:b≠g1:=fun e=>by
       rcases hsep with h | h <;> omega
      exact Or.inr ⟨by omega,hne⟩}}
    · rcases hf with hf | hf
      {exact Or.inl hf}
      · exact Or.inr ⟨by omega,hb⟩)
   have HB4:=Y1 hup;have HR4:Hid (Rc g1 W4):=Y1 ⟨g3,fun j hj=>by
    obtain ⟨l0,l1,l2,l3,l4⟩:=hl5;simp only[Nat.zero_add] at l0 l1 l2 l3 l4;rcases j with _ | _ | _ | _ | _ | j
    {exact ⟨_,l0⟩}
    {exact ⟨_,l1⟩}
    {exact ⟨_,l2⟩}
    {exact ⟨_,l3⟩}
    {exact ⟨_,l4⟩}
    · omega,g4⟩
   have HX2V:=Y1 (HX2W.out.next hup);have HX3V:=Y1 (HX3W.out.next hup);have HX5V:=Y1 (HX5.out.keep (show g < wr.heap.size by have:=HG.out.1; omega) hup);have HY5V:=Y1 (HY5.out.keep (show g' < wr.heap.size by have:=HG.out.2; omega) hup);have HXAV:=Y1 (HXA.out.keep hup hwr2);have HYAV:=Y1 (HYA.out.keep hup hwr2);clear hup hj hu hgs hsep g2 g3 g4 e7 e11 d13 h12 h13 hI hd w7 w11 s1 s2 hl5 hwr2;cases lst with
   | false=>
    have HL9:=Y1 (HLST.out.2 rfl);clear HLST;obtain ⟨is,his⟩: ∃is,(bound f false x y).isSome=is:=⟨_,rfl⟩;rw[his];have HBP:Hid (Below wr.heap.size wr W4):=Y1 (HB4.out);cases is with
    | false=>
     have hbo:bound f false x y=none:=by
      cases e:bound f false x y with
      | none=>rfl
      | some y=>rw[e] at his; cases his
     have hst:placesOf (bound f (!true)) (bound f true) a.parts b.parts=none:=Zc0 HLI.out.1 HLI.out.2 (by rw[<-HXY.out.1, <-HXY.out.2,(show plc f true a.parts.length i x y=bound f false x y from if_neg HL9.out),hbo]);have hbd:bound (f+1) true a b=none:=by rw[HBO.out,hst]; rfl
     have hfin:=get_none (n0:=n0) (rc:=w.heap.size+2) hbd (by omega) (HKW.out.mm.up.trans (HBP.out.mono (by have:=HWR.out.1; omega)));have HF:=Y1 hfin;have hR9:=(HKW.out.rr.upd (T:=fun _=>False) (Upd.new HBP.out) (fun h=>h));obtain ⟨v0,r0⟩:=hR9.ex 0 (by omega);obtain ⟨v1,r1⟩:=hR9.ex 1 (by omega);obtain ⟨v2,r2⟩:=hR9.ex 2 (by omega);obtain ⟨v3,r3⟩:=hR9.ex 3 (by omega);obtain ⟨v4,r4⟩:=hR9.ex 4 (by omega);have z0:=hR9.fz 0;have z1:=hR9.fz 1;have z2:=hR9.fz 2;have z3:=hR9.fz 3;have z4:=hR9.fz 4;clear hst hbd hfin hR9 hbo his;go_wp2;refine bodyPost_ret (v:= .tuple #[.agg #[.int .i64 0,.string ⟨#[]⟩,.string ⟨#[]⟩,.slice none 0 0,.slice none 0 0],.bool false]) (by simp[results,Tryz.results46,go_sem,r0,r1,r2,r3,r4]) rfl ?_;exact HF.out
    | true=>
     obtain ⟨r,hbo⟩:=Option.isSome_iff_exists.1 his;obtain ⟨rfl,hky⟩:=HJ.out r hbo;have HEL:=Y1 hky;have HPL2:Hid ((ps++ [t]).length=i+1/\ ∀j (h1:j < a.parts.length) (h2:j < b.parts.length),j < (ps++ [t]).length->plc f true a.parts.length j (a.parts[j]'h1) (b.parts[j]'h2)=(ps++ [t])[j]?):=Y1 ⟨by rw[List.length_append,HINV.out.1]; rfl,fun j h1 h2 hj=>by
      rw[List.length_append,HINV.out.1] at hj;by_cases hji:j < i
      {rw[HINV.out.2 j h1 h2 (by rw[HINV.out.1]; exact hji),List.getElem?_append_left (by rw[HINV.out.1]; exact hji)]}
      · obtain rfl:i=j:=by simp at hj; omega
        rw[<-HXY.out.1, <-HXY.out.2,(show plc f true a.parts.length i x y=bound f false x y from if_neg HL9.out),hbo,List.getElem?_append_right (by rw[HINV.out.1]; exact Nat.le_refl _),HINV.out.1,Nat.sub_self];rfl⟩
     have HKP:=Y1 (HKW.out.new HBP.out);have d4:=HKP.out.mm.c4;have f4:=HKP.out.mm.fz 4;have hgw:w.heap.size+3 < W4.heap.size:=by have:=HKP.out.mm.hw; omega
     have hll:=HKP.out.len;have hll2:l.length<=1000:=by rw[hll,HINV.out.1]; have:=HLI.out.1; have:=HLT.out.1; omega
     have HP5:=Y1 (Z0g (S:=fun _=>False) HKP.out.mm.rP (Upd.new (Z01 W4 (.cells (Y8 t qt) 25))) (fun _ _ h=>h));have HS5:Hid (w.heap.size+4<=W4.heap.size):=Y1 HKP.out.mm.hw;obtain ⟨z0,z1,z2,z3,z4⟩:=(HL5.out);simp only[Nat.zero_add] at z0 z1 z2 z3 z4;clear hll hky hbo his
     go_wp2_with (at_builtin; refine wpList_append_lies _ rfl _ _ 23 rfl (w.heap.size+4) 25 i0 (.agg #[.int .i64 0,.string ByteArray.empty,.string ByteArray.empty,.slice none 0 0,.slice none 0 0]) 5 88 Tryz.underlying23 hif0 hz0 hs0 hb0 rfl (by decide) _ _ _ rfl HP5.out ⟨W4.heap.size,0,none⟩ 1 1 (cells5 (t,qt)) rfl rfl (by intro j v hv; rw[Z0f,Nat.zero_add]; rcases j with _ | _ | _ | _ | _ | j <;> (simp[cells5] at hv; try (subst hv; simp[go_sem]))) (cells5_one _) (by decide) (by unfold maxLen; omega) (by omega) (by have:=HS5.out; simp; omega) _ rfl ?_)
     intro g2 cap2 w8 hown2 hgrow2 hat2 hlt2;rw[rowB_own] at hgrow2 hat2;have hat3:rowB AP=some g2\/g2=(W4.alloc (.cells (Y8 t qt) 25)).heap.size:=by
      rcases hat2 with h | h
      {exact Or.inl h}
      {exact Or.inr (by rw[h]; simp)}
     have hb8:=Z01 W4 (.cells (Y8 t qt) 25);have hEND:=HKP.out.putQ (pb:=wr.heap.size) (e:=W4.heap.size) (x:=(t,qt)) (by have:=HN.out; omega) (by omega) HEL.out (Nat.le_refl _) HWR.out.1 (fun b h=>by cases h) (fun b h=>Or.inl (Z08 HKW.out.mm.rP b h).2) hb8 hgrow2 hown2 hat3;have hu8:Upd (fun b=>rowB AP=some b) W4 w8:=(Upd.new (S:=fun b=>rowB AP=some b) hb8).grown hgrow2 (fun k h _=>h);have hn8: ¬rowB AP=some (w.heap.size+3):=fun e=>by have:=(Z08 HKP.out.mm.rP _ e).1; omega
     have d5:=(hu8.cell hgw hn8).trans d4;have f5:=(hu8.frozen hgw hn8).trans f4;have hgw8:w.heap.size+3 < w8.heap.size:=Nat.lt_of_lt_of_le hgw hu8.size;have HEND:Hid (∃(ps':List Sh) (l':List El) (AP':Option Addr) (cP':Nat),(ps'.length=i+1/\ ∀j (h1:j < a.parts.length) (h2:j < b.parts.length),j < ps'.length->plc f true a.parts.length j (a.parts[j]'h1) (b.parts[j]'h2)=ps'[j]?)/\KBs w w4 n0 (w.heap.size+3) (w.heap.size+4) (w.heap.size+2) 8 [] [] [] ps' l' none 0 AP' cP' (w8.setCell ⟨w.heap.size+3,4,none⟩ (.slice (some ⟨g2,0,none⟩) (l.length+1) cap2))):=Y1 ⟨ps++ [t],l++ [(t,qt)],_,_,HPL2.out,hEND⟩;clear hown2 hgrow2 hat2 hat3 hlt2 hb8 hEND hu8 hn8 d4 f4 HP5 z0 z1 z2 z3 z4;go_wp2
     go_roundw
     case rel=>exact ⟨i+1,by go_num,by have:=HLI.out.1; omega,HEND⟩
     case measure=>have:=HLI.out.1; simp[intOf]; omega
   | true=>
    have HL9:=Y1 (HLST.out.1 rfl);clear HLST
    go_wp2_with fail
    refine Z1u (rs:= [0,1,2,3,4,5,6,7,8,9,10,11,12,13,14,15])
     (fun u=> { tmps:=#[.agg (Y8 a pa),.agg (Y8 b pb),.bool true,.pointer (some { block:=w.heap.size,off:=0 }),.pointer (some { block:=w.heap.size+1,off:=0 }),undef,.pointer (some { block:=w.heap.size+1+1,off:=0 }),u7,.pointer (some { block:=w.heap.size+3,off:=0 }),.int .i64 ↑i,.bool true,.pointer (some { block:=g1,off:=0 }),u 15,.pointer (some { block:=w.heap.size,off:=4 }),.slice pa.P a.parts.length pa.d,.int .i64 ↑a.parts.length,.pointer (some { block:=w.heap.size+1,off:=4 }),.slice pb.P b.parts.length pb.d,.int .i64 ↑b.parts.length,.bool false,undef,.agg #[.int .i64 8,.string { data:=#[] },.string { data:=#[] },.slice none 0 0,.slice none 0 0],.int .i64 ↑i,.pointer (some { block:=w.heap.size,off:=4 }),.slice pa.P a.parts.length pa.d,.int .i64 ↑a.parts.length,.bool true,u27,u28,.int .i64 ↑i,.pointer (some { block:=w.heap.size,off:=4 }),.slice pa.P a.parts.length pa.d,.int .i64 ↑a.parts.length,.int .i64 ↑k,.bool true,s' 11,s' 0,s' 1,s' 2,s' 3,s' 4,s' 5,s' 6,s' 7,s' 8,s' 9,s' 10,s' 12,s' 13,.bool true,.bool true,.bool true,u 11,u 0,u 1,u 2,u 3,u 4,u 5,u 6,u 7,u 8,u 9,u 10,u 12,u 13,u66,u67,u68,u69,u70,u71,u72,u73,u74,undef],defers:= [] })
     (fun j=>([u53,u54,u55,u56,u57,u58,u59,u60,u61,u62,u63,u52,u64,u65,undef,.bool (bound f false x y).isSome]:List Value).getD j undef) (GetS W4 n0 g1 (Zcy (.pointer (some ⟨w.heap.size,4,none⟩)) (.slice (some ⟨g,off,none⟩) a.parts.length pa.d) (.int .i64 (i:Int)) (.pointer (some ⟨g,off+i * 5,none⟩)) (.agg (Y8 x qx)) (.pointer (some ⟨w.heap.size+1,4,none⟩)) (.slice (some ⟨g',off',none⟩) b.parts.length pb.d) (.int .i64 (i:Int)) (.pointer (some ⟨g',off'+i * 5,none⟩)) (.agg (Y8 y qy))) 10 (bound f true x y)) (by kernel_rfl) (by kernel_rfl) (by kernel_rfl) (GetS.start HR4.out) ?_ ?_
    refine StepsInv.cons2 _ rfl (fun d u W K' hs hI hd hw hK=> ?_) ?_
    {refine Z02 (v:= .pointer (some ⟨w.heap.size,4,none⟩)) (W':=W) rfl ?_ (hK.out _ _ (hI.pure (by decide) rfl))
     try dsimp only
     go_simp}
    refine StepsInv.cons2 _ rfl (fun d u W K' hs hI hd hw hK=> ?_) ?_
    {have d0:u 0= .pointer (some ⟨w.heap.size,4,none⟩):=hI.vals 0 (by decide) (hw 0 (by kernel_rfl));obtain ⟨_,⟨y0,y1,y2,y3,y4⟩,_⟩:=Z0e HX2V.out hI.up (show ¬w.heap.size=g1 by have:=HG1.out.1; have:=HG.out; have:=HWR.out; omega);simp only[Nat.zero_add] at y0 y1 y2 y3 y4;rw[HQP.out.1] at y4;refine Z02 (v:= .slice (some ⟨g,off,none⟩) a.parts.length pa.d) (W':=W) rfl ?_ (hK.out _ _ (hI.pure (by decide) rfl))
     try dsimp only
     go_simp}
    refine StepsInv.cons2 _ rfl (fun d u W K' hs hI hd hw hK=> ?_) ?_
    {refine Z02 (v:= .int .i64 (i:Int)) (W':=W) rfl ?_ (hK.out _ _ (hI.pure (by decide) rfl))
     try dsimp only
     go_simp}
    refine StepsInv.cons2 _ rfl (fun d u W K' hs hI hd hw hK=> ?_) ?_
    {have d1:u 1= .slice (some ⟨g,off,none⟩) a.parts.length pa.d:=hI.vals 1 (by decide) (hw 1 (by kernel_rfl));have d2:u 2= .int .i64 (i:Int):=hI.vals 2 (by decide) (hw 2 (by kernel_rfl));have hi8: (i:Int) < (a.parts.length:Int):=by have:=HLI.out.1; omega
     refine Z02 (v:= .pointer (some ⟨g,off+i * 5,none⟩)) (W':=W) rfl ?_ (hK.out _ _ (hI.pure (by decide) rfl))
     try dsimp only
     go_simp}
    refine StepsInv.cons2 _ rfl (fun d u W K' hs hI hd hw hK=> ?_) ?_
    {have d3:u 3= .pointer (some ⟨g,off+i * 5,none⟩):=hI.vals 3 (by decide) (hw 3 (by kernel_rfl));obtain ⟨y0,y1,y2,y3,y4⟩:=HX5V.out.of (fun c=>hI.up.cell (by have:=HG.out.1; have:=HWR.out.2; have:=HG1.out; omega) (show ¬g=g1 by have:=HG1.out.1; have:=HG.out; have:=HWR.out; omega));refine Z02 (v:= .agg (Y8 x qx)) (W':=W) rfl ?_ (hK.out _ _ (hI.pure (by decide) rfl))
     try dsimp only
     go_simp}
    refine StepsInv.cons2 _ rfl (fun d u W K' hs hI hd hw hK=> ?_) ?_
    {refine Z02 (v:= .pointer (some ⟨w.heap.size+1,4,none⟩)) (W':=W) rfl ?_ (hK.out _ _ (hI.pure (by decide) rfl))
     try dsimp only
     go_simp}
    refine StepsInv.cons2 _ rfl (fun d u W K' hs hI hd hw hK=> ?_) ?_
    {have d5:u 5= .pointer (some ⟨w.heap.size+1,4,none⟩):=hI.vals 5 (by decide) (hw 5 (by kernel_rfl));obtain ⟨_,⟨y0,y1,y2,y3,y4⟩,_⟩:=Z0e HX3V.out hI.up (show ¬w.heap.size+1=g1 by have:=HG1.out.1; have:=HG.out; have:=HWR.out; omega);simp only[Nat.zero_add] at y0 y1 y2 y3 y4;rw[HQP.out.2] at y4;refine Z02 (v:= .slice (some ⟨g',off',none⟩) b.parts.length pb.d) (W':=W) rfl ?_ (hK.out _ _ (hI.pure (by decide) rfl))
     try dsimp only
     go_simp}
    refine StepsInv.cons2 _ rfl (fun d u W K' hs hI hd hw hK=> ?_) ?_
    {refine Z02 (v:= .int .i64 (i:Int)) (W':=W) rfl ?_ (hK.out _ _ (hI.pure (by decide) rfl))
     try dsimp only
     go_simp}
    refine StepsInv.cons2 _ rfl (fun d u W K' hs hI hd hw hK=> ?_) ?_
    {have d6:u 6= .slice (some ⟨g',off',none⟩) b.parts.length pb.d:=hI.vals 6 (by decide) (hw 6 (by kernel_rfl));have d7:u 7= .int .i64 (i:Int):=hI.vals 7 (by decide) (hw 7 (by kernel_rfl));have hi8: (i:Int) < (b.parts.length:Int):=by have:=HLI.out.2; omega
     refine Z02 (v:= .pointer (some ⟨g',off'+i * 5,none⟩)) (W':=W) rfl ?_ (hK.out _ _ (hI.pure (by decide) rfl))
     try dsimp only
     go_simp}
    refine StepsInv.cons2 _ rfl (fun d u W K' hs hI hd hw hK=> ?_) ?_
    {have d8:u 8= .pointer (some ⟨g',off'+i * 5,none⟩):=hI.vals 8 (by decide) (hw 8 (by kernel_rfl));obtain ⟨y0,y1,y2,y3,y4⟩:=HY5V.out.of (fun c=>hI.up.cell (by have:=HG.out.2; have:=HWR.out.2; have:=HG1.out; omega) (show ¬g'=g1 by have:=HG1.out.1; have:=HG.out; have:=HWR.out; omega));refine Z02 (v:= .agg (Y8 y qy)) (W':=W) rfl ?_ (hK.out _ _ (hI.pure (by decide) rfl))
     try dsimp only
     go_simp}
    refine StepsInv.cons2 _ rfl (fun d u W K' hs hI hd hw hK=> ?_) ?_
    {have d4:u 4= .agg (Y8 x qx):=hI.vals 4 (by decide) (hw 4 (by kernel_rfl));have d9:u 9= .agg (Y8 y qy):=hI.vals 9 (by decide) (hw 9 (by kernel_rfl));have h1:d 11=false:=Z0i hs rfl (by kernel_rfl) hd;have h2:d 12=false:=Z0i hs rfl (by kernel_rfl) h1;have h3:d 13=false:=Z0i hs rfl (by kernel_rfl) h1;have h4:d 14=false:=Z0i hs rfl (by kernel_rfl) h2;have h5:d 15=false:=Z0i hs rfl (by kernel_rfl) h3;refine Z0F (f:=21) (args:=#[.agg (Y8 x qx),.agg (Y8 y qy)]) (W':=W) rfl ?_ ((show Calls Tryz.prog 21 #[.agg (Y8 x qx),.agg (Y8 y qy)] W (GetIs n0 (bound f true x y) W) from HI.out true x y qx qy n0 W HTW.out (Z0a HXAV.out (by have:=HWR.out.2; have:=HB4.out.size; omega) hI.up (fun c hc=>by have:=HG1.out.1; have:=HWR.out.2; omega)) (Z0a HYAV.out (by have:=HWR.out.2; have:=HB4.out.size; omega) hI.up (fun c hc=>by have:=HG1.out.1; have:=HWR.out.2; omega)) (by have:=HWR.out.2; have:=HB4.out.size; have:=hI.up.size; omega)).mono fun e w' hb=> ?_)
     {try dsimp only
      go_simp}
     {obtain ⟨v,he,hr⟩:=hI.call (fun j hj=>by rcases hj with rfl | rfl | rfl | rfl | rfl <;> assumption) hb;exact ⟨v,he,hK.out _ _ hr⟩}}
    refine StepsInv.cons2 _ rfl (fun d u W K' hs hI hd hw hK=> ?_) ?_
    {have w7:=hw 10 (by kernel_rfl);obtain ⟨t,qt,W2,s,e7,_⟩:=hI.ca w7
     try dsimp only at e7
     unfold sv at e7;refine Z02 (v:= .tuple #[.agg (Y8 t qt),.bool (bound f true x y).isSome]) (W':=W) rfl ?_ (hK.out _ _ (hI.read w7 (by decide) (fun t' q' h=>⟨fun _=>e7.symm,nofun,nofun,nofun⟩)));go_simp}
    refine StepsInv.cons2 _ rfl (fun d u W K' hs hI hd hw hK=> ?_) ?_
    {have w8:=hw 11 (by kernel_rfl);have w7:d 10=true:=hs 11 _ rfl w8 10 (by kernel_rfl);obtain ⟨t,qt,W2,s,e7,_,_,_,e8,_⟩:=hI.ca w7
     try dsimp only at e7 e8
     have d8:=(e8 w8).trans e7;have e7s:=e7;unfold sv at d8;refine Z02 (v:= .agg (Y8 t qt)) (W':=W) rfl ?_ (hK.out _ _ (hI.read w7 (by decide) (fun t' q' h=>⟨nofun,fun _=>by rw[e7s] at h; simp only[Value.tuple.injEq] at h; have:=congrArg (fun a:Array Value=>a[0]?) h; unfold sv at this ⊢; simpa using this,nofun,nofun⟩)));go_simp}
    refine StepsInv.cons2 _ rfl (fun d u W K' hs hI hd hw hK=> ?_) ?_
    {have w8:=hw 11 (by kernel_rfl);have w7:d 10=true:=hs 11 _ rfl w8 10 (by kernel_rfl);obtain ⟨t,qt,W2,s,e7,_,_,_,e8,_⟩:=hI.ca w7
     try dsimp only at e7 e8
     have d8:=(e8 w8).trans e7;unfold sv at d8;refine Z02 (v:= .bool (bound f true x y).isSome) (W':=W) rfl ?_ (hK.out _ _ (hI.read w7 (by decide) (fun t' q' h=>⟨nofun,nofun,fun _=>rfl,nofun⟩)));go_simp}
    refine StepsInv.cons2 _ rfl (fun d u W K' hs hI hd hw hK=> ?_) ?_
    {have w9:=hw 12 (by kernel_rfl);have w8:d 11=true:=hs 12 _ rfl w9 11 (by kernel_rfl);have w7:d 10=true:=hs 11 _ rfl w8 10 (by kernel_rfl);obtain ⟨t,qt,W2,s,e7,_,_,_,_,e9,_⟩:=hI.ca w7
     try dsimp only at e7 e9
     have d9:=e9 w9;have hst:=hI.store w7 e7;refine Z0q (W':=RX.lay W g1 t qt) rfl ?_ (hK.out undef _ hst);obtain ⟨v0,x0⟩:=hI.bx.ex 0 (by omega);obtain ⟨v1,x1⟩:=hI.bx.ex 1 (by omega);obtain ⟨v2,x2⟩:=hI.bx.ex 2 (by omega);obtain ⟨v3,x3⟩:=hI.bx.ex 3 (by omega);obtain ⟨v4,x4⟩:=hI.bx.ex 4 (by omega);have y0:=hI.bx.fz 0;have y1:=hI.bx.fz 1;have y2:=hI.bx.fz 2;have y3:=hI.bx.fz 3;have y4:=hI.bx.fz 4;unfold sv at d9;go_simp;rfl}
    refine StepsInv.cons2 _ rfl (fun d u W K' hs hI hd hw hK=> ?_) StepsInv.nil
    {have w10:=hw 13 (by kernel_rfl);have w8:d 11=true:=hs 13 _ rfl w10 11 (by kernel_rfl);have w7:d 10=true:=hs 11 _ rfl w8 10 (by kernel_rfl);obtain ⟨t,qt,W2,s,e7,_,_,_,_,_,e10,_⟩:=hI.ca w7
     try dsimp only at e7 e10
     have d10:=e10 w10;refine Z02 (v:= .bool (bound f true x y).isSome) (W':=W) rfl ?_ (hK.out _ _ (hI.read w7 (by decide) (fun t' q' h=>⟨nofun,nofun,nofun,fun _=>rfl⟩)));go_simp}
    intro d r' W6 hI hd
    try dsimp only
    have w7:=hd 10 (by decide);obtain ⟨t2,qt2,W2,s,e7,s1,s2,hj,_,_,_,hu,h12,h13⟩:=hI.ca w7;have d13:=h13 (hd 15 (by decide));have hl5:=h12 (hd 14 (by decide))
    try dsimp only at d13
    have hup:=hI.up;have hbx:=hI.bx;rw[d13];have HL6:=Y1 hl5;have HJ:Hid (∀j,bound f true x y=some j->t2=j/\Kept (fun b=>b < n0\/(wr.heap.size<=b/\b < W6.heap.size)) W6 (j,qt2)):=Y1 (fun j hb=>by
     obtain ⟨e1,e2⟩:=hj j hb;have hsu:=HB4.out.size;have hgg:=HG1.out;have hwr2:=HWR.out.2;refine ⟨e1,(e2.move (S':=fun b=>b < n0\/wr.heap.size<=b) hu (fun b hb hf=>⟨fun ht=> ?_, ?_⟩)).more (fun b hb hf=> ?_)⟩
     {have ht:b=g1:=ht;rcases hf with hf | hf <;> omega}
     {rcases hf with hf | hf
      {exact Or.inl hf}
      {exact Or.inr (by omega)}}
     · rcases hf with hf | hf
       {exact Or.inl hf}
       · exact Or.inr ⟨hf,hb⟩)
    have hb46:=HB4.out.trans (hup.below HB4.out.size (fun c hc=>by have hc:c=g1:=hc; have:=HG1.out.1; omega));have HB6:=Y1 hb46;clear hup hj hu e7 d13 h12 h13 hI hd w7 s1 s2 hl5 hbx hb46;obtain ⟨is,his⟩: ∃is,(bound f true x y).isSome=is:=⟨_,rfl⟩;rw[his];have HBP:Hid (Below wr.heap.size wr W6):=Y1 (HB6.out);cases is with
    | false=>
     have hbo:bound f true x y=none:=by
      cases e:bound f true x y with
      | none=>rfl
      | some y=>rw[e] at his; cases his
     have hst:placesOf (bound f (!true)) (bound f true) a.parts b.parts=none:=Zc0 HLI.out.1 HLI.out.2 (by rw[<-HXY.out.1, <-HXY.out.2,(show plc f true a.parts.length i x y=bound f true x y from if_pos HL9.out),hbo]);have hbd:bound (f+1) true a b=none:=by rw[HBO.out,hst]; rfl
     have hfin:=get_none (n0:=n0) (rc:=w.heap.size+2) hbd (by omega) (HKW.out.mm.up.trans (HBP.out.mono (by have:=HWR.out.1; omega)));have HF:=Y1 hfin;have hR9:=(HKW.out.rr.upd (T:=fun _=>False) (Upd.new HBP.out) (fun h=>h));obtain ⟨v0,r0⟩:=hR9.ex 0 (by omega);obtain ⟨v1,r1⟩:=hR9.ex 1 (by omega);obtain ⟨v2,r2⟩:=hR9.ex 2 (by omega);obtain ⟨v3,r3⟩:=hR9.ex 3 (by omega);obtain ⟨v4,r4⟩:=hR9.ex 4 (by omega);have z0:=hR9.fz 0;have z1:=hR9.fz 1;have z2:=hR9.fz 2;have z3:=hR9.fz 3;have z4:=hR9.fz 4;clear hst hbd hfin hR9 hbo his;go_wp2;refine bodyPost_ret (v:= .tuple #[.agg #[.int .i64 0,.string ⟨#[]⟩,.string ⟨#[]⟩,.slice none 0 0,.slice none 0 0],.bool false]) (by simp[results,Tryz.results46,go_sem,r0,r1,r2,r3,r4]) rfl ?_;exact HF.out
    | true=>
     obtain ⟨r,hbo⟩:=Option.isSome_iff_exists.1 his;obtain ⟨rfl,hky⟩:=HJ.out r hbo;have HEL:=Y1 hky;have HPL2:Hid ((ps++ [t2]).length=i+1/\ ∀j (h1:j < a.parts.length) (h2:j < b.parts.length),j < (ps++ [t2]).length->plc f true a.parts.length j (a.parts[j]'h1) (b.parts[j]'h2)=(ps++ [t2])[j]?):=Y1 ⟨by rw[List.length_append,HINV.out.1]; rfl,fun j h1 h2 hj=>by
      rw[List.length_append,HINV.out.1] at hj;by_cases hji:j < i
      {rw[HINV.out.2 j h1 h2 (by rw[HINV.out.1]; exact hji),List.getElem?_append_left (by rw[HINV.out.1]; exact hji)]}
      · obtain rfl:i=j:=by simp at hj; omega
        rw[<-HXY.out.1, <-HXY.out.2,(show plc f true a.parts.length i x y=bound f true x y from if_pos HL9.out),hbo,List.getElem?_append_right (by rw[HINV.out.1]; exact Nat.le_refl _),HINV.out.1,Nat.sub_self];rfl⟩
     have HKP:=Y1 (HKW.out.new HBP.out);have d4:=HKP.out.mm.c4;have f4:=HKP.out.mm.fz 4;have hgw:w.heap.size+3 < W6.heap.size:=by have:=HKP.out.mm.hw; omega
     have hll:=HKP.out.len;have hll2:l.length<=1000:=by rw[hll,HINV.out.1]; have:=HLI.out.1; have:=HLT.out.1; omega
     have HP5:=Y1 (Z0g (S:=fun _=>False) HKP.out.mm.rP (Upd.new (Z01 W6 (.cells (Y8 t2 qt2) 25))) (fun _ _ h=>h));have HS5:Hid (w.heap.size+4<=W6.heap.size):=Y1 HKP.out.mm.hw;obtain ⟨z0,z1,z2,z3,z4⟩:=(HL6.out);simp only[Nat.zero_add] at z0 z1 z2 z3 z4;clear hll hky hbo his
     go_wp2_with (at_builtin; refine wpList_append_lies _ rfl _ _ 23 rfl (w.heap.size+4) 25 i0 (.agg #[.int .i64 0,.string ByteArray.empty,.string ByteArray.empty,.slice none 0 0,.slice none 0 0]) 5 88 Tryz.underlying23 hif0 hz0 hs0 hb0 rfl (by decide) _ _ _ rfl HP5.out ⟨W6.heap.size,0,none⟩ 1 1 (cells5 (t2,qt2)) rfl rfl (by intro j v hv; rw[Z0f,Nat.zero_add]; rcases j with _ | _ | _ | _ | _ | j <;> (simp[cells5] at hv; try (subst hv; simp[go_sem]))) (cells5_one _) (by decide) (by unfold maxLen; omega) (by omega) (by have:=HS5.out; simp; omega) _ rfl ?_)
     intro g2 cap2 w8 hown2 hgrow2 hat2 hlt2;rw[rowB_own] at hgrow2 hat2;have hat3:rowB AP=some g2\/g2=(W6.alloc (.cells (Y8 t2 qt2) 25)).heap.size:=by
      rcases hat2 with h | h
      {exact Or.inl h}
      {exact Or.inr (by rw[h]; simp)}
     have hb8:=Z01 W6 (.cells (Y8 t2 qt2) 25);have hEND:=HKP.out.putQ (pb:=wr.heap.size) (e:=W6.heap.size) (x:=(t2,qt2)) (by have:=HN.out; omega) (by omega) HEL.out (Nat.le_refl _) HWR.out.1 (fun b h=>by cases h) (fun b h=>Or.inl (Z08 HKW.out.mm.rP b h).2) hb8 hgrow2 hown2 hat3;have hu8:Upd (fun b=>rowB AP=some b) W6 w8:=(Upd.new (S:=fun b=>rowB AP=some b) hb8).grown hgrow2 (fun k h _=>h);have hn8: ¬rowB AP=some (w.heap.size+3):=fun e=>by have:=(Z08 HKP.out.mm.rP _ e).1; omega
     have d5:=(hu8.cell hgw hn8).trans d4;have f5:=(hu8.frozen hgw hn8).trans f4;have hgw8:w.heap.size+3 < w8.heap.size:=Nat.lt_of_lt_of_le hgw hu8.size;have HEND:Hid (∃(ps':List Sh) (l':List El) (AP':Option Addr) (cP':Nat),(ps'.length=i+1/\ ∀j (h1:j < a.parts.length) (h2:j < b.parts.length),j < ps'.length->plc f true a.parts.length j (a.parts[j]'h1) (b.parts[j]'h2)=ps'[j]?)/\KBs w w4 n0 (w.heap.size+3) (w.heap.size+4) (w.heap.size+2) 8 [] [] [] ps' l' none 0 AP' cP' (w8.setCell ⟨w.heap.size+3,4,none⟩ (.slice (some ⟨g2,0,none⟩) (l.length+1) cap2))):=Y1 ⟨ps++ [t2],l++ [(t2,qt2)],_,_,HPL2.out,hEND⟩;clear hown2 hgrow2 hat2 hat3 hlt2 hb8 hEND hu8 hn8 d4 f4 HP5 z0 z1 z2 z3 z4;go_wp2
     go_roundw
     case rel=>exact ⟨i+1,by go_num,by have:=HLI.out.1; omega,HEND⟩
     case measure=>have:=HLI.out.1; simp[intOf]; omega}
  {have hi1: ¬(i:Int) < (a.parts.length:Int):=by omega
   obtain rfl:i=a.parts.length:=by omega
   have hKF:=hKB;have hpa:=Zcx hpl HINV.out.1 HINV.out.2;have hbd:bound (f+1) true a b=some ⟨8,[],[],[],ps⟩:=by rw[HBO.out,hpa]; rfl
   obtain ⟨h5,hkp⟩:=hKF.fin (by simp) (by simp) (fun x hx=>by cases hx) (by simp) (by rw[HINV.out.1]; omega);have hfin:=Zc2 (o:=bound (f+1) true a b) (rc:=w.heap.size+2) (hi:=w.heap.size+4) (n0:=n0) (w:=w) (W:=wr) hbd HN.out (by omega) (by omega) hKF.mm.up hkp;obtain ⟨r,hre⟩: ∃r:Sh,r=⟨8,[],[],[],ps⟩:=⟨_,rfl⟩;rw[<-hre] at h5 hfin;have HF:=Y1 hfin;have hR:=hKF.rr;obtain ⟨x0,x1,x2,x3,x4⟩:=h5;simp only[Nat.zero_add] at x0 x1 x2 x3 x4;obtain ⟨v0,y0⟩:=hR.ex 0 (by omega);obtain ⟨v1,y1⟩:=hR.ex 1 (by omega);obtain ⟨v2,y2⟩:=hR.ex 2 (by omega);obtain ⟨v3,y3⟩:=hR.ex 3 (by omega);obtain ⟨v4,y4⟩:=hR.ex 4 (by omega);have z0:=hR.fz 0;have z1:=hR.fz 1;have z2:=hR.fz 2;have z3:=hR.fz 3;have z4:=hR.fz 4;obtain ⟨u0,u1,u2,u3,u4⟩:=RX.lay_at r ⟨none,0,AP,cP⟩ (W:=wr) (g:=w.heap.size+2) hR.ex;simp only[Nat.zero_add] at u0 u1 u2 u3 u4;have HU:=Y1 (And.intro u0 (And.intro u1 (And.intro u2 (And.intro u3 u4))));clear hfin hkp hKF hKB hR u0 u1 u2 u3 u4 hre hU hTw hSw hbd hpa;go_wp2;obtain ⟨u0,u1,u2,u3,u4⟩:=HU.out;unfold RX.lay at u0 u1 u2 u3 u4;refine bodyPost_ret (v:= .tuple #[sv r ⟨none,0,AP,cP⟩,.bool true]) (by simp[results,Tryz.results46,go_sem,u0,u1,u2,u3,u4]) rfl ?_;exact HF.out}
end SubM
end Go.Proofs.YtlomianlcnmfgaaGreatDoor
