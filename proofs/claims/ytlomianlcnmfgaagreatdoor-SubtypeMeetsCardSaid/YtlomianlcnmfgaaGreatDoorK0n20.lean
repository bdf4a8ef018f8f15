/- What the proofs of SubtypeJoins, SubtypeMeets want, part 20. -/
import Derived.Test.YtlomianlcnmfgaaGreatDoorK0n19
set_option linter.unusedVariables false
set_option linter.unusedSimpArgs false
set_option linter.unusedSectionVars false
set_option maxRecDepth 100000
set_option maxHeartbeats 16000000
namespace Go.Proofs.YtlomianlcnmfgaaGreatDoor
open Go.RowKit Shp Sub
namespace SubM
theorem ZcG {S:Nat->Prop} {W:World} {t:Sh} {q:Ptr} (h:Kept S W (t,q)) (hS:S W.heap.size):Kept S (W.alloc (.cells (Y8 t q) 25)) (⟨5,[],[],[],[t]⟩,⟨none,0,some ⟨W.heap.size,0,none⟩,1⟩):=fun W' h1 h2=>by
 have hz: (W.alloc (.cells (Y8 t q) 25)).heap.size=W.heap.size+1:=by simp
 have hat:=h W' (by omega) (fun b hb hs=>(h2 b (by omega) hs).trans ((Upd.new (S:=fun _=>False) (Z01 W (.cells (Y8 t q) 25))).block b hb (fun h=>h)));obtain ⟨_,⟨c0,c1,c2,c3,c4⟩,_⟩:=Z05 W t q;have e1: ∀k,W'.cell? ⟨W.heap.size,k,none⟩=(W.alloc (.cells (Y8 t q) 25)).cell? ⟨W.heap.size,k,none⟩:=fun k=>World.cell?_of_block (w:=W.alloc (.cells (Y8 t q) 25)) (h2 W.heap.size (by omega) hS);refine .mk _ _ W.heap.size 0 (fun _=>q) ⟨by simp,by simp,by simp,by simp,by simp,by simp,by simp,fun _=>rfl,nofun⟩ (Or.inl rfl) (Or.inr ⟨rfl,by omega⟩) (fun i hi=> ?_) (fun i hi=> ?_)
 {have h3:i < 1:=hi
  match i,h3 with
  | 0,_=>exact ⟨(e1 _).trans c0,(e1 _).trans c1,(e1 _).trans c2,(e1 _).trans c3,(e1 _).trans c4⟩}
 {have h3:i < 1:=hi
  match i,h3 with
  | 0,_=>exact hat}
section
variable {f : Nat} (hI : DocF f) (a b : Sh) (pa pb : Ptr) (n0 : Nat) (w : World) (h2 : Two (f + 1) a b) (ha : ShAt w n0 pa a) (hb : ShAt w n0 pb b) (hn : n0 <= w.heap.size) (hk : a.kind = b.kind) (ho : a.of_ = b.of_) (hnm : a.name = b.name) (h5 : a.kind = 5)
include f hI a b pa pb n0 w h2 ha hb hn hk ho hnm h5
theorem Zdo:
 Calls Tryz.prog 21 #[.agg (Y8 a pa),.agg (Y8 b pb)] w (GetIs n0 (bound (f+1) true a b) w):=by
 obtain ⟨x,y,hx,hy,hbo⟩:=Zcs (f:=f) (up:=true) h2.ra h2.rb hk ho hnm h5;have HBO:=Y1 hbo;have HT:Hid (Two f x y):=Y1 (h2.part (by rw[hx]; simp) (by rw[hy]; simp));have hx1:=Z01 w (.cells (Y8 a pa) 25);obtain ⟨u1,hu1⟩: ∃u1,w.alloc (.cells (Y8 a pa) 25)=u1:=⟨_,rfl⟩;have hs1:u1.heap.size=w.heap.size+1:=by rw[<-hu1]; simp
 have hy1:=Z05 w a pa;rw[hu1] at hx1 hy1;have hx2:=Z01 u1 (.cells (Y8 b pb) 25);obtain ⟨u2,hu2⟩: ∃u2,u1.alloc (.cells (Y8 b pb) 25)=u2:=⟨_,rfl⟩;have hs2:u2.heap.size=w.heap.size+1+1:=by rw[<-hu2]; simp[hs1]
 have hy2:=Z05 u1 b pb;rw[hu2] at hx2 hy2;rw[hs1] at hy2;have hx3:=Z01 u2 (.cells Yb 25);obtain ⟨W1,hW1⟩: ∃W,u2.alloc (.cells Yb 25)=W:=⟨_,rfl⟩;have hz:Box5 W1 (w.heap.size+1+1) Z0c noneQ12:=by rw[<-hW1, <-hs2]; exact Z05 u2 Z0c noneQ12
 rw[hW1] at hx3;have hb23:=Z00 hx2 hx3;have hb13:=Z00 hx1 hb23;have hxa:=hy1.next hb23;have hxb:=hy2.next hx3;have HB1:=Y1 hb13;obtain ⟨_,⟨a0,a1,a2,a3,a4⟩,_⟩:=hxa;obtain ⟨_,⟨b0,b1,b2,b3,b4⟩,_⟩:=hxb;have hz':=hz;obtain ⟨_,⟨r0,r1,r2,r3,r4⟩,y0,y1,y2,y3,y4⟩:=hz';simp only[Nat.zero_add] at a0 a1 a2 a3 a4 b0 b1 b2 b3 b4 r0 r1 r2 r3 r4;have hap:=ha.part;have hbp:=hb.part;rw[hx] at hap;rw[hy] at hbp;rcases hap with h0 | ⟨g,off,qs,hqP,hg,hc,hra⟩
 {simp at h0}
 rcases hbp with h0 | ⟨g',off',qs',hqP',hg',hc',hra'⟩
 {simp at h0}
 have hX5:=(hc 0 (by simp)).keep (Nat.lt_of_lt_of_le hg hn) hb13;have hY5:=(hc' 0 (by simp)).keep (Nat.lt_of_lt_of_le hg' hn) hb13;have hXA:=(hra 0 (by simp)).keep hb13 hn;have hYA:=(hra' 0 (by simp)).keep hb13 hn;simp only[List.getElem_cons_zero] at hX5 hY5 hXA hYA;simp only[Nat.zero_mul,Nat.add_zero] at hX5 hY5;have HX5:=Y1 hX5;have HY5:=Y1 hY5;have HXA:=Y1 hXA;have HYA:=Y1 hYA;have HN0:=Y1 hn;have HG:=Y1 (And.intro hg hg');have HI:=Y1 hI;have hla:a.parts.length=1:=by rw[hx]; rfl
 have hlb:b.parts.length=1:=by rw[hy]; rfl
 rw[hqP,hla] at a4;rw[hqP',hlb] at b4;rw[h5] at a0;have n1: (a.kind !=b.kind)=false:=by rw[hk]; simp
 have n2: (a.of_ !=b.of_)=false:=by rw[ho]; simp
 have n3: (a.name !=b.name)=false:=by rw[hnm]; simp
 have e1: (a.kind==b.kind)=true:=by rw[hk]; simp
 have e2: (a.of_==b.of_)=true:=by rw[ho]; simp
 have e3: (a.name==b.name)=true:=by rw[hnm]; simp
 have hkb:b.kind=5:=by rw[<-hk]; exact h5
 rw[hkb] at b0;have HA4:=Y1 a4;have HB4:=Y1 b4;have HA0:=Y1 a0;have HSZ:Hid (w.heap.size+1+1 < W1.heap.size):=Y1 hz.1;have HRC:Hid (Rc (w.heap.size+1+1) W1):=Y1 (by have h:=Z0I hW1.symm; rwa [hs2] at h);clear hx1 hx2 hx3 hy1 hy2 hb23 hb13 ha hb h2 hn hk ho hnm h5 hx hy hbo hg hg' hc hc' hra hra' hXA hYA hI hqP hqP' hla hlb hkb n1 e1 hX5 hY5 hz;go_enter Tryz.func21,Tryz.ntmps21
 go_wp2_with fail
 clear a0 a1 a2 a3 a4 b0 b1 b2 b3 b4 r0 r1 r2 r3 r4 y0 y1 y2 y3 y4 hu1 hu2 hs1 hs2 hW1;refine Z1u (rs:= [0,1,2,3,4,5,6,7,8,9,10,11,12,13,14])
  (fun u=> { tmps:=#[.agg (Y8 a pa),.agg (Y8 b pb),.pointer (some { block:=w.heap.size,off:=0 }),.pointer (some { block:=w.heap.size+1,off:=0 }),.pointer (some { block:=w.heap.size+1+1,off:=0 }),.bool false,u 12,u 14,undef,undef,undef,undef,undef,undef,undef,undef,undef,undef,undef,undef,undef,.pointer (some { block:=w.heap.size,off:=0 }),.int .i64 5,.pointer (some { block:=w.heap.size+1,off:=0 }),.int .i64 5,.bool false,.bool false,.pointer (some { block:=w.heap.size,off:=1 }),.string { data:=a.of_.toArray },.pointer (some { block:=w.heap.size+1,off:=1 }),.string { data:=b.of_.toArray },.bool false,.bool false,.bool false,.pointer (some { block:=w.heap.size,off:=2 }),.string { data:=a.name.toArray },.pointer (some { block:=w.heap.size+1,off:=2 }),.string { data:=b.name.toArray },.bool false,.bool false,undef,.pointer (some { block:=w.heap.size,off:=0 }),.int .i64 5,.bool true,.bool true,u 9,u 0,u 1,u 2,u 3,u 4,u 5,u 6,u 7,u 8,u 10,u 11,undef,undef,undef,undef,undef,undef,undef,undef,undef,undef,undef,undef,undef,undef,undef,undef,undef,undef,undef,undef,undef,undef,undef,undef,undef,undef,undef,undef,undef,undef,undef,undef,undef,undef,undef,undef,undef,undef,undef,undef,undef,undef,undef,undef,undef,undef,undef,undef,undef,undef,undef,undef,undef,undef,undef,undef,undef,undef,undef,undef,undef,undef,undef,undef,undef,undef,undef,undef,undef,undef,undef,undef,undef,undef,undef,undef,undef,undef,undef,undef,undef,undef,undef,undef,undef,undef,undef,undef,undef,undef,undef,undef,undef,undef,undef,undef,undef,undef,undef,undef,undef,undef,undef,undef,undef,undef,undef,undef,undef,undef,undef,undef,undef,undef,undef,undef,undef,undef,undef,undef,undef,undef,undef,undef],defers:= [] })
  (fun j=>([undef,undef,undef,undef,undef,undef,undef,undef,undef,undef,undef,undef,undef,undef,undef]:List Value).getD j undef) (GetI W1 n0 (getT (.pointer (some ⟨w.heap.size,4,none⟩)) (.slice (some ⟨g,off,none⟩) 1 pa.d) (.pointer (some ⟨g,off,none⟩)) (.agg (Y8 x ((qs 0)))) (.pointer (some ⟨w.heap.size+1,4,none⟩)) (.slice (some ⟨g',off',none⟩) 1 pb.d) (.pointer (some ⟨g',off',none⟩)) (.agg (Y8 y ((qs' 0))))) 8 (bound f true x y)) (by kernel_rfl) (by kernel_rfl) (by kernel_rfl) GetI.start ?_ ?_
 refine StepsInv.cons2 _ rfl (fun d u W K' hs hI hd hw hK=> ?_) ?_
 {refine Z02 (v:= .pointer (some ⟨w.heap.size,4,none⟩)) (W':=W) rfl ?_ (hK.out _ _ (hI.pure (by decide) rfl))
  try dsimp only
  go_simp}
 refine StepsInv.cons2 _ rfl (fun d u W K' hs hI hd hw hK=> ?_) ?_
 {have d0:u 0= .pointer (some ⟨w.heap.size,4,none⟩):=hI.vals 0 (by decide) (hw 0 (by kernel_rfl));have y4:=(hI.up.cell (p:=⟨w.heap.size,4,none⟩) (by have:=HSZ.out; omega)).trans HA4.out;refine Z02 (v:= .slice (some ⟨g,off,none⟩) 1 pa.d) (W':=W) rfl ?_ (hK.out _ _ (hI.pure (by decide) rfl))
  try dsimp only
  go_simp}
 refine StepsInv.cons2 _ rfl (fun d u W K' hs hI hd hw hK=> ?_) ?_
 {have d1:u 1= .slice (some ⟨g,off,none⟩) 1 pa.d:=hI.vals 1 (by decide) (hw 1 (by kernel_rfl));refine Z02 (v:= .pointer (some ⟨g,off,none⟩)) (W':=W) rfl ?_ (hK.out _ _ (hI.pure (by decide) rfl))
  try dsimp only
  go_simp}
 refine StepsInv.cons2 _ rfl (fun d u W K' hs hI hd hw hK=> ?_) ?_
 {have d2:u 2= .pointer (some ⟨g,off,none⟩):=hI.vals 2 (by decide) (hw 2 (by kernel_rfl));obtain ⟨y0,y1,y2,y3,y4⟩:=HX5.out.keep (by have:=HSZ.out; have:=HN0.out; have:=HG.out.1; omega) hI.up;refine Z02 (v:= .agg (Y8 x ((qs 0)))) (W':=W) rfl ?_ (hK.out _ _ (hI.pure (by decide) rfl))
  try dsimp only
  go_simp}
 refine StepsInv.cons2 _ rfl (fun d u W K' hs hI hd hw hK=> ?_) ?_
 {refine Z02 (v:= .pointer (some ⟨w.heap.size+1,4,none⟩)) (W':=W) rfl ?_ (hK.out _ _ (hI.pure (by decide) rfl))
  try dsimp only
  go_simp}
 refine StepsInv.cons2 _ rfl (fun d u W K' hs hI hd hw hK=> ?_) ?_
 {have d4:u 4= .pointer (some ⟨w.heap.size+1,4,none⟩):=hI.vals 4 (by decide) (hw 4 (by kernel_rfl));have y4:=(hI.up.cell (p:=⟨w.heap.size+1,4,none⟩) (by have:=HSZ.out; omega)).trans HB4.out;refine Z02 (v:= .slice (some ⟨g',off',none⟩) 1 pb.d) (W':=W) rfl ?_ (hK.out _ _ (hI.pure (by decide) rfl))
  try dsimp only
  go_simp}
 refine StepsInv.cons2 _ rfl (fun d u W K' hs hI hd hw hK=> ?_) ?_
 {have d5:u 5= .slice (some ⟨g',off',none⟩) 1 pb.d:=hI.vals 5 (by decide) (hw 5 (by kernel_rfl));refine Z02 (v:= .pointer (some ⟨g',off',none⟩)) (W':=W) rfl ?_ (hK.out _ _ (hI.pure (by decide) rfl))
  try dsimp only
  go_simp}
 refine StepsInv.cons2 _ rfl (fun d u W K' hs hI hd hw hK=> ?_) ?_
 {have d6:u 6= .pointer (some ⟨g',off',none⟩):=hI.vals 6 (by decide) (hw 6 (by kernel_rfl));obtain ⟨y0,y1,y2,y3,y4⟩:=HY5.out.keep (by have:=HSZ.out; have:=HN0.out; have:=HG.out.2; omega) hI.up;refine Z02 (v:= .agg (Y8 y ((qs' 0)))) (W':=W) rfl ?_ (hK.out _ _ (hI.pure (by decide) rfl))
  try dsimp only
  go_simp}
 refine StepsInv.cons2 _ rfl (fun d u W K' hs hI hd hw hK=> ?_) ?_
 {have d3:u 3= .agg (Y8 x ((qs 0))):=hI.vals 3 (by decide) (hw 3 (by kernel_rfl));have d7:u 7= .agg (Y8 y ((qs' 0))):=hI.vals 7 (by decide) (hw 7 (by kernel_rfl));have h1:d 9=false:=Z0i hs rfl (by kernel_rfl) hd;have h2:d 10=false:=Z0i hs rfl (by kernel_rfl) h1;have h3:d 11=false:=Z0i hs rfl (by kernel_rfl) h1;have h5:d 13=false:=Z0i hs rfl (by kernel_rfl) h2;have h6:d 14=false:=Z0i hs rfl (by kernel_rfl) h3;refine Z0F (f:=21) (args:=#[.agg (Y8 x ((qs 0))),.agg (Y8 y ((qs' 0)))]) (W':=W) rfl ?_ ((show Calls Tryz.prog 21 #[.agg (Y8 x ((qs 0))),.agg (Y8 y ((qs' 0)))] W (GetIs n0 (bound f true x y) W) from HI.out true x y (qs 0) (qs' 0) n0 W HT.out (HXA.out.keep hI.up (by have:=HSZ.out; have:=HN0.out; omega)) (HYA.out.keep hI.up (by have:=HSZ.out; have:=HN0.out; omega)) (by have:=HSZ.out; have:=HN0.out; have:=hI.up.size; omega)).mono fun e w' hb=> ?_)
  {try dsimp only
   go_simp}
  {obtain ⟨v,he,hr⟩:=hI.call hd (fun j hj=>by rcases hj with rfl | rfl | rfl | rfl | rfl <;> assumption) hb;exact ⟨v,he,hK.out _ _ hr⟩}}
 refine StepsInv.cons2 _ rfl (fun d u W K' hs hI hd hw hK=> ?_) ?_
 {have w7:=hw 8 (by kernel_rfl);obtain ⟨t,qt,W2,s,e7,_⟩:=hI.ca w7
  try dsimp only at e7
  unfold sv at e7;refine Z02 (v:= .tuple #[.agg (Y8 t qt),.bool (bound f true x y).isSome]) (W':=W) rfl ?_ (hK.out _ _ (hI.read w7 (by decide) hd (fun t' q' h=>⟨fun _=>e7.symm,nofun,nofun,nofun⟩)));go_simp}
 refine StepsInv.cons2 _ rfl (fun d u W K' hs hI hd hw hK=> ?_) ?_
 {have w8:=hw 9 (by kernel_rfl);have w7:d 8=true:=hs 9 _ rfl w8 8 (by kernel_rfl);obtain ⟨t,qt,W2,s,e7,_,_,_,e8,_⟩:=hI.ca w7
  try dsimp only at e7 e8
  have d8:=(e8 w8).trans e7;have e7s:=e7;unfold sv at d8;refine Z02 (v:= .agg (Y8 t qt)) (W':=W) rfl ?_ (hK.out _ _ (hI.read w7 (by decide) hd (fun t' q' h=>⟨nofun,fun _=>by rw[e7s] at h; simp only[Value.tuple.injEq] at h; have:=congrArg (fun a:Array Value=>a[0]?) h; unfold sv at this ⊢; simpa using this,nofun,nofun⟩)));go_simp}
 refine StepsInv.cons2 _ rfl (fun d u W K' hs hI hd hw hK=> ?_) ?_
 {have w8:=hw 9 (by kernel_rfl);have w7:d 8=true:=hs 9 _ rfl w8 8 (by kernel_rfl);obtain ⟨t,qt,W2,s,e7,_,_,_,e8,_⟩:=hI.ca w7
  try dsimp only at e7 e8
  have d8:=(e8 w8).trans e7;unfold sv at d8;refine Z02 (v:= .bool (bound f true x y).isSome) (W':=W) rfl ?_ (hK.out _ _ (hI.read w7 (by decide) hd (fun t' q' h=>⟨nofun,nofun,fun _=>rfl,nofun⟩)));go_simp}
 refine StepsInv.cons2 _ rfl (fun d u W K' hs hI hd hw hK=> ?_) ?_
 {have h12:d 13=false:=Z0i hs rfl (by kernel_rfl) hd;refine Z02 (v:= .pointer (some ⟨W.heap.size,0,none⟩)) (W':=W.alloc (.cells Yb 25)) rfl ?_ (hK.out _ _ (hI.alloc hd h12));go_simp}
 refine StepsInv.cons2 _ rfl (fun d u W K' hs hI hd hw hK=> ?_) ?_
 {have w11:=hw 12 (by kernel_rfl);have w9:=hw 10 (by kernel_rfl);have w7:=hw 8 (by kernel_rfl);obtain ⟨t,qt,W2,s,e7,_,_,_,_,e9,_⟩:=hI.ca w7
  try dsimp only at e7 e9
  have d9:=e9 w9;obtain ⟨g1,e11,g2,g3,g4,g5⟩:=hI.al w11
  try dsimp only at e11
  have hst:=hI.store w7 w11 e11 e7 (fun t' q' h=>ZbN h);refine Z0q (W':=RX.lay W g1 t qt) rfl ?_ (hK.out undef _ hst);obtain ⟨v0,x0⟩:=g5 0 (by omega);obtain ⟨v1,x1⟩:=g5 1 (by omega);obtain ⟨v2,x2⟩:=g5 2 (by omega);obtain ⟨v3,x3⟩:=g5 3 (by omega);obtain ⟨v4,x4⟩:=g5 4 (by omega);have y0:=g4 0;have y1:=g4 1;have y2:=g4 2;have y3:=g4 3;have y4:=g4 4;unfold sv at d9;go_simp;rfl}
 refine StepsInv.cons2 _ rfl (fun d u W K' hs hI hd hw hK=> ?_) StepsInv.nil
 {have w10:=hw 11 (by kernel_rfl);have w8:d 9=true:=hs 11 _ rfl w10 9 (by kernel_rfl);have w7:d 8=true:=hs 9 _ rfl w8 8 (by kernel_rfl);obtain ⟨t,qt,W2,s,e7,_,_,_,_,_,e10,_⟩:=hI.ca w7
  try dsimp only at e7 e10
  have d10:=e10 w10;refine Z02 (v:= .bool (bound f true x y).isSome) (W':=W) rfl ?_ (hK.out _ _ (hI.read w7 (by decide) hd (fun t' q' h=>⟨nofun,nofun,nofun,fun _=>rfl⟩)));go_simp}
 intro d z' W4 hI hd
 try dsimp only
 have w7:=hd 8 (by decide);have w11:=hd 12 (by decide);obtain ⟨g1,e11,g2,g3,g4,_⟩:=hI.al w11;obtain ⟨t,qt,W2,s,e7,s1,s2,hj,_,_,_,hu,hgs,h12,h13⟩:=hI.ca w7;have d13:=h13 (hd 14 (by decide));have hl5:=h12 (hd 13 (by decide)) g1 e11;have hsep:=hgs g1 w11 e11
 try dsimp only at d13 e11
 have hup:=hI.up;rw[e11,d13];have a0:=(hup.cell (p:=⟨w.heap.size,0,none⟩) (by have:=HSZ.out; omega)).trans HA0.out;obtain ⟨x0,x1,x2,x3,x4⟩:=hl5;have hR:=HRC.out.upd (T:=fun _=>False) (Upd.new hup) (fun h=>h);have HUP:=Y1 hup;have HKP:Hid (∀j,bound f true x y=some j->t=j/\Kept (fun b=>b < n0\/W1.heap.size<=b/\b≠g1) W4 (j,qt)):=Y1 (fun j hb=>by
  obtain ⟨e1,e2⟩:=hj j hb;refine ⟨e1,e2.move hu (fun b hb hf=>⟨fun ht=> ?_, ?_⟩)⟩
  {obtain ⟨_,ht2⟩:=ht;rw[e11] at ht2;have e3:g1=b:=by simp at ht2 <;> exact ht2
   have:=HN0.out;have:=HSZ.out;rcases hsep with h | h
   {rcases hf with hf | hf <;> omega}
   {omega}}
  · rcases hf with hf | hf
    {exact Or.inl hf}
    · have hne:b≠g1:=fun e=>by
       rcases hsep with h | h <;> omega
      exact Or.inr ⟨by omega,hne⟩)
 have HG1:Hid (W1.heap.size<=g1/\g1 < W4.heap.size):=Y1 ⟨g2,g3⟩;have hb9:=Z01 W4 (.cells (Y8 t qt) 25);obtain ⟨W5,hW5⟩: ∃W5,W4.alloc (.cells (Y8 t qt) 25)=W5:=⟨_,rfl⟩;rw[hW5] at hb9;have hR5:=hR.upd (T:=fun _=>False) (Upd.new hb9) (fun h=>h);have HB9:=Y1 hb9;have HW5:=Y1 hW5;obtain ⟨v0,r0⟩:=hR5.ex 0 (by omega);have z0:=hR5.fz 0;obtain ⟨v1,r1⟩:=hR5.ex 1 (by omega);have z1:=hR5.fz 1;obtain ⟨v2,r2⟩:=hR5.ex 2 (by omega);have z2:=hR5.fz 2;obtain ⟨v3,r3⟩:=hR5.ex 3 (by omega);have z3:=hR5.fz 3;obtain ⟨v4,r4⟩:=hR5.ex 4 (by omega);have z4:=hR5.fz 4;obtain ⟨is,his⟩: ∃is,(bound f true x y).isSome=is:=⟨_,rfl⟩;rw[his];have HIS:=Y1 his;simp only[Nat.zero_add] at x0 x1 x2 x3 x4;clear hup hj hu hgs hsep g2 g3 g4 e7 e11 d13 h12 h13 hI hd w7 w11 s1 s2 hR hb9 hR5 his;go_wp2;refine bodyPost_ret (v:= .tuple #[.agg #[.int .i64 5,.string ⟨#[]⟩,.string ⟨#[]⟩,.slice none 0 0,.slice (some ⟨W4.heap.size,0,none⟩) 1 1],.bool is]) (by simp[results,Tryz.results21,go_sem,r0,r1,r2,r3,r4]) rfl ?_;have hbw:Below w.heap.size w W5:=Z00 (Z00 HB1.out HUP.out) HB9.out;refine ⟨⟨5,[],[],[],[t]⟩,⟨none,0,some ⟨W4.heap.size,0,none⟩,1⟩,by rw[HBO.out, <-HIS.out]; cases bound f true x y <;> rfl,Z1n hbw (by omega) _ _ _ _ _,fun j hj=> ?_⟩;rw[HBO.out] at hj;cases hb:bound f true x y with
 | none=>rw[hb] at hj; cases hj
 | some z=>
  rw[hb] at hj;cases hj;obtain ⟨rfl,hk⟩:=HKP.out z hb;have h1:=HSZ.out;have h2:=HN0.out;have h3:=HUP.out.size;have hk2:=ZcG (S:=fun b=>b < n0\/W1.heap.size<=b) (hk.more (fun b _ hb=>hb.elim Or.inl (fun h=>Or.inr h.1))) (Or.inr h3);rw[HW5.out] at hk2;refine ⟨rfl,(hk2.upd (RX.lay_upd _ (w.heap.size+1+1) ⟨5,[],[],[],[t]⟩ ⟨none,0,some ⟨W4.heap.size,0,none⟩,1⟩) (fun b _ hb e=> ?_)).more (fun b _ hb=> ?_)⟩
  {have e:b=w.heap.size+1+1:=e;rcases hb with hb | hb <;> omega}
  {rcases hb with hb | hb
   {exact Or.inl hb}
   {exact Or.inr (by omega)}}
theorem Zdp:
 Calls Tryz.prog 25 #[.agg (Y8 a pa),.agg (Y8 b pb)] w (GetIs n0 (bound (f+1) false a b) w):=by
 obtain ⟨x,y,hx,hy,hbo⟩:=Zcs (f:=f) (up:=false) h2.ra h2.rb hk ho hnm h5;have HBO:=Y1 hbo;have HT:Hid (Two f x y):=Y1 (h2.part (by rw[hx]; simp) (by rw[hy]; simp));have hx1:=Z01 w (.cells (Y8 a pa) 25);obtain ⟨u1,hu1⟩: ∃u1,w.alloc (.cells (Y8 a pa) 25)=u1:=⟨_,rfl⟩;have hs1:u1.heap.size=w.heap.size+1:=by rw[<-hu1]; simp
 have hy1:=Z05 w a pa;rw[hu1] at hx1 hy1;have hx2:=Z01 u1 (.cells (Y8 b pb) 25);obtain ⟨u2,hu2⟩: ∃u2,u1.alloc (.cells (Y8 b pb) 25)=u2:=⟨_,rfl⟩;have hs2:u2.heap.size=w.heap.size+1+1:=by rw[<-hu2]; simp[hs1]
 have hy2:=Z05 u1 b pb;rw[hu2] at hx2 hy2;rw[hs1] at hy2;have hx3:=Z01 u2 (.cells Yb 25);obtain ⟨W1,hW1⟩: ∃W,u2.alloc (.cells Yb 25)=W:=⟨_,rfl⟩;have hz:Box5 W1 (w.heap.size+1+1) Z0c noneQ12:=by rw[<-hW1, <-hs2]; exact Z05 u2 Z0c noneQ12
 rw[hW1] at hx3;have hb23:=Z00 hx2 hx3;have hb13:=Z00 hx1 hb23;have hxa:=hy1.next hb23;have hxb:=hy2.next hx3;have HB1:=Y1 hb13;obtain ⟨_,⟨a0,a1,a2,a3,a4⟩,_⟩:=hxa;obtain ⟨_,⟨b0,b1,b2,b3,b4⟩,_⟩:=hxb;have hz':=hz;obtain ⟨_,⟨r0,r1,r2,r3,r4⟩,y0,y1,y2,y3,y4⟩:=hz';simp only[Nat.zero_add] at a0 a1 a2 a3 a4 b0 b1 b2 b3 b4 r0 r1 r2 r3 r4;have hap:=ha.part;have hbp:=hb.part;rw[hx] at hap;rw[hy] at hbp;rcases hap with h0 | ⟨g,off,qs,hqP,hg,hc,hra⟩
 {simp at h0}
 rcases hbp with h0 | ⟨g',off',qs',hqP',hg',hc',hra'⟩
 {simp at h0}
 have hX5:=(hc 0 (by simp)).keep (Nat.lt_of_lt_of_le hg hn) hb13;have hY5:=(hc' 0 (by simp)).keep (Nat.lt_of_lt_of_le hg' hn) hb13;have hXA:=(hra 0 (by simp)).keep hb13 hn;have hYA:=(hra' 0 (by simp)).keep hb13 hn;simp only[List.getElem_cons_zero] at hX5 hY5 hXA hYA;simp only[Nat.zero_mul,Nat.add_zero] at hX5 hY5;have HX5:=Y1 hX5;have HY5:=Y1 hY5;have HXA:=Y1 hXA;have HYA:=Y1 hYA;have HN0:=Y1 hn;have HG:=Y1 (And.intro hg hg');have HI:=Y1 hI;have hla:a.parts.length=1:=by rw[hx]; rfl
 have hlb:b.parts.length=1:=by rw[hy]; rfl
 rw[hqP,hla] at a4;rw[hqP',hlb] at b4;rw[h5] at a0;have n1: (a.kind !=b.kind)=false:=by rw[hk]; simp
 have n2: (a.of_ !=b.of_)=false:=by rw[ho]; simp
 have n3: (a.name !=b.name)=false:=by rw[hnm]; simp
 have e1: (a.kind==b.kind)=true:=by rw[hk]; simp
 have e2: (a.of_==b.of_)=true:=by rw[ho]; simp
 have e3: (a.name==b.name)=true:=by rw[hnm]; simp
 have hkb:b.kind=5:=by rw[<-hk]; exact h5
 rw[hkb] at b0;have HA4:=Y1 a4;have HB4:=Y1 b4;have HA0:=Y1 a0;have HSZ:Hid (w.heap.size+1+1 < W1.heap.size):=Y1 hz.1;have HRC:Hid (Rc (w.heap.size+1+1) W1):=Y1 (by have h:=Z0I hW1.symm; rwa [hs2] at h);clear hx1 hx2 hx3 hy1 hy2 hb23 hb13 ha hb h2 hn hk ho hnm h5 hx hy hbo hg hg' hc hc' hra hra' hXA hYA hI hqP hqP' hla hlb hkb n1 e1 hX5 hY5 hz;go_enter Tryz.func25,Tryz.ntmps25
 go_wp2_with fail
 clear a0 a1 a2 a3 a4 b0 b1 b2 b3 b4 r0 r1 r2 r3 r4 y0 y1 y2 y3 y4 hu1 hu2 hs1 hs2 hW1;refine Z1u (rs:= [0,1,2,3,4,5,6,7,8,9,10,11,12,13,14])
  (fun u=> { tmps:=#[.agg (Y8 a pa),.agg (Y8 b pb),.pointer (some { block:=w.heap.size,off:=0 }),.pointer (some { block:=w.heap.size+1,off:=0 }),.pointer (some { block:=w.heap.size+1+1,off:=0 }),.bool false,u 12,u 14,undef,undef,undef,undef,undef,undef,undef,undef,undef,undef,undef,undef,undef,.pointer (some { block:=w.heap.size,off:=0 }),.int .i64 5,.pointer (some { block:=w.heap.size+1,off:=0 }),.int .i64 5,.bool false,.bool false,.pointer (some { block:=w.heap.size,off:=1 }),.string { data:=a.of_.toArray },.pointer (some { block:=w.heap.size+1,off:=1 }),.string { data:=b.of_.toArray },.bool false,.bool false,.bool false,.pointer (some { block:=w.heap.size,off:=2 }),.string { data:=a.name.toArray },.pointer (some { block:=w.heap.size+1,off:=2 }),.string { data:=b.name.toArray },.bool false,.bool false,undef,.pointer (some { block:=w.heap.size,off:=0 }),.int .i64 5,.bool true,.bool true,u 9,u 0,u 1,u 2,u 3,u 4,u 5,u 6,u 7,u 8,u 10,u 11,undef,undef,undef,undef,undef,undef,undef,undef,undef,undef,undef,undef,undef,undef,undef,undef,undef,undef,undef,undef,undef,undef,undef,undef,undef,undef,undef,undef,undef,undef,undef,undef,undef,undef,undef,undef,undef,undef,undef,undef,undef,undef,undef,undef,undef,undef,undef,undef,undef,undef,undef,undef,undef,undef,undef,undef,undef,undef,undef,undef,undef,undef,undef,undef,undef,undef,undef,undef,undef,undef,undef,undef,undef,undef,undef,undef,undef,undef,undef,undef,undef,undef,undef,undef,undef,undef,undef,undef,undef,undef,undef,undef,undef,undef,undef,undef,undef,undef,undef,undef,undef,undef,undef,undef,undef,undef,undef,undef,undef,undef,undef,undef,undef,undef,undef,undef,undef,undef,undef,undef,undef,undef,undef,undef],defers:= [] })
  (fun j=>([undef,undef,undef,undef,undef,undef,undef,undef,undef,undef,undef,undef,undef,undef,undef]:List Value).getD j undef) (GetI W1 n0 (getT (.pointer (some ⟨w.heap.size,4,none⟩)) (.slice (some ⟨g,off,none⟩) 1 pa.d) (.pointer (some ⟨g,off,none⟩)) (.agg (Y8 x ((qs 0)))) (.pointer (some ⟨w.heap.size+1,4,none⟩)) (.slice (some ⟨g',off',none⟩) 1 pb.d) (.pointer (some ⟨g',off',none⟩)) (.agg (Y8 y ((qs' 0))))) 8 (bound f false x y)) (by kernel_rfl) (by kernel_rfl) (by kernel_rfl) GetI.start ?_ ?_
 refine StepsInv.cons2 _ rfl (fun d u W K' hs hI hd hw hK=> ?_) ?_
 {refine Z02 (v:= .pointer (some ⟨w.heap.size,4,none⟩)) (W':=W) rfl ?_ (hK.out _ _ (hI.pure (by decide) rfl))
  try dsimp only
  go_simp}
 refine StepsInv.cons2 _ rfl (fun d u W K' hs hI hd hw hK=> ?_) ?_
 {have d0:u 0= .pointer (some ⟨w.heap.size,4,none⟩):=hI.vals 0 (by decide) (hw 0 (by kernel_rfl));have y4:=(hI.up.cell (p:=⟨w.heap.size,4,none⟩) (by have:=HSZ.out; omega)).trans HA4.out;refine Z02 (v:= .slice (some ⟨g,off,none⟩) 1 pa.d) (W':=W) rfl ?_ (hK.out _ _ (hI.pure (by decide) rfl))
  try dsimp only
  go_simp}
 refine StepsInv.cons2 _ rfl (fun d u W K' hs hI hd hw hK=> ?_) ?_
 {have d1:u 1= .slice (some ⟨g,off,none⟩) 1 pa.d:=hI.vals 1 (by decide) (hw 1 (by kernel_rfl));refine Z02 (v:= .pointer (some ⟨g,off,none⟩)) (W':=W) rfl ?_ (hK.out _ _ (hI.pure (by decide) rfl))
  try dsimp only
  go_simp}
 refine StepsInv.cons2 _ rfl (fun d u W K' hs hI hd hw hK=> ?_) ?_
 {have d2:u 2= .pointer (some ⟨g,off,none⟩):=hI.vals 2 (by decide) (hw 2 (by kernel_rfl));obtain ⟨y0,y1,y2,y3,y4⟩:=HX5.out.keep (by have:=HSZ.out; have:=HN0.out; have:=HG.out.1; omega) hI.up;refine Z02 (v:= .agg (Y8 x ((qs 0)))) (W':=W) rfl ?_ (hK.out _ _ (hI.pure (by decide) rfl))
  try dsimp only
  go_simp}
 refine StepsInv.cons2 _ rfl (fun d u W K' hs hI hd hw hK=> ?_) ?_
 {refine Z02 (v:= .pointer (some ⟨w.heap.size+1,4,none⟩)) (W':=W) rfl ?_ (hK.out _ _ (hI.pure (by decide) rfl))
  try dsimp only
  go_simp}
 refine StepsInv.cons2 _ rfl (fun d u W K' hs hI hd hw hK=> ?_) ?_
 {have d4:u 4= .pointer (some ⟨w.heap.size+1,4,none⟩):=hI.vals 4 (by decide) (hw 4 (by kernel_rfl));have y4:=(hI.up.cell (p:=⟨w.heap.size+1,4,none⟩) (by have:=HSZ.out; omega)).trans HB4.out;refine Z02 (v:= .slice (some ⟨g',off',none⟩) 1 pb.d) (W':=W) rfl ?_ (hK.out _ _ (hI.pure (by decide) rfl))
  try dsimp only
  go_simp}
 refine StepsInv.cons2 _ rfl (fun d u W K' hs hI hd hw hK=> ?_) ?_
 {have d5:u 5= .slice (some ⟨g',off',none⟩) 1 pb.d:=hI.vals 5 (by decide) (hw 5 (by kernel_rfl));refine Z02 (v:= .pointer (some ⟨g',off',none⟩)) (W':=W) rfl ?_ (hK.out _ _ (hI.pure (by decide) rfl))
  try dsimp only
  go_simp}
 refine StepsInv.cons2 _ rfl (fun d u W K' hs hI hd hw hK=> ?_) ?_
 {have d6:u 6= .pointer (some ⟨g',off',none⟩):=hI.vals 6 (by decide) (hw 6 (by kernel_rfl));obtain ⟨y0,y1,y2,y3,y4⟩:=HY5.out.keep (by have:=HSZ.out; have:=HN0.out; have:=HG.out.2; omega) hI.up;refine Z02 (v:= .agg (Y8 y ((qs' 0)))) (W':=W) rfl ?_ (hK.out _ _ (hI.pure (by decide) rfl))
  try dsimp only
  go_simp}
 refine StepsInv.cons2 _ rfl (fun d u W K' hs hI hd hw hK=> ?_) ?_
 {have d3:u 3= .agg (Y8 x ((qs 0))):=hI.vals 3 (by decide) (hw 3 (by kernel_rfl));have d7:u 7= .agg (Y8 y ((qs' 0))):=hI.vals 7 (by decide) (hw 7 (by kernel_rfl));have h1:d 9=false:=Z0i hs rfl (by kernel_rfl) hd;have h2:d 10=false:=Z0i hs rfl (by kernel_rfl) h1;have h3:d 11=false:=Z0i hs rfl (by kernel_rfl) h1;have h5:d 13=false:=Z0i hs rfl (by kernel_rfl) h2;have h6:d 14=false:=Z0i hs rfl (by kernel_rfl) h3;refine Z0F (f:=25) (args:=#[.agg (Y8 x ((qs 0))),.agg (Y8 y ((qs' 0)))]) (W':=W) rfl ?_ ((show Calls Tryz.prog 25 #[.agg (Y8 x ((qs 0))),.agg (Y8 y ((qs' 0)))] W (GetIs n0 (bound f false x y) W) from HI.out false x y (qs 0) (qs' 0) n0 W HT.out (HXA.out.keep hI.up (by have:=HSZ.out; have:=HN0.out; omega)) (HYA.out.keep hI.up (by have:=HSZ.out; have:=HN0.out; omega)) (by have:=HSZ.out; have:=HN0.out; have:=hI.up.size; omega)).mono fun e w' hb=> ?_)
  {try dsimp only
   go_simp}
  {obtain ⟨v,he,hr⟩:=hI.call hd (fun j hj=>by rcases hj with rfl | rfl | rfl | rfl | rfl <;> assumption) hb;exact ⟨v,he,hK.out _ _ hr⟩}}
 refine StepsInv.cons2 _ rfl (fun d u W K' hs hI hd hw hK=> ?_) ?_
 {have w7:=hw 8 (by kernel_rfl);obtain ⟨t,qt,W2,s,e7,_⟩:=hI.ca w7
  try dsimp only at e7
  unfold sv at e7;refine Z02 (v:= .tuple #[.agg (Y8 t qt),.bool (bound f false x y).isSome]) (W':=W) rfl ?_ (hK.out _ _ (hI.read w7 (by decide) hd (fun t' q' h=>⟨fun _=>e7.symm,nofun,nofun,nofun⟩)));go_simp}
 refine StepsInv.cons2 _ rfl (fun d u W K' hs hI hd hw hK=> ?_) ?_
 {have w8:=hw 9 (by kernel_rfl);have w7:d 8=true:=hs 9 _ rfl w8 8 (by kernel_rfl);obtain ⟨t,qt,W2,s,e7,_,_,_,e8,_⟩:=hI.ca w7
  try dsimp only at e7 e8
  have d8:=(e8 w8).trans e7;have e7s:=e7;unfold sv at d8;refine Z02 (v:= .agg (Y8 t qt)) (W':=W) rfl ?_ (hK.out _ _ (hI.read w7 (by decide) hd (fun t' q' h=>⟨nofun,fun _=>by rw[e7s] at h; simp only[Value.tuple.injEq] at h; have:=congrArg (fun a:Array Value=>a[0]?) h; unfold sv at this ⊢; simpa using this,nofun,nofun⟩)));go_simp}
 refine StepsInv.cons2 _ rfl (fun d u W K' hs hI hd hw hK=> ?_) ?_
 {have w8:=hw 9 (by kernel_rfl);have w7:d 8=true:=hs 9 _ rfl w8 8 (by kernel_rfl);obtain ⟨t,qt,W2,s,e7,_,_,_,e8,_⟩:=hI.ca w7
  try dsimp only at e7 e8
  have d8:=(e8 w8).trans e7;unfold sv at d8;refine Z02 (v:= .bool (bound f false x y).isSome) (W':=W) rfl ?_ (hK.out _ _ (hI.read w7 (by decide) hd (fun t' q' h=>⟨nofun,nofun,fun _=>rfl,nofun⟩)));go_simp}
 refine StepsInv.cons2 _ rfl (fun d u W K' hs hI hd hw hK=> ?_) ?_
 {have h12:d 13=false:=Z0i hs rfl (by kernel_rfl) hd;refine Z02 (v:= .pointer (some ⟨W.heap.size,0,none⟩)) (W':=W.alloc (.cells Yb 25)) rfl ?_ (hK.out _ _ (hI.alloc hd h12));go_simp}
 refine StepsInv.cons2 _ rfl (fun d u W K' hs hI hd hw hK=> ?_) ?_
 {have w11:=hw 12 (by kernel_rfl);have w9:=hw 10 (by kernel_rfl);have w7:=hw 8 (by kernel_rfl);obtain ⟨t,qt,W2,s,e7,_,_,_,_,e9,_⟩:=hI.ca w7
  try dsimp only at e7 e9
  have d9:=e9 w9;obtain ⟨g1,e11,g2,g3,g4,g5⟩:=hI.al w11
  try dsimp only at e11
  have hst:=hI.store w7 w11 e11 e7 (fun t' q' h=>ZbN h);refine Z0q (W':=RX.lay W g1 t qt) rfl ?_ (hK.out undef _ hst);obtain ⟨v0,x0⟩:=g5 0 (by omega);obtain ⟨v1,x1⟩:=g5 1 (by omega);obtain ⟨v2,x2⟩:=g5 2 (by omega);obtain ⟨v3,x3⟩:=g5 3 (by omega);obtain ⟨v4,x4⟩:=g5 4 (by omega);have y0:=g4 0;have y1:=g4 1;have y2:=g4 2;have y3:=g4 3;have y4:=g4 4;unfold sv at d9;go_simp;rfl}
 refine StepsInv.cons2 _ rfl (fun d u W K' hs hI hd hw hK=> ?_) StepsInv.nil
 {have w10:=hw 11 (by kernel_rfl);have w8:d 9=true:=hs 11 _ rfl w10 9 (by kernel_rfl);have w7:d 8=true:=hs 9 _ rfl w8 8 (by kernel_rfl);obtain ⟨t,qt,W2,s,e7,_,_,_,_,_,e10,_⟩:=hI.ca w7
  try dsimp only at e7 e10
  have d10:=e10 w10;refine Z02 (v:= .bool (bound f false x y).isSome) (W':=W) rfl ?_ (hK.out _ _ (hI.read w7 (by decide) hd (fun t' q' h=>⟨nofun,nofun,nofun,fun _=>rfl⟩)));go_simp}
 intro d z' W4 hI hd
 try dsimp only
 have w7:=hd 8 (by decide);have w11:=hd 12 (by decide);obtain ⟨g1,e11,g2,g3,g4,_⟩:=hI.al w11;obtain ⟨t,qt,W2,s,e7,s1,s2,hj,_,_,_,hu,hgs,h12,h13⟩:=hI.ca w7;have d13:=h13 (hd 14 (by decide));have hl5:=h12 (hd 13 (by decide)) g1 e11;have hsep:=hgs g1 w11 e11
 try dsimp only at d13 e11
 have hup:=hI.up;rw[e11,d13];have a0:=(hup.cell (p:=⟨w.heap.size,0,none⟩) (by have:=HSZ.out; omega)).trans HA0.out;obtain ⟨x0,x1,x2,x3,x4⟩:=hl5;have hR:=HRC.out.upd (T:=fun _=>False) (Upd.new hup) (fun h=>h);have HUP:=Y1 hup;have HKP:Hid (∀j,bound f false x y=some j->t=j/\Kept (fun b=>b < n0\/W1.heap.size<=b/\b≠g1) W4 (j,qt)):=Y1 (fun j hb=>by
  obtain ⟨e1,e2⟩:=hj j hb;refine ⟨e1,e2.move hu (fun b hb hf=>⟨fun ht=> ?_, ?_⟩)⟩
  {obtain ⟨_,ht2⟩:=ht;rw[e11] at ht2;have e3:g1=b:=by simp at ht2 <;> exact ht2
   have:=HN0.out;have:=HSZ.out;rcases hsep with h | h
   {rcases hf with hf | hf <;> omega}
   {omega}}
  · rcases hf with hf | hf
    {exact Or.inl hf}
    · have hne:b≠g1:=fun e=>by
       rcases hsep with h | h <;> omega
      exact Or.inr ⟨by omega,hne⟩)
 have HG1:Hid (W1.heap.size<=g1/\g1 < W4.heap.size):=Y1 ⟨g2,g3⟩;have hb9:=Z01 W4 (.cells (Y8 t qt) 25);obtain ⟨W5,hW5⟩: ∃W5,W4.alloc (.cells (Y8 t qt) 25)=W5:=⟨_,rfl⟩;rw[hW5] at hb9;have hR5:=hR.upd (T:=fun _=>False) (Upd.new hb9) (fun h=>h);have HB9:=Y1 hb9;have HW5:=Y1 hW5;obtain ⟨v0,r0⟩:=hR5.ex 0 (by omega);have z0:=hR5.fz 0;obtain ⟨v1,r1⟩:=hR5.ex 1 (by omega);have z1:=hR5.fz 1;obtain ⟨v2,r2⟩:=hR5.ex 2 (by omega);have z2:=hR5.fz 2;obtain ⟨v3,r3⟩:=hR5.ex 3 (by omega);have z3:=hR5.fz 3;obtain ⟨v4,r4⟩:=hR5.ex 4 (by omega);have z4:=hR5.fz 4;obtain ⟨is,his⟩: ∃is,(bound f false x y).isSome=is:=⟨_,rfl⟩;rw[his];have HIS:=Y1 his;simp only[Nat.zero_add] at x0 x1 x2 x3 x4;clear hup hj hu hgs hsep g2 g3 g4 e7 e11 d13 h12 h13 hI hd w7 w11 s1 s2 hR hb9 hR5 his;go_wp2;refine bodyPost_ret (v:= .tuple #[.agg #[.int .i64 5,.string ⟨#[]⟩,.string ⟨#[]⟩,.slice none 0 0,.slice (some ⟨W4.heap.size,0,none⟩) 1 1],.bool is]) (by simp[results,Tryz.results25,go_sem,r0,r1,r2,r3,r4]) rfl ?_;have hbw:Below w.heap.size w W5:=Z00 (Z00 HB1.out HUP.out) HB9.out;refine ⟨⟨5,[],[],[],[t]⟩,⟨none,0,some ⟨W4.heap.size,0,none⟩,1⟩,by rw[HBO.out, <-HIS.out]; cases bound f false x y <;> rfl,Z1n hbw (by omega) _ _ _ _ _,fun j hj=> ?_⟩;rw[HBO.out] at hj;cases hb:bound f false x y with
 | none=>rw[hb] at hj; cases hj
 | some z=>
  rw[hb] at hj;cases hj;obtain ⟨rfl,hk⟩:=HKP.out z hb;have h1:=HSZ.out;have h2:=HN0.out;have h3:=HUP.out.size;have hk2:=ZcG (S:=fun b=>b < n0\/W1.heap.size<=b) (hk.more (fun b _ hb=>hb.elim Or.inl (fun h=>Or.inr h.1))) (Or.inr h3);rw[HW5.out] at hk2;refine ⟨rfl,(hk2.upd (RX.lay_upd _ (w.heap.size+1+1) ⟨5,[],[],[],[t]⟩ ⟨none,0,some ⟨W4.heap.size,0,none⟩,1⟩) (fun b _ hb e=> ?_)).more (fun b _ hb=> ?_)⟩
  {have e:b=w.heap.size+1+1:=e;rcases hb with hb | hb <;> omega}
  {rcases hb with hb | hb
   {exact Or.inl hb}
   {exact Or.inr (by omega)}}
end
end SubM
end Go.Proofs.YtlomianlcnmfgaaGreatDoor
namespace Sub
open Shp Go.Proofs.YtlomianlcnmfgaaGreatDoor
section
variable {f i : Nat} {up : Bool} {a b : Sh}
def plc (f:Nat) (up:Bool) (n i:Nat) (p q:Sh):Option Sh:=if i+1=n then bound f up p q else bound f (!up) p q
theorem Zcw (h:a.parts.length≠b.parts.length):placesOf (bound f (!up)) (bound f up) a.parts b.parts=none:=by
 cases e:placesOf (bound f (!up)) (bound f up) a.parts b.parts with
 | none=>rfl
 | some xs=>exact absurd (Z40 e).2 h
theorem Zc0 (h1:i < a.parts.length) (h2:i < b.parts.length) (h:plc f up a.parts.length i (a.parts[i]'h1) (b.parts[i]'h2)=none):placesOf (bound f (!up)) (bound f up) a.parts b.parts=none:=by
 cases e:placesOf (bound f (!up)) (bound f up) a.parts b.parts with
 | none=>rfl
 | some xs=>
  obtain ⟨x,_,hx⟩:=Z4i e i _ _ (List.getElem?_eq_getElem h1) (List.getElem?_eq_getElem h2);unfold plc at h;rw[h] at hx;cases hx
theorem Zcx {ps:List Sh} (hl:a.parts.length=b.parts.length) (hn:ps.length=a.parts.length)
 (h: ∀j (h1:j < a.parts.length) (h2:j < b.parts.length),j < ps.length->plc f up a.parts.length j (a.parts[j]'h1) (b.parts[j]'h2)=ps[j]?):placesOf (bound f (!up)) (bound f up) a.parts b.parts=some ps:=by
 obtain ⟨xs,hxs⟩:=Z5G (ga:=bound f (!up)) (gr:=bound f up) hl (fun i p q hp hq=>by
  obtain ⟨h1,e1⟩:=List.getElem?_eq_some_iff.1 hp;obtain ⟨h2,e2⟩:=List.getElem?_eq_some_iff.1 hq;have:=h i h1 h2 (by omega);unfold plc at this;rw[e1,e2] at this;exact ⟨ps[i]'(by omega),by rw[this,List.getElem?_eq_getElem]⟩)
 rw[hxs];have hlen:=(Z40 hxs).1;congr 1;refine List.ext_getElem? (fun j=> ?_);by_cases hj:j < a.parts.length
 {obtain ⟨x,e,hx⟩:=Z4i hxs j _ _ (List.getElem?_eq_getElem hj) (List.getElem?_eq_getElem (show j < b.parts.length by omega));have:=h j hj (by omega) (by omega);unfold plc at this;rw[e, <-this,hx]}
 {rw[List.getElem?_eq_none (by omega),List.getElem?_eq_none (by omega)]}
end
end Sub
namespace Go.Proofs.YtlomianlcnmfgaaGreatDoor
open Go.RowKit Shp Sub
namespace SubM
structure GetS (W0:World) (n0 bp:Nat) (tk:Nat->Value->Prop) (c:Nat) (o:Option Sh) (d:Nat->Bool) (u:Nat->Value) (W:World):Prop where
 vals: ∀j,j < c->d j=true->tk j (u j)
 up:Upd (fun b=>b=bp) W0 W
 bx:Rc bp W
 ca:d c=true-> ∃(t:Sh) (q:Ptr) (W2:World) (s:Nat),u c= .tuple #[sv t q,.bool o.isSome]/\W0.heap.size<=s/\s<=W2.heap.size/\
  (∀j,o=some j->t=j/\Kept (fun b=>b < n0\/s<=b) W2 (j,q))/\
  (d (c+1)=true->u (c+1)=u c)/\(d (c+2)=true->u (c+2)=sv t q)/\(d (c+3)=true->u (c+3)= .bool o.isSome)/\
  Upd (fun b=>b=bp) W2 W/\(d (c+4)=true->Sh5 W bp 0 t q)/\(d (c+5)=true->u (c+5)= .bool o.isSome)
section
variable {W0 : World} {n0 bp : Nat} {tk : Nat -> Value -> Prop} {c : Nat} {o : Option Sh} {d : Nat -> Bool} {u : Nat -> Value} {W W' : World}
section
variable (h : GetS W0 n0 bp tk c o d u W) {i : Nat}
include h i
theorem GetS.putv {v:Value} (hv:tk i v): ∀j,j < c->also d i j=true->tk j (upd u i v j):=fun j hc hj=>by
 by_cases hij:j=i
 {subst hij; rw[Z0h]; exact hv}
 {rw[Z0k d hij] at hj; rw[Z04 u v hij]; exact h.vals j hc hj}
theorem GetS.keepv (hi:c<=i) {v:Value}: ∀j,j < c->also d i j=true->tk j (upd u i v j):=fun j hc hj=>by
 have hij:j≠i:=by omega
 rw[Z0k d hij] at hj; rw[Z04 u v hij]; exact h.vals j hc hj
end
theorem GetS.start (hr:Rc bp W0):GetS W0 n0 bp tk c o (fun _=>false) u W0.drew:=⟨nofun,(Upd.refl _ _).drew,hr.upd (T:=fun _=>False) (Upd.refl _ W0).drew (fun h=>h),nofun⟩
section
variable (h : GetS W0 n0 bp tk c o d u W)
include h
theorem GetS.pure {i:Nat} (hi:i < c) {v:Value} (hv:tk i v):GetS W0 n0 bp tk c o (also d i) (upd u i v) W:=by
 have k: ∀j,c<=j->also d i j=d j/\upd u i v j=u j:=fun j hj=>⟨Z0k d (by omega),Z04 u v (by omega)⟩;refine ⟨h.putv hv,h.up,h.bx, ?_⟩;rw[(k c (by omega)).1,(k c (by omega)).2,(k (c+1) (by omega)).1,(k (c+1) (by omega)).2,(k (c+2) (by omega)).1,(k (c+2) (by omega)).2,(k (c+3) (by omega)).1,(k (c+3) (by omega)).2,(k (c+4) (by omega)).1,(k (c+5) (by omega)).1,(k (c+5) (by omega)).2];exact h.ca
theorem GetS.call (hd: ∀j,j=(c+1)\/j=(c+2)\/j=(c+3)\/j=(c+4)\/j=(c+5)->d j=false) {e:Ending} (hb:GetIs n0 o W e W'): ∃v,e= .returned v/\GetS W0 n0 bp tk c o (also d c) (upd u c v) W':=by
 obtain ⟨t,q,rfl,hbl,hj⟩:=hb;have k: ∀j,j≠c->also d c j=d j/\ ∀v,upd u c v j=u j:=fun j hj=>⟨Z0k d hj,fun v=>Z04 u v hj⟩;have hu:Upd (fun _=>False) W W':=Upd.new hbl;refine ⟨_,rfl,h.keepv (by omega),h.up.trans (Upd.new hbl),h.bx.upd hu (fun h=>h),fun _=>⟨t,q,W',W.heap.size,Z0h _ _ _,h.up.size,hbl.size,hj, ?_, ?_, ?_,Upd.refl _ _, ?_, ?_⟩⟩
 {rw[(k (c+1) (by omega)).1,hd (c+1) (by omega)]; nofun}
 {rw[(k (c+2) (by omega)).1,hd (c+2) (by omega)]; nofun}
 {rw[(k (c+3) (by omega)).1,hd (c+3) (by omega)]; nofun}
 {rw[(k (c+4) (by omega)).1,hd (c+4) (by omega)]; nofun}
 {rw[(k (c+5) (by omega)).1,hd (c+5) (by omega)]; nofun}
theorem GetS.read (h7:d c=true) {i:Nat} (hi:i=(c+1)\/i=(c+2)\/i=(c+3)\/i=(c+5)) {v:Value} (hv: ∀t q,u c= .tuple #[sv t q,.bool o.isSome]->
 (i=(c+1)->v=u c)/\(i=(c+2)->v=sv t q)/\(i=(c+3)->v= .bool o.isSome)/\(i=(c+5)->v= .bool o.isSome)):GetS W0 n0 bp tk c o (also d i) (upd u i v) W:=by
 have k: ∀j,j≠i->also d i j=d j/\upd u i v j=u j:=fun j hj=>⟨Z0k d hj,Z04 u v hj⟩;refine ⟨h.keepv (by omega),h.up,h.bx, ?_⟩;rw[(k c (by omega)).1,(k c (by omega)).2,(k (c+4) (by omega)).1];intro _;obtain ⟨t,q,W2,s,e7,s1,s2,hj,e8,e9,e10,hu,h12,h13⟩:=h.ca h7;obtain ⟨v8,v9,v10,v13⟩:=hv t q e7;refine ⟨t,q,W2,s,e7,s1,s2,hj,fun hd=> ?_,fun hd=> ?_,fun hd=> ?_,hu,h12,fun hd=> ?_⟩
 {by_cases e:i=(c+1)
  {rw[<-e,Z0h]; exact v8 e}
  {rw[(k (c+1) (Ne.symm e)).1] at hd; rw[(k (c+1) (Ne.symm e)).2]; exact e8 hd}}
 {by_cases e:i=(c+2)
  {rw[<-e,Z0h]; exact v9 e}
  {rw[(k (c+2) (Ne.symm e)).1] at hd; rw[(k (c+2) (Ne.symm e)).2]; exact e9 hd}}
 {by_cases e:i=(c+3)
  {rw[<-e,Z0h]; exact v10 e}
  {rw[(k (c+3) (Ne.symm e)).1] at hd; rw[(k (c+3) (Ne.symm e)).2]; exact e10 hd}}
 {by_cases e:i=(c+5)
  {rw[<-e,Z0h]; exact v13 e}
  {rw[(k (c+5) (Ne.symm e)).1] at hd; rw[(k (c+5) (Ne.symm e)).2]; exact h13 hd}}
theorem GetS.store (h7:d c=true) {t:Sh} {q:Ptr} (ht:u c= .tuple #[sv t q,.bool o.isSome]):GetS W0 n0 bp tk c o (also d (c+4)) (upd u (c+4) undef) (RX.lay W bp t q):=by
 have k: ∀j,j≠(c+4)->also d (c+4) j=d j/\ ∀v,upd u (c+4) v j=u j:=fun j hj=>⟨Z0k d hj,fun v=>Z04 u v hj⟩;have hu:=RX.lay_upd W bp t q;refine ⟨h.keepv (by omega),h.up.trans hu,Zdy h.bx t q, ?_⟩;rw[(k c (by omega)).1,(k c (by omega)).2,(k (c+1) (by omega)).1,(k (c+1) (by omega)).2,(k (c+2) (by omega)).1,(k (c+2) (by omega)).2,(k (c+3) (by omega)).1,(k (c+3) (by omega)).2,(k (c+5) (by omega)).1,(k (c+5) (by omega)).2];intro _;obtain ⟨t',q',W2,s,e7,s1,s2,hj,e8,e9,e10,hu2,_,h13⟩:=h.ca h7;refine ⟨t',q',W2,s,e7,s1,s2,hj,e8,e9,e10,hu2.trans hu,fun _=> ?_,h13⟩;have e72:sv t' q'=sv t q:=by
  rw[ht] at e7;simp only[Value.tuple.injEq] at e7;have:=congrArg (fun a:Array Value=>a[0]?) e7;simp at this;simp[sv];exact ⟨this.1.symm,this.2.1.symm,this.2.2.1.symm,⟨this.2.2.2.1.1.symm,this.2.2.2.1.2.1.symm,this.2.2.2.1.2.2.symm⟩,this.2.2.2.2.1.symm,this.2.2.2.2.2.1.symm,this.2.2.2.2.2.2.symm⟩
 obtain ⟨c1,c2,c3,c4,c5,c6,c7,c8,c9⟩:=ZbN e72;obtain ⟨l0,l1,l2,l3,l4⟩:=RX.lay_at t q h.bx.ex;exact ⟨by rw[c1]; exact l0,by rw[c2]; exact l1,by rw[c3]; exact l2,by rw[c4,c5,c6]; exact l3,by rw[c7,c8,c9]; exact l4⟩
end
end
def Zcy (v0 v1 v2 v3 v4 v5 v6 v7 v8 v9:Value):Nat->Value->Prop
 | 0,v=>v=v0
 | 1,v=>v=v1
 | 2,v=>v=v2
 | 3,v=>v=v3
 | 4,v=>v=v4
 | 5,v=>v=v5
 | 6,v=>v=v6
 | 7,v=>v=v7
 | 8,v=>v=v8
 | 9,v=>v=v9
 | _,_=>True
section
variable {w0 w4 W W' : World} {n0 gm hi rc : Nat} {k : Int} {o nm : List UInt8} {nl : List (List UInt8)} {ps : List Sh} {l : List El} {AN AP : Option Addr} {cN cP : Nat}
theorem KBs.putQ {Wb W1:World} {pb e:Nat} {x:El} (hK:KBs w0 w4 n0 gm hi rc k o nm nl ps l AN cN AP cP W) (hng:n0<=gm) (hrc:rc < gm) (hx:Kept (fun b=>b < n0\/(pb<=b/\b < e)) W x) (he:e<=W.heap.size) (hpb:hi<=pb)
 (rn: ∀b,rowB AN=some b->b < pb\/e<=b) (rp: ∀b,rowB AP=some b->b < pb\/e<=b) (hb:Below W.heap.size W Wb) {g c:Nat} (hg:Wb.grownBy W1 (rowB AP)) (hrow:W1.ownsRow hi 25 5 (.slice (some ⟨g,0,none⟩) (l.length+1) c) (l.length+1) (cellsE l++cells5 x))
 (hat:rowB AP=some g\/g=Wb.heap.size):KBs w0 w4 n0 gm hi rc k o nm nl (ps++ [x.1]) (l++ [x]) AN cN (some ⟨g,0,none⟩) c (W1.setCell ⟨gm,4,none⟩ (.slice (some ⟨g,0,none⟩) (l.length+1) c)):=by
 have hm:=(hK.mm.new hb).putP hg hrow hat;have hmm:=hK.mm;have hgh:=hmm.gh;have hu1:Upd (fun b=>rowB AP=some b) W W1:=(Upd.new (S:=fun b=>rowB AP=some b) hb).grown hg (fun k h _=>h);have hu2:Upd (fun b=>b=gm) W1 (W1.setCell ⟨gm,4,none⟩ (.slice (some ⟨g,0,none⟩) (l.length+1) c)):=Upd.set (Upd.refl (fun b=>b=gm) W1) ⟨gm,4,none⟩ (fun _=>rfl) _;have hu:Upd (fun b=>b=gm\/rowB AP=some b) W (W1.setCell ⟨gm,4,none⟩ (.slice (some ⟨g,0,none⟩) (l.length+1) c)):=(hu1.mono (fun _ _ h=>Or.inr h)).trans (hu2.mono (fun _ _ h=>Or.inl h));have hgw:rowB AP=some g\/W.heap.size<=g:=hat.imp id (fun h=>by have:=hb.size; omega);have hrp:=fun b h=>Z08 hmm.rP b h;refine ⟨hm,by rw[List.map_append,hK.eq]; rfl,fun y hy=> ?_,hK.rr.upd hu (fun ht=> ?_),hK.up.trans (hu.mono (fun b _ hb=> ?_))⟩
 {rcases List.mem_append.1 hy with hy | hy
  {refine (hK.kp y hy).move hu (fun b hb hf=>⟨fun ht=> ?_, ?_⟩)
   {rcases hf with hf | ⟨hf,f1,f2⟩
    {rcases ht with ht | ht
     {omega}
     {have:=(hrp b ht).1; omega}}
    {rcases ht with ht | ht
     {omega}
     {exact f2 ht}}}
   {rcases hf with hf | ⟨hf,f1,f2⟩
    {exact Or.inl hf}
    {refine Or.inr ⟨hf,f1,fun e=> ?_⟩;have e:g=b:=by simpa[rowB] using e
     subst e;exact hgw.elim f2 (fun h=>by omega)}}}
  {rw[List.mem_singleton.1 hy];refine hx.move hu (fun b hb hf=>⟨fun ht=> ?_, ?_⟩)
   {rcases hf with hf | hf
    {rcases ht with ht | ht
     {omega}
     {have:=(hrp b ht).1; omega}}
    {rcases ht with ht | ht
     {omega}
     {have:=rp b ht; omega}}}
   {rcases hf with hf | hf
    {exact Or.inl hf}
    {refine Or.inr ⟨by omega,fun e=> ?_,fun e=> ?_⟩
     {have:=rn b e; omega}
     {have e:g=b:=by simpa[rowB] using e
      rcases hgw with h | h
      {have:=rp g h; omega}
      {omega}}}}}}
 {rcases ht with ht | ht
  {omega}
  {have:=(hrp rc ht).1; omega}}
 {rcases hb with hb | hb
  {exact Or.inl hb}
  {exact Or.inr (hrp b hb).1}}
end
end SubM
end Go.Proofs.YtlomianlcnmfgaaGreatDoor
