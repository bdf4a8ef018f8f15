/- What the proofs of ExpandDeclares want, part 10. -/
import Derived.Test.YtmeiijjpomcgcaaDoorK0n9
set_option linter.unusedVariables false
set_option linter.unusedSimpArgs false
set_option linter.unusedSectionVars false
set_option maxRecDepth 100000
set_option maxHeartbeats 16000000
namespace Go.Proofs.YtmeiijjpomcgcaaDoor
section
open Go.RowKit Shp
theorem Z9o (b c:Addr) (x y:Int) (u:TypeId) (pv:Value) (older:List PanicEntry) (w:World) (hb:w.cell? b=some (.int .i64 x)) (hc:w.cell? c=some (.int .i64 y)) (fb:w.frozen? b=false) (fc:w.frozen? c=false)
 (hbc:b≠c):
 CallsD Tryd.prog 46 #[.pointer (some b),.pointer (some c)] (.panicking ({ v:= .iface u pv,recovered:=false }::older)) w fun e u' w'=>
  e= .returned (.tuple #[])/\u'= .panicking ({ v:= .iface u pv,recovered:=true }::older)/\w'=(w.setCell b (.int .i64 401)).setCell c (.int .i64 0):=by
 have hc2: (w.setCell b (.int .i64 401)).cell? c=some (.int .i64 y):=(World.cell?_setCell_other _ _ _ _ hbc).trans hc;refine callsD_of_wpS Tryd.func46 rfl fun c₀ cs hu=> ?_;apply wpS_seq;apply wpS_region;simp[wpOpsS,go_sem,recoverD,hu,Tryd.ntmps46,Exit.thenS];refine wpS_cond (t:=true) (by simp[Act.eval,Array.replicate]) ?_;simp only[if_true];apply wpS_region;simp[wpOpsS,go_sem,hb,hc2,fb,fc,bodyPostS,results,Tryd.results46]
theorem Z9p (b c:Addr) (w:World):
 CallsD Tryd.prog 46 #[.pointer (some b),.pointer (some c)] .returning w fun e u' w'=>e= .returned (.tuple #[])/\u'= .returning/\w'=w:=by
 refine callsD_of_wpS Tryd.func46 rfl fun c₀ cs hu=> ?_;apply wpS_seq;apply wpS_region;simp[wpOpsS,go_sem,recoverD,hu,Tryd.ntmps46,Exit.thenS];refine wpS_cond (t:=false) (by simp[Act.eval,Array.replicate]) ?_;simp only[Bool.false_eq_true,if_false];refine wpS_of_wp (wp_skip ?_);cases c₀;simp_all [bodyPostS,results,Tryd.results46]
def mW (w:World) (t:Sh) (q:Ptr):World:=
 (((w.alloc (.cells (Y8 t q) 25)).alloc (.cells #[.int .i64 0] 3)).alloc (.cells #[.int .i64 0] 3)).alloc (.cells #[.int .i64 0] 86)
structure MW (w W:World) (x y:Int):Prop where
 bel:Below w.heap.size w W
 size:w.heap.size+4<=W.heap.size
 b:W.cell? ⟨w.heap.size+1,0,none⟩=some (.int .i64 x)
 c:W.cell? ⟨w.heap.size+1+1,0,none⟩=some (.int .i64 y)
 fb:W.frozen? ⟨w.heap.size+1,0,none⟩=false
 fc:W.frozen? ⟨w.heap.size+1+1,0,none⟩=false
theorem ZaL (w:World) (t:Sh) (q:Ptr):Cnt (mW w t q) (w.heap.size+1+1+1) 0 400:=by
 unfold mW;exact ⟨by simp,by simp[go_sem],rfl,by simp[go_sem]⟩
theorem Z68 (w:World) (t:Sh) (q:Ptr):MW w (mW w t q) 0 0:=by
 unfold mW;refine ⟨Z0h (Z0h (Z0h (Z01 _ _) _) _) _,by simp, ?_, ?_, ?_, ?_⟩ <;> simp[go_sem]
theorem MW.upc {w W W':World} {x y:Int} (h:MW w W x y) (hu:UpC (w.heap.size+1+1+1) W.heap.size W W'):MW w W' x y:=by
 have e: ∀g,g < w.heap.size+3->W'.heap[g]? =W.heap[g]? :=fun g hg=>hu.block g (by have:=h.size; omega) (by omega);refine ⟨h.bel.trans ⟨hu.os,hu.tape,hu.output,hu.size,fun k hk=>e k (by omega)⟩,Nat.le_trans h.size hu.size, ?_, ?_, ?_, ?_⟩
 {exact (World.cell?_of_block (w:=W) (e (w.heap.size+1) (by omega))).trans h.b}
 {exact (World.cell?_of_block (w:=W) (e (w.heap.size+1+1) (by omega))).trans h.c}
 {exact (World.frozen?_of_block (w:=W) (e (w.heap.size+1) (by omega))).trans h.fb}
 {exact (World.frozen?_of_block (w:=W) (e (w.heap.size+1+1) (by omega))).trans h.fc}
section
variable (t : Sh) (q : Ptr) (w : World) (hq : ShAt w w.heap.size q t)
include t q w hq
theorem Z6V (hov:400 < size t):
 Y9 29 #[.agg (Y8 t q)] w (.tuple #[.int .i64 401,.int .i64 0]):=by
 have hmf: ∀(fn:Fn) (first cap:Array Value) (w:World),(Instr.makeFunc fn first cap).run Tryd.prog w= .ok (.func fn first cap) w:=fun _ _ _ _=>rfl;have HL:=Y1 (Z84 t q w.heap.size _ 0 400 _ (hq.keep (Z68 w t q).bel (Nat.le_refl _)) (by omega) (ZaL w t q) (Nat.zero_le _) (by omega) (by omega));have HW:=Y1 (Z68 w t q);clear hq hov
 go_enter_defers Tryd.func29,Tryd.ntmps29
 go_wp2_with fail
 change Calls _ _ _ (mW w t q) _;generalize mW w t q=W at HL HW ⊢;refine HL.out.mono ?_;rintro e w2 ⟨rfl,hu⟩;obtain ⟨hbel,hsz,cb,cc,fb,fc⟩:=HW.out.upc hu;have HBEL:=Y1 hbel;clear hbel hu HL
 go_wp2_with fail
 refine leaves_cons (f:=46) (args:=#[.pointer (some ⟨w.heap.size+1,0,none⟩),.pointer (some ⟨w.heap.size+1+1,0,none⟩)]) (by simp) (by simp[go_sem]) ?_;refine (Z9o ⟨w.heap.size+1,0,none⟩ ⟨w.heap.size+1+1,0,none⟩ 0 0 29 _ [] _ cb cc fb fc (by simp)).mono ?_;rintro e u' w'' ⟨rfl,rfl,rfl⟩;simp[Leaves,settle,results,Tryd.results29,go_sem,cb,cc];exact (HBEL.out.setCell (p:=⟨w.heap.size+1,0,none⟩) (by simp) _).setCell (p:=⟨w.heap.size+1+1,0,none⟩) (by simp; omega) _
theorem Z9q (hov:size t<=400):
 Y9 29 #[.agg (Y8 t q)] w (.tuple #[.int .i64 (size t:Int),.int .i64 (deep t:Int)]):=by
 have hmf: ∀(fn:Fn) (first cap:Array Value) (w:World),(Instr.makeFunc fn first cap).run Tryd.prog w= .ok (.func fn first cap) w:=fun _ _ _ _=>rfl;have HL:=Y1 (Z5J t q w.heap.size _ 0 400 _ (hq.keep (Z68 w t q).bel (Nat.le_refl _)) (by omega) (ZaL w t q) (by omega) (by omega));have HW:=Y1 (Z68 w t q);clear hq hov
 go_enter_defers Tryd.func29,Tryd.ntmps29
 go_wp2_with fail
 change Calls _ _ _ (mW w t q) _;generalize mW w t q=W at HL HW ⊢;refine HL.out.mono ?_;rintro e w2 ⟨rfl,hu,hcn⟩;obtain ⟨hbel,hsz,cb,cc,fb,fc⟩:=HW.out.upc hu;have k0:=hcn.c0;have HBEL:=Y1 hbel;rw[Nat.zero_add] at k0;clear hbel hu HL hcn
 go_wp2_with fail
 have HB3:Hid (Below w.heap.size w (w2.setCell ⟨w.heap.size+1+1,0,none⟩ (.int .i64 (deep t:Int)))):=Y1 (HBEL.out.setCell (by simp; omega) _);have k3: (w2.setCell ⟨w.heap.size+1+1,0,none⟩ (.int .i64 (deep t:Int))).cell? ⟨w.heap.size+1+1+1,0,none⟩=some (.int .i64 (size t:Int)):=(World.cell?_setCell_other _ _ _ _ (fun e=>by have:=congrArg Addr.block e; simp at this)).trans k0;have b3: (w2.setCell ⟨w.heap.size+1+1,0,none⟩ (.int .i64 (deep t:Int))).cell? ⟨w.heap.size+1,0,none⟩=some (.int .i64 0):=(World.cell?_setCell_other _ _ _ _ (fun e=>by have:=congrArg Addr.block e; simp at this)).trans cb;have c3: (w2.setCell ⟨w.heap.size+1+1,0,none⟩ (.int .i64 (deep t:Int))).cell? ⟨w.heap.size+1+1,0,none⟩=some (.int .i64 (deep t:Int)):=by simp[go_sem,cc]
 have fb3: (w2.setCell ⟨w.heap.size+1+1,0,none⟩ (.int .i64 (deep t:Int))).frozen? ⟨w.heap.size+1,0,none⟩=false:=by rw[World.frozen?_setCell]; exact fb
 have fc3: (w2.setCell ⟨w.heap.size+1+1,0,none⟩ (.int .i64 (deep t:Int))).frozen? ⟨w.heap.size+1+1,0,none⟩=false:=by rw[World.frozen?_setCell]; exact fc
 generalize w2.setCell ⟨w.heap.size+1+1,0,none⟩ (.int .i64 (deep t:Int))=W3 at HB3 k3 b3 c3 fb3 fc3 ⊢;clear k0 cb cc fb fc hsz HBEL
 go_region
 all_goals
  go_wp2_with fail
  refine leaves_cons (f:=46) (args:=#[.pointer (some ⟨w.heap.size+1,0,none⟩),.pointer (some ⟨w.heap.size+1+1,0,none⟩)]) (by simp) (by simp[go_sem]) ?_;refine (Z9p ⟨w.heap.size+1,0,none⟩ ⟨w.heap.size+1+1,0,none⟩ _).mono ?_;rintro e u' w'' ⟨rfl,rfl,rfl⟩;simp[Leaves,settle,results,Tryd.results29,go_sem,b3,c3];exact ((HB3.out.setCell (p:=⟨w.heap.size+1,0,none⟩) (by simp) _).setCell (p:=⟨w.heap.size+1+1,0,none⟩) (by simp; omega) _).drew
end
def Z3c (m:Nat) (t:Sh):Int:=if m < size t then (m:Int)+1 else size t
def Z3d (m:Nat) (t:Sh):Int:=if m < size t then 0 else deep t
section
variable (t : Sh) (q : Ptr) (w : World) (hq : ShAt w w.heap.size q t)
include t q w hq
theorem Z6W:
 Y9 29 #[.agg (Y8 t q)] w (.tuple #[.int .i64 (Z3c 400 t),.int .i64 (Z3d 400 t)]):=by
 unfold Z3c Z3d;by_cases h:400 < size t
 {rw[if_pos h,if_pos h]; exact Z6V t q w hq h}
 {rw[if_neg h,if_neg h]; exact Z9q t q w hq (by omega)}
theorem Z2Y (hg:WGlobs w):
 Y9 18 #[.agg (Y8 t q)] w (.int .i64 (check t)):=by
 have hb0:=Z01 w (.cells (Y8 t q) 25);have hm:=Z6W t q _ (hq.next hb0);have HC:Hid (check t=if 400 < size t then 3 else if 40 < deep t then 91 else if right t=false then 70 else 0):=Y1 rfl;have HB0:=Y1 hb0;have HB:=Y1 (Z07 w t q);have HQ:=Y1 hq;have HG:=Y1 hg;obtain ⟨_,⟨c0,c1,c2,c3,c4⟩,_⟩:=HB.out;clear hb0 hq hg;by_cases h4:400 < size t
 {have HF:Hid (check t=3):=Y1 (by rw[HC.out,if_pos h4]);have hx:Z3c 400 t=401:=by unfold Z3c; rw[if_pos h4]; rfl
  rw[hx] at hm;generalize Z3d 400 t=y at hm;clear h4 hx;go_enter Tryd.func18,Tryd.ntmps18
  go_wp2_with fail
  refine hm.mono ?_;rintro e w' ⟨rfl,hb'⟩;go_wp2;go_ret;exact ⟨Z17 HF.out.symm,Z03 HB0.out hb'⟩}
 {have hx:Z3c 400 t=(size t:Int):=by unfold Z3c; rw[if_neg h4]
  have hy:Z3d 400 t=(deep t:Int):=by unfold Z3d; rw[if_neg h4]
  rw[hx,hy] at hm;have h4': ¬(400:Int) < (size t:Int):=by omega
  by_cases h40:40 < deep t
  {have HF:Hid (check t=91):=Y1 (by rw[HC.out,if_neg h4,if_pos h40]);have h40': (40:Int) < (deep t:Int):=by omega
   clear h4 h40 hx hy;go_enter Tryd.func18,Tryd.ntmps18
   go_wp2_with fail
   refine hm.mono ?_;rintro e w' ⟨rfl,hb'⟩;go_wp2;go_ret;exact ⟨Z17 HF.out.symm,Z03 HB0.out hb'⟩}
  {have h40': ¬(40:Int) < (deep t:Int):=by omega
   have HF:Hid (check t=if right t=false then 70 else 0):=Y1 (by rw[HC.out,if_neg h4,if_neg h40]);have HZ:Hid (size t<=1000000):=Y1 (by omega);clear h4 h40 hx hy;go_enter Tryd.func18,Tryd.ntmps18
   go_wp2_with fail
   refine hm.mono ?_;rintro e w2 ⟨rfl,hb2⟩;have hbw:=Z03 HB0.out hb2;have HBW2:=Y1 hbw;have HB2:=Y1 (HB.out.next hb2);have hr:=Z6U t q w2 (HQ.out.next hbw) (HG.out.next hbw) HZ.out;clear hm hb2 hbw c0 c1 c2 c3 c4;obtain ⟨_,⟨c0,c1,c2,c3,c4⟩,_⟩:=HB2.out;cases hrt:right t
   all_goals
    rw[hrt] at hr HF;clear hrt
    go_wp2_with fail
    refine hr.mono ?_;rintro e w' ⟨rfl,hb'⟩;go_wp2;go_ret;exact ⟨Z17 (by rw[HF.out]; rfl),Z03 HBW2.out hb'⟩}}
theorem Z9r (hg:WGlobs w):
 Y9 35 #[.agg (Y8 t q)] w (.bool (decide (check t=0))):=by
 have hb0:=Z01 w (.cells (Y8 t q) 25);have hm:=Z2Y t q _ (hq.next hb0) (hg.next hb0);have HB0:=Y1 hb0;obtain ⟨_,⟨c0,c1,c2,c3,c4⟩,_⟩:=Z07 w t q;clear hb0 hq hg;go_enter Tryd.func35,Tryd.ntmps35
 go_wp2_with fail
 refine hm.mono ?_;rintro e w' ⟨rfl,hb'⟩;go_wp2;go_ret;exact ⟨Z0p (by rw[Bool.eq_iff_iff]; simp),Z03 HB0.out hb'⟩
end
end
section
open Go.RowKit Shp Go.Sort
theorem Z9s {t:Sh} (q:Ptr) (hr:right t=true):
 (.agg #[.int .i64 t.kind,.string ⟨t.of_.toArray⟩,.string ⟨t.name.toArray⟩,.slice q.A t.names.length q.c,.slice q.P t.parts.length q.d]:Value)= .agg #[.int .i64 (sorted t).kind,.string ⟨(sorted t).of_.toArray⟩,.string ⟨(sorted t).name.toArray⟩,.slice q.A (sorted t).names.length q.c,.slice q.P (sorted t).parts.length q.d]:=by
 obtain ⟨k1,k2,k3⟩:=Z2T t;obtain ⟨l1,l2⟩:=Z4o (t:=t) ((Z1P hr).imp id And.left);rw[k1,k2,k3,l1,l2]
theorem UpF.toBelow {F:List Nat} {w w':World} {B:Nat} (h:UpF F w w') (hF: ∀b∈F,B<=b) (hB:B<=w.heap.size):Below B w w':=
 ⟨h.os,h.tape,h.output,h.size,fun k hk=>h.block k (Nat.lt_of_lt_of_le hk hB) (fun hm=>by have:=hF k hm; omega)⟩
theorem Z5K (t:Sh) (q:Ptr) (w:World) (hq:ShAt w w.heap.size q t) (hg:WGlobs w) (hck:check t=0):
 Calls Tryd.prog 22 #[.agg (Y8 t q)] w fun e w'=> ∃q' F,e= .returned (.agg (Y8 (sorted t) q'))/\Own w' q' (sorted t) F/\(∀b∈F,w.heap.size<=b)/\Below w.heap.size w w':=by
 obtain ⟨hz,_,hr⟩:=Z0f hck;have HQ:=Y1 hq;have HG:=Y1 hg;have HR:=Y1 hr;have HCK:=Y1 hck;have HS:=Y1 (Z18 w t q);have HB:=Y1 (Z6D w t q);have HE:=Y1 (Z41 w t q);have HCP:=Y1 (Z4n t q (sW w t q) (hq.next (Z18 w t q)) hz hr);have HB0:=Y1 (Z07 w t q);obtain ⟨_,⟨c0,c1,c2,c3,c4⟩,_⟩:=HB0.out;clear hq hg hr hck;go_enter Tryd.func22,Tryd.ntmps22
 go_wp2_with fail
 clear c0 c1 c2 c3 c4 HB0;change Calls _ _ _ (sW w t q) _;generalize sW w t q=W at HS HB HE HCP ⊢;refine HCP.out.mono ?_;rintro e w1 ⟨q',F,rfl,ho,hnd,hF,hb1⟩;have HO:=Y1 ho;have HND:=Y1 hnd;have HF:=Y1 hF;have HS1:=Y1 (Z03 HS.out hb1);have HB1:=Y1 (HB.out.next hb1);have HE1:=Y1 (HE.out.next hb1);have HLF:=Y1 ho.lt;have hbw:=Z01 w1 (.cells (Y8 t q') 25);have HBW:=Y1 hbw;have HB2:=Y1 (HB1.out.next hbw);have HE2:=Y1 (HE1.out.next hbw);have HT2:=Y1 (Z07 w1 t q');have HO2:=Y1 (Z0K ho hbw);have HS2:=Y1 (Z03 HS1.out hbw);have hm:=Z9r t q _ (HQ.out.next HS2.out) (HG.out.next HS2.out);rw[show decide (check t=0)=true from by rw[HCK.out]; rfl] at hm;have HM:=Y1 hm;obtain ⟨_,⟨c0,c1,c2,c3,c4⟩,_⟩:=HB2.out;clear ho hnd hF hb1 hbw hm HCP
 go_wp2_with fail
 refine HM.out.mono ?_;rintro e w3 ⟨rfl,hb3⟩;have HS3:=Y1 (Z03 HS2.out hb3);have HE3:=Y1 (HE2.out.next hb3);have HT3:=Y1 (HT2.out.next hb3);have HO3:=Y1 (Z0K HO2.out hb3);clear c0 c1 c2 c3 c4;obtain ⟨_,⟨c0,c1,c2,c3,c4⟩,_⟩:=HT3.out;have HW:=Y1 (Z5d t q' F w3 HO3.out HND.out HR.out hz);have hbl:w1.heap.size+1<=w3.heap.size:=by have:=hb3.size; simp at this; exact this
 have HLT:=Y1 hbl;clear hb3 HM hbl
 go_wp2_with fail
 refine HW.out.mono ?_;rintro e w4 ⟨rfl,hu,F',hp,ho⟩;have HLN:=Y1 (show w.heap.size+1∉F from fun hm=>by have:=HF.out _ hm; have:=HE.out.1; omega);have HLT2:=Y1 (show w1.heap.size∉F from fun hm=>by have:=HLF.out _ hm; omega);have HT4:=Y1 (HT3.out.same (hu.same HT3.out.1 HLT2.out) hu.size);have HE4:=Y1 (HE3.out.same (hu.same HE3.out.1 HLN.out) hu.size);have HS4:=Y1 (HS3.out.trans (hu.toBelow (fun b hb=>by have:=HF.out b hb; have:=HB.out.1; omega) HS3.out.size));have HO4:=Y1 ho;have HNF:=Y1 (show ∀b∈F',w.heap.size+1≠b from fun b hb e=>HLN.out (by rw[e]; exact hp.mem_iff.1 hb));have HGE:Hid (∀b∈F',w.heap.size<=b):=Y1 (fun b hb=>by have:=HF.out b (hp.mem_iff.1 hb); have:=HB.out.1; omega);clear hu hp ho HW c0 c1 c2 c3 c4;obtain ⟨_,⟨c0,c1,c2,c3,c4⟩,_⟩:=HT4.out;obtain ⟨_,⟨r0,r1,r2,r3,r4⟩,f0,f1,f2,f3,f4⟩:=HE4.out;simp only[Nat.zero_add] at c0 c1 c2 c3 c4 r0 r1 r2 r3 r4;have hne:w1.heap.size≠w.heap.size+1:=fun e=>by have:=HE1.out.1; omega
 go_wp2;refine bodyPost_ret (v:= .agg (Y8 t q')) (by simp[results,Tryd.results22,go_sem,r0,r1,r2,r3,r4]) rfl ?_;refine ⟨q',F',by rw[Z9s q' HR.out], ?_,fun b hb=>HGE.out b hb,Z0j HS4.out (by omega) _ _ _ _ _⟩;have h5:=Z19 HO4.out HNF.out (.int .i64 t.kind) (.string ⟨t.of_.toArray⟩) (.string ⟨t.name.toArray⟩) (.slice q'.A t.names.length q'.c) (.slice q'.P t.parts.length q'.d);exact h5
end
end Go.Proofs.YtmeiijjpomcgcaaDoor
namespace Go.Proofs.YtmeiijjpomcgcaaDoor
open Go.RowKit Shp Sub
namespace SubM
theorem Z6X {W:World} {q:Ptr} {t:Sh} {F:List Nat} {B:Nat} (h:Own W q t F) (hF: ∀b∈F,B<=b):Kept (fun b=>B<=b) W (t,q):=fun W' hz hs=>by
 have h2:Own W' q t F:=h.of (fun x hx=>⟨fun k=>World.cell?_of_block (w:=W) (hs x (h.lt x hx) (hF x hx)),fun k=>World.frozen?_of_block (w:=W) (hs x (h.lt x hx) (hF x hx))⟩) hz;exact h2.at_ (fun x hx=>Nat.lt_of_lt_of_le (h.lt x hx) hz)
end SubM
end Go.Proofs.YtmeiijjpomcgcaaDoor
namespace Go.Proofs.YtmeiijjpomcgcaaDoor
open Go.RowKit Shp Sub
open Expd (Bd)
namespace SubM
section
variable {W : World} {B : Nat} {e : TypeId} {s n c g : Nat} {xs : List Value} (h : W.ownsRow B e s (.slice (some ⟨g, 0, none⟩) n c) n xs) {j : Nat}
include W B e s n c g xs h j
theorem Z3e (hj:j < n * s) (v:Value):
 (W.setCell ⟨g,j,none⟩ v).ownsRow B e s (.slice (some ⟨g,0,none⟩) n c) n (xs.set j v):=by
 obtain ⟨h1,h2⟩:=h;refine ⟨by rw[List.length_set]; exact h1,Or.inr ?_⟩;rcases h2 with ⟨h3,_⟩ | ⟨g',cap,cur,hv,hB,hg,hn,hm,hsz,ht⟩
 {cases h3}
 {simp only[Value.slice.injEq,Option.some.injEq,Addr.mk.injEq,and_true,true_and] at hv;obtain ⟨rfl,rfl⟩:=hv;refine ⟨g,c,cur.setIfInBounds j v,rfl,hB,heap_setCell_same W g j cur e v hg,hn,hm,by rw[Array.size_setIfInBounds]; exact hsz, ?_⟩;rw[<-ht,Array.toList_setIfInBounds,List.take_set]}
theorem Zbz (hj:j+5<=n * s) (v0 v1 v2 v3 v4:Value):
 (((((W.setCell ⟨g,j,none⟩ v0).setCell ⟨g,j+1,none⟩ v1).setCell ⟨g,j+2,none⟩ v2).setCell ⟨g,j+3,none⟩ v3).setCell ⟨g,j+4,none⟩ v4).ownsRow B e s (.slice (some ⟨g,0,none⟩) n c) n (((((xs.set j v0).set (j+1) v1).set (j+2) v2).set (j+3) v3).set (j+4) v4):=
 Z3e (Z3e (Z3e (Z3e (Z3e h (by omega) v0) (by omega) v1) (by omega) v2) (by omega) v3) (by omega) v4
end
theorem Z9t (l:List BE) (b:Bd) (q q':Ptr) (m:List BE):
 (((((cellsB (l++(b,q)::m)).set (l.length * 7+2) (.int .i64 b.sh.kind)).set (l.length * 7+3) (.string ⟨b.sh.of_.toArray⟩)).set (l.length * 7+4) (.string ⟨b.sh.name.toArray⟩)).set (l.length * 7+5) (.slice q'.A b.sh.names.length q'.c)).set (l.length * 7+6) (.slice q'.P b.sh.parts.length q'.d)=cellsB (l++(b,q')::m):=by
 have e: ∀(x:BE),cellsB (l++x::m)=cellsB l++(cells7 x++cellsB m):=fun x=>by rw[Z0o]; rfl
 rw[e,e];have hl:=Z0u l;have st: ∀(k:Nat) (v:Value) (t:List Value),(cellsB l++t).set (l.length * 7+k) v=cellsB l++t.set k v:=fun k v t=>by
  rw[List.set_append_right _ _ (by rw[hl]; omega),hl];congr 2;omega
 rw[st,st,st,st,st];rfl
theorem Z85 (A:Option Addr) (c:Nat) (lE:List BE) (w:World) (hA:lE= []\/ ∃g off,A=some ⟨g,off,none⟩/\g < w.heap.size/\ ∀j u,(cellsB lE)[j]? =some u->w.cell? ⟨g,off+j,none⟩=some u) (hl:lE.length<=1000) (hlc:lE.length<=c) (hA0:A=none->c=0):
 Calls Tryd.prog 45 #[.slice A lE.length c] w fun e w'=>(∃A' c',e= .returned (.slice A' lE.length c')/\w'.ownsRow w.heap.size 54 7 (.slice A' lE.length c') lE.length (cellsB lE))/\Below w.heap.size w w':=by
 obtain ⟨ib,hifb,hzb,hsb,hbb7⟩:=Z1o Z1H;have q26: ∀(w:World) (a:Option Addr) (n c n' c':Nat),(binOp .eql 26 (.slice a n c) (.slice none n' c')).run Tryd.prog w= .ok (.bool a.isNone) w:=fun w a n c n' c'=>Lib.run_eql_slice_nil w _ _ a n c n' c' Tryd.underlying26;cases A with
 | none=>
  obtain rfl:=hA0 rfl;have hl0:lE= []:=List.eq_nil_of_length_eq_zero (by omega);subst hl0;go_enter Tryd.func45,Tryd.ntmps45;go_wp2;go_ret;exact ⟨⟨none,0,by simp,World.ownsRow_nil _ _ _ _⟩,Below.refl _ _⟩
 | some ad=>
  have HA:=Y1 hA;clear hA hA0;go_enter Tryd.func45,Tryd.ntmps45
  go_wp2_with (at_builtin; refine Z0I _ rfl _ _ 26 rfl w.heap.size 54 ib (.agg #[.string ByteArray.empty,.string ByteArray.empty,.int .i64 0,.string ByteArray.empty,.string ByteArray.empty,.slice none 0 0,.slice none 0 0]) 7 120 Tryd.underlying26 hifb hzb hsb hbb7 rfl (by decide) _ 0 [] rfl (World.ownsRow_made w #[] 0 (Nat.le_refl _) (Nat.zero_le _) rfl) (some ad) lE.length c (cellsB lE) rfl nofun ?qc1 ?qc2 ?qc3 ?qc4 ?qc5 ?qc6 ?_)
  case qc1=>exact Z0u lE
  case qc2=>
   intro ad' had j u hj;cases had;rcases HA.out with h0 | ⟨g,off,hgo,hg,hc⟩
   {rw[h0] at hj; simp[cellsB] at hj}
   {cases hgo;rw[Z2v];exact ((Z01 w _).cell (p:=⟨g,off+j,none⟩) hg).trans (hc j u hj)}
  case qc3=>exact Z0D _
  case qc4=>unfold maxLen; omega
  case qc5=>omega
  case qc6=>simp
  intro v' w' hown hb;have hown2:w'.ownsRow w.heap.size 54 7 v' lE.length (cellsB lE):=by simpa using hown
  have HO:=Y1 hown2;have HB:Hid (Below w.heap.size w w'):=Y1 ((Z01 w (.cells #[] 54)).trans hb);clear hown hown2 hb;go_wp2;go_ret;refine ⟨?_,HB.out⟩;have h:=HO.out;rcases h.2 with ⟨hv,h0⟩ | ⟨g,cap,cur,hv,hBg,hh,hnc,_⟩
  {exact ⟨none,0,by rw[hv,h0]; rfl,by rw[hv] at h; rw[h0] at h ⊢; exact h⟩}
  {rw[hv] at h;exact ⟨some ⟨g,0,none⟩,cap,by rw[hv]; rfl,h⟩}
end SubM
end Go.Proofs.YtmeiijjpomcgcaaDoor
namespace Go.Proofs.YtmeiijjpomcgcaaDoor
section
open Go.RowKit Shp Sub SubM
open Expd (Bd)
theorem Z3f {W:World} {B:Nat} {e:TypeId} {s n c g:Nat} {xs:List Value} (h:W.ownsRow B e s (.slice (some ⟨g,0,none⟩) n c) n xs) (j:Nat):W.frozen? ⟨g,j,none⟩=false:=by
 obtain ⟨_,⟨h3,_⟩ | ⟨g',cap,cur,hv,hB,hg,_⟩⟩:=h
 {cases h3}
 {simp only[Value.slice.injEq,Option.some.injEq,Addr.mk.injEq,and_true,true_and] at hv;obtain ⟨rfl,rfl⟩:=hv;simp[World.frozen?,hg]}
structure FB (w:World) (L:List Bd) (lE:List BE) (A:Option Addr) (c i:Nat) (lN:List BE) (W:World):Prop where
 up:Below w.heap.size w W
 row:W.ownsRow w.heap.size 54 7 (.slice A L.length c) L.length (cellsB (lN++lE.drop i))
 eq:lN.map Prod.fst=L.take i
 kp: ∀x∈lN,Kept (fun b=>w.heap.size<=b/\rowB A≠some b) W (x.1.sh,x.2)/\x.1.of_.length<=9223372036854775807/\x.1.name.length<=9223372036854775807
theorem FB.step {w W1 W2:World} {L:List Bd} {lE:List BE} {g c i:Nat} {lN:List BE} {wr:World} {b:Bd} {q q':Ptr} {F:List Nat} (h:FB w L lE (some ⟨g,0,none⟩) c i lN wr) (hi:i < L.length) (hlE:lE.map Prod.fst=L) (hx:lE[i]? =some (b,q)) (hb1:Below wr.heap.size wr W1) (hb2:Below W1.heap.size W1 W2)
 (ho:Own W2 q' b.sh F) (hF: ∀x∈F,W1.heap.size<=x) (h1:b.of_.length<=9223372036854775807) (h2:b.name.length<=9223372036854775807):
 FB w L lE (some ⟨g,0,none⟩) c (i+1) (lN++ [(b,q')]) (((((W2.setCell ⟨g,i * 7+2,none⟩ (.int .i64 b.sh.kind)).setCell ⟨g,i * 7+3,none⟩ (.string ⟨b.sh.of_.toArray⟩)).setCell ⟨g,i * 7+4,none⟩ (.string ⟨b.sh.name.toArray⟩)).setCell ⟨g,i * 7+5,none⟩ (.slice q'.A b.sh.names.length q'.c)).setCell ⟨g,i * 7+6,none⟩ (.slice q'.P b.sh.parts.length q'.d)):=by
 generalize hW3: (((((W2.setCell ⟨g,i * 7+2,none⟩ (.int .i64 b.sh.kind)).setCell ⟨g,i * 7+3,none⟩ (.string ⟨b.sh.of_.toArray⟩)).setCell ⟨g,i * 7+4,none⟩ (.string ⟨b.sh.name.toArray⟩)).setCell ⟨g,i * 7+5,none⟩ (.slice q'.A b.sh.names.length q'.c)).setCell ⟨g,i * 7+6,none⟩ (.slice q'.P b.sh.parts.length q'.d))=W3;have hu:Upd (fun x=>x=g) W2 W3:=by
  rw[<-hW3];exact Upd.set (Upd.set (Upd.set (Upd.set (Upd.set (Upd.refl (fun b=>b=g) W2) ⟨g,i * 7+2,none⟩ (fun _=>rfl) _) ⟨g,i * 7+3,none⟩ (fun _=>rfl) _) ⟨g,i * 7+4,none⟩ (fun _=>rfl) _) ⟨g,i * 7+5,none⟩ (fun _=>rfl) _) ⟨g,i * 7+6,none⟩ (fun _=>rfl) _
 have hg:=Z0a h.row g rfl;have hb:=Z03 hb1 hb2;have hz:=h.up.size;have hlen:lN.length=i:=by have:=congrArg List.length h.eq; simp at this; omega
 have hle:lE.length=L.length:=by have:=congrArg List.length hlE; simpa using this
 have hil:i < lE.length:=by omega
 have hbq:lE[i]'hil=(b,q):=by rw[List.getElem?_eq_getElem hil] at hx; exact Option.some.inj hx
 have hdr:lE.drop i=(b,q)::lE.drop (i+1):=by rw[List.drop_eq_getElem_cons hil,hbq]
 have hLb:L[i]'hi=b:=by
  have: (lE.map Prod.fst)[i]'(by rw[List.length_map]; exact hil)=b:=by rw[List.getElem_map,hbq]
  simpa[hlE] using this
 have hr2:=Z0w (Z0w h.row hb1) hb2;rw[hdr] at hr2;have hr3:=Zbz hr2 (j:=i * 7+2) (by omega) (.int .i64 b.sh.kind) (.string ⟨b.sh.of_.toArray⟩) (.string ⟨b.sh.name.toArray⟩) (.slice q'.A b.sh.names.length q'.c) (.slice q'.P b.sh.parts.length q'.d);have hcs:=Z9t lN b q q' (lE.drop (i+1));rw[hlen] at hcs;rw[hcs,hW3] at hr3;refine ⟨h.up.trans ((hb.mono hz).trans (hu.below (by have:=hb1.size; have:=hb2.size; omega) (fun x hx=>by rw[hx]; exact hg.1))),by rw[List.append_assoc]; exact hr3, ?_,fun x hx=> ?_⟩
 {rw[List.map_append,h.eq,List.take_add_one,List.getElem?_eq_getElem hi,hLb]; rfl}
 {rcases List.mem_append.1 hx with hx | hx
  {exact ⟨((h.kp x hx).1.upd (T:=fun _=>False) (Upd.new hb) (fun _ _ _ h=>h)).upd hu (fun b _ hS e=>hS.2 (by rw[e]; rfl)),(h.kp x hx).2⟩}
  {rw[List.mem_singleton.1 hx];have hk:=(Z6X ho hF).upd hu (fun b _ hS e=>by have:=hb1.size; omega);exact ⟨hk.more (fun b _ hS=>⟨by have:=hb1.size; omega,fun e=>by have e2:g=b:=Option.some.inj e; have:=hb1.size; omega⟩),h1,h2⟩}}
theorem Z2Z (L:List Bd) (A:Option Addr) (cap:Nat) (w:World) (hL:BdsAt w w.heap.size A L) (hl:L.length<=100) (hc:L.length<=cap) (hz:A=none->cap=0) (hs: ∀b∈L,size b.sh<=800/\Thin b.sh):
 Calls Tryd.prog 28 #[.slice A L.length cap] w fun e w'=> ∃A' c' lN,e= .returned (.slice A' lN.length c')/\KT w L lN A' c' w':=by
 obtain ⟨lE,hlE,hok,hcl⟩:=Z4g hL;have hle:lE.length=L.length:=by have:=congrArg List.length hlE; simpa using this
 have hcb:=Z85 A cap lE w hcl (by omega) (by omega) hz;rw[hle] at hcb;have HCB:=Y1 hcb;have HOK:=Y1 hok;have HS:=Y1 hs;have HLE:=Y1 hlE;have HLL:=Y1 hle;clear hL hok hcl hcb hs hlE hle hz;go_enter Tryd.func28,Tryd.ntmps28
 go_wp2_with fail
 refine HCB.out.mono ?_;rintro e w1 ⟨⟨A',c',rfl,hrow⟩,hbb⟩;have HF0:Hid (FB w L lE A' c' 0 [] w1):=Y1 ⟨hbb,by rw[List.nil_append,List.drop_zero]; exact hrow,by simp,fun x hx=>absurd hx (by simp)⟩;clear hrow hbb HCB
 go_wp2_with fail
 go_loopw [9] (fun ii wr=> ∃(i:Nat) (lN:List BE),ii= .int .i64 i/\i<=L.length/\Hid (FB w L lE A' c' i lN wr)) (fun i _=>L.length - (intOf i).toNat)
 case atStart=>exact ⟨0,[],rfl,Nat.zero_le _,HF0⟩
 case round=>
  obtain ⟨i,lN,rfl,hi,HF⟩:=hrel;by_cases hlt:i < L.length
  {have hi1: (i:Int) < (L.length:Int):=by omega
   obtain ⟨g,cc,eA⟩:=Z21 HF.out.row (by omega);simp only[Value.slice.injEq,true_and] at eA;obtain ⟨rfl,rfl⟩:=eA;have hil:i < lE.length:=by rw[HLL.out]; exact hlt
   obtain ⟨⟨b,q⟩,hbq⟩: ∃x,x=lE[i]'hil:=⟨_,rfl⟩;have HX:Hid (lE[i]? =some (b,q)):=Y1 (by rw[List.getElem?_eq_getElem hil,hbq]);have hlen:lN.length=i:=by have:=congrArg List.length HF.out.eq; simp at this; omega
   have hbL:b∈L:=by rw[<-HLE.out]; exact List.mem_map.2 ⟨(b,q),by rw[hbq]; exact List.getElem_mem _,rfl⟩
   have HSB:=Y1 (HS.out b hbL);have hokb:=HOK.out (b,q) (by rw[hbq]; exact List.getElem_mem _);have HOB:=Y1 hokb;have hcell: ∀k v,k < 7->(SubM.cells7 (b,q))[k]? =some v->wr.cell? ⟨g,i * 7+k,none⟩=some v:=fun k v hk hv=>Z2u HF.out.row (by
    rw[Z43 (i:=i) (by rw[List.length_append,List.length_drop]; omega) hk,List.getElem_append_right (by omega)];simp only[hlen,Nat.sub_self,List.getElem_drop,Nat.add_zero];rw[<-hbq]; exact hv)
   have x0:=hcell 0 _ (by omega) rfl;have x1:=hcell 1 _ (by omega) rfl;have x2:=hcell 2 _ (by omega) rfl;have x3:=hcell 3 _ (by omega) rfl;have x4:=hcell 4 _ (by omega) rfl;have x5:=hcell 5 _ (by omega) rfl;have x6:=hcell 6 _ (by omega) rfl;simp only[Nat.add_zero] at x0;have f2:=Z3f HF.out.row (i * 7+2);have f3:=Z3f HF.out.row (i * 7+3);have f4:=Z3f HF.out.row (i * 7+4);have f5:=Z3f HF.out.row (i * 7+5);have f6:=Z3f HF.out.row (i * 7+6);have HFZ:=Y1 (And.intro f2 (And.intro f3 (And.intro f4 (And.intro f5 f6))));have HCC:=Y1 (And.intro x2 (And.intro x3 (And.intro x4 (And.intro x5 x6))));have hgz:=(Z0a HF.out.row g rfl).2;have HGZ:=Y1 hgz;have hbb:=Z01 wr (.cells #[.string ⟨b.of_.toArray⟩,.string ⟨b.name.toArray⟩,.int .i64 b.sh.kind,.string ⟨b.sh.of_.toArray⟩,.string ⟨b.sh.name.toArray⟩,.slice q.A b.sh.names.length q.c,.slice q.P b.sh.parts.length q.d] 54);obtain ⟨W1,hW1⟩: ∃W1,wr.alloc (.cells #[.string ⟨b.of_.toArray⟩,.string ⟨b.name.toArray⟩,.int .i64 b.sh.kind,.string ⟨b.sh.of_.toArray⟩,.string ⟨b.sh.name.toArray⟩,.slice q.A b.sh.names.length q.c,.slice q.P b.sh.parts.length q.d] 54)=W1:=⟨_,rfl⟩;have y2:W1.cell? ⟨wr.heap.size,2,none⟩=some (.int .i64 b.sh.kind):=by rw[<-hW1]; simp[go_sem]
   have y3:W1.cell? ⟨wr.heap.size,3,none⟩=some (.string ⟨b.sh.of_.toArray⟩):=by rw[<-hW1]; simp[go_sem]
   have y4:W1.cell? ⟨wr.heap.size,4,none⟩=some (.string ⟨b.sh.name.toArray⟩):=by rw[<-hW1]; simp[go_sem]
   have y5:W1.cell? ⟨wr.heap.size,5,none⟩=some (.slice q.A b.sh.names.length q.c):=by rw[<-hW1]; simp[go_sem]
   have y6:W1.cell? ⟨wr.heap.size,6,none⟩=some (.slice q.P b.sh.parts.length q.d):=by rw[<-hW1]; simp[go_sem]
   rw[hW1] at hbb;have HBB:=Y1 hbb;have hub:Below w.heap.size w W1:=HF.out.up.trans (hbb.mono HF.out.up.size);have HT:=Y1 (Z44 b.sh q W1 (hokb.1.of hub.size (fun g k hg=>hub.cell (p:=⟨g,k,none⟩) hg)) (by have:=HSB.out.1; omega) HSB.out.2);clear hcell hbq hbL hokb hbb hub f2 f3 f4 f5 f6 hlen hgz hil
   go_wp2_with fail
   refine HT.out.mono ?_;rintro e W2 ⟨q',F,rfl,ho,hnd,hF,hb2⟩;have hg2:g < W1.heap.size:=Nat.lt_of_lt_of_le HGZ.out HBB.out.size;have kc:=fun k=>(hb2.cell (p:=⟨g,k,none⟩) hg2).trans (HBB.out.cell (p:=⟨g,k,none⟩) HGZ.out);have kf:=fun k=>(hb2.frozen (p:=⟨g,k,none⟩) hg2).trans (HBB.out.frozen (p:=⟨g,k,none⟩) HGZ.out);have z2:=(kc _).trans HCC.out.1;have z3:=(kc _).trans HCC.out.2.1;have z4:=(kc _).trans HCC.out.2.2.1;have z5:=(kc _).trans HCC.out.2.2.2.1;have z6:=(kc _).trans HCC.out.2.2.2.2;have f2:=(kf _).trans HFZ.out.1;have f3:=(kf _).trans HFZ.out.2.1;have f4:=(kf _).trans HFZ.out.2.2.1;have f5:=(kf _).trans HFZ.out.2.2.2.1;have f6:=(kf _).trans HFZ.out.2.2.2.2;have HN:=Y1 (HF.out.step hlt HLE.out HX.out HBB.out hb2 ho hF HOB.out.2.1 HOB.out.2.2);clear kc kf ho hnd hF hb2 HT hg2 x0 x1 x2 x3 x4 x5 x6 y2 y3 y4 y5 y6 hW1;go_wp2
   go_roundw
   case rel=>exact ⟨i+1,_,by go_num,by omega,HN⟩
   case measure=>simp[intOf]; omega}
  {have hi1: ¬(i:Int) < (L.length:Int):=by omega
   obtain rfl:i=L.length:=by omega
   have hlen:lN.length=L.length:=by have:=congrArg List.length HF.out.eq; simpa using this
   have HK:Hid (KT w L lN A' c' wr):=Y1 ⟨HF.out.up,by
    have h:=HF.out.row;rw[List.drop_eq_nil_of_le (by rw[HLL.out]; exact Nat.le_refl _),List.append_nil] at h;rw[hlen]; exact h,by rw[HF.out.eq,List.take_length],HF.out.kp⟩
   have HLN:=Y1 hlen;clear hlen;go_wp2;refine bodyPost_ret (v:= .slice A' L.length c') (by simp[results,Tryd.results28,go_sem]) rfl ?_;exact ⟨A',c',lN,by rw[HLN.out],HK.out⟩}
end
section
open Go.RowKit Shp Sub SubM
open Expd (Bd It)
def noQ:Ptr:=⟨none,0,none,0⟩
theorem Z6Y (W:World) (B:Nat) (o n:List UInt8) (ho:o.length<=9223372036854775807) (hn:n.length<=9223372036854775807):ShAt W B noQ (Expd.opq o n):=
 .mk _ _ 0 0 (fun _=>noQ) ⟨ho,hn,by simp[Expd.opq],by simp[Expd.opq],by simp[Expd.opq],by simp[Expd.opq],by simp[Expd.opq],fun _=>rfl,fun _=>rfl⟩ (Or.inl rfl) (Or.inl rfl) (fun i hi=>by simp[Expd.opq] at hi) (fun i hi=>by simp[Expd.opq] at hi)
theorem Z4r (o n:List UInt8) (w:World):
 Y9 27 #[.string ⟨o.toArray⟩,.string ⟨n.toArray⟩] w (sv (Expd.opq o n) noQ):=by
 go_enter Tryd.func27,Tryd.ntmps27;go_wp2;refine bodyPost_ret (v:= .agg #[.int .i64 10,.string ⟨o.toArray⟩,.string ⟨n.toArray⟩,.slice none 0 0,.slice none 0 0]) (by simp[results,Tryd.results27,go_sem]) rfl ?_;refine ⟨rfl, ?_⟩
 first | exact Z01 _ _ | exact Below.refl _ _ | (constructor <;> simp)
structure Ix7 (W:World) (g:Nat) (it:It) (qi:Ptr):Prop where
 lt:g < W.heap.size
 c0:W.cell? ⟨g,0,none⟩=some (.int .i64 it.kind)
 c1:W.cell? ⟨g,1,none⟩=some (.string ⟨it.name.toArray⟩)
 c2:W.cell? ⟨g,2,none⟩=some (.int .i64 it.sh.kind)
 c3:W.cell? ⟨g,3,none⟩=some (.string ⟨it.sh.of_.toArray⟩)
 c4:W.cell? ⟨g,4,none⟩=some (.string ⟨it.sh.name.toArray⟩)
 c5:W.cell? ⟨g,5,none⟩=some (.slice qi.A it.sh.names.length qi.c)
 c6:W.cell? ⟨g,6,none⟩=some (.slice qi.P it.sh.parts.length qi.d)
theorem Ix7.next {W W':World} {g:Nat} {it:It} {qi:Ptr} {S:Nat->Prop} (h:Ix7 W g it qi) (hu:Upd S W W') (hg: ¬S g):Ix7 W' g it qi:=by
 have c: ∀k,W'.cell? ⟨g,k,none⟩=W.cell? ⟨g,k,none⟩:=fun k=>hu.cell h.lt hg;exact ⟨Nat.lt_of_lt_of_le h.lt hu.size,(c 0).trans h.c0,(c 1).trans h.c1,(c 2).trans h.c2,(c 3).trans h.c3,(c 4).trans h.c4,(c 5).trans h.c5,(c 6).trans h.c6⟩
end
end Go.Proofs.YtmeiijjpomcgcaaDoor
namespace Go.Proofs.YtmeiijjpomcgcaaDoor
open Go.RowKit Shp Sub
open Expd (Bd)
namespace SubM
def lay7 (W:World) (g:Nat) (x:BE):World:=
 ((((((W.setCell ⟨g,0,none⟩ (.string ⟨x.1.of_.toArray⟩)).setCell ⟨g,1,none⟩ (.string ⟨x.1.name.toArray⟩)).setCell ⟨g,2,none⟩ (.int .i64 x.1.sh.kind)).setCell ⟨g,3,none⟩ (.string ⟨x.1.sh.of_.toArray⟩)).setCell ⟨g,4,none⟩ (.string ⟨x.1.sh.name.toArray⟩)).setCell ⟨g,5,none⟩ (.slice x.2.A x.1.sh.names.length x.2.c)).setCell ⟨g,6,none⟩ (.slice x.2.P x.1.sh.parts.length x.2.d)
section
variable (W : World) (g : Nat) (x : BE)
include W g x
theorem ZbA:Upd (fun b=>b=g) W (lay7 W g x):=
 Upd.set (Upd.set (Upd.set (Upd.set (Upd.set (Upd.set (Upd.set (Upd.refl (fun b=>b=g) W) ⟨g,0,none⟩ (fun _=>rfl) _) ⟨g,1,none⟩ (fun _=>rfl) _) ⟨g,2,none⟩ (fun _=>rfl) _) ⟨g,3,none⟩ (fun _=>rfl) _) ⟨g,4,none⟩ (fun _=>rfl) _) ⟨g,5,none⟩ (fun _=>rfl) _) ⟨g,6,none⟩ (fun _=>rfl) _
theorem ZaM: (lay7 W g x).heap.size=W.heap.size:=by simp[lay7,World.setCell]
theorem Zc6 (j:Nat): (lay7 W g x).frozen? ⟨g,j,none⟩=W.frozen? ⟨g,j,none⟩:=by
 unfold lay7; rw[World.frozen?_setCell,World.frozen?_setCell,World.frozen?_setCell,World.frozen?_setCell,World.frozen?_setCell,World.frozen?_setCell,World.frozen?_setCell]
end
section
variable {W : World} {g : Nat} (x : BE) (h : ∀ j, j < 7 -> ∃ v, W.cell? ⟨g, j, none⟩ = some v)
include W g x h
theorem Z8s: ∀j v,(cells7 x)[j]? =some v->(lay7 W g x).cell? ⟨g,j,none⟩=some v:=by
 obtain ⟨v0,h0⟩:=h 0 (by omega);obtain ⟨v1,h1⟩:=h 1 (by omega);obtain ⟨v2,h2⟩:=h 2 (by omega);obtain ⟨v3,h3⟩:=h 3 (by omega);obtain ⟨v4,h4⟩:=h 4 (by omega);obtain ⟨v5,h5⟩:=h 5 (by omega);obtain ⟨v6,h6⟩:=h 6 (by omega);intro j v hv;unfold lay7;rcases j with _ | _ | _ | _ | _ | _ | _ | j
 {simp[cells7] at hv; subst hv;rw[RX.soc (by omega),RX.soc (by omega),RX.soc (by omega),RX.soc (by omega),RX.soc (by omega),RX.soc (by omega)]; exact World.cell?_setCell_same _ _ _ h0}
 {simp[cells7] at hv; subst hv;rw[RX.soc (by omega),RX.soc (by omega),RX.soc (by omega),RX.soc (by omega),RX.soc (by omega)]; exact World.cell?_setCell_same _ _ _ (by rw[RX.soc (by omega)]; exact h1)}
 {simp[cells7] at hv; subst hv;rw[RX.soc (by omega),RX.soc (by omega),RX.soc (by omega),RX.soc (by omega)]; exact World.cell?_setCell_same _ _ _ (by rw[RX.soc (by omega),RX.soc (by omega)]; exact h2)}
 {simp[cells7] at hv; subst hv;rw[RX.soc (by omega),RX.soc (by omega),RX.soc (by omega)]; exact World.cell?_setCell_same _ _ _ (by rw[RX.soc (by omega),RX.soc (by omega),RX.soc (by omega)]; exact h3)}
 {simp[cells7] at hv; subst hv;rw[RX.soc (by omega),RX.soc (by omega)]; exact World.cell?_setCell_same _ _ _ (by rw[RX.soc (by omega),RX.soc (by omega),RX.soc (by omega),RX.soc (by omega)]; exact h4)}
 {simp[cells7] at hv; subst hv;rw[RX.soc (by omega)]; exact World.cell?_setCell_same _ _ _ (by rw[RX.soc (by omega),RX.soc (by omega),RX.soc (by omega),RX.soc (by omega),RX.soc (by omega)]; exact h5)}
 {simp[cells7] at hv; subst hv;exact World.cell?_setCell_same _ _ _ (by rw[RX.soc (by omega),RX.soc (by omega),RX.soc (by omega),RX.soc (by omega),RX.soc (by omega),RX.soc (by omega)]; exact h6)}
 {simp[cells7] at hv}
theorem ZaN: ∀j,j < 7-> ∃v,(lay7 W g x).cell? ⟨g,j,none⟩=some v:=fun j hj=>
 ⟨_,Z8s x h j _ (List.getElem?_eq_getElem (l:=cells7 x) (i:=j) hj)⟩
end
structure NB (W0:World) (val:Nat->Option Value) (aI sI:Nat) (x:BE) (d:Nat->Bool) (u:Nat->Value) (W:World):Prop where
 up:Below W0.heap.size W0 W
 vals: ∀j,d j=true-> ∀v,val j=some v->u j=v
 al:d aI=true-> ∃g,u aI= .pointer (some ⟨g,0,none⟩)/\W0.heap.size<=g/\g < W.heap.size/\(∀j,W.frozen? ⟨g,j,none⟩=false)/\(∀j,j < 7-> ∃v,W.cell? ⟨g,j,none⟩=some v)/\
  (d sI=true-> ∀j v,(cells7 x)[j]? =some v->W.cell? ⟨g,j,none⟩=some v)
section
variable {W0 W W' : World} {val : Nat -> Option Value} {aI sI : Nat} {x : BE} {d : Nat -> Bool} {u : Nat -> Value}
theorem NB.start {u:Nat->Value}:NB W0 val aI sI x (fun _=>false) u W0.drew:=⟨Y2.drew,nofun,nofun⟩
section
variable (h : NB W0 val aI sI x d u W) {i : Nat}
include h i
theorem NB.vals' {v:Value} (hv: ∀v',val i=some v'->v=v'): ∀j,also d i j=true-> ∀v',val j=some v'->upd u i v j=v':=fun j hj v' hv'=>by
 by_cases hij:j=i
 {subst hij; rw[Z06]; exact hv v' hv'}
 {rw[Z08 d hij] at hj; rw[Z02 u v hij]; exact h.vals j hj v' hv'}
theorem NB.pure (hi:i≠aI/\i≠sI) {v:Value} (hv: ∀v',val i=some v'->v=v'):NB W0 val aI sI x (also d i) (upd u i v) W:=by
 obtain ⟨k1,k2⟩:=hi;refine ⟨h.up,h.vals' hv, ?_⟩;rw[Z08 d (Ne.symm k1),Z02 u v (Ne.symm k1),Z08 d (Ne.symm k2)];exact h.al
end
theorem NB.alloc (h:NB W0 val aI sI x d u W) (hD:aI≠sI) (hval:val aI=none) (hs:d sI=false):NB W0 val aI sI x (also d aI) (upd u aI (.pointer (some ⟨W.heap.size,0,none⟩))) (W.alloc (.cells #[.string ⟨#[]⟩,.string ⟨#[]⟩,.int .i64 0,.string ⟨#[]⟩,.string ⟨#[]⟩,.slice none 0 0,.slice none 0 0] 54)):=by
 refine ⟨Z03 h.up (Z01 _ _),h.vals' (fun v' hv=>by rw[hval] at hv; cases hv), ?_⟩;rw[Z06,Z08 d (Ne.symm hD),hs];refine fun _=>⟨W.heap.size,rfl,h.up.size,by simp,fun j=>by simp[go_sem],fun j hj=> ?_,nofun⟩;rcases j with _ | _ | _ | _ | _ | _ | _ | j
 {exact ⟨.string ⟨#[]⟩,by simp[go_sem]⟩}
 {exact ⟨.string ⟨#[]⟩,by simp[go_sem]⟩}
 {exact ⟨.int .i64 0,by simp[go_sem]⟩}
 {exact ⟨.string ⟨#[]⟩,by simp[go_sem]⟩}
 {exact ⟨.string ⟨#[]⟩,by simp[go_sem]⟩}
 {exact ⟨.slice none 0 0,by simp[go_sem]⟩}
 {exact ⟨.slice none 0 0,by simp[go_sem]⟩}
 {omega}
theorem NB.store (h:NB W0 val aI sI x d u W) (hD:aI≠sI) (hval:val sI=none) (ha:d aI=true) {g:Nat} (hg:u aI= .pointer (some ⟨g,0,none⟩)):NB W0 val aI sI x (also d sI) (upd u sI undef) (lay7 W g x):=by
 obtain ⟨g',e',g1,g2,g3,g4,_⟩:=h.al ha;obtain rfl:g'=g:=by rw[hg] at e'; simp at e'; exact e'.symm
 have hu:=ZbA W g' x;refine ⟨h.up.trans (hu.below h.up.size (fun b hb=>by omega)),h.vals' (fun v' hv=>by rw[hval] at hv; cases hv), ?_⟩;rw[Z02 u _ hD];exact fun _=>⟨g',hg,g1,by rw[ZaM]; exact g2,fun j=>(Zc6 W g' x j).trans (g3 j),ZaN x g4,fun _=>Z8s x g4⟩
end
structure KD (w:World) (l:List Bd) (lE:List BE) (A:Option Addr) (c:Nat) (W:World):Prop where
 up:Below w.heap.size w W
 row:W.ownsRow w.heap.size 54 7 (.slice A lE.length c) lE.length (cellsB lE)
 eq:lE.map Prod.fst=l
 kp: ∀x∈lE,Kept (fun b=>rowB A≠some b) W (x.1.sh,x.2)/\x.1.of_.length<=9223372036854775807/\x.1.name.length<=9223372036854775807
section
variable {w W W' : World} {l : List Bd} {lE : List BE} {A : Option Addr} {c : Nat}
theorem KD.new (h:KD w l lE A c W) (hb:Below W.heap.size W W'):KD w l lE A c W':=
 ⟨Z03 h.up hb |> fun x=>x,Z0w h.row hb,h.eq,fun x hx=>⟨(h.kp x hx).1.upd (T:=fun _=>False) (Upd.new hb) (fun _ _ _ h=>h),(h.kp x hx).2⟩⟩
section
variable (h : KD w l lE A c W)
include h
theorem KD.len:lE.length=l.length:=by have:=congrArg List.length h.eq; simpa using this
theorem KD.bds:BdsAt W W.heap.size A l:=by
 have:=Z2l h.row rfl (fun x hx=>⟨(h.kp x hx).1.here,(h.kp x hx).2⟩);rw[h.eq] at this;exact this
theorem KD.put (x:BE) (hk:Kept (fun b=>rowB A≠some b) W (x.1.sh,x.2)) (h1:x.1.of_.length<=9223372036854775807) (h2:x.1.name.length<=9223372036854775807) {v:Value}
 (hr:W'.ownsRow w.heap.size 54 7 v (lE.length+1) (cellsB (lE++ [x]))) (hg:W.grownBy W' (rowB A)) (hat:v.ownBlock=rowB A\/v.ownBlock=some W.heap.size):
 ∃A' c',v= .slice A' (lE.length+1) c'/\KD w (l++ [x.1]) (lE++ [x]) A' c' W':=by
 obtain ⟨g,c',e⟩:=Z21 hr (by omega);have hu:Upd (fun x=>rowB A=some x) W W':=(Upd.refl _ W).grown hg (fun k h _=>h);rw[e] at hr hat;simp only[rowB_own] at hat;have hw:=h.up.size;refine ⟨_,c',e,h.up.trans (hu.below hw (fun x hx=>(Z0a h.row x hx).1)),by rw[List.length_append]; exact hr,by rw[List.map_append,h.eq]; rfl,fun y hy=> ?_⟩;have hmv: ∀z:El,Kept (fun b=>rowB A≠some b) W z->Kept (fun b=>rowB (some ⟨g,0,none⟩)≠some b) W' z:=fun z hz=>hz.move hu (fun b hb hf=>⟨hf,fun e=>by
  rcases hat with h3 | h3
  {exact hf (h3.symm.trans e)}
  · rw[h3] at e; cases e; omega⟩)
 rcases List.mem_append.1 hy with hy | hy
 {exact ⟨hmv _ (h.kp y hy).1,(h.kp y hy).2⟩}
 {rw[List.mem_singleton.1 hy];exact ⟨hmv _ hk,h1,h2⟩}
end
end
end SubM
end Go.Proofs.YtmeiijjpomcgcaaDoor
namespace Go.Proofs.YtmeiijjpomcgcaaDoor
section
open Go.RowKit Shp
abbrev Ky:=List UInt8×List UInt8
def keyV (k:Ky):Value:= .agg #[.string ⟨k.1.toArray⟩,.string ⟨k.2.toArray⟩]
def Fine (k:Ky):Prop:=k.1.length<=9223372036854775807/\k.2.length<=9223372036854775807
theorem Zc7:laidOutB Tryd.prog=true:=by kernel_rfl
theorem Zcr: (76:TypeId) < Tryd.prog.types.size:=of_decide_eq_true (by kernel_rfl)
theorem Zc8: (match Tryd.prog.underlying 76 with | some (.array _ _) | some (.struct _)=>true | _=>false)=true:=by kernel_rfl
theorem Zcs:Tryd.prog.keyType 76=true:=by kernel_rfl
theorem Z70:Tryd.prog.cellsOf 76=2:=by kernel_rfl
theorem Zct:Tryd.prog.cellsOf 9=1:=by kernel_rfl
theorem Z3g:Maps.Keyed Tryd.prog 76:=Maps.Keyed.of_law (deep_law_laid Zc7 (m:=2) (by omega) Zcr (by kernel_rfl) Zc8)
theorem Zc9: ∃m,Tryd.prog.types.size=m+2:=⟨Tryd.prog.types.size - 2,by have:2<=Tryd.prog.types.size:=of_decide_eq_true (by kernel_rfl); omega⟩
def KL (k:Ky):Lit:= .string (keyBytes [.string k.1,.string k.2])
theorem keyOf_keyV {k:Ky} (h:Fine k):keyOf Tryd.prog 76 (keyV k)=some (KL k):=by
 obtain ⟨m,hm⟩:=Zc9;have h1: (⟨k.1.toArray⟩:ByteArray).size<=maxLen:=by rw[Z0J]; unfold maxLen; exact h.1
 have h2: (⟨k.2.toArray⟩:ByteArray).size<=maxLen:=by rw[Z0J]; unfold maxLen; exact h.2
 unfold keyOf keyV KL;simp only[Tryd.underlying76];rw[if_pos (by simp[Zcs,Value.formed,Tryd.underlying76,Z70]),hm];unfold Program.keyLits;simp only[Tryd.underlying76,Value.cells];rw[if_pos ⟨by rw[Z70]; rfl,by simp⟩];simp[Zct,Program.keyLits,Tryd.underlying9,h1,h2]
theorem KL_inj {k k':Ky} (h:Fine k) (h':Fine k') (e:KL k=KL k'):k=k':=by
 have h1:=keyOf_keyV h;rw[e] at h1;have:=Z3g.inj h1 (keyOf_keyV h');unfold keyV at this;simp at this;exact Prod.ext this.1 this.2
theorem KL_key (k:Ky):WideAt.IsKeyLit (KL k):=trivial
def slEl:Value->Option (DataW Unit×List MemPlace)
 | .slice none n c=>some (.agg [.lit (.int .i64 (n:Int)),.lit (.int .i64 (c:Int))],[])
 | .slice (some ⟨g,o,none⟩) n c=>some (.agg [.lit (.int .i64 (g:Int)),.lit (.int .i64 (o:Int)),.lit (.int .i64 (n:Int)),.lit (.int .i64 (c:Int))],[])
 | _=>none
theorem slEl_inj {v v':Value} {d:DataW Unit} {p p':List MemPlace} (h:slEl v=some (d,p)) (h':slEl v'=some (d,p')):v=v':=by
 unfold slEl at h h';split at h <;> split at h' <;> simp only[Option.some.injEq,Prod.mk.injEq,reduceCtorEq] at h h'
 {obtain ⟨rfl,_⟩:=h;simp at h';obtain ⟨⟨h1,h2⟩,_⟩:=h';congr 1 <;> omega}
 {obtain ⟨rfl,_⟩:=h;simp at h'}
 {obtain ⟨rfl,_⟩:=h;simp at h'}
 {obtain ⟨rfl,_⟩:=h;simp at h';obtain ⟨⟨h1,h2,h3,h4⟩,_⟩:=h';simp only[Value.slice.injEq,Option.some.injEq,Addr.mk.injEq,and_true];refine ⟨⟨?_, ?_⟩, ?_, ?_⟩ <;> omega}
theorem zero_sl (w:World): (zeroValue 90).run Tryd.prog w= .ok (.slice none 0 0) w:=by kernel_rfl
def Mp (W:World) (b N:Nat) (S:List Ky) (m:Ky->Value):Prop:=
 ∃D:DataW Unit,W.ownsMap Tryd.prog 76 slEl b N D/\Maps.size D=S.length/\S.Nodup/\(∀k∈S,Fine k)/\(∀k,Fine k->(Maps.has D (KL k)=true ↔ k∈S))/\
  ∀k,Fine k-> ∃p,slEl (if k∈S then m k else .slice none 0 0)=some (D.atKey (KL k) (.agg [.lit (.int .i64 0),.lit (.int .i64 0)]),p)
theorem Mp.made (W:World) (m:Ky->Value):Mp (W.alloc (.map #[] 0)) W.heap.size 0 [] m:=by
 refine ⟨.map [],World.ownsMap_made _ _ _ _,rfl,List.nodup_nil,nofun,fun k _=>⟨fun h=>by simp[Maps.has] at h,nofun⟩,fun k _=>⟨[], ?_⟩⟩;rw[if_neg (by simp)];rfl
theorem Mp.lt {W:World} {b N:Nat} {S:List Ky} {m:Ky->Value} (h:Mp W b N S m):b < W.heap.size:=by obtain ⟨_,h,_⟩:=h; exact h.lt
theorem Mp.kept {W W':World} {b N:Nat} {S:List Ky} {m:Ky->Value} (h:Mp W b N S m) {row:Option Nat} (hg:W.grownBy W' row) (hne:some b≠row):Mp W' b N S m:=by
 obtain ⟨D,h1,h2⟩:=h; exact ⟨D,h1.kept hg hne,h2⟩
theorem Mp.same {W W':World} {b N:Nat} {S:List Ky} {m:Ky->Value} (h:Mp W b N S m) (hb:W'.heap[b]? =W.heap[b]?):Mp W' b N S m:=by
 obtain ⟨D,⟨es,clock,h0,h1⟩,h2⟩:=h; exact ⟨D,⟨es,clock,hb.trans h0,h1⟩,h2⟩
theorem Mp.look {W:World} {b N:Nat} {S:List Ky} {m:Ky->Value} (h:Mp W b N S m) {k:Ky} (hk:Fine k):
 (Instr.lookup 67 (.map (some b)) (keyV k) false).run Tryd.prog W= .ok (if k∈S then m k else .slice none 0 0) W:=by
 obtain ⟨D,h1,_,_,_,_,h6⟩:=h;obtain ⟨v,ps,hr,hv⟩:=h1.lookup Z3g Tryd.underlying67 (zero_sl W) (zd:= .agg [.lit (.int .i64 0),.lit (.int .i64 0)]) (zp:= []) rfl (keyOf_keyV hk);obtain ⟨p,hp⟩:=h6 k hk;rw[hr,slEl_inj hv hp]
theorem Mp.len {W:World} {b N:Nat} {S:List Ky} {m:Ky->Value} (h:Mp W b N S m) (ty:TypeId):
 (Builtin.len_ #[67] ty #[.map (some b)]).run Tryd.prog W= .ok (.int .i64 S.length) W:=by
 obtain ⟨D,h1,h2,_⟩:=h;rw[h1.len Tryd.underlying67 ty,h2]
theorem Mp.put {W:World} {b N:Nat} {S:List Ky} {m:Ky->Value} (h:Mp W b N S m) {k:Ky} (hk:Fine k) (hN:N < maxLen) {v:Value} {z:DataW Unit×List MemPlace} (hv:slEl v=some z):
 ∃W',(Instr.mapUpdate 67 (.map (some b)) (keyV k) v).run Tryd.prog W= .ok () W'/\Mp W' b (N+1) (if k∈S then S else k::S) (fun x=>if x=k then v else m x)/\W.mapTurned W' b:=by
 obtain ⟨D,h1,h2,h3,h4,h5,h6⟩:=h;obtain ⟨W',hr,ho,hg⟩:=h1.store Z3g Tryd.underlying67 hN (keyOf_keyV hk) (ps:=z.2) (d:=z.1) (by rw[hv]);have hT:=h1.tidy Z3g;have hsz:=Maps.size_put (k:=KL k) hT z.1;have hmem: ∀x,x∈(if k∈S then S else k::S) ↔ x=k\/x∈S:=fun x=>by
  by_cases e:k∈S
  {rw[if_pos e]; exact ⟨Or.inr,fun h=>h.elim (fun h=>h▸e) id⟩}
  {rw[if_neg e]; exact List.mem_cons}
 refine ⟨W',hr,⟨D.put (KL k) z.1,ho, ?_, ?_, ?_, ?_, ?_⟩,hg⟩
 {rw[hsz,h2];by_cases e:k∈S
  {rw[if_pos ((h5 k hk).2 e),if_pos e]}
  {rw[if_neg (fun h=>e ((h5 k hk).1 h)),if_neg e]; rfl}}
 {by_cases e:k∈S
  {rw[if_pos e]; exact h3}
  {rw[if_neg e]; exact List.nodup_cons.2 ⟨e,h3⟩}}
 {intro x hx;rcases (hmem x).1 hx with rfl | hx
  {exact hk}
  {exact h4 x hx}}
 {intro x hx;rw[hmem];by_cases e:x=k
  {subst e;exact ⟨fun _=>Or.inl rfl,fun _=>Maps.has_put_same h1.isMap (KL_key _) _⟩}
  {rw[Maps.has_put_other (fun h=>e (KL_inj hx hk h)),h5 x hx];exact ⟨Or.inr,fun h=>h.resolve_left e⟩}}
 {intro x hx;by_cases e:x=k
  {subst e;refine ⟨z.2, ?_⟩;rw[if_pos ((hmem _).2 (Or.inl rfl))];simp only[if_true];rw[Maps.atKey_put_same h1.isMap (KL_key _),hv]}
  {obtain ⟨p,hp⟩:=h6 x hx;refine ⟨p, ?_⟩;rw[Maps.atKey_put_other (fun h=>e (KL_inj hx hk h)), <-hp];by_cases e2:x∈S
   {rw[if_pos ((hmem x).2 (Or.inr e2)),if_pos e2]; simp only[if_neg e]}
   {rw[if_neg (fun h=>e2 (((hmem x).1 h).resolve_left e)),if_neg e2]}}}
theorem Mp.del {W:World} {b N:Nat} {S:List Ky} {m:Ky->Value} (h:Mp W b N S m) {k:Ky} (hk:Fine k) (ty:TypeId):
 ∃W',(Builtin.delete_ #[67,76] ty #[.map (some b),keyV k]).run Tryd.prog W= .ok (.tuple #[]) W'/\Mp W' b N (S.filter (· ≠k)) m/\W.mapTurned W' b:=by
 obtain ⟨D,h1,h2,h3,h4,h5,h6⟩:=h;obtain ⟨W',hr,ho,hg⟩:=h1.drop Z3g Tryd.underlying67 (keyOf_keyV hk) ty;have hT:=h1.tidy Z3g;have hsz:=Maps.size_del (k:=KL k) hT;have hmem: ∀x,x∈S.filter (· ≠k) ↔ x∈S/\x≠k:=fun x=>by simp[List.mem_filter]
 have hlen: (S.filter (· ≠k)).length+(if k∈S then 1 else 0)=S.length:=by
  clear h2 h4 h5 h6 hsz hmem;induction S with
  | nil=>rfl
  | cons a S ih=>
   rw[List.nodup_cons] at h3;have:=ih h3.2;by_cases e:a=k
   {subst e;have hf:S.filter (· ≠a)=S:=List.filter_eq_self.2 (fun x hx=>by simp; rintro rfl; exact h3.1 hx)
    rw[List.filter_cons_of_neg (by simp),hf,if_pos (by simp)]; rfl}
   {rw[List.filter_cons_of_pos (by simp[e]),List.length_cons,List.length_cons];have: (k∈a::S) ↔ k∈S:=by simp[Ne.symm e]
    by_cases e2:k∈S
    {rw[if_pos (this.2 e2)]; rw[if_pos e2] at *; omega}
    {rw[if_neg (fun h=>e2 (this.1 h))]; rw[if_neg e2] at *; omega}}
 refine ⟨W',hr,⟨D.del (KL k),ho, ?_, ?_, ?_, ?_, ?_⟩,hg⟩
 {rw[h2] at hsz;by_cases e:k∈S
  {rw[if_pos ((h5 k hk).2 e)] at hsz; rw[if_pos e] at hlen; omega}
  {rw[if_neg (fun h=>e ((h5 k hk).1 h))] at hsz; rw[if_neg e] at hlen; omega}}
 {exact h3.filter _}
 {exact fun x hx=>h4 x ((hmem x).1 hx).1}
 {intro x hx;rw[hmem];by_cases e:x=k
  {subst e;rw[Maps.has_del_same];exact ⟨nofun,fun h=>absurd rfl h.2⟩}
  {rw[Maps.has_del_other (fun h=>e (KL_inj hx hk h)),h5 x hx];exact ⟨fun h=>⟨h,e⟩,fun h=>h.1⟩}}
 {intro x hx;by_cases e:x=k
  {subst e;refine ⟨[], ?_⟩;rw[if_neg (fun h=>((hmem _).1 h).2 rfl),Maps.atKey_del_same]; rfl}
  {obtain ⟨p,hp⟩:=h6 x hx;refine ⟨p, ?_⟩;rw[Maps.atKey_del_other (fun h=>e (KL_inj hx hk h)), <-hp];by_cases e2:x∈S
   {rw[if_pos ((hmem x).2 ⟨e2,e⟩),if_pos e2]}
   {rw[if_neg (fun h=>e2 ((hmem x).1 h).1),if_neg e2]}}}
end
end Go.Proofs.YtmeiijjpomcgcaaDoor
