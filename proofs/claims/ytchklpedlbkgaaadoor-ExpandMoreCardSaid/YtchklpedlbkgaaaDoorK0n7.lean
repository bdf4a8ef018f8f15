/- What the proofs of ExpandMore want, part 7. -/
import Derived.Shelf.RegionOpen
import Derived.WalkSmall
import Derived.MakeChecks
import Derived.Test.YtchklpedlbkgaaaDoorK0n6
set_option linter.unusedVariables false
set_option linter.unusedSimpArgs false
set_option linter.unusedSectionVars false
set_option maxRecDepth 100000
set_option maxHeartbeats 16000000
namespace Go.Proofs.YtchklpedlbkgaaaDoor
section
open Go.RowKit Shp
open Expd (Bd fill keys find put)
attribute [local go_sem] Oper.semAt_some
def fdW (w:World) (t:Sh) (q:Ptr):World:=(w.alloc (.cells (Y8 t q) 25)).alloc (.cells Yb 25)
theorem ZbU (w:World) (t:Sh) (q:Ptr) (k:Nat): (fdW w t q).frozen? ⟨w.heap.size,k,none⟩=false:=by
 unfold fdW;rw[frozen?_alloc_cells,frozen?_alloc_cells];simp[World.frozen?]
def Zc4 (W:World) (h:Nat):Prop:=W.cell? ⟨h,0,none⟩=some (.int .i64 0)/\W.cell? ⟨h,1,none⟩=some (.string ⟨#[]⟩)/\W.cell? ⟨h,2,none⟩=some (.string ⟨#[]⟩)/\W.cell? ⟨h,3,none⟩=some (.slice none 0 0)/\W.cell? ⟨h,4,none⟩=some (.slice none 0 0)
def Res0 (W:World) (h:Nat):Prop:=Zc4 W h/\ ∀k,W.frozen? ⟨h,k,none⟩=false
theorem Z5j (w:World) (t:Sh) (q:Ptr):Res0 (fdW w t q) (w.heap.size+1):=by
 refine ⟨⟨by simp[fdW,go_sem],by simp[fdW,go_sem],by simp[fdW,go_sem],by simp[fdW,go_sem],by simp[fdW,go_sem]⟩,fun k=> ?_⟩;unfold fdW;rw[frozen?_alloc_cells,frozen?_alloc_cells];simp[World.frozen?]
theorem Res0.of {W W':World} {h:Nat} (H:Res0 W h) (hc: ∀k,W'.cell? ⟨h,k,none⟩=W.cell? ⟨h,k,none⟩) (hf: ∀k,W'.frozen? ⟨h,k,none⟩=W.frozen? ⟨h,k,none⟩):Res0 W' h:=by
 obtain ⟨⟨z0,z1,z2,z3,z4⟩,z⟩:=H;exact ⟨⟨(hc 0).trans z0,(hc 1).trans z1,(hc 2).trans z2,(hc 3).trans z3,(hc 4).trans z4⟩,fun k=>(hf k).trans (z k)⟩
theorem Res0.keep {W W':World} {h B:Nat} (H:Res0 W h) (hb:Below B W W') (hh:h < B):Res0 W' h:=H.of (fun k=>hb.cell (p:=⟨h,k,none⟩) hh) (fun k=>hb.frozen (p:=⟨h,k,none⟩) hh)
abbrev bdC (b:Bd) (q:Ptr):Array Value:=#[.string ⟨b.of_.toArray⟩,.string ⟨b.name.toArray⟩,.int .i64 b.sh.kind,.string ⟨b.sh.of_.toArray⟩,.string ⟨b.sh.name.toArray⟩,.slice q.A b.sh.names.length q.c,.slice q.P b.sh.parts.length q.d]
theorem Z4k (t:Sh) (q:Ptr) (L:List Bd) (A:Option Addr) (cap:Nat) (w:World) (hq:ShAt w w.heap.size q t) (hz:size t<=400) (hr:right t=true) (hL:BdsAt w w.heap.size A L) (hl:L.length<=1000):
 Calls Tryd.prog 21 #[shV t q,.slice A L.length cap] w fun e w'=> ∃(u:Sh) (q':Ptr) (ok:Bool),e= .returned (.tuple #[shV u q',.bool ok])/\ok=(put (find L) t).isSome/\(ok=true->put (find L) t=some u)/\ShAt w' w'.heap.size q' u/\Below w.heap.size w w':=by
 have hb0:Below w.heap.size w (fdW w t q):=Z0i (Z00 _ _) _;have hz0: (fdW w t q).heap.size=w.heap.size+2:=by simp[fdW]
 have c0:Sh5 (fdW w t q) w.heap.size 0 t q:=⟨by simp[fdW,go_sem],by simp[fdW,go_sem],by simp[fdW,go_sem],by simp[fdW,go_sem],by simp[fdW,go_sem]⟩;have HB0:=Y1 hb0;have HZ0:=Y1 hz0;have HQ:=Y1 (hq.next hb0);have HC0:=Y1 c0;obtain ⟨e0,e1,e2,e3,e4⟩:=c0;have HLL:=Y1 hL;have HR:=Y1 hr;have HSZ:=Y1 hz;have HLN:=Y1 hl;clear hb0 hz0 hq hr hz hL hl;unfold shV;refine (callsIn_wide (n:=6)).1 ?_;refine callsIn_of_wp_marks Tryd.func21 rfl trivial ?_ rfl;simp only[Tryd.ntmps21,List.size_toArray,List.length_cons,List.length_nil,Nat.reduceAdd,Nat.reduceSub,Array.replicate_succ,Array.replicate_zero,List.push_toArray,List.append_toArray,List.nil_append,List.cons_append]
 gi_wp2_with fail
 refine ⟨trivial,callsIn_wide.2 ?_⟩;change Calls _ _ _ (fdW w t q) _;have HS:=Y1 (Z4d t q (fdW w t q) HQ.out HSZ.out HR.out);have HFZ:Hid (∀k,(fdW w t q).frozen? ⟨w.heap.size,k,none⟩=false):=Y1 (ZbU w t q);have HZR:=Y1 (Z5j w t q);generalize fdW w t q=W0 at HB0 HZ0 HQ HC0 HS HFZ HZR e0 e1 e2 e3 e4 ⊢;refine HS.out.mono ?_;rintro e w1 ⟨q1,F,rfl,ho, -,hF,hb1⟩;have hz0:=HZ0.out;have hz1:=hb1.size;obtain ⟨a0,a1,a2,a3,a4⟩:=HC0.out.keep (show w.heap.size < W0.heap.size by omega) hb1;have fz: ∀k,w1.frozen? ⟨w.heap.size,k,none⟩=false:=fun k=>(hb1.frozen (p:=⟨w.heap.size,k,none⟩) (show w.heap.size < W0.heap.size by omega)).trans (HFZ.out k);have f0:=fz 0;have f1:=fz 1;have f2:=fz 2;have f3:=fz 3;have f4:=fz 4;have HO:=Y1 ho;have HF:=Y1 hF;have HB1:=Y1 hb1;have HF1:=Y1 fz;simp only[Nat.zero_add] at a0 a1 a2 a3 a4;clear ho hF hb1 fz e0 e1 e2 e3 e4 HS hz0 hz1 HFZ
 gi_wp2_with fail
 have hput:Sh5 (put5 w1 w.heap.size (.int .i64 t.kind) (.string ⟨t.of_.toArray⟩) (.string ⟨t.name.toArray⟩) (.slice q1.A t.names.length q1.c) (.slice q1.P t.parts.length q1.d)) w.heap.size 0 t q1:=by
  have:=Z2c (W:=w1) (g:=w.heap.size) (o:=0) (s:=t) (q:=q1) (fun k hk=>by
   match k,hk with
   | 0,_=>exact ⟨_,a0⟩
   | 1,_=>exact ⟨_,a1⟩
   | 2,_=>exact ⟨_,a2⟩
   | 3,_=>exact ⟨_,a3⟩
   | 4,_=>exact ⟨_,a4⟩)
  exact this
 have hown:Own (put5 w1 w.heap.size (.int .i64 t.kind) (.string ⟨t.of_.toArray⟩) (.string ⟨t.name.toArray⟩) (.slice q1.A t.names.length q1.c) (.slice q1.P t.parts.length q1.d)) q1 t F:=Z1a HO.out (fun x hx e=>by have:=HF.out x hx; have:=HZ0.out; omega) _ _ _ _ _;have hbel:Below w.heap.size w (put5 w1 w.heap.size (.int .i64 t.kind) (.string ⟨t.of_.toArray⟩) (.string ⟨t.name.toArray⟩) (.slice q1.A t.names.length q1.c) (.slice q1.P t.parts.length q1.d)):=Z0n (Z02 HB0.out HB1.out) (Nat.le_refl _) _ _ _ _ _;have hfz: ∀k,(put5 w1 w.heap.size (.int .i64 t.kind) (.string ⟨t.of_.toArray⟩) (.string ⟨t.name.toArray⟩) (.slice q1.A t.names.length q1.c) (.slice q1.P t.parts.length q1.d)).frozen? ⟨w.heap.size,k,none⟩=false:=fun k=>by
  unfold put5; simp only[World.frozen?_setCell]; exact HF1.out k
 have hsz:w1.heap.size=(put5 w1 w.heap.size (.int .i64 t.kind) (.string ⟨t.of_.toArray⟩) (.string ⟨t.name.toArray⟩) (.slice q1.A t.names.length q1.c) (.slice q1.P t.parts.length q1.d)).heap.size:=by simp[put5,World.setCell]
 have hres: ∀k,(put5 w1 w.heap.size (.int .i64 t.kind) (.string ⟨t.of_.toArray⟩) (.string ⟨t.name.toArray⟩) (.slice q1.A t.names.length q1.c) (.slice q1.P t.parts.length q1.d)).cell? ⟨w.heap.size+1,k,none⟩=W0.cell? ⟨w.heap.size+1,k,none⟩:=fun k=>by
  have ne: ∀j,(⟨w.heap.size,j,none⟩:Addr)≠⟨w.heap.size+1,k,none⟩:=fun j e=>by simp only[Addr.mk.injEq,and_true] at e; omega
  unfold put5;rw[World.cell?_setCell_other _ _ _ _ (ne 4),World.cell?_setCell_other _ _ _ _ (ne 3),World.cell?_setCell_other _ _ _ _ (ne 2),World.cell?_setCell_other _ _ _ _ (ne 1),World.cell?_setCell_other _ _ _ _ (ne 0)];exact HB1.out.cell (p:=⟨w.heap.size+1,k,none⟩) (by have:=HZ0.out; show w.heap.size+1 < _; omega)
 have hrf: ∀k,(put5 w1 w.heap.size (.int .i64 t.kind) (.string ⟨t.of_.toArray⟩) (.string ⟨t.name.toArray⟩) (.slice q1.A t.names.length q1.c) (.slice q1.P t.parts.length q1.d)).frozen? ⟨w.heap.size+1,k,none⟩=W0.frozen? ⟨w.heap.size+1,k,none⟩:=fun k=>by
  unfold put5; simp only[World.frozen?_setCell];exact HB1.out.frozen (p:=⟨w.heap.size+1,k,none⟩) (by have:=HZ0.out; show w.heap.size+1 < _; omega)
 have hR0:=HZR.out.of hres hrf;have hge:w.heap.size+2<=w1.heap.size:=by have:=HZ0.out; have:=HB1.out.size; omega
 rw[hsz] at hge;clear hres hrf;unfold put5 at hput hown hbel hfz hsz hR0 hge;generalize ((((w1.setCell ⟨w.heap.size,0,none⟩ (.int .i64 t.kind)).setCell ⟨w.heap.size,1,none⟩ (.string ⟨t.of_.toArray⟩)).setCell ⟨w.heap.size,2,none⟩ (.string ⟨t.name.toArray⟩)).setCell ⟨w.heap.size,3,none⟩ (.slice q1.A t.names.length q1.c)).setCell ⟨w.heap.size,4,none⟩ (.slice q1.P t.parts.length q1.d)=W1 at hput hown hbel hfz hsz hR0 hge ⊢;have HPU:=Y1 hput;have HOW:=Y1 hown;have HBE:=Y1 hbel;have HFZ:=Y1 hfz;have HRS:=Y1 hR0;have HGE:=Y1 hge;clear HZR hput hown hbel hfz hR0 hge hsz a0 a1 a2 a3 a4 f0 f1 f2 f3 f4;rw[run_makeMap]
 gi_wp2_with fail
 refine ⟨trivial,callsIn_wide.2 ?_⟩;have hlt:w.heap.size < W1.heap.size:=by have:=HGE.out; omega
 have hFlt:=HOW.out.lt;have hb2:Below W1.heap.size W1 ((W1.alloc (.map #[] 0)).alloc (.cells #[.map (some W1.heap.size)] 69)):=Z0i (Z00 _ _) _;obtain ⟨pl,hPW,hpl1,hpl2⟩:=Zbu (HOW.out.of (fun b hb=>⟨fun k=>hb2.cell (p:=⟨b,k,none⟩) (hFlt b hb),fun k=>hb2.frozen (p:=⟨b,k,none⟩) (hFlt b hb)⟩) hb2.size) w.heap.size 0 hlt hFlt ((HPU.out).keep hlt hb2) HR.out;have hP:=hPW _ (fun _ _ _=>rfl) (fun _=>rfl);have hfz2: ∀e∈pl,∀c,((W1.alloc (.map #[] 0)).alloc (.cells #[.map (some W1.heap.size)] 69)).frozen? ⟨e.2.1,c,none⟩=false:=fun e he c=>by
  refine (hb2.frozen (p:=⟨e.2.1,c,none⟩) (hP.at_ e he).1).trans ?_;rcases hpl2 e he with h | h
  {rw[h]; exact HFZ.out c}
  {exact ZbT HOW.out _ h c}
 have hN:=Z8I _ W1.heap.size w.heap.size 0 t pl hP ((W1.alloc (.map #[] 0)).alloc (.cells #[.map (some W1.heap.size)] 69)) (W1.heap.size+2) W1.heap.size 0 [] (fun _=> .slice none 0 0) (fun _=> []) (fun _ _ _=>rfl) (Nat.le_refl _) (mkGrp W1 _) (by have:=HSZ.out; omega);have c1: ((W1.alloc (.map #[] 0)).alloc (.cells #[.map (some W1.heap.size)] 69)).cell? ⟨W1.heap.size+1,0,none⟩=some (.map (some W1.heap.size)):=by simp[go_sem]
 have hsz2: ((W1.alloc (.map #[] 0)).alloc (.cells #[.map (some W1.heap.size)] 69)).heap.size=W1.heap.size+2:=by simp
 have HN:=Y1 hN;have HP:=Y1 hP;have HPW:=Y1 hPW;have HP2:=Y1 (And.intro hpl1 hpl2);have HFZ2:=Y1 hfz2;have HB2:=Y1 hb2;have HZ2:=Y1 hsz2;have HC1:=Y1 c1;clear hlt hFlt hb2 hP hPW hpl1 hpl2 hfz2 hN c1 hsz2;generalize (W1.alloc (.map #[] 0)).alloc (.cells #[.map (some W1.heap.size)] 69)=Wm at HN HP HPW HFZ2 HB2 HZ2 HC1 ⊢;refine HN.out.mono ?_;rintro e W2 ⟨rfl,S,m,hG,hS,hU⟩;have hbm:Below W1.heap.size Wm W2:=⟨hU.os,hU.tape,hU.output,hU.size,fun x hx=>hU.block x (by have:=HZ2.out; omega) (by omega) nofun⟩;have c2:=(hU.cell (g:=W1.heap.size+1) (k:=0) (by have:=HZ2.out; omega) (by omega) nofun).trans HC1.out;have HG:=Y1 hG;have HS2:=Y1 hS;have HBM:=Y1 hbm;have HC2:=Y1 c2;clear hG hS hU hbm c2 HN HC1
 gi_wp2_with fail
 refine ⟨trivial,callsIn_wide.2 ?_⟩;refine (Z5N W2 A L.length cap).mono ?_;rintro e V ⟨rfl,hbx,hsV,hbV⟩;have hw1:w.heap.size<=W1.heap.size:=HBE.out.size;have hw2:W1.heap.size+2<=W2.heap.size:=by have:=HZ2.out; have:=HBM.out.size; omega
 have hbl:Below w.heap.size w V:=((HBE.out.trans (HB2.out.mono hw1)).trans (HBM.out.mono hw1)).trans (hbV.mono (by omega));have hG:=HG.out.keep hbV;have h0:F0 V W1.heap.size (W1.heap.size+2) (0+pl.length) S m (more (fun _=> []) pl):=Zc3 HP.out (HBM.out.trans (hbV.mono (by omega))) hG HFZ2.out;obtain ⟨g,off,qs,hBk⟩: ∃(g off:Nat) (qs:Nat->Ptr),Bk V w.heap.size W2.heap.size A cap L qs g off:=by
  have hll:=HLN.out;rcases HLL.out with h | ⟨g,off,qs,h1,h2,h3⟩
  {exact ⟨0,0,fun _=>q,hbx,by omega,by omega,Or.inl h,fun i hi=>absurd hi (by omega),hll⟩}
  {exact ⟨g,off,qs,hbx,by omega,by omega,Or.inr ⟨h1,h2⟩,fun i hi=>(h3 i hi).of (Nat.le_refl _) h2 (fun g k hg=>hbl.cell (p:=⟨g,k,none⟩) hg),hll⟩}
 have c3:=(hbV.cell (p:=⟨W1.heap.size+1,0,none⟩) (show W1.heap.size+1 < W2.heap.size by omega)).trans HC2.out;have H0:=Y1 h0;have HBK:=Y1 hBk;have HBL:=Y1 hbl;have HC3:=Y1 c3;have HBV:=Y1 hbV;have HSV:=Y1 hsV;have hps: ∀k,∀p∈more (fun _=> []) pl k,w.heap.size<=p.1/\p.1≠w.heap.size+1:=fun k p hp=>by
  rcases HP2.out.2 _ (Z1C.1 hp) with h | h
  {have h:p.1=w.heap.size:=h;omega}
  {have:=HF.out _ h;have:=HZ0.out;show w.heap.size<=p.1/\p.1≠w.heap.size+1;have h1:W0.heap.size<=p.1:=HF.out _ h;omega}
 have hRV:Res0 V (w.heap.size+1):=((HRS.out.keep HB2.out (by have:=HGE.out; omega)).keep HBM.out (by have:=HGE.out; omega)).keep hbV (by have:=HGE.out; omega);have hPV:=HP.out.of (Nat.le_refl _) (fun g k hg=>(HBM.out.trans (hbV.mono (by omega))).cell (p:=⟨g,k,none⟩) hg);have hSk: ∀x,x∈S ↔ x∈keys t:=fun x=>by rw[HS2.out, <-HP.out.keys]; simp
 have HPS:=Y1 hps;have HRV:=Y1 hRV;have HPV:=Y1 hPV;have HSK:=Y1 hSk;have HW:=Y1 (And.intro hw1 hw2);clear hbx hsV hbV hw1 hw2 hbl hG h0 hBk c3 HC2 HG hps hRV hPV hSk
 gi_wp2_with fail
 refine wpIn_rangeFunc_ownH rfl (by omega) (gf:=51) (lb:=#[.pointer (some ⟨W2.heap.size,0,none⟩)]) rfl trivial (enters_of Tryd.func51 (by kernel_rfl) rfl)
  (Zb6 5 (by omega) V w.heap.size W2.heap.size A cap L qs g off HBK.out) (fun h k=>h.trans k) ?kb Y2 (fun _=>rfl)
  (fun pre W=>FJ V W1.heap.size (W1.heap.size+2) (0+pl.length) S m (more (fun _=> []) pl) (lkL L qs pre) W)
  (fun c pre W=>c= .exit 0/\ ∃pre0 x,pre=pre0++ [x]/\FJ V W1.heap.size (W1.heap.size+2) (0+pl.length) S m (more (fun _=> []) pl) (lkL L qs pre0) W/\(S.filter fun k=>(lkL L qs pre0 k).isNone)= [])
  ?oI ?oIx (H0.out.start) (fun x a' W=> ∃Bx,V.heap.size<=Bx/\W.heap[Bx]? =some (.cells (bdC (L.getD x noBd) (qs x)) 54)/\a'= { tmps:=#[.agg (Y8 t q),.slice A L.length cap,.pointer (some ⟨w.heap.size,0,none⟩),undef,.pointer (some ⟨w.heap.size+1,0,none⟩),.bool false,.pointer (some ⟨W1.heap.size+1,0,none⟩),undef,.pointer (some ⟨Bx,0,none⟩),
   .agg (Y8 t q),.agg (Y8 t q1),.map (some W1.heap.size),.agg #[.map (some W1.heap.size)],.agg #[.map (some W1.heap.size)],.tuple #[],.slice A L.length cap,.func (.func 51) #[] #[.pointer (some ⟨W2.heap.size,0,none⟩)],.int .i64 (x:Int),bdV (L.getD x noBd) (qs x),undef,undef,undef,undef,undef,undef,undef,undef,undef,undef,undef,undef,undef,undef],defers:= [] }) ?oAx ?assign ?body ?done ?stop
 case kb=>
  have h1:=HBL.out.size;have h2:=HSV.out;intro W l o o' hl ho hc hwk;exact ⟨belowK_b (w:=V) h1 W l o o' hl ho hc hwk,(grownBy_putObj' W l o').block W2.heap.size (by have:=(Array.getElem?_eq_some_iff.1 ho).1; omega) (fun e=>by cases e; omega)⟩
 case oI=>exact fun pre X Y row hs hg hr=>hs.grown H0.out hg (fun r e=>(hr r e).1)
 case oIx=>exact fun c pre X Y row ⟨h1,pre0,x,h2,h3,h4⟩ hg hr=>⟨h1,pre0,x,h2,h3.grown H0.out hg (fun r e=>(hr r e).1),h4⟩
 case oAx=>
  intro x a' _ X Y row ⟨Bx,h1,h2,h3⟩ hg hr;refine ⟨Bx,h1,(hg.block Bx (Array.getElem?_eq_some_iff.1 h2).1 (fun e=> ?_)).trans h2,h3⟩;obtain ⟨_,o,ho,hc⟩:=hr Bx e.symm;rw[h2] at ho;cases ho;cases hc
 case assign=>
  rintro l pre x W K hI hK;generalize hbk:L.getD x noBd=bk at hK ⊢
  gi_wp2
  have hb:=Z00 W (.cells (bdC bk (qs x)) 54);exact hK _ _ (Z2x _ hb) ⟨hb.mono (by have:=HBL.out.size; have:=hI.fi.size; omega),hb.block _ (by have:=hI.fi.size; have:=HSV.out; omega)⟩ (hI.next H0.out hb) ⟨W.heap.size,hI.fi.size,World.alloc_heap_new W _,rfl⟩
 case body=>
  rintro l pre x a' W hl hrec hI ⟨Bx,hBx,hbx,rfl⟩ hlt;have c3:=(hI.cell (x:=W1.heap.size+1) (by have:=HSV.out; have:=HW.out.2; omega) (by omega) (fun k p hp=>by have:=H0.out.pl k p hp; omega) 0).trans HC3.out;generalize hbk:L.getD x noBd=bk at hbx ⊢
  gi_wp2_with fail
  refine ⟨trivial,CallsIn.inRound l (callsIn_wide.2 ?_)⟩;refine (Z4i W W1.heap.size (0+pl.length) _ m hI.gr.mp).mono ?_;rintro e Wc ⟨rfl,hbc⟩;have hIc:=hI.next H0.out hbc;have hkc:=Z2x V.heap.size hbc;have hzW:=hI.fi.size;have hzV:=HSV.out;have hzw:=HBL.out.size;have hbkc:BkK w.heap.size W2.heap.size W Wc:=⟨hbc.mono (by omega),hbc.block _ (by omega)⟩;have c4:=(hbc.cell (p:=⟨W1.heap.size+1,0,none⟩) (show W1.heap.size+1 < W.heap.size by have:=HW.out.2; omega)).trans c3;have hxb:=(hbc.block Bx (Array.getElem?_eq_some_iff.1 hbx).1).trans hbx;by_cases hcl: (S.filter fun k=>(lkL L qs pre k).isNone)= []
  {rw[decide_eq_true hcl];clear hrec hbx c3 hbc hxb hbkc
   gi_wp2
   exact ⟨hkc,rfl,pre,x,rfl,hIc,hcl⟩}
  {rw[decide_eq_false hcl];have b0:Wc.cell? ⟨Bx,0,none⟩=some (.string ⟨bk.of_.toArray⟩):=by simp[World.cell?,hxb]
   have b1:Wc.cell? ⟨Bx,1,none⟩=some (.string ⟨bk.name.toArray⟩):=by simp[World.cell?,hxb]
   have b2:Wc.cell? ⟨Bx,2,none⟩=some (.int .i64 bk.sh.kind):=by simp[World.cell?,hxb]
   have b3:Wc.cell? ⟨Bx,3,none⟩=some (.string ⟨bk.sh.of_.toArray⟩):=by simp[World.cell?,hxb]
   have b4:Wc.cell? ⟨Bx,4,none⟩=some (.string ⟨bk.sh.name.toArray⟩):=by simp[World.cell?,hxb]
   have b5:Wc.cell? ⟨Bx,5,none⟩=some (.slice (qs x).A bk.sh.names.length (qs x).c):=by simp[World.cell?,hxb]
   have b6:Wc.cell? ⟨Bx,6,none⟩=some (.slice (qs x).P bk.sh.parts.length (qs x).d):=by simp[World.cell?,hxb]
   have HIC:=Y1 hIc;have HKC:=Y1 hkc;have HBKC:=Y1 hbkc;have HZZ:=Y1 (And.intro hzW (And.intro hzV hzw));have HZC:=Y1 hbc.size;clear hrec hbx c3 hbc hxb hbkc hIc hkc hI hzW hzV hzw
   gi_wp2_with fail
   have hfine:Fine (bk.of_,bk.name):=by
    rw[<-hbk];by_cases hxl:x < L.length
    {have:=(HBK.out.cells x hxl).2.2.2.2;rw[show L.getD x noBd=L[x]'hxl by simp[hxl]];exact this}
    {rw[show L.getD x noBd=noBd by simp[hxl]];exact ⟨by simp,by simp⟩}
   have hplen:0+pl.length<=1000:=by have:=HP2.out.1; have:=HSZ.out; omega
   refine ⟨trivial,CallsIn.inRound l (callsIn_wide.2 ?_)⟩;refine (Zaa Wc (W1.heap.size+2) W1.heap.size (0+pl.length) _ m _ (bk.of_,bk.name) bk.sh (qs x) hfine hplen HIC.out.gr (HIC.out.asks H0.out _)).mono ?_;rintro e Wf ⟨rfl,hgf,hff⟩;have hstep:=HIC.out.step H0.out hgf hff;have hask: ∀p∈(if (lkL L qs pre (bk.of_,bk.name)).isSome then [] else more (fun _=> []) pl (bk.of_,bk.name)),p.1 < W1.heap.size/\w.heap.size<=p.1:=fun p hp=>by
    refine ⟨(HIC.out.asks H0.out _ p hp).1, ?_⟩;by_cases e: (lkL L qs pre (bk.of_,bk.name)).isSome=true
    {rw[if_pos e] at hp; cases hp}
    {rw[if_neg e] at hp; exact (HPS.out _ p hp).1}
   have hkf:=Z5i (B:=V.heap.size) hff H0.out.bV (fun p hp=>(hask p hp).1);have hzz:=HZZ.out;have hzc:=HZC.out;have hww:=HW.out;have hbf:BkK w.heap.size W2.heap.size Wc Wf:=⟨⟨hff.os,hff.tape,hff.output,hff.size,fun y hy=>hff.block y (by omega) (by omega) (fun p hp=>by have:=(hask p hp).2; omega)⟩,hff.block _ (by omega) (by omega) (fun p hp=>by have:=(hask p hp).1; omega)⟩;have HST:=Y1 hstep;have HKF:=Y1 (HKC.out.trans hkf);have HBF:=Y1 (HBKC.out.trans hbf);clear hstep hgf hff hkf hbf hask hfine b0 b1 b2 b3 b4 b5 b6
   gi_wp2
   refine ⟨HKF.out,HBF.out, ?_⟩;show FJ V W1.heap.size (W1.heap.size+2) (0+pl.length) S m (more (fun _=> []) pl) (lkL L qs (pre++ [x])) Wf;rw[Zb9,hbk];exact HST.out}
 all_goals first
  | (
   rintro D xs W hD rfl hI hK;obtain ⟨k0,hI,han⟩: ∃k0,FJ V W1.heap.size (W1.heap.size+2) (0+pl.length) S m (more (fun _=> []) pl) (lkL L qs (downTo L.length k0)) W/\Ans S t L qs k0:=⟨0,by rw[Z2I]; exact hI,answer HSK.out (Or.inl rfl)⟩)
  | (
   rintro D c pre W hD ⟨k0,hk0,rfl⟩ ⟨rfl,pre0,x,hpre,hI,hcl⟩ hK;obtain rfl:pre0=downTo L.length (k0+1):=by
    rw[Z4j hk0] at hpre;exact ((List.append_inj' hpre rfl).1).symm
   obtain ⟨k0,hI,han⟩: ∃k0,FJ V W1.heap.size (W1.heap.size+2) (0+pl.length) S m (more (fun _=> []) pl) (lkL L qs (downTo L.length k0)) W/\Ans S t L qs k0:=⟨k0+1,hI,answer HSK.out (Or.inr hcl)⟩;clear hcl hpre hk0)
 all_goals
  have hzW:=hI.fi.size;have hzV:=HSV.out;have hzw:=HBL.out.size;have hww:=HW.out;have hge:=HGE.out;have hlow:=hI.low (n0:=w.heap.size) hzw hww.1 (fun k p hp=>(HPS.out k p hp).1);obtain ⟨q',hs5,hat⟩:=Z5v (hI.fi.read (by omega) (Nat.le_refl _)) (by omega) hww.1 (fun j hj=>(HBK.out.cells j hj).2.2.2.1.of (Nat.le_refl _) (fun g c hg=>hlow.cell (p:=⟨g,c,none⟩) hg)) HPV.out;have hbV:=HBM.out.trans (HBV.out.mono (by omega));have hend: ∀Wf:World,W.heap.size<=Wf.heap.size->(∀g c,g < W.heap.size->g≠w.heap.size+1->Wf.cell? ⟨g,c,none⟩=W.cell? ⟨g,c,none⟩)->ShAt Wf Wf.heap.size q' (fill (fun o n=>(lkL L qs (downTo L.length k0) (o,n)).map Prod.fst) t):=fun Wf hz hc=>by
   obtain ⟨o,ho⟩: ∃o,Wf.heap[w.heap.size+1]? =some o:=⟨Wf.heap[w.heap.size+1]'(by omega),Array.getElem?_eq_getElem (by omega)⟩;have e1: (V.putObj (w.heap.size+1) o).heap[w.heap.size+1]? =some o:=by
    simp only[World.putObj,Array.getElem?_setIfInBounds];rw[if_pos True.intro,if_pos (by omega)]
   have e2: ∀g,g≠w.heap.size+1->(V.putObj (w.heap.size+1) o).heap[g]? =V.heap[g]? :=fun g hg=>by
    simp only[World.putObj,Array.getElem?_setIfInBounds];rw[if_neg (fun e=>hg e.symm)]
   have c1: ∀c,(V.putObj (w.heap.size+1) o).cell? ⟨w.heap.size+1,c,none⟩=Wf.cell? ⟨w.heap.size+1,c,none⟩:=fun c=>World.cell?_of_block (w:=Wf) (e1.trans ho.symm);have c2: ∀g c,g≠w.heap.size+1->(V.putObj (w.heap.size+1) o).cell? ⟨g,c,none⟩=V.cell? ⟨g,c,none⟩:=fun g c hg=>World.cell?_of_block (w:=V) (e2 g hg);have hF2: ∀x∈F,x≠w.heap.size+1:=fun x hx e=>by have:=HF.out x hx; have:=HZ0.out; omega
   have hFl: ∀x∈F,x < W1.heap.size:=fun x hx=>HOW.out.lt x hx;have hP2:=HPW.out (V.putObj (w.heap.size+1) o) (fun x hx k=>(c2 x k (hF2 x hx)).trans (hbV.cell (p:=⟨x,k,none⟩) (hFl x hx))) (fun k=>(c2 _ k (by omega)).trans (hbV.cell (p:=⟨w.heap.size,k,none⟩) (show w.heap.size < W1.heap.size by omega)));have hR2:FlR W1.heap.size (V.putObj (w.heap.size+1) o) Wf (more (fun _=> []) pl) (lkL L qs (downTo L.length k0)):=⟨fun g c hg hp=>by
    by_cases e:g=w.heap.size+1
    {subst e; exact (c1 c).symm}
    · exact (hc g c (by omega) e).trans ((hI.fi.cell g c (by omega) (by omega) hp).trans (c2 g c e).symm),
    fun k s q e p hp=>(hI.fi.put k s q e p hp).of (fun c=>hc p.1 c (by have:=H0.out.lt k p hp; omega) (HPS.out k p hp).2)⟩
   obtain ⟨q2,h52,hat2⟩:=Z5v hR2 (by omega) hww.1 (fun j hj=>(HBK.out.cells j hj).2.2.2.1.of (Nat.le_refl _) (fun g c hg=>(hc g c (by omega) (by omega)).trans (hlow.cell (p:=⟨g,c,none⟩) hg))) hP2;have:=Zba hs5 h52 (fun c=>hc _ c (by omega) (by omega));subst this;exact hat2
  clear hat hbV;have c4:=(hI.cell (x:=W1.heap.size+1) (by omega) (by omega) (fun k p hp=>by have:=H0.out.pl k p hp; omega) 0).trans HC3.out;have hR:Res0 W (w.heap.size+1):=HRV.out.of (fun k=>hI.cell (by omega) (by omega) (fun k p hp=>(HPS.out k p hp).2) k) (fun k=>hI.fi.fz _ k (by omega) (by omega));have hmp:=hI.gr.mp;obtain ⟨a1,a2⟩:=han;have hcw: ∀W',W'.heap[W1.heap.size]? =W.heap[W1.heap.size]? ->Calls Tryd.prog 33 #[.agg #[.map (some W1.heap.size)]] W' fun e W''=>e= .returned (.bool (put (find L) t).isSome)/\Below W'.heap.size W' W'':=fun W' h=>by
   rw[<-a1]; exact Z4i W' W1.heap.size (0+pl.length) _ m (hmp.same h)
  have HCW:=Y1 hcw;generalize hdc: (put (find L) t).isSome=dc at HCW a2;have HDC:=Y1 hdc;clear hdc;generalize fill (fun o n=>(lkL L qs (downTo L.length k0) (o,n)).map Prod.fst) t=u at hs5 hend a2;clear a1;obtain ⟨s0,s1,s2,s3,s4⟩:=hs5;simp only[Nat.zero_mul,Nat.zero_add] at s0 s1 s2 s3 s4;have HEND:=Y1 hend;have HRW:=Y1 hR;have HLW:=Y1 (HBL.out.trans hlow);have HAN:=Y1 a2;have HD:=Y1 hK;have HZA:=Y1 (And.intro hzW (And.intro hzV (And.intro hzw (And.intro hww hge))));have r0:=hR.1.1;have r1:=hR.1.2.1;have r2:=hR.1.2.2.1;have r3:=hR.1.2.2.2.1;have r4:=hR.1.2.2.2.2;have y0:=hR.2 0;have y1:=hR.2 1;have y2:=hR.2 2;have y3:=hR.2 3;have y4:=hR.2 4;have HS5:Hid (Sh5 W w.heap.size 0 u q'):=Y1 ⟨s0,s1,s2,s3,s4⟩;clear hend hR hlow hI hK hzW hzV hzw hww hge a2 hmp hcw;have hmx:Tryd.prog.follows .mixedOrders=true:=by kernel_rfl
  gi_wp2_with fail
  refine wpIn_region_any (by assumption) ?_;change wpAnyIn _ _ _ _ _ _ _ _ _ (World.drew _);refine wpAnyIn_ready (rs:= [0,1]) (by kernel_rfl) (by simp) ?_;refine AllReadyIn.cons rfl (fun K hK=> ?_) (AllReadyIn.cons rfl (fun K hK=> ?_) AllReadyIn.nil)
  {go_simp;refine hK _ _ ?_;clear hK K;refine wpAnyIn_ready (rs:= [1]) (by kernel_rfl) (by simp) ?_;refine AllReadyIn.cons rfl (fun K hK=> ?_) AllReadyIn.nil;go_simp;refine hK _ _ ?_;clear hK K;refine wpAnyIn_ready (rs:= [2]) (by kernel_rfl) (by simp) ?_;refine AllReadyIn.cons rfl (fun K hK=> ?_) AllReadyIn.nil;go_simp
   gi_wp2_with fail
   refine ⟨trivial,callsIn_wide.2 ?_⟩;refine (HCW.out W.drew rfl).mono ?_;rintro e Wc ⟨rfl,hbc⟩;obtain ⟨hz1,hz2,hz3,hz4,hz5⟩:=HZA.out;have hbd:Below W.heap.size W Wc:=(Below.refl _ W).drew.trans hbc;obtain ⟨s0,s1,s2,s3,s4⟩:=HS5.out.keep (show w.heap.size < W.heap.size by omega) hbd;obtain ⟨⟨r0,r1,r2,r3,r4⟩,rf⟩:=HRW.out.keep hbd (show w.heap.size+1 < W.heap.size by omega);have y0:=rf 0;have y1:=rf 1;have y2:=rf 2;have y3:=rf 3;have y4:=rf 4;have HBD:=Y1 hbd;clear hz1 hz2 hz3 hz4 hz5 hbc rf hbd;simp only;refine hK _ _ ?_;clear hK K;refine wpAnyIn_ready (rs:= [3]) (by kernel_rfl) (by simp) ?_;refine AllReadyIn.cons rfl (fun K hK=> ?_) AllReadyIn.nil;go_simp;refine hK _ _ ?_;clear hK K;refine wpAnyIn_ready (rs:= [4]) (by kernel_rfl) (by simp) ?_;refine AllReadyIn.cons rfl (fun K hK=> ?_) AllReadyIn.nil;go_simp;refine hK _ _ ?_;clear hK K;refine wpAnyIn_done (by kernel_rfl) ?_ _
   gi_wp2
   obtain ⟨hz1,hz2,hz3,hz4,hz5⟩:=HZA.out;have hE:=Z3N (u:=u) (q':=q') HBD.out (show w.heap.size+1 < W.heap.size by omega) HD.out (fun k hk=>by
    match k,hk with
    | 0,_=>exact ⟨_,r0⟩
    | 1,_=>exact ⟨_,r1⟩
    | 2,_=>exact ⟨_,r2⟩
    | 3,_=>exact ⟨_,r3⟩
    | 4,_=>exact ⟨_,r4⟩) (by omega)
   change bodyPostM _ _ _ _ _ _ _ (putAt Wc (w.heap.size+1) 0 u q');generalize putAt Wc (w.heap.size+1) 0 u q'=Wf at hE ⊢;obtain ⟨g1,g2,⟨p0,p1,p2,p3,p4⟩,g4,g5⟩:=hE;have HAT:=Y1 (HEND.out _ g2 g4);have HFB:=Y1 (HLW.out.trans (g5 w.heap.size (by omega) (by omega)));simp only[Nat.zero_add] at p0 p1 p2 p3 p4;refine ⟨by simp,.inl ⟨_,_,rfl,run_takeDeferred g1, ?_⟩⟩;refine ⟨.tuple #[shV u q',.bool dc], ?_,u,q',dc,rfl,HDC.out.symm,HAN.out,HAT.out,HFB.out⟩;simp[results,Tryd.results21,go_sem,p0,p1,p2,p3,p4]}
  {go_simp;refine hK _ _ ?_;clear hK K;refine wpAnyIn_ready (rs:= [0,2]) (by kernel_rfl) (by simp) ?_;refine AllReadyIn.cons rfl (fun K hK=> ?_) (AllReadyIn.cons rfl (fun K hK=> ?_) AllReadyIn.nil)
   {go_simp;refine hK _ _ ?_;clear hK K;refine wpAnyIn_ready (rs:= [2]) (by kernel_rfl) (by simp) ?_;refine AllReadyIn.cons rfl (fun K hK=> ?_) AllReadyIn.nil;go_simp
    gi_wp2_with fail
    refine ⟨trivial,callsIn_wide.2 ?_⟩;refine (HCW.out W.drew rfl).mono ?_;rintro e Wc ⟨rfl,hbc⟩;obtain ⟨hz1,hz2,hz3,hz4,hz5⟩:=HZA.out;have hbd:Below W.heap.size W Wc:=(Below.refl _ W).drew.trans hbc;obtain ⟨s0,s1,s2,s3,s4⟩:=HS5.out.keep (show w.heap.size < W.heap.size by omega) hbd;obtain ⟨⟨r0,r1,r2,r3,r4⟩,rf⟩:=HRW.out.keep hbd (show w.heap.size+1 < W.heap.size by omega);have y0:=rf 0;have y1:=rf 1;have y2:=rf 2;have y3:=rf 3;have y4:=rf 4;have HBD:=Y1 hbd;clear hz1 hz2 hz3 hz4 hz5 hbc rf hbd;simp only;refine hK _ _ ?_;clear hK K;refine wpAnyIn_ready (rs:= [3]) (by kernel_rfl) (by simp) ?_;refine AllReadyIn.cons rfl (fun K hK=> ?_) AllReadyIn.nil;go_simp;refine hK _ _ ?_;clear hK K;refine wpAnyIn_ready (rs:= [4]) (by kernel_rfl) (by simp) ?_;refine AllReadyIn.cons rfl (fun K hK=> ?_) AllReadyIn.nil;go_simp;refine hK _ _ ?_;clear hK K;refine wpAnyIn_done (by kernel_rfl) ?_ _
    gi_wp2
    obtain ⟨hz1,hz2,hz3,hz4,hz5⟩:=HZA.out;have hE:=Z3N (u:=u) (q':=q') HBD.out (show w.heap.size+1 < W.heap.size by omega) HD.out (fun k hk=>by
     match k,hk with
     | 0,_=>exact ⟨_,r0⟩
     | 1,_=>exact ⟨_,r1⟩
     | 2,_=>exact ⟨_,r2⟩
     | 3,_=>exact ⟨_,r3⟩
     | 4,_=>exact ⟨_,r4⟩) (by omega)
    change bodyPostM _ _ _ _ _ _ _ (putAt Wc (w.heap.size+1) 0 u q');generalize putAt Wc (w.heap.size+1) 0 u q'=Wf at hE ⊢;obtain ⟨g1,g2,⟨p0,p1,p2,p3,p4⟩,g4,g5⟩:=hE;have HAT:=Y1 (HEND.out _ g2 g4);have HFB:=Y1 (HLW.out.trans (g5 w.heap.size (by omega) (by omega)));simp only[Nat.zero_add] at p0 p1 p2 p3 p4;refine ⟨by simp,.inl ⟨_,_,rfl,run_takeDeferred g1, ?_⟩⟩;refine ⟨.tuple #[shV u q',.bool dc], ?_,u,q',dc,rfl,HDC.out.symm,HAN.out,HAT.out,HFB.out⟩;simp[results,Tryd.results21,go_sem,p0,p1,p2,p3,p4]}
   {go_simp
    gi_wp2_with fail
    refine ⟨trivial,callsIn_wide.2 ?_⟩;refine (HCW.out W.drew rfl).mono ?_;rintro e Wc ⟨rfl,hbc⟩;obtain ⟨hz1,hz2,hz3,hz4,hz5⟩:=HZA.out;have hbd:Below W.heap.size W Wc:=(Below.refl _ W).drew.trans hbc;obtain ⟨s0,s1,s2,s3,s4⟩:=HS5.out.keep (show w.heap.size < W.heap.size by omega) hbd;obtain ⟨⟨r0,r1,r2,r3,r4⟩,rf⟩:=HRW.out.keep hbd (show w.heap.size+1 < W.heap.size by omega);have y0:=rf 0;have y1:=rf 1;have y2:=rf 2;have y3:=rf 3;have y4:=rf 4;have HBD:=Y1 hbd;clear hz1 hz2 hz3 hz4 hz5 hbc rf hbd;simp only;refine hK _ _ ?_;clear hK K;refine wpAnyIn_ready (rs:= [0]) (by kernel_rfl) (by simp) ?_;refine AllReadyIn.cons rfl (fun K hK=> ?_) AllReadyIn.nil;go_simp;refine hK _ _ ?_;clear hK K;refine wpAnyIn_ready (rs:= [3]) (by kernel_rfl) (by simp) ?_;refine AllReadyIn.cons rfl (fun K hK=> ?_) AllReadyIn.nil;go_simp;refine hK _ _ ?_;clear hK K;refine wpAnyIn_ready (rs:= [4]) (by kernel_rfl) (by simp) ?_;refine AllReadyIn.cons rfl (fun K hK=> ?_) AllReadyIn.nil;go_simp;refine hK _ _ ?_;clear hK K;refine wpAnyIn_done (by kernel_rfl) ?_ _
    gi_wp2
    obtain ⟨hz1,hz2,hz3,hz4,hz5⟩:=HZA.out;have hE:=Z3N (u:=u) (q':=q') HBD.out (show w.heap.size+1 < W.heap.size by omega) HD.out (fun k hk=>by
     match k,hk with
     | 0,_=>exact ⟨_,r0⟩
     | 1,_=>exact ⟨_,r1⟩
     | 2,_=>exact ⟨_,r2⟩
     | 3,_=>exact ⟨_,r3⟩
     | 4,_=>exact ⟨_,r4⟩) (by omega)
    change bodyPostM _ _ _ _ _ _ _ (putAt Wc (w.heap.size+1) 0 u q');generalize putAt Wc (w.heap.size+1) 0 u q'=Wf at hE ⊢;obtain ⟨g1,g2,⟨p0,p1,p2,p3,p4⟩,g4,g5⟩:=hE;have HAT:=Y1 (HEND.out _ g2 g4);have HFB:=Y1 (HLW.out.trans (g5 w.heap.size (by omega) (by omega)));simp only[Nat.zero_add] at p0 p1 p2 p3 p4;refine ⟨by simp,.inl ⟨_,_,rfl,run_takeDeferred g1, ?_⟩⟩;refine ⟨.tuple #[shV u q',.bool dc], ?_,u,q',dc,rfl,HDC.out.symm,HAN.out,HAT.out,HFB.out⟩;simp[results,Tryd.results21,go_sem,p0,p1,p2,p3,p4]}}
end
section
open Go.RowKit Shp Go.Sort
structure Swi (w wi:World) (ps:List Sh) (qs:Nat->Ptr) (Fs Fs':Nat->List Nat) (i:Nat):Prop where
 up:UpF ((List.range ps.length).flatMap Fs) w wi
 pm: ∀j,j < ps.length->(Fs' j).Perm (Fs j)
 lo: ∀j (h:j < ps.length),j < i->Own wi (qs j) (sorted (ps[j]'h)) (Fs' j)
 hi: ∀j (h:j < ps.length),i<=j->Own wi (qs j) (ps[j]'h) (Fs' j)
theorem Swi.start {w wi:World} {ps:List Sh} {qs:Nat->Ptr} {Fs:Nat->List Nat} (hr: ∀j (h:j < ps.length),Own w (qs j) (ps[j]'h) (Fs j)) (hb:Below w.heap.size w wi):Swi w wi ps qs Fs Fs 0:=
 ⟨(UpF.refl _ _).below hb,fun j _=>List.Perm.refl _,fun j _ h=>absurd h (by omega),fun j h _=>Z0p (hr j h) hb⟩
theorem Swi.below {w wi w2:World} {ps:List Sh} {qs:Nat->Ptr} {Fs Fs':Nat->List Nat} {i:Nat} (h:Swi w wi ps qs Fs Fs' i) (hb:Below wi.heap.size wi w2):Swi w w2 ps qs Fs Fs' i:=
 ⟨h.up.below hb,h.pm,fun j hj hl=>Z0p (h.lo j hj hl) hb,fun j hj hl=>Z0p (h.hi j hj hl) hb⟩
theorem Swi.step {w wi w2:World} {ps:List Sh} {qs:Nat->Ptr} {Fs Fs':Nat->List Nat} {i:Nat} {F':List Nat} (h:Swi w wi ps qs Fs Fs' i) (hi:i < ps.length)
 (hdis: ∀i j,i < ps.length->j < ps.length->i≠j-> ∀b∈Fs i,b∉Fs j) (hu:UpF (Fs' i) wi w2) (hp:F'.Perm (Fs' i)) (ho:Own w2 (qs i) (sorted (ps[i]'hi)) F'): ∃Fs2,Swi w w2 ps qs Fs Fs2 (i+1):=by
 have hfar: ∀j,j < ps.length->j≠i-> ∀b∈Fs' j,b∉Fs' i:=fun j hj hne b hb hb2=>
  hdis j i hj hi hne b ((h.pm j hj).mem_iff.1 hb) ((h.pm i hi).mem_iff.1 hb2)
 refine ⟨fun j=>if j=i then F' else Fs' j,h.up.next hu (fun x hx=>List.mem_flatMap.2 ⟨i,List.mem_range.2 hi,(h.pm i hi).mem_iff.1 hx⟩),fun j hj=> ?_,fun j hj hl=> ?_,fun j hj hl=> ?_⟩
 {by_cases e:j=i
  {subst e; simp only[if_true]; exact hp.trans (h.pm j hj)}
  {simp only[if_neg e]; exact h.pm j hj}}
 {by_cases e:j=i
  {subst e; simp only[if_true]; exact ho}
  {simp only[if_neg e];have ho2:=h.lo j hj (by omega);exact ho2.of (fun b hb=>hu.same (ho2.lt b hb) (hfar j hj e b hb)) hu.size}}
 {have e:j≠i:=by omega
  simp only[if_neg e];have ho2:=h.hi j hj (by omega);exact ho2.of (fun b hb=>hu.same (ho2.lt b hb) (hfar j hj e b hb)) hu.size}
def half (t:Sh):Sh:=⟨t.kind,t.of_,t.name,t.names,t.parts.map sorted⟩
theorem Z4X {t:Sh} {q:Ptr} (h:Small t q):Small (half t) q:=by
 obtain ⟨h1,h2,h3,h4,h5,h6,h7,h8,h9⟩:=h;exact ⟨h1,h2,h3,h4,by simpa[half] using h5,h6,by simpa[half] using h7,h8,h9⟩
theorem Swi.halfs {w wi:World} {t:Sh} {qs:Nat->Ptr} {Fs Fs':Nat->List Nat} (h:Swi w wi t.parts qs Fs Fs' t.parts.length): ∀i (hi:i < (half t).parts.length),Own wi (qs i) ((half t).parts[i]'hi) (Fs' i):=fun i hi=>by
 have hi2:i < t.parts.length:=by simpa[half] using hi
 have:=h.lo i hi2 hi2;simpa[half] using this
theorem Z5w {n:Nat} {Fs Fs':Nat->List Nat} (h: ∀j,j < n->(Fs' j).Perm (Fs j)): ((List.range n).flatMap Fs').Perm ((List.range n).flatMap Fs):=by
 induction n with
 | zero=>exact List.Perm.refl _
 | succ n ih=>
  rw[List.range_succ,List.flatMap_append,List.flatMap_append];refine (ih fun j hj=>h j (by omega)).append ?_;simpa using h n (by omega)
theorem Zac {w wi w2:World} {t:Sh} {q:Ptr} {FN FP:List Nat} {qs:Nat->Ptr} {Fs Fs':Nat->List Nat} (hr:right t=true) (hs:Small t q) (h0:t.names.length=0)
 (hn:t.names.length=0/\FN= []\/ ∃b,q.A=some ⟨b,0,none⟩/\FN= [b]/\TxR w b t.names) (hp:t.parts.length=0/\FP= []\/ ∃b,q.P=some ⟨b,0,none⟩/\FP= [b]/\PaR w b t.parts qs)
 (hnd: (FN++FP++(List.range t.parts.length).flatMap Fs).Nodup) (h:Swi w wi t.parts qs Fs Fs' t.parts.length) (hb:Below wi.heap.size wi w2):
 UpF (FN++FP++(List.range t.parts.length).flatMap Fs) w w2/\ ∃F',F'.Perm (FN++FP++(List.range t.parts.length).flatMap Fs)/\Own w2 q (sorted t) F':=by
 have h2:=h.below hb;obtain ⟨n1,n2,n3,_,_⟩:=Z2E hnd;have hU:UpF (FN++FP++(List.range t.parts.length).flatMap Fs) w w2:=(UpF.refl _ w).next h2.up (fun x hx=>List.mem_append_right _ hx);have hnil:t.names= []:=List.eq_nil_of_length_eq_zero h0;have hso:sorted t=half t:=by rw[Z0d,if_pos hnil]; unfold half; rw[hnil]
 have hin: ∀b∈FP,b∉(List.range t.parts.length).flatMap Fs:=fun b hb hb2=>by
  obtain ⟨j,hj,hb2⟩:=List.mem_flatMap.1 hb2;exact n3 b hb j (List.mem_range.1 hj) hb2
 have hin2: ∀b∈FN,b∉(List.range t.parts.length).flatMap Fs:=fun b hb hb2=>by
  obtain ⟨j,hj,hb2⟩:=List.mem_flatMap.1 hb2;exact n2 b hb j (List.mem_range.1 hj) hb2
 refine ⟨hU,FN++FP++(List.range t.parts.length).flatMap Fs',(Z5w h2.pm).append_left _, ?_⟩;rw[hso];refine .mk q _ _ FN FP qs Fs' (Z4X hs) ?_ ?_ (Swi.halfs h2) (by simp[half])
 {rcases hn with h | ⟨b,h1,rfl,h3⟩
  {exact Or.inl h}
  {exact Or.inr ⟨b,h1,rfl,h3.of (h2.up.same h3.lt (hin2 b (by simp))) h2.up.size⟩}}
 {rcases hp with h | ⟨b,h1,rfl,h3⟩
  {exact Or.inl (by simpa[half] using h)}
  {refine Or.inr ⟨b,h1,rfl,Nat.lt_of_lt_of_le h3.lt h2.up.size,fun i hi=> ?_,fun k=>((h2.up.same h3.lt (hin b (by simp))).2 k).trans (h3.fz k)⟩;have hi2:i < t.parts.length:=by simpa[half] using hi
   have hm:t.parts[i]∈t.parts:=List.getElem_mem hi2;have:=Z4P (Z05 hr hm) ((h3.at_ i hi2).of (h2.up.same h3.lt (hin b (by simp))).1);simpa[half] using this}}
theorem Zad {t:Sh} (hl:t.names.length=t.parts.length) (qs:Nat->Ptr) (Fs:Nat->List Nat): (els t qs Fs).toList.map (fun x=>((x.n,x.t):Fld))=t.names.zip t.parts:=by
 apply List.ext_getElem
 {simp[els,hl]}
 {intro i h1 h2;have h3:i < t.names.length:=by simpa[els] using h1
  have h4:i < t.parts.length:=by omega
  simp[els,h3,h4]}
theorem Zae {w wi:World} {t:Sh} {q:Ptr} {FN FP:List Nat} {qs:Nat->Ptr} {Fs Fs':Nat->List Nat} (hr:right t=true) (hs:Small t q) (h0:t.names.length≠0)
 (hn:t.names.length=0/\FN= []\/ ∃b,q.A=some ⟨b,0,none⟩/\FN= [b]/\TxR w b t.names) (hp:t.parts.length=0/\FP= []\/ ∃b,q.P=some ⟨b,0,none⟩/\FP= [b]/\PaR w b t.parts qs)
 (hnd: (FN++FP++(List.range t.parts.length).flatMap Fs).Nodup) (h:Swi w wi t.parts qs Fs Fs' t.parts.length):
 ∃bn bp,q.A=some ⟨bn,0,none⟩/\q.P=some ⟨bp,0,none⟩/\(half t).names.length=(half t).parts.length/\TxR wi bn (half t).names/\PaR wi bp (half t).parts qs/\bn≠bp/\
  ∀(d':Array El) (w2:World),PermIn 0 (half t).names.length (els (half t) qs Fs') d'->SortedIn ltEl 0 (half t).names.length d'->FSt wi bn bp (half t).names.length d' w2->
   UpF (FN++FP++(List.range t.parts.length).flatMap Fs) w w2/\ ∃F',F'.Perm (FN++FP++(List.range t.parts.length).flatMap Fs)/\Own w2 q (sorted t) F':=by
 obtain ⟨hl,hnn⟩:=(Z1s hr).resolve_left (fun e=>h0 (by rw[e]; rfl));rcases hn with ⟨hn,_⟩ | ⟨bn,hA,rfl,hT⟩
 {omega}
 rcases hp with ⟨hp,_⟩ | ⟨bp,hP,rfl,hPa⟩
 {omega}
 obtain ⟨n1,n2,n3,_,_⟩:=Z2E hnd;have hbnp:bn≠bp:=fun e=>n1 bn (by simp) (by simp[e]);have hinP:bp∉(List.range t.parts.length).flatMap Fs:=fun hb2=>by
  obtain ⟨j,hj,hb2⟩:=List.mem_flatMap.1 hb2;exact n3 bp (by simp) j (List.mem_range.1 hj) hb2
 have hinN:bn∉(List.range t.parts.length).flatMap Fs:=fun hb2=>by
  obtain ⟨j,hj,hb2⟩:=List.mem_flatMap.1 hb2;exact n2 bn (by simp) j (List.mem_range.1 hj) hb2
 have hlh: (half t).names.length=(half t).parts.length:=by simpa[half] using hl
 refine ⟨bn,bp,hA,hP,hlh,hT.of (h.up.same hT.lt hinN) h.up.size,⟨Nat.lt_of_lt_of_le hPa.lt h.up.size,fun i hi=> ?_,fun k=>((h.up.same hPa.lt hinP).2 k).trans (hPa.fz k)⟩,hbnp, ?_⟩
 {have hi2:i < t.parts.length:=by simpa[half] using hi
  have hm:t.parts[i]∈t.parts:=List.getElem_mem hi2;have:=Z4P (Z05 hr hm) ((hPa.at_ i hi2).of (h.up.same hPa.lt hinP).1);simpa[half] using this}
 {intro d' w2 hpm hso hf;have hpl:=Z8B hpm (Z3g _ _ _);have hown: ∀i (hi:i < (half t).parts.length),Own w2 (qs i) ((half t).parts[i]'hi) (Fs' i):=fun i hi=>by
   have hi2:i < t.parts.length:=by simpa[half] using hi
   have ho:=h.halfs i hi;refine ho.of (fun b hb=> ?_) hf.up.size;have hbF:b∈Fs i:=(h.pm i hi2).mem_iff.1 hb;have hb1:b≠bn:=fun e=>n2 bn (by simp) i hi2 (e▸hbF);have hb2:b≠bp:=fun e=>n3 bp (by simp) i hi2 (e▸hbF);have hbl:=hf.up.block b (ho.lt b hb) hb1 hb2;exact ⟨fun k=>World.cell?_of_block (w:=wi) hbl,fun k=>World.frozen?_of_block (w:=wi) hbl⟩
  obtain ⟨o1,o2⟩:=Zb0 (N:=(half t).names.length) hA hP (Z4X hs) rfl hlh.symm hf hpl hown;have hsorted:sorted t=⟨(half t).kind,(half t).of_,(half t).name,d'.toList.map El.n,d'.toList.map El.t⟩:=by
   have hfst: (t.names.zip (t.parts.map sorted)).map Prod.fst=t.names:=List.map_fst_zip (by rw[List.length_map,hl]; exact Nat.le_refl _);have hu: (d'.toList.map fun x=>((x.n,x.t):Fld))=sortF (t.names.zip (t.parts.map sorted)):=by
    refine Z1p ?_ (Z6e hso hf.size) (by rw[hfst]; exact hnn);have:=hpl.map (fun x=>((x.n,x.t):Fld))
    rwa [Zad hlh] at this
   rw[Z0d,if_neg (fun e=>h0 (by rw[e]; rfl)), <-hu];simp[half,List.map_map,Function.comp_def]
  refine ⟨?_,_, ?_,by rw[hsorted]; exact o1⟩
  {have hU1:UpF ([bn]++ [bp]++(List.range t.parts.length).flatMap Fs) w wi:=(UpF.refl _ w).next h.up (fun x hx=>List.mem_append_right _ hx);exact hU1.next (hf.up.upF (F:= [bn]++ [bp]) (by simp) (by simp)) (fun x hx=>List.mem_append_left _ hx)}
  {refine o2.trans ?_;have:=(Z5w h.pm).append_left ([bn]++ [bp]);simpa[half] using this}}
theorem Box5.same {W W':World} {g:Nat} {t:Sh} {q:Ptr} (h:Box5 W g t q) (hs:Z0v W W' g) (hz:W.heap.size<=W'.heap.size):Box5 W' g t q:=by
 obtain ⟨h0,h1,f0,f1,f2,f3,f4⟩:=h;exact ⟨Nat.lt_of_lt_of_le h0 hz,h1.of hs.1,(hs.2 _).trans f0,(hs.2 _).trans f1,(hs.2 _).trans f2,(hs.2 _).trans f3,(hs.2 _).trans f4⟩
theorem Swi.box {w wi:World} {t:Sh} {q:Ptr} {qs:Nat->Ptr} {Fs Fs':Nat->List Nat} {i g:Nat} (h:Swi w wi t.parts qs Fs Fs' i) (hb:Box5 w g t q) (hg:g∉(List.range t.parts.length).flatMap Fs):Box5 wi g t q:=
 hb.same (h.up.same hb.1 hg) h.up.size
theorem Z4Y (t:Sh): ∀(q:Ptr) (F:List Nat) (w:World),Own w q t F->F.Nodup->right t=true->size t<=400->
 Calls Tryd.prog 36 #[.agg (Y8 t q)] w
  fun e w'=>e= .returned (.tuple #[])/\UpF F w w'/\ ∃F',F'.Perm F/\Own w' q (sorted t) F':=by
 induction t using Sh.ind with
 | h t ih=>
 intro q F w hO hnd hr hz;have hb0:=Z00 w (.cells (Y8 t q) 25);have HB:=Y1 (Z07 w t q);have HM:=Y1 hO.small;have hlt:=hO.lt;obtain ⟨FN,FP,qs,Fs,hn,hp,hrr,rfl⟩:=(Z0p hO hb0).inv;obtain ⟨n1,n2,n3,n4,n5⟩:=Z2E hnd;have hg:w.heap.size∉(List.range t.parts.length).flatMap Fs:=fun hm=>by
  have:=hlt w.heap.size (List.mem_append_right _ hm);omega
 have HG:=Y1 hg;have HS0:=Y1 (Swi.start hrr Y2);have HN:=Y1 hn;have HP:=Y1 hp;have HND:=Y1 hnd;have HD:=Y1 n5;have HN4:=Y1 n4;have HN3:=Y1 n3;have HR:=Y1 hr;have HZ:Hid (size t=1+sizes t.parts):=Y1 (size_eq t);have HB0:=Y1 hb0;have hlen:=Z0L t.parts;have hpl:t.parts.length<=400:=by have:=HZ.out; omega
 clear hb0 hO hlt hn hp hrr hnd n1 n2 n3 n4 n5 hr hg hlen;go_enter Tryd.func36,Tryd.ntmps36
 go_wp2_with fail
 generalize w.alloc (.cells (Y8 t q) 25)=W0 at HB HS0 HN HP HB0 ⊢
 go_loopw [7] (fun ii wr=> ∃i:Nat,ii= .int .i64 i/\i<=t.parts.length/\Hid (∃Fs',Swi W0 wr t.parts qs Fs Fs' i)) (fun i _=>t.parts.length - (intOf i).toNat)
 case atStart=>exact ⟨0,rfl,Nat.zero_le _,Y1 ⟨_,HS0.out⟩⟩
 case round=>
  obtain ⟨i,rfl,hi,HSW⟩:=hrel;by_cases hlt:i < t.parts.length
  {obtain ⟨Fs',hsw⟩:=HSW.out;rcases HP.out with ⟨h0,_⟩ | ⟨bp,hqP,hFP,hPa⟩
   {omega}
   {obtain ⟨x,hx⟩: ∃x,x=t.parts[i]:=⟨_,rfl⟩;have hxr:right x=true:=by rw[hx]; exact Z05 HR.out (List.getElem_mem _)
    have hxz:size x<=400:=by
     have:=Z1l (List.getElem_mem hlt);have:=HZ.out;rw[hx]; omega
    have hinP:bp∉(List.range t.parts.length).flatMap Fs:=fun hb2=>by
     obtain ⟨j,hj,hb2⟩:=List.mem_flatMap.1 hb2;exact HN3.out bp (by rw[hFP]; simp) j (List.mem_range.1 hj) hb2
    obtain ⟨p0,p1,p2,p3,p4⟩:=(hPa.at_ i hlt).of (hsw.up.same hPa.lt hinP).1;have hbx:=Z00 wr (.cells (Y8 x (qs i)) 25);have hsw2:=hsw.below hbx;have hox:=hsw2.hi i hlt (Nat.le_refl _);rw[<-hx] at p0 p1 p2 p3 p4 hox;have IH:=Y1 (ih t.parts[i] (List.getElem_mem _) (qs i) (Fs' i) (wr.alloc (.cells (Y8 x (qs i)) 25)) (by rw[<-hx]; exact hox) (((hsw.pm i hlt).nodup_iff).2 (HN4.out i hlt)) (by rw[<-hx]; exact hxr) (by rw[<-hx]; exact hxz));rw[<-hx] at IH;have HX:=Y1 hx;have HSW2:=Y1 hsw2;clear hx hsw hsw2 hox hbx hinP hPa hFP hxr hxz ih HSW;have hi1: (i:Int) < (t.parts.length:Int):=by omega
    rw[hqP];clear hqP
    go_wp2_with fail
    refine IH.out.mono ?_;rintro e w2 ⟨rfl,hu,F',hF',ho'⟩;have HS3:Hid (∃Fs2,Swi W0 w2 t.parts qs Fs Fs2 (i+1)):=Y1 (HSW2.out.step hlt HD.out hu hF' (by rw[<-HX.out]; exact ho'));clear hu hF' ho' IH HSW2;go_wp2
    go_roundw
    case rel=>exact ⟨i+1,by go_num,by omega,HS3⟩
    case measure=>simp[intOf]; omega}}
  {obtain ⟨Fs',hsw⟩:=HSW.out;have hie:i=t.parts.length:=by omega
   subst hie;have hi1: ¬(t.parts.length:Int) < (t.parts.length:Int):=by omega
   obtain ⟨_,⟨b0,b1,b2,b3,b4⟩,_⟩:=hsw.box HB.out HG.out;have HSW3:=Y1 hsw;clear hsw HSW hlt
   go_wp2_with fail
   by_cases h0:t.names.length=0
   {refine (Z7k t q wr h0).mono ?_;rintro e w2 ⟨rfl,hb2⟩;obtain ⟨r1,r2⟩:=Zac HR.out HM.out h0 HN.out HP.out HND.out HSW3.out hb2;have HR1:=Y1 (((UpF.refl _ w).below HB0.out).next r1 (fun x hx=>hx));have HR2:=Y1 r2;clear r1 r2 hb2 HSW3;go_wp2
    go_end0
    exact ⟨rfl,HR1.out,HR2.out⟩}
   {obtain ⟨bn,bp,hA,hP,hl,hT,hPa,hne,hall⟩:=Zae HR.out HM.out h0 HN.out HP.out HND.out HSW3.out;have hw:=Z8A (half t) q qs Fs' bn bp wr hA hP hl (by
     have: (half t).parts.length=t.parts.length:=by simp[half]
     omega) hT hPa hne
    have hkk: (half t).parts.length=t.parts.length:=by simp[half]
    have e1: (half t).kind=t.kind:=rfl;have e2: (half t).of_=t.of_:=rfl;have e3: (half t).name=t.name:=rfl;have e4: (half t).names.length=t.names.length:=rfl;rw[hkk,e1,e2,e3,e4] at hw;refine hw.mono ?_;rintro e w2 ⟨rfl,d',hpm,hso,hf⟩;obtain ⟨r1,r2⟩:=hall d' w2 hpm hso hf;have HR1:=Y1 (((UpF.refl _ w).below HB0.out).next r1 (fun x hx=>hx));have HR2:=Y1 r2;clear r1 r2 hpm hso hf hw hall HSW3 hA hP hl hT hPa hne hkk e1 e2 e3 e4;go_wp2
    go_end0
    exact ⟨rfl,HR1.out,HR2.out⟩}}
end
section
open Go.RowKit
def wordsC:Array Value:=#[.string ⟨#[]⟩,.string ⟨#[73,110,116]⟩,.string ⟨#[66,111,111,108]⟩,.string ⟨#[84,101,120,116]⟩,.string ⟨#[65,110,121]⟩]
theorem Z4y:Tryd.prog.globalNamed "pandect/shape.words" =some 0:=by kernel_rfl
def WGlobs (w:World):Prop:=w.var? Tryd.prog "pandect/shape.words" =some wordsC
theorem WGlobs.cell {w:World} (h:WGlobs w) (i:Nat):w.cell? ⟨0,i,none⟩=wordsC[i]? :=World.var?_cell Z4y h i
theorem WGlobs.lt {w:World} (h:WGlobs w):0 < w.heap.size:=Z1N ((WGlobs.cell h 0).trans (by rfl:wordsC[0]? =some (.string ⟨#[]⟩)))
theorem WGlobs.next {w w':World} (h:WGlobs w) (hb:Below w.heap.size w w'):WGlobs w':=var?_below hb Z4y (WGlobs.lt h) h
theorem Z3w {P:Program} {w:World}: ∀ {l:List (String×DataW Unit)} {ps:List MemPlace},DataW.LaidVars P w l ps-> ∀x∈l,
 ∃g t cs fuel p,P.globalNamed x.1=some g/\(P.globals[g]?).map (·.type)=some t/\w.var? P x.1=some cs/\DataW.trod (fun _=>()) P w 0 (fun _=>true) false fuel t cs.toList=some (x.2,p)
 | [],_,_,x,hx=>by simp at hx
 | (n,d)::r,ps,h,x,hx=>by
  obtain ⟨g,t,cs,fuel,p,q,h1,h2,h3,h4,h5,_⟩:=h;rcases List.mem_cons.1 hx with rfl | hx
  {exact ⟨g,t,cs,fuel,p,h1,h2,h3,h4⟩}
  {exact Z3w h5 x hx}
theorem Zaf {L:List (String×DataW Unit)} {W:World} (h:laidMet Tryd.prog L W) (m4: ("pandect/shape.words",Rows.laid_pandect_shape_words)∈L):WGlobs W:=by
 unfold WGlobs;obtain ⟨ps,hv,_,_⟩:=h;obtain ⟨g1,t1,cs,f1,p1,a1,b1,c1,d1⟩:=Z3w hv _ m4;obtain rfl:=Option.some.inj (Z4y.symm.trans a1);have ht: (Tryd.prog.globals[0]?).map (·.type)=some 132:=by kernel_rfl
 obtain rfl:=Option.some.inj (ht.symm.trans b1);rw[c1];congr 1;have hc1:Tryd.prog.cellsOf 9=1:=by kernel_rfl
 obtain ⟨xs,m,_,hx,hsz,hl,he⟩:=DataW.trod_array Tryd.underlying132 d1;rw[hc1] at he;have hc6:Tryd.prog.cellsOf 132=5:=by kernel_rfl
 rw[hc6] at hsz;have hx1:=(Prod.mk.inj hx).1;apply Array.ext'
 match xs,hl,hx1 with
 | [y0,y1,y2,y3,y4],_,hx1=>
  obtain ⟨L,hL⟩: ∃L,L=cs.toList:=⟨_,rfl⟩;rw[<-hL] at hsz he ⊢;clear hL
  match L,hsz with
  | [k0,k1,k2,k3,k4],_=>
   have e0:=he 0 (by omega);have e1:=he 1 (by omega);have e2:=he 2 (by omega);have e3:=he 3 (by omega);have e4:=he 4 (by omega);simp only[List.getElem?_cons_zero,List.getElem?_cons_succ,Nat.mul_one,List.drop_zero,List.drop_succ_cons,List.take_succ_cons,List.take_zero] at e0 e1 e2 e3 e4;obtain ⟨x0,h0,rfl,_⟩:=DataW.trod_string Tryd.underlying9 e0;obtain ⟨x1,h1,rfl,_⟩:=DataW.trod_string Tryd.underlying9 e1;obtain ⟨x2,h2,rfl,_⟩:=DataW.trod_string Tryd.underlying9 e2;obtain ⟨x3,h3,rfl,_⟩:=DataW.trod_string Tryd.underlying9 e3;obtain ⟨x4,h4,rfl,_⟩:=DataW.trod_string Tryd.underlying9 e4;simp at h0 h1 h2 h3 h4;simp[Rows.laid_pandect_shape_words] at hx1;obtain ⟨z0,z1,z2,z3,z4⟩:=hx1;have key: ∀(x:ByteArray) (l:List UInt8),l=x.data.toList->x=⟨l.toArray⟩:=fun x l h=>by rw[h]
   rw[h0,h1,h2,h3,h4];have k0:=key x0 [] (by simp[z0]);have k1:=key x1 [73,110,116] (by simp[<-z1]);have k2:=key x2 [66,111,111,108] (by simp[<-z2]);have k3:=key x3 [84,101,120,116] (by simp[<-z3]);have k4:=key x4 [65,110,121] (by simp[<-z4]);rw[k0,k1,k2,k3,k4]; rfl
end
end Go.Proofs.YtchklpedlbkgaaaDoor
namespace Lex
section
def join:List (List UInt8)->List UInt8
 | []=> []
 | [p]=>p
 | p::q::ps=>p++32::join (q::ps)
def Placed (s:List UInt8):Nat->List (Tok×Nat)->Prop
 | a,[]=>a<=s.length
 | a,(t,p)::r=>a<=p/\p<=s.length/\1<=t.kind/\t.kind<=7/\(t.kind=4->Placed s (p+2) r)/\(t.kind≠4->p+t.text.length<=s.length/\(s.drop p).take t.text.length=t.text/\Placed s (p+t.text.length) r)
theorem Placed.less {s:List UInt8} {a b:Nat} (hab:b<=a): ∀ {l:List (Tok×Nat)},Placed s a l->Placed s b l
 | [],h=>Nat.le_trans hab h
 | (t,p)::r,h=>by
  obtain ⟨h1,h2⟩:=h;exact ⟨Nat.le_trans hab h1,h2⟩
def up (k:Nat):Except Nat Nat->Except Nat Nat
 | .ok n=> .ok (k+n)
 | .error n=> .error (k+n)
end
end Lex
