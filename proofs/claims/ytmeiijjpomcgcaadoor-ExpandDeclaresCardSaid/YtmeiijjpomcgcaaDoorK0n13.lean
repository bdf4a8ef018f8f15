/- What the proofs of ExpandDeclares want, part 13. -/
import Derived.Shelf.RegionOpen
import Derived.Test.YtmeiijjpomcgcaaDoorK0n12
set_option linter.unusedVariables false
set_option linter.unusedSimpArgs false
set_option linter.unusedSectionVars false
set_option maxRecDepth 100000
set_option maxHeartbeats 16000000
namespace Go.Proofs.YtmeiijjpomcgcaaDoor
section
open Go.RowKit Shp
open Expd (Bd fill keys find put)
attribute [local go_sem] Oper.semAt_some
def fdW (w:World) (t:Sh) (q:Ptr):World:=(w.alloc (.cells (Y8 t q) 25)).alloc (.cells Yb 25)
theorem Zcx (w:World) (t:Sh) (q:Ptr) (k:Nat): (fdW w t q).frozen? ⟨w.heap.size,k,none⟩=false:=by
 unfold fdW;rw[frozen?_alloc_cells,frozen?_alloc_cells];simp[World.frozen?]
def ZcD (W:World) (h:Nat):Prop:=W.cell? ⟨h,0,none⟩=some (.int .i64 0)/\W.cell? ⟨h,1,none⟩=some (.string ⟨#[]⟩)/\W.cell? ⟨h,2,none⟩=some (.string ⟨#[]⟩)/\W.cell? ⟨h,3,none⟩=some (.slice none 0 0)/\W.cell? ⟨h,4,none⟩=some (.slice none 0 0)
def Res0 (W:World) (h:Nat):Prop:=ZcD W h/\ ∀k,W.frozen? ⟨h,k,none⟩=false
theorem Z5t (w:World) (t:Sh) (q:Ptr):Res0 (fdW w t q) (w.heap.size+1):=by
 refine ⟨⟨by simp[fdW,go_sem],by simp[fdW,go_sem],by simp[fdW,go_sem],by simp[fdW,go_sem],by simp[fdW,go_sem]⟩,fun k=> ?_⟩;unfold fdW;rw[frozen?_alloc_cells,frozen?_alloc_cells];simp[World.frozen?]
theorem Res0.of {W W':World} {h:Nat} (H:Res0 W h) (hc: ∀k,W'.cell? ⟨h,k,none⟩=W.cell? ⟨h,k,none⟩) (hf: ∀k,W'.frozen? ⟨h,k,none⟩=W.frozen? ⟨h,k,none⟩):Res0 W' h:=by
 obtain ⟨⟨z0,z1,z2,z3,z4⟩,z⟩:=H;exact ⟨⟨(hc 0).trans z0,(hc 1).trans z1,(hc 2).trans z2,(hc 3).trans z3,(hc 4).trans z4⟩,fun k=>(hf k).trans (z k)⟩
theorem Res0.keep {W W':World} {h B:Nat} (H:Res0 W h) (hb:Below B W W') (hh:h < B):Res0 W' h:=H.of (fun k=>hb.cell (p:=⟨h,k,none⟩) hh) (fun k=>hb.frozen (p:=⟨h,k,none⟩) hh)
abbrev bdC (b:Bd) (q:Ptr):Array Value:=#[.string ⟨b.of_.toArray⟩,.string ⟨b.name.toArray⟩,.int .i64 b.sh.kind,.string ⟨b.sh.of_.toArray⟩,.string ⟨b.sh.name.toArray⟩,.slice q.A b.sh.names.length q.c,.slice q.P b.sh.parts.length q.d]
theorem Z89 (t:Sh) (q:Ptr) (L:List Bd) (A:Option Addr) (cap:Nat) (w:World) (hq:ShAt w w.heap.size q t) (hz:size t<=400) (hr:right t=true) (hL:BdsAt w w.heap.size A L) (hl:L.length<=1000):
 Calls Tryd.prog 21 #[shV t q,.slice A L.length cap] w fun e w'=> ∃(u:Sh) (q':Ptr) (ok:Bool),e= .returned (.tuple #[shV u q',.bool ok])/\ok=(put (find L) t).isSome/\(ok=true->put (find L) t=some u)/\ShAt w' w'.heap.size q' u/\Below w.heap.size w w':=by
 have hb0:Below w.heap.size w (fdW w t q):=Z0h (Z01 _ _) _;have hz0: (fdW w t q).heap.size=w.heap.size+2:=by simp[fdW]
 have c0:Sh5 (fdW w t q) w.heap.size 0 t q:=⟨by simp[fdW,go_sem],by simp[fdW,go_sem],by simp[fdW,go_sem],by simp[fdW,go_sem],by simp[fdW,go_sem]⟩;have HB0:=Y1 hb0;have HZ0:=Y1 hz0;have HQ:=Y1 (hq.next hb0);have HC0:=Y1 c0;obtain ⟨e0,e1,e2,e3,e4⟩:=c0;have HLL:=Y1 hL;have HR:=Y1 hr;have HSZ:=Y1 hz;have HLN:=Y1 hl;clear hb0 hz0 hq hr hz hL hl;unfold shV;refine (callsIn_wide (n:=6)).1 ?_;refine callsIn_of_wp_marks Tryd.func21 rfl trivial ?_ rfl;simp only[Tryd.ntmps21,List.size_toArray,List.length_cons,List.length_nil,Nat.reduceAdd,Nat.reduceSub,Array.replicate_succ,Array.replicate_zero,List.push_toArray,List.append_toArray,List.nil_append,List.cons_append]
 gi_wp2_with fail
 refine ⟨trivial,callsIn_wide.2 ?_⟩;change Calls _ _ _ (fdW w t q) _;have HS:=Y1 (Z4n t q (fdW w t q) HQ.out HSZ.out HR.out);have HFZ:Hid (∀k,(fdW w t q).frozen? ⟨w.heap.size,k,none⟩=false):=Y1 (Zcx w t q);have HZR:=Y1 (Z5t w t q);generalize fdW w t q=W0 at HB0 HZ0 HQ HC0 HS HFZ HZR e0 e1 e2 e3 e4 ⊢;refine HS.out.mono ?_;rintro e w1 ⟨q1,F,rfl,ho, -,hF,hb1⟩;have hz0:=HZ0.out;have hz1:=hb1.size;obtain ⟨a0,a1,a2,a3,a4⟩:=HC0.out.keep (show w.heap.size < W0.heap.size by omega) hb1;have fz: ∀k,w1.frozen? ⟨w.heap.size,k,none⟩=false:=fun k=>(hb1.frozen (p:=⟨w.heap.size,k,none⟩) (show w.heap.size < W0.heap.size by omega)).trans (HFZ.out k);have f0:=fz 0;have f1:=fz 1;have f2:=fz 2;have f3:=fz 3;have f4:=fz 4;have HO:=Y1 ho;have HF:=Y1 hF;have HB1:=Y1 hb1;have HF1:=Y1 fz;simp only[Nat.zero_add] at a0 a1 a2 a3 a4;clear ho hF hb1 fz e0 e1 e2 e3 e4 HS hz0 hz1 HFZ
 gi_wp2_with fail
 have hput:Sh5 (put5 w1 w.heap.size (.int .i64 t.kind) (.string ⟨t.of_.toArray⟩) (.string ⟨t.name.toArray⟩) (.slice q1.A t.names.length q1.c) (.slice q1.P t.parts.length q1.d)) w.heap.size 0 t q1:=by
  have:=Z2k (W:=w1) (g:=w.heap.size) (o:=0) (s:=t) (q:=q1) (fun k hk=>by
   match k,hk with
   | 0,_=>exact ⟨_,a0⟩
   | 1,_=>exact ⟨_,a1⟩
   | 2,_=>exact ⟨_,a2⟩
   | 3,_=>exact ⟨_,a3⟩
   | 4,_=>exact ⟨_,a4⟩)
  exact this
 have hown:Own (put5 w1 w.heap.size (.int .i64 t.kind) (.string ⟨t.of_.toArray⟩) (.string ⟨t.name.toArray⟩) (.slice q1.A t.names.length q1.c) (.slice q1.P t.parts.length q1.d)) q1 t F:=Z19 HO.out (fun x hx e=>by have:=HF.out x hx; have:=HZ0.out; omega) _ _ _ _ _;have hbel:Below w.heap.size w (put5 w1 w.heap.size (.int .i64 t.kind) (.string ⟨t.of_.toArray⟩) (.string ⟨t.name.toArray⟩) (.slice q1.A t.names.length q1.c) (.slice q1.P t.parts.length q1.d)):=Z0j (Z03 HB0.out HB1.out) (Nat.le_refl _) _ _ _ _ _;have hfz: ∀k,(put5 w1 w.heap.size (.int .i64 t.kind) (.string ⟨t.of_.toArray⟩) (.string ⟨t.name.toArray⟩) (.slice q1.A t.names.length q1.c) (.slice q1.P t.parts.length q1.d)).frozen? ⟨w.heap.size,k,none⟩=false:=fun k=>by
  unfold put5; simp only[World.frozen?_setCell]; exact HF1.out k
 have hsz:w1.heap.size=(put5 w1 w.heap.size (.int .i64 t.kind) (.string ⟨t.of_.toArray⟩) (.string ⟨t.name.toArray⟩) (.slice q1.A t.names.length q1.c) (.slice q1.P t.parts.length q1.d)).heap.size:=by simp[put5,World.setCell]
 have hres: ∀k,(put5 w1 w.heap.size (.int .i64 t.kind) (.string ⟨t.of_.toArray⟩) (.string ⟨t.name.toArray⟩) (.slice q1.A t.names.length q1.c) (.slice q1.P t.parts.length q1.d)).cell? ⟨w.heap.size+1,k,none⟩=W0.cell? ⟨w.heap.size+1,k,none⟩:=fun k=>by
  have ne: ∀j,(⟨w.heap.size,j,none⟩:Addr)≠⟨w.heap.size+1,k,none⟩:=fun j e=>by simp only[Addr.mk.injEq,and_true] at e; omega
  unfold put5;rw[World.cell?_setCell_other _ _ _ _ (ne 4),World.cell?_setCell_other _ _ _ _ (ne 3),World.cell?_setCell_other _ _ _ _ (ne 2),World.cell?_setCell_other _ _ _ _ (ne 1),World.cell?_setCell_other _ _ _ _ (ne 0)];exact HB1.out.cell (p:=⟨w.heap.size+1,k,none⟩) (by have:=HZ0.out; show w.heap.size+1 < _; omega)
 have hrf: ∀k,(put5 w1 w.heap.size (.int .i64 t.kind) (.string ⟨t.of_.toArray⟩) (.string ⟨t.name.toArray⟩) (.slice q1.A t.names.length q1.c) (.slice q1.P t.parts.length q1.d)).frozen? ⟨w.heap.size+1,k,none⟩=W0.frozen? ⟨w.heap.size+1,k,none⟩:=fun k=>by
  unfold put5; simp only[World.frozen?_setCell];exact HB1.out.frozen (p:=⟨w.heap.size+1,k,none⟩) (by have:=HZ0.out; show w.heap.size+1 < _; omega)
 have hR0:=HZR.out.of hres hrf;have hge:w.heap.size+2<=w1.heap.size:=by have:=HZ0.out; have:=HB1.out.size; omega
 rw[hsz] at hge;clear hres hrf;unfold put5 at hput hown hbel hfz hsz hR0 hge;generalize ((((w1.setCell ⟨w.heap.size,0,none⟩ (.int .i64 t.kind)).setCell ⟨w.heap.size,1,none⟩ (.string ⟨t.of_.toArray⟩)).setCell ⟨w.heap.size,2,none⟩ (.string ⟨t.name.toArray⟩)).setCell ⟨w.heap.size,3,none⟩ (.slice q1.A t.names.length q1.c)).setCell ⟨w.heap.size,4,none⟩ (.slice q1.P t.parts.length q1.d)=W1 at hput hown hbel hfz hsz hR0 hge ⊢;have HPU:=Y1 hput;have HOW:=Y1 hown;have HBE:=Y1 hbel;have HFZ:=Y1 hfz;have HRS:=Y1 hR0;have HGE:=Y1 hge;clear HZR hput hown hbel hfz hR0 hge hsz a0 a1 a2 a3 a4 f0 f1 f2 f3 f4;rw[run_makeMap]
 gi_wp2_with fail
 refine ⟨trivial,callsIn_wide.2 ?_⟩;have hlt:w.heap.size < W1.heap.size:=by have:=HGE.out; omega
 have hFlt:=HOW.out.lt;have hb2:Below W1.heap.size W1 ((W1.alloc (.map #[] 0)).alloc (.cells #[.map (some W1.heap.size)] 69)):=Z0h (Z01 _ _) _;obtain ⟨pl,hPW,hpl1,hpl2⟩:=Zca (HOW.out.of (fun b hb=>⟨fun k=>hb2.cell (p:=⟨b,k,none⟩) (hFlt b hb),fun k=>hb2.frozen (p:=⟨b,k,none⟩) (hFlt b hb)⟩) hb2.size) w.heap.size 0 hlt hFlt ((HPU.out).keep hlt hb2) HR.out;have hP:=hPW _ (fun _ _ _=>rfl) (fun _=>rfl);have hfz2: ∀e∈pl,∀c,((W1.alloc (.map #[] 0)).alloc (.cells #[.map (some W1.heap.size)] 69)).frozen? ⟨e.2.1,c,none⟩=false:=fun e he c=>by
  refine (hb2.frozen (p:=⟨e.2.1,c,none⟩) (hP.at_ e he).1).trans ?_;rcases hpl2 e he with h | h
  {rw[h]; exact HFZ.out c}
  {exact Zcw HOW.out _ h c}
 have hN:=Z9u _ W1.heap.size w.heap.size 0 t pl hP ((W1.alloc (.map #[] 0)).alloc (.cells #[.map (some W1.heap.size)] 69)) (W1.heap.size+2) W1.heap.size 0 [] (fun _=> .slice none 0 0) (fun _=> []) (fun _ _ _=>rfl) (Nat.le_refl _) (mkGrp W1 _) (by have:=HSZ.out; omega);have c1: ((W1.alloc (.map #[] 0)).alloc (.cells #[.map (some W1.heap.size)] 69)).cell? ⟨W1.heap.size+1,0,none⟩=some (.map (some W1.heap.size)):=by simp[go_sem]
 have hsz2: ((W1.alloc (.map #[] 0)).alloc (.cells #[.map (some W1.heap.size)] 69)).heap.size=W1.heap.size+2:=by simp
 have HN:=Y1 hN;have HP:=Y1 hP;have HPW:=Y1 hPW;have HP2:=Y1 (And.intro hpl1 hpl2);have HFZ2:=Y1 hfz2;have HB2:=Y1 hb2;have HZ2:=Y1 hsz2;have HC1:=Y1 c1;clear hlt hFlt hb2 hP hPW hpl1 hpl2 hfz2 hN c1 hsz2;generalize (W1.alloc (.map #[] 0)).alloc (.cells #[.map (some W1.heap.size)] 69)=Wm at HN HP HPW HFZ2 HB2 HZ2 HC1 ⊢;refine HN.out.mono ?_;rintro e W2 ⟨rfl,S,m,hG,hS,hU⟩;have hbm:Below W1.heap.size Wm W2:=⟨hU.os,hU.tape,hU.output,hU.size,fun x hx=>hU.block x (by have:=HZ2.out; omega) (by omega) nofun⟩;have c2:=(hU.cell (g:=W1.heap.size+1) (k:=0) (by have:=HZ2.out; omega) (by omega) nofun).trans HC1.out;have HG:=Y1 hG;have HS2:=Y1 hS;have HBM:=Y1 hbm;have HC2:=Y1 c2;clear hG hS hU hbm c2 HN HC1
 gi_wp2_with fail
 refine ⟨trivial,callsIn_wide.2 ?_⟩;refine (Z62 W2 A L.length cap).mono ?_;rintro e V ⟨rfl,hbx,hsV,hbV⟩;have hw1:w.heap.size<=W1.heap.size:=HBE.out.size;have hw2:W1.heap.size+2<=W2.heap.size:=by have:=HZ2.out; have:=HBM.out.size; omega
 have hbl:Below w.heap.size w V:=((HBE.out.trans (HB2.out.mono hw1)).trans (HBM.out.mono hw1)).trans (hbV.mono (by omega));have hG:=HG.out.keep hbV;have h0:F0 V W1.heap.size (W1.heap.size+2) (0+pl.length) S m (more (fun _=> []) pl):=ZcC HP.out (HBM.out.trans (hbV.mono (by omega))) hG HFZ2.out;obtain ⟨g,off,qs,hBk⟩: ∃(g off:Nat) (qs:Nat->Ptr),Bk V w.heap.size W2.heap.size A cap L qs g off:=by
  have hll:=HLN.out;rcases HLL.out with h | ⟨g,off,qs,h1,h2,h3⟩
  {exact ⟨0,0,fun _=>q,hbx,by omega,by omega,Or.inl h,fun i hi=>absurd hi (by omega),hll⟩}
  {exact ⟨g,off,qs,hbx,by omega,by omega,Or.inr ⟨h1,h2⟩,fun i hi=>(h3 i hi).of (Nat.le_refl _) h2 (fun g k hg=>hbl.cell (p:=⟨g,k,none⟩) hg),hll⟩}
 have c3:=(hbV.cell (p:=⟨W1.heap.size+1,0,none⟩) (show W1.heap.size+1 < W2.heap.size by omega)).trans HC2.out;have H0:=Y1 h0;have HBK:=Y1 hBk;have HBL:=Y1 hbl;have HC3:=Y1 c3;have HBV:=Y1 hbV;have HSV:=Y1 hsV;have hps: ∀k,∀p∈more (fun _=> []) pl k,w.heap.size<=p.1/\p.1≠w.heap.size+1:=fun k p hp=>by
  rcases HP2.out.2 _ (Z1A.1 hp) with h | h
  {have h:p.1=w.heap.size:=h;omega}
  {have:=HF.out _ h;have:=HZ0.out;show w.heap.size<=p.1/\p.1≠w.heap.size+1;have h1:W0.heap.size<=p.1:=HF.out _ h;omega}
 have hRV:Res0 V (w.heap.size+1):=((HRS.out.keep HB2.out (by have:=HGE.out; omega)).keep HBM.out (by have:=HGE.out; omega)).keep hbV (by have:=HGE.out; omega);have hPV:=HP.out.of (Nat.le_refl _) (fun g k hg=>(HBM.out.trans (hbV.mono (by omega))).cell (p:=⟨g,k,none⟩) hg);have hSk: ∀x,x∈S ↔ x∈keys t:=fun x=>by rw[HS2.out, <-HP.out.keys]; simp
 have HPS:=Y1 hps;have HRV:=Y1 hRV;have HPV:=Y1 hPV;have HSK:=Y1 hSk;have HW:=Y1 (And.intro hw1 hw2);clear hbx hsV hbV hw1 hw2 hbl hG h0 hBk c3 HC2 HG hps hRV hPV hSk
 gi_wp2_with fail
 refine wpIn_rangeFunc_ownH rfl (by omega) (gf:=51) (lb:=#[.pointer (some ⟨W2.heap.size,0,none⟩)]) rfl trivial (enters_of Tryd.func51 (by kernel_rfl) rfl)
  (ZbG 5 (by omega) V w.heap.size W2.heap.size A cap L qs g off HBK.out) (fun h k=>h.trans k) ?kb Y2 (fun _=>rfl)
  (fun pre W=>FJ V W1.heap.size (W1.heap.size+2) (0+pl.length) S m (more (fun _=> []) pl) (lkL L qs pre) W)
  (fun c pre W=>c= .exit 0/\ ∃pre0 x,pre=pre0++ [x]/\FJ V W1.heap.size (W1.heap.size+2) (0+pl.length) S m (more (fun _=> []) pl) (lkL L qs pre0) W/\(S.filter fun k=>(lkL L qs pre0 k).isNone)= [])
  ?oI ?oIx (H0.out.start) (fun x a' W=> ∃Bx,V.heap.size<=Bx/\W.heap[Bx]? =some (.cells (bdC (L.getD x noBd) (qs x)) 54)/\a'= { tmps:=#[.agg (Y8 t q),.slice A L.length cap,.pointer (some ⟨w.heap.size,0,none⟩),undef,.pointer (some ⟨w.heap.size+1,0,none⟩),.bool false,.pointer (some ⟨W1.heap.size+1,0,none⟩),undef,.pointer (some ⟨Bx,0,none⟩),
   .agg (Y8 t q),.agg (Y8 t q1),.map (some W1.heap.size),.agg #[.map (some W1.heap.size)],.agg #[.map (some W1.heap.size)],.tuple #[],.slice A L.length cap,.func (.func 51) #[] #[.pointer (some ⟨W2.heap.size,0,none⟩)],.int .i64 (x:Int),bdV (L.getD x noBd) (qs x),undef,undef,undef,undef,undef,undef,undef,undef,undef,undef,undef,undef,undef,undef],defers:= [] }) ?oAx ?assign ?body ?done ?stop
 case kb=>
  have h1:=HBL.out.size;have h2:=HSV.out;intro W l o o' hl ho hc hwk;exact ⟨belowK_b (w:=V) h1 W l o o' hl ho hc hwk,(grownBy_putObj' W l o').block W2.heap.size (by have:=(Array.getElem?_eq_some_iff.1 ho).1; omega) (fun e=>by cases e; omega)⟩
 case oI=>exact fun pre X Y row hs hg hr=>hs.grown H0.out hg (fun r e=>(hr r e).1)
 case oIx=>exact fun c pre X Y row ⟨h1,pre0,x,h2,h3,h4⟩ hg hr=>⟨h1,pre0,x,h2,h3.grown H0.out hg (fun r e=>(hr r e).1),h4⟩
 case oAx=>
  intro x a' _ X Y row ⟨Bx,h1,h2,h3⟩ hg hr;refine ⟨Bx,h1,(hg.block Bx (Array.getElem?_eq_some_iff.1 h2).1 (fun e=> ?_)).trans h2,h3⟩;obtain ⟨_,o,ho,hc⟩:=hr Bx e.symm;rw[h2] at ho;cases ho;cases hc
 case assign=>
  rintro l pre x W K hI hK;generalize hbk:L.getD x noBd=bk at hK ⊢
  gi_wp2
  have hb:=Z01 W (.cells (bdC bk (qs x)) 54);exact hK _ _ (Z2H _ hb) ⟨hb.mono (by have:=HBL.out.size; have:=hI.fi.size; omega),hb.block _ (by have:=hI.fi.size; have:=HSV.out; omega)⟩ (hI.next H0.out hb) ⟨W.heap.size,hI.fi.size,World.alloc_heap_new W _,rfl⟩
 case body=>
  rintro l pre x a' W hl hrec hI ⟨Bx,hBx,hbx,rfl⟩ hlt;have c3:=(hI.cell (x:=W1.heap.size+1) (by have:=HSV.out; have:=HW.out.2; omega) (by omega) (fun k p hp=>by have:=H0.out.pl k p hp; omega) 0).trans HC3.out;generalize hbk:L.getD x noBd=bk at hbx ⊢
  gi_wp2_with fail
  refine ⟨trivial,CallsIn.inRound l (callsIn_wide.2 ?_)⟩;refine (Z4s W W1.heap.size (0+pl.length) _ m hI.gr.mp).mono ?_;rintro e Wc ⟨rfl,hbc⟩;have hIc:=hI.next H0.out hbc;have hkc:=Z2H V.heap.size hbc;have hzW:=hI.fi.size;have hzV:=HSV.out;have hzw:=HBL.out.size;have hbkc:BkK w.heap.size W2.heap.size W Wc:=⟨hbc.mono (by omega),hbc.block _ (by omega)⟩;have c4:=(hbc.cell (p:=⟨W1.heap.size+1,0,none⟩) (show W1.heap.size+1 < W.heap.size by have:=HW.out.2; omega)).trans c3;have hxb:=(hbc.block Bx (Array.getElem?_eq_some_iff.1 hbx).1).trans hbx;by_cases hcl: (S.filter fun k=>(lkL L qs pre k).isNone)= []
  {rw[decide_eq_true hcl];clear hrec hbx c3 hbc hxb hbkc
   gi_wp2
   exact ⟨hkc,rfl,pre,x,rfl,hIc,hcl⟩}
  {rw[decide_eq_false hcl];have b0:Wc.cell? ⟨Bx,0,none⟩=some (.string ⟨bk.of_.toArray⟩):=by simp[World.cell?,hxb]
   have b1:Wc.cell? ⟨Bx,1,none⟩=some (.string ⟨bk.name.toArray⟩):=by simp[World.cell?,hxb]
   have b2:Wc.cell? ⟨Bx,2,none⟩=some (.int .i64 bk.sh.kind):=by simp[World.cell?,hxb]
   have b3:Wc.cell? ⟨Bx,3,none⟩=some (.string ⟨bk.sh.of_.toArray⟩):=by simp[World.cell?,hxb]
   have b4:Wc.cell? ⟨Bx,4,none⟩=some (.string ⟨bk.sh.name.toArray⟩):=by simp[World.cell?,hxb]
   have b5:Wc.cell? ⟨Bx,5,none⟩=some (.slice (qs x).A bk.sh.names.length (qs x).c):=by simp[World.cell?,hxb]
   have b6:Wc.cell? ⟨Bx,6,none⟩=some (.slice (qs x).P bk.sh.parts.length (qs x).d):=by simp[World.cell?,hxb]
   have HIC:=Y1 hIc;have HKC:=Y1 hkc;have HBKC:=Y1 hbkc;have HZZ:=Y1 (And.intro hzW (And.intro hzV hzw));have HZC:=Y1 hbc.size;clear hrec hbx c3 hbc hxb hbkc hIc hkc hI hzW hzV hzw
   gi_wp2_with fail
   have hfine:Fine (bk.of_,bk.name):=by
    rw[<-hbk];by_cases hxl:x < L.length
    {have:=(HBK.out.cells x hxl).2.2.2.2;rw[show L.getD x noBd=L[x]'hxl by simp[hxl]];exact this}
    {rw[show L.getD x noBd=noBd by simp[hxl]];exact ⟨by simp,by simp⟩}
   have hplen:0+pl.length<=1000:=by have:=HP2.out.1; have:=HSZ.out; omega
   refine ⟨trivial,CallsIn.inRound l (callsIn_wide.2 ?_)⟩;refine (ZaT Wc (W1.heap.size+2) W1.heap.size (0+pl.length) _ m _ (bk.of_,bk.name) bk.sh (qs x) hfine hplen HIC.out.gr (HIC.out.asks H0.out _)).mono ?_;rintro e Wf ⟨rfl,hgf,hff⟩;have hstep:=HIC.out.step H0.out hgf hff;have hask: ∀p∈(if (lkL L qs pre (bk.of_,bk.name)).isSome then [] else more (fun _=> []) pl (bk.of_,bk.name)),p.1 < W1.heap.size/\w.heap.size<=p.1:=fun p hp=>by
    refine ⟨(HIC.out.asks H0.out _ p hp).1, ?_⟩;by_cases e: (lkL L qs pre (bk.of_,bk.name)).isSome=true
    {rw[if_pos e] at hp; cases hp}
    {rw[if_neg e] at hp; exact (HPS.out _ p hp).1}
   have hkf:=Z5s (B:=V.heap.size) hff H0.out.bV (fun p hp=>(hask p hp).1);have hzz:=HZZ.out;have hzc:=HZC.out;have hww:=HW.out;have hbf:BkK w.heap.size W2.heap.size Wc Wf:=⟨⟨hff.os,hff.tape,hff.output,hff.size,fun y hy=>hff.block y (by omega) (by omega) (fun p hp=>by have:=(hask p hp).2; omega)⟩,hff.block _ (by omega) (by omega) (fun p hp=>by have:=(hask p hp).1; omega)⟩;have HST:=Y1 hstep;have HKF:=Y1 (HKC.out.trans hkf);have HBF:=Y1 (HBKC.out.trans hbf);clear hstep hgf hff hkf hbf hask hfine b0 b1 b2 b3 b4 b5 b6
   gi_wp2
   refine ⟨HKF.out,HBF.out, ?_⟩;show FJ V W1.heap.size (W1.heap.size+2) (0+pl.length) S m (more (fun _=> []) pl) (lkL L qs (pre++ [x])) Wf;rw[ZbJ,hbk];exact HST.out}
 all_goals first
  | (
   rintro D xs W hD rfl hI hK;obtain ⟨k0,hI,han⟩: ∃k0,FJ V W1.heap.size (W1.heap.size+2) (0+pl.length) S m (more (fun _=> []) pl) (lkL L qs (downTo L.length k0)) W/\Ans S t L qs k0:=⟨0,by rw[Z30]; exact hI,answer HSK.out (Or.inl rfl)⟩)
  | (
   rintro D c pre W hD ⟨k0,hk0,rfl⟩ ⟨rfl,pre0,x,hpre,hI,hcl⟩ hK;obtain rfl:pre0=downTo L.length (k0+1):=by
    rw[Z4t hk0] at hpre;exact ((List.append_inj' hpre rfl).1).symm
   obtain ⟨k0,hI,han⟩: ∃k0,FJ V W1.heap.size (W1.heap.size+2) (0+pl.length) S m (more (fun _=> []) pl) (lkL L qs (downTo L.length k0)) W/\Ans S t L qs k0:=⟨k0+1,hI,answer HSK.out (Or.inr hcl)⟩;clear hcl hpre hk0)
 all_goals
  have hzW:=hI.fi.size;have hzV:=HSV.out;have hzw:=HBL.out.size;have hww:=HW.out;have hge:=HGE.out;have hlow:=hI.low (n0:=w.heap.size) hzw hww.1 (fun k p hp=>(HPS.out k p hp).1);obtain ⟨q',hs5,hat⟩:=Z5M (hI.fi.read (by omega) (Nat.le_refl _)) (by omega) hww.1 (fun j hj=>(HBK.out.cells j hj).2.2.2.1.of (Nat.le_refl _) (fun g c hg=>hlow.cell (p:=⟨g,c,none⟩) hg)) HPV.out;have hbV:=HBM.out.trans (HBV.out.mono (by omega));have hend: ∀Wf:World,W.heap.size<=Wf.heap.size->(∀g c,g < W.heap.size->g≠w.heap.size+1->Wf.cell? ⟨g,c,none⟩=W.cell? ⟨g,c,none⟩)->ShAt Wf Wf.heap.size q' (fill (fun o n=>(lkL L qs (downTo L.length k0) (o,n)).map Prod.fst) t):=fun Wf hz hc=>by
   obtain ⟨o,ho⟩: ∃o,Wf.heap[w.heap.size+1]? =some o:=⟨Wf.heap[w.heap.size+1]'(by omega),Array.getElem?_eq_getElem (by omega)⟩;have e1: (V.putObj (w.heap.size+1) o).heap[w.heap.size+1]? =some o:=by
    simp only[World.putObj,Array.getElem?_setIfInBounds];rw[if_pos True.intro,if_pos (by omega)]
   have e2: ∀g,g≠w.heap.size+1->(V.putObj (w.heap.size+1) o).heap[g]? =V.heap[g]? :=fun g hg=>by
    simp only[World.putObj,Array.getElem?_setIfInBounds];rw[if_neg (fun e=>hg e.symm)]
   have c1: ∀c,(V.putObj (w.heap.size+1) o).cell? ⟨w.heap.size+1,c,none⟩=Wf.cell? ⟨w.heap.size+1,c,none⟩:=fun c=>World.cell?_of_block (w:=Wf) (e1.trans ho.symm);have c2: ∀g c,g≠w.heap.size+1->(V.putObj (w.heap.size+1) o).cell? ⟨g,c,none⟩=V.cell? ⟨g,c,none⟩:=fun g c hg=>World.cell?_of_block (w:=V) (e2 g hg);have hF2: ∀x∈F,x≠w.heap.size+1:=fun x hx e=>by have:=HF.out x hx; have:=HZ0.out; omega
   have hFl: ∀x∈F,x < W1.heap.size:=fun x hx=>HOW.out.lt x hx;have hP2:=HPW.out (V.putObj (w.heap.size+1) o) (fun x hx k=>(c2 x k (hF2 x hx)).trans (hbV.cell (p:=⟨x,k,none⟩) (hFl x hx))) (fun k=>(c2 _ k (by omega)).trans (hbV.cell (p:=⟨w.heap.size,k,none⟩) (show w.heap.size < W1.heap.size by omega)));have hR2:FlR W1.heap.size (V.putObj (w.heap.size+1) o) Wf (more (fun _=> []) pl) (lkL L qs (downTo L.length k0)):=⟨fun g c hg hp=>by
    by_cases e:g=w.heap.size+1
    {subst e; exact (c1 c).symm}
    · exact (hc g c (by omega) e).trans ((hI.fi.cell g c (by omega) (by omega) hp).trans (c2 g c e).symm),
    fun k s q e p hp=>(hI.fi.put k s q e p hp).of (fun c=>hc p.1 c (by have:=H0.out.lt k p hp; omega) (HPS.out k p hp).2)⟩
   obtain ⟨q2,h52,hat2⟩:=Z5M hR2 (by omega) hww.1 (fun j hj=>(HBK.out.cells j hj).2.2.2.1.of (Nat.le_refl _) (fun g c hg=>(hc g c (by omega) (by omega)).trans (hlow.cell (p:=⟨g,c,none⟩) hg))) hP2;have:=ZbK hs5 h52 (fun c=>hc _ c (by omega) (by omega));subst this;exact hat2
  clear hat hbV;have c4:=(hI.cell (x:=W1.heap.size+1) (by omega) (by omega) (fun k p hp=>by have:=H0.out.pl k p hp; omega) 0).trans HC3.out;have hR:Res0 W (w.heap.size+1):=HRV.out.of (fun k=>hI.cell (by omega) (by omega) (fun k p hp=>(HPS.out k p hp).2) k) (fun k=>hI.fi.fz _ k (by omega) (by omega));have hmp:=hI.gr.mp;obtain ⟨a1,a2⟩:=han;have hcw: ∀W',W'.heap[W1.heap.size]? =W.heap[W1.heap.size]? ->Calls Tryd.prog 33 #[.agg #[.map (some W1.heap.size)]] W' fun e W''=>e= .returned (.bool (put (find L) t).isSome)/\Below W'.heap.size W' W'':=fun W' h=>by
   rw[<-a1]; exact Z4s W' W1.heap.size (0+pl.length) _ m (hmp.same h)
  have HCW:=Y1 hcw;generalize hdc: (put (find L) t).isSome=dc at HCW a2;have HDC:=Y1 hdc;clear hdc;generalize fill (fun o n=>(lkL L qs (downTo L.length k0) (o,n)).map Prod.fst) t=u at hs5 hend a2;clear a1;obtain ⟨s0,s1,s2,s3,s4⟩:=hs5;simp only[Nat.zero_mul,Nat.zero_add] at s0 s1 s2 s3 s4;have HEND:=Y1 hend;have HRW:=Y1 hR;have HLW:=Y1 (HBL.out.trans hlow);have HAN:=Y1 a2;have HD:=Y1 hK;have HZA:=Y1 (And.intro hzW (And.intro hzV (And.intro hzw (And.intro hww hge))));have r0:=hR.1.1;have r1:=hR.1.2.1;have r2:=hR.1.2.2.1;have r3:=hR.1.2.2.2.1;have r4:=hR.1.2.2.2.2;have y0:=hR.2 0;have y1:=hR.2 1;have y2:=hR.2 2;have y3:=hR.2 3;have y4:=hR.2 4;have HS5:Hid (Sh5 W w.heap.size 0 u q'):=Y1 ⟨s0,s1,s2,s3,s4⟩;clear hend hR hlow hI hK hzW hzV hzw hww hge a2 hmp hcw;have hmx:Tryd.prog.follows .mixedOrders=true:=by kernel_rfl
  gi_wp2_with fail
  refine wpIn_region_any (by assumption) ?_;change wpAnyIn _ _ _ _ _ _ _ _ _ (World.drew _);refine wpAnyIn_ready (rs:= [0,1]) (by kernel_rfl) (by simp) ?_;refine AllReadyIn.cons rfl (fun K hK=> ?_) (AllReadyIn.cons rfl (fun K hK=> ?_) AllReadyIn.nil)
  {go_simp;refine hK _ _ ?_;clear hK K;refine wpAnyIn_ready (rs:= [1]) (by kernel_rfl) (by simp) ?_;refine AllReadyIn.cons rfl (fun K hK=> ?_) AllReadyIn.nil;go_simp;refine hK _ _ ?_;clear hK K;refine wpAnyIn_ready (rs:= [2]) (by kernel_rfl) (by simp) ?_;refine AllReadyIn.cons rfl (fun K hK=> ?_) AllReadyIn.nil;go_simp
   gi_wp2_with fail
   refine ⟨trivial,callsIn_wide.2 ?_⟩;refine (HCW.out W.drew rfl).mono ?_;rintro e Wc ⟨rfl,hbc⟩;obtain ⟨hz1,hz2,hz3,hz4,hz5⟩:=HZA.out;have hbd:Below W.heap.size W Wc:=(Below.refl _ W).drew.trans hbc;obtain ⟨s0,s1,s2,s3,s4⟩:=HS5.out.keep (show w.heap.size < W.heap.size by omega) hbd;obtain ⟨⟨r0,r1,r2,r3,r4⟩,rf⟩:=HRW.out.keep hbd (show w.heap.size+1 < W.heap.size by omega);have y0:=rf 0;have y1:=rf 1;have y2:=rf 2;have y3:=rf 3;have y4:=rf 4;have HBD:=Y1 hbd;clear hz1 hz2 hz3 hz4 hz5 hbc rf hbd;simp only;refine hK _ _ ?_;clear hK K;refine wpAnyIn_ready (rs:= [3]) (by kernel_rfl) (by simp) ?_;refine AllReadyIn.cons rfl (fun K hK=> ?_) AllReadyIn.nil;go_simp;refine hK _ _ ?_;clear hK K;refine wpAnyIn_ready (rs:= [4]) (by kernel_rfl) (by simp) ?_;refine AllReadyIn.cons rfl (fun K hK=> ?_) AllReadyIn.nil;go_simp;refine hK _ _ ?_;clear hK K;refine wpAnyIn_done (by kernel_rfl) ?_ _
   gi_wp2
   obtain ⟨hz1,hz2,hz3,hz4,hz5⟩:=HZA.out;have hE:=Z46 (u:=u) (q':=q') HBD.out (show w.heap.size+1 < W.heap.size by omega) HD.out (fun k hk=>by
    match k,hk with
    | 0,_=>exact ⟨_,r0⟩
    | 1,_=>exact ⟨_,r1⟩
    | 2,_=>exact ⟨_,r2⟩
    | 3,_=>exact ⟨_,r3⟩
    | 4,_=>exact ⟨_,r4⟩) (by omega)
   change bodyPostM _ _ _ _ _ _ _ (putAt Wc (w.heap.size+1) 0 u q');generalize putAt Wc (w.heap.size+1) 0 u q'=Wf at hE ⊢;obtain ⟨g1,g2,⟨p0,p1,p2,p3,p4⟩,g4,g5⟩:=hE;have HAT:=Y1 (HEND.out _ g2 g4);have HFB:=Y1 (HLW.out.trans (g5 w.heap.size (by omega) (by omega)));simp only[Nat.zero_add] at p0 p1 p2 p3 p4;refine ⟨by simp,.inl ⟨_,_,rfl,run_takeDeferred g1, ?_⟩⟩;refine ⟨.tuple #[shV u q',.bool dc], ?_,u,q',dc,rfl,HDC.out.symm,HAN.out,HAT.out,HFB.out⟩;simp[results,Tryd.results21,go_sem,p0,p1,p2,p3,p4]}
  {go_simp;refine hK _ _ ?_;clear hK K;refine wpAnyIn_ready (rs:= [0,2]) (by kernel_rfl) (by simp) ?_;refine AllReadyIn.cons rfl (fun K hK=> ?_) (AllReadyIn.cons rfl (fun K hK=> ?_) AllReadyIn.nil)
   {go_simp;refine hK _ _ ?_;clear hK K;refine wpAnyIn_ready (rs:= [2]) (by kernel_rfl) (by simp) ?_;refine AllReadyIn.cons rfl (fun K hK=> ?_) AllReadyIn.nil;go_simp
    gi_wp2_with fail
    refine ⟨trivial,callsIn_wide.2 ?_⟩;refine (HCW.out W.drew rfl).mono ?_;rintro e Wc ⟨rfl,hbc⟩;obtain ⟨hz1,hz2,hz3,hz4,hz5⟩:=HZA.out;have hbd:Below W.heap.size W Wc:=(Below.refl _ W).drew.trans hbc;obtain ⟨s0,s1,s2,s3,s4⟩:=HS5.out.keep (show w.heap.size < W.heap.size by omega) hbd;obtain ⟨⟨r0,r1,r2,r3,r4⟩,rf⟩:=HRW.out.keep hbd (show w.heap.size+1 < W.heap.size by omega);have y0:=rf 0;have y1:=rf 1;have y2:=rf 2;have y3:=rf 3;have y4:=rf 4;have HBD:=Y1 hbd;clear hz1 hz2 hz3 hz4 hz5 hbc rf hbd;simp only;refine hK _ _ ?_;clear hK K;refine wpAnyIn_ready (rs:= [3]) (by kernel_rfl) (by simp) ?_;refine AllReadyIn.cons rfl (fun K hK=> ?_) AllReadyIn.nil;go_simp;refine hK _ _ ?_;clear hK K;refine wpAnyIn_ready (rs:= [4]) (by kernel_rfl) (by simp) ?_;refine AllReadyIn.cons rfl (fun K hK=> ?_) AllReadyIn.nil;go_simp;refine hK _ _ ?_;clear hK K;refine wpAnyIn_done (by kernel_rfl) ?_ _
    gi_wp2
    obtain ⟨hz1,hz2,hz3,hz4,hz5⟩:=HZA.out;have hE:=Z46 (u:=u) (q':=q') HBD.out (show w.heap.size+1 < W.heap.size by omega) HD.out (fun k hk=>by
     match k,hk with
     | 0,_=>exact ⟨_,r0⟩
     | 1,_=>exact ⟨_,r1⟩
     | 2,_=>exact ⟨_,r2⟩
     | 3,_=>exact ⟨_,r3⟩
     | 4,_=>exact ⟨_,r4⟩) (by omega)
    change bodyPostM _ _ _ _ _ _ _ (putAt Wc (w.heap.size+1) 0 u q');generalize putAt Wc (w.heap.size+1) 0 u q'=Wf at hE ⊢;obtain ⟨g1,g2,⟨p0,p1,p2,p3,p4⟩,g4,g5⟩:=hE;have HAT:=Y1 (HEND.out _ g2 g4);have HFB:=Y1 (HLW.out.trans (g5 w.heap.size (by omega) (by omega)));simp only[Nat.zero_add] at p0 p1 p2 p3 p4;refine ⟨by simp,.inl ⟨_,_,rfl,run_takeDeferred g1, ?_⟩⟩;refine ⟨.tuple #[shV u q',.bool dc], ?_,u,q',dc,rfl,HDC.out.symm,HAN.out,HAT.out,HFB.out⟩;simp[results,Tryd.results21,go_sem,p0,p1,p2,p3,p4]}
   {go_simp
    gi_wp2_with fail
    refine ⟨trivial,callsIn_wide.2 ?_⟩;refine (HCW.out W.drew rfl).mono ?_;rintro e Wc ⟨rfl,hbc⟩;obtain ⟨hz1,hz2,hz3,hz4,hz5⟩:=HZA.out;have hbd:Below W.heap.size W Wc:=(Below.refl _ W).drew.trans hbc;obtain ⟨s0,s1,s2,s3,s4⟩:=HS5.out.keep (show w.heap.size < W.heap.size by omega) hbd;obtain ⟨⟨r0,r1,r2,r3,r4⟩,rf⟩:=HRW.out.keep hbd (show w.heap.size+1 < W.heap.size by omega);have y0:=rf 0;have y1:=rf 1;have y2:=rf 2;have y3:=rf 3;have y4:=rf 4;have HBD:=Y1 hbd;clear hz1 hz2 hz3 hz4 hz5 hbc rf hbd;simp only;refine hK _ _ ?_;clear hK K;refine wpAnyIn_ready (rs:= [0]) (by kernel_rfl) (by simp) ?_;refine AllReadyIn.cons rfl (fun K hK=> ?_) AllReadyIn.nil;go_simp;refine hK _ _ ?_;clear hK K;refine wpAnyIn_ready (rs:= [3]) (by kernel_rfl) (by simp) ?_;refine AllReadyIn.cons rfl (fun K hK=> ?_) AllReadyIn.nil;go_simp;refine hK _ _ ?_;clear hK K;refine wpAnyIn_ready (rs:= [4]) (by kernel_rfl) (by simp) ?_;refine AllReadyIn.cons rfl (fun K hK=> ?_) AllReadyIn.nil;go_simp;refine hK _ _ ?_;clear hK K;refine wpAnyIn_done (by kernel_rfl) ?_ _
    gi_wp2
    obtain ⟨hz1,hz2,hz3,hz4,hz5⟩:=HZA.out;have hE:=Z46 (u:=u) (q':=q') HBD.out (show w.heap.size+1 < W.heap.size by omega) HD.out (fun k hk=>by
     match k,hk with
     | 0,_=>exact ⟨_,r0⟩
     | 1,_=>exact ⟨_,r1⟩
     | 2,_=>exact ⟨_,r2⟩
     | 3,_=>exact ⟨_,r3⟩
     | 4,_=>exact ⟨_,r4⟩) (by omega)
    change bodyPostM _ _ _ _ _ _ _ (putAt Wc (w.heap.size+1) 0 u q');generalize putAt Wc (w.heap.size+1) 0 u q'=Wf at hE ⊢;obtain ⟨g1,g2,⟨p0,p1,p2,p3,p4⟩,g4,g5⟩:=hE;have HAT:=Y1 (HEND.out _ g2 g4);have HFB:=Y1 (HLW.out.trans (g5 w.heap.size (by omega) (by omega)));simp only[Nat.zero_add] at p0 p1 p2 p3 p4;refine ⟨by simp,.inl ⟨_,_,rfl,run_takeDeferred g1, ?_⟩⟩;refine ⟨.tuple #[shV u q',.bool dc], ?_,u,q',dc,rfl,HDC.out.symm,HAN.out,HAT.out,HFB.out⟩;simp[results,Tryd.results21,go_sem,p0,p1,p2,p3,p4]}}
end
section
open Go.RowKit Shp
open Expd (Bd fill keys find put Z0L)
def ResIs (w:World) (L:List Bd) (t:Sh) (e:Ending) (w':World):Prop:=
 ∃q',e= .returned (.tuple #[shV (Expd.resolve L t).1 q',.int .i64 (Expd.resolve L t).2])/\ShAt w' w'.heap.size q' (Expd.resolve L t).1/\Below w.heap.size w w'
theorem Z1I (w:World) (B:Nat):ShAt w B ⟨none,0,none,0⟩ Z0L:=by
 refine .mk _ _ 0 0 (fun _=>⟨none,0,none,0⟩) ⟨?_, ?_, ?_, ?_, ?_, ?_, ?_,fun _=>rfl,fun _=>rfl⟩ (Or.inl rfl) (Or.inl rfl) (fun i h=>absurd h (by simp[Z0L])) (fun i h=>absurd h (by simp[Z0L])) <;> simp[Z0L]
theorem Z2y (t:Sh) (q:Ptr) (L:List Bd) (A:Option Addr) (cap:Nat) (w:World) (hq:ShAt w w.heap.size q t) (hL:BdsAt w w.heap.size A L) (hl:L.length<=1000) (hg:WGlobs w):
 Calls Tryd.prog 9 #[shV t q,.slice A L.length cap] w (ResIs w L t):=by
 have hb0:Below w.heap.size w (fdW w t q):=Z0h (Z01 _ _) _;have c0:Sh5 (fdW w t q) w.heap.size 0 t q:=⟨by simp[fdW,go_sem],by simp[fdW,go_sem],by simp[fdW,go_sem],by simp[fdW,go_sem],by simp[fdW,go_sem]⟩;have hz0:w.heap.size+1 < (fdW w t q).heap.size:=by simp[fdW]
 have HB0:=Y1 hb0;have HZ0:=Y1 hz0;have HQ:=Y1 (hq.next hb0);have HC0:=Y1 c0;have HR0:=Y1 (Z5t w t q);have HLL:=Y1 (hL.next hb0);have HG:=Y1 (hg.next hb0);have HLN:=Y1 hl;obtain ⟨e0,e1,e2,e3,e4⟩:=c0;clear hb0 hq hL hl hg hz0;unfold shV;go_enter Tryd.func9,Tryd.ntmps9
 go_wp2_with fail
 change Calls _ _ _ (fdW w t q) _;generalize fdW w t q=W0 at HB0 HZ0 HQ HC0 HR0 HLL HG e0 e1 e2 e3 e4 ⊢;refine (Z2Y t q W0 HQ.out HG.out).mono ?_;rintro e W1 ⟨rfl,hb1⟩;have hz1:=hb1.size;have HB1:=Y1 (HB0.out.trans (hb1.mono (by have:=HB0.out.size; omega)));have hR1:=HR0.out.keep hb1 HZ0.out;have HC1:=Y1 (HC0.out.keep (show w.heap.size < W0.heap.size by have:=HZ0.out; omega) hb1);have HQ1:=Y1 (HQ.out.next hb1);have HL1:=Y1 (HLL.out.next hb1);have HG1:=Y1 (HG.out.next hb1);have HR1:=Y1 hR1;have HZ1:=Y1 (show w.heap.size+1 < W1.heap.size by have:=HZ0.out; omega);clear hb1 hR1 hz1 e0 e1 e2 e3 e4 HB0 HZ0 HQ HC0 HR0 HLL HG;by_cases hc:check t=0
 {rw[hc];obtain ⟨hz,_,hr⟩:=Z0f hc;have HCK:=Y1 hc;obtain ⟨x0,x1,x2,x3,x4⟩:=HC1.out;simp only[Nat.zero_add] at x0 x1 x2 x3 x4;have HF:=Y1 (Z89 t q L A cap W1 HQ1.out hz hr HL1.out HLN.out);clear hc hz hr;unfold shV at HF
  go_wp2_with fail
  refine HF.out.mono ?_;rintro e W2 ⟨u,q',ok,rfl,hok,hu,hat,hb2⟩;have hb3:=Z03 hb2 (Z01 W2 (.cells (Y8 u q') 25));have hB3:=Z07 W2 u q';have hlt:=Nat.lt_of_lt_of_le HZ1.out hb2.size;have hat3:=hat.next (Z01 W2 (.cells (Y8 u q') 25));have hR2:=HR1.out.keep hb2 HZ1.out;have hR3:=HR1.out.keep hb3 HZ1.out;have hne:w.heap.size+1≠W2.heap.size:=by omega
  have HOK:=Y1 hok;have HU:=Y1 hu;clear hok hu hat hb2 HF x0 x1 x2 x3 x4;simp only;cases ok with
  | false=>
   obtain ⟨W3,hW3⟩: ∃W3,W2.alloc (.cells (Y8 u q') 25)=W3:=⟨_,rfl⟩;rw[hW3] at hR3 hb3;obtain ⟨⟨r0,r1,r2,r3,r4⟩,rf⟩:=hR3;have y0:=rf 0;have y1:=rf 1;have y2:=rf 2;have y3:=rf 3;have y4:=rf 4;have HB3:=Y1 hb3;clear rf hat3 hB3 hb3 hR2;go_wp2;have hn:put (find L) t=none:=by
    have:=HOK.out;cases e:put (find L) t with
    | none=>rfl
    | some y=>rw[e] at this; cases this
   have hr:=Expd.resolve_name HCK.out hn;refine bodyPost_ret (v:= .tuple #[.agg #[.int .i64 0,.string ⟨#[]⟩,.string ⟨#[]⟩,.slice none 0 0,.slice none 0 0],.int .i64 110]) (by simp[results,Tryd.results9,go_sem,r0,r1,r2,r3,r4]) rfl ?_;refine ⟨⟨none,0,none,0⟩, ?_, ?_, ?_⟩
   {rw[hr]; rfl}
   {rw[hr]; exact Z1I _ _}
   {exact Z0j (HB1.out.trans (HB3.out.mono (by have:=HB1.out.size; omega))) (Nat.le_succ _) _ _ _ _ _}
  | true=>
   have hput:=HU.out rfl;have HP:=Y1 hput;have HB3:=Y1 hb3;have HR3:=Y1 hR3;have HA3:=Y1 hat3;have HG3:=Y1 (HG1.out.next hb3);have HBX:=Y1 hB3;obtain ⟨_,⟨b0,b1,b2,b3,b4⟩,_⟩:=hB3;clear hput hb3 hR3 hR2 hat3 HOK HU;have HL3:=Y1 (show w.heap.size+1 < (W2.alloc (.cells (Y8 u q') 25)).heap.size from by simp; omega);have HW2:=Y1 hlt;clear hlt hne
   go_wp2_with fail
   generalize W2.alloc (.cells (Y8 u q') 25)=W3 at HB3 HR3 HA3 HG3 HBX HL3 b0 b1 b2 b3 b4 ⊢;refine (Z2Y u q' W3 HA3.out HG3.out).mono ?_;rintro e W4 ⟨rfl,hb4⟩;have hR4:=HR3.out.keep hb4 HL3.out;have HB4:=Y1 ((HB1.out.trans (HB3.out.mono (by have:=HB1.out.size; omega))).trans (hb4.mono (by have:=HB1.out.size; have:=HB3.out.size; omega)));have HA4:=Y1 (HA3.out.next hb4);have HG4:=Y1 (HG3.out.next hb4);have HL4:=Y1 (Nat.lt_of_lt_of_le HL3.out hb4.size);have HR4:=Y1 hR4;clear b0 b1 b2 b3 b4;obtain ⟨_,⟨b0,b1,b2,b3,b4⟩,_⟩:=HBX.out.next hb4;clear hR4 hb4 HB3 HR3 HA3 HG3 HBX HL3;by_cases hcu:check u=0
   {rw[hcu];have HCU:=Y1 hcu;have HS:=Y1 (Z5K u q' W4 HA4.out HG4.out hcu);clear hcu
    go_wp2_with fail
    refine HS.out.mono ?_;rintro e W5 ⟨q5,F5,rfl,ho5,hF5,hb5⟩;obtain ⟨⟨r0,r1,r2,r3,r4⟩,rf⟩:=HR4.out.keep hb5 HL4.out;have y0:=rf 0;have y1:=rf 1;have y2:=rf 2;have y3:=rf 3;have y4:=rf 4;have HO5:=Y1 ho5;have HF5:=Y1 hF5;have HB5:=Y1 (HB4.out.trans (hb5.mono (by have:=HB4.out.size; omega)));obtain ⟨z,hz'⟩: ∃z,z=sorted u:=⟨_,rfl⟩;rw[<-hz'] at HO5 ⊢;have HZ:=Y1 hz';clear rf ho5 hF5 hb5 hz' b0 b1 b2 b3 b4;go_wp2;refine bodyPost_ret (v:= .tuple #[.agg (Y8 z q5),.int .i64 0]) (by simp[results,Tryd.results9,go_sem,r0,r1,r2,r3,r4]) rfl ?_;have hr:=Expd.resolve_ok HCK.out HP.out HCU.out;rw[<-HZ.out] at hr;have h5:=Z19 (b:=w.heap.size+1) HO5.out (fun x hx e=>by have:=HF5.out x hx; have:=HL4.out; omega) (.int .i64 z.kind) (.string ⟨z.of_.toArray⟩) (.string ⟨z.name.toArray⟩) (.slice q5.A z.names.length q5.c) (.slice q5.P z.parts.length q5.d);refine ⟨q5, ?_, ?_, ?_⟩
    {rw[hr]}
    {rw[hr]; exact h5.at_ h5.lt}
    {exact Z0j HB5.out (Nat.le_succ _) _ _ _ _ _}}
   {have hcu': (check u !=0)=true:=by simpa using hcu
    have HCU:=Y1 hcu;obtain ⟨⟨r0,r1,r2,r3,r4⟩,rf⟩:=HR4.out;have y0:=rf 0;have y1:=rf 1;have y2:=rf 2;have y3:=rf 3;have y4:=rf 4;clear rf hcu;go_wp2;refine bodyPost_ret (v:= .tuple #[.agg #[.int .i64 0,.string ⟨#[]⟩,.string ⟨#[]⟩,.slice none 0 0,.slice none 0 0],.int .i64 (check u)]) (by simp[results,Tryd.results9,go_sem,r0,r1,r2,r3,r4]) rfl ?_;have hr:=Expd.resolve_great HCK.out HP.out HCU.out;refine ⟨⟨none,0,none,0⟩, ?_, ?_, ?_⟩
    {rw[hr]; rfl}
    {rw[hr]; exact Z1I _ _}
    {exact Z0j HB4.out (Nat.le_succ _) _ _ _ _ _}}}
 {have hc': (check t !=0)=true:=by simpa using hc
  have HCK:=Y1 hc;obtain ⟨⟨r0,r1,r2,r3,r4⟩,rf⟩:=HR1.out;have y0:=rf 0;have y1:=rf 1;have y2:=rf 2;have y3:=rf 3;have y4:=rf 4;clear rf hc;go_wp2;refine bodyPost_ret (v:= .tuple #[.agg #[.int .i64 0,.string ⟨#[]⟩,.string ⟨#[]⟩,.slice none 0 0,.slice none 0 0],.int .i64 (check t)]) (by simp[results,Tryd.results9,go_sem,r0,r1,r2,r3,r4]) rfl ?_;refine ⟨⟨none,0,none,0⟩, ?_, ?_, ?_⟩
  {rw[Expd.resolve_bad HCK.out]; rfl}
  {rw[Expd.resolve_bad HCK.out]; exact Z1I _ _}
  {exact Z0j HB1.out (Nat.le_succ _) _ _ _ _ _}}
end
end Go.Proofs.YtmeiijjpomcgcaaDoor
