/- What the proofs of ParsePlaces want, part 6. -/
import Derived.WalkSmall
import Derived.MakeChecks
import Derived.Shelf.Unicode.ValidAny
import Derived.Lib.LaidU8T
import Derived.Test.YtkncdbaoaeeoiaaGreatDoorK0n5
set_option linter.unusedVariables false
set_option linter.unusedSimpArgs false
set_option linter.unusedSectionVars false
set_option maxRecDepth 100000
set_option maxHeartbeats 16000000
namespace Go.Proofs.YtkncdbaoaeeoiaaGreatDoor
section
open Go.RowKit
structure Globs (w:World):Prop where
 syn: ∃te pe,w.cell? ⟨4,0,none⟩=some (.iface te pe)
 rng: ∃te pe,w.cell? ⟨5,0,none⟩=some (.iface te pe)
 tab:Lib.TabIs Tryz.prog w "internal/strconv.uint64pow10" .u64 Lib.pow10Tab
theorem Z5H:Tryz.prog.globalNamed "internal/strconv.uint64pow10" =some 6:=by kernel_rfl
theorem Globs.next {w w':World} (h:Globs w) (hb:Below w.heap.size w w'):Globs w':=by
 obtain ⟨⟨te,pe,h1⟩,⟨te',pe',h2⟩,h3⟩:=h;have l1:=Lib.lt_of_cell h1;have l2:=Lib.lt_of_cell h2;have l3:=Lib.lt_of_cell (Lib.TabIs.cell h3 Z5H 0 (by rw[Lib.pow10Tab_length]; omega));exact ⟨⟨te,pe,(hb.cell (p:=⟨4,0,none⟩) l1).trans h1⟩,⟨te',pe',(hb.cell (p:=⟨5,0,none⟩) l2).trans h2⟩,var?_below hb Z5H l3 h3⟩
theorem Z28 {P:Program} {w:World}: ∀ {l:List (String×DataW Unit)} {ps:List MemPlace},DataW.LaidVars P w l ps-> ∀x∈l,
 ∃g t cs fuel p,P.globalNamed x.1=some g/\(P.globals[g]?).map (·.type)=some t/\w.var? P x.1=some cs/\DataW.trod (fun _=>()) P w 0 (fun _=>true) false fuel t cs.toList=some (x.2,p)
 | [],_,_,x,hx=>by simp at hx
 | (n,d)::r,ps,h,x,hx=>by
  obtain ⟨g,t,cs,fuel,p,q,h1,h2,h3,h4,h5,_⟩:=h;rcases List.mem_cons.1 hx with rfl | hx
  {exact ⟨g,t,cs,fuel,p,h1,h2,h3,h4⟩}
  {exact Z28 h5 x hx}
theorem Z8l {w:World} {n:String} {g:Nat} {d:DataW Unit} {nm:String} {cs:Array Value} {fuel:Nat} {p:List MemPlace} {g' t:Nat}
 (hg:Tryz.prog.globalNamed n=some g) (ht: (Tryz.prog.globals[g]?).map (·.type)=some 184)
 (h1:Tryz.prog.globalNamed n=some g') (h2: (Tryz.prog.globals[g']?).map (·.type)=some t) (h3:w.var? Tryz.prog n=some cs) (h4:DataW.trod (fun _=>()) Tryz.prog w 0 (fun _=>true) false fuel t cs.toList=some (.iface nm d,p)):
 ∃te pe,w.cell? ⟨g,0,none⟩=some (.iface te pe):=by
 obtain rfl:=Option.some.inj (hg.symm.trans h1);obtain rfl:=Option.some.inj (ht.symm.trans h2);obtain ⟨_,u,v,hcs,_,_⟩:=iface_of_trod Tryz.underlying184 h4;have h5:=World.var?_cell hg h3 0;refine ⟨u,v,h5.trans ?_⟩;have e:cs=#[.iface u v]:=by
  apply Array.ext';simpa using hcs
 rw[e]; rfl
theorem Zeb {L:List (String×DataW Unit)} {W:World} (h:laidMet Tryz.prog L W) (m1: ("strconv.ErrSyntax",Rows.laid_strconv_ErrSyntax)∈L) (m2: ("strconv.ErrRange",Rows.laid_strconv_ErrRange)∈L)
 (m3: ("internal/strconv.uint64pow10",Rows.laid_internal_strconv_uint64pow10)∈L):Globs W:=by
 obtain ⟨ps,hv,_,_⟩:=h;obtain ⟨g1,t1,cs1,f1,p1,a1,b1,c1,d1⟩:=Z28 hv _ m1;obtain ⟨g2,t2,cs2,f2,p2,a2,b2,c2,d2⟩:=Z28 hv _ m2;obtain ⟨g3,t3,cs3,f3,p3,a3,b3,c3,d3⟩:=Z28 hv _ m3;refine ⟨Z8l (by kernel_rfl) (by kernel_rfl) a1 b1 c1 d1,Z8l (by kernel_rfl) (by kernel_rfl) a2 b2 c2 d2, ?_⟩;obtain rfl:=Option.some.inj (Z5H.symm.trans a3);have ht: (Tryz.prog.globals[6]?).map (·.type)=some 253:=by kernel_rfl
 obtain rfl:=Option.some.inj (ht.symm.trans b3);unfold Lib.TabIs;rw[c3];have e: (Rows.laid_internal_strconv_uint64pow10:DataW Unit)=Lib.tabData .u64 Lib.pow10Tab:=by kernel_rfl
 have d3':DataW.trod (fun _=>()) Tryz.prog W 0 (fun _=>true) false f3 253 cs3.toList=some (Lib.tabData .u64 Lib.pow10Tab,p3):=by rw[<-e]; exact d3
 have hc:=Lib.cells_of_tab (n:=20) Tryz.underlying253 Tryz.underlying222 (by kernel_rfl) (by kernel_rfl) d3';rw[<-hc]
def wordsC:Array Value:=#[.string ⟨#[]⟩,.string ⟨#[73,110,116]⟩,.string ⟨#[66,111,111,108]⟩,.string ⟨#[84,101,120,116]⟩,.string ⟨#[65,110,121]⟩]
theorem Z5I:Tryz.prog.globalNamed "pandect/shape.words" =some 3:=by kernel_rfl
def WGlobs (w:World):Prop:=w.var? Tryz.prog "pandect/shape.words" =some wordsC
theorem WGlobs.cell {w:World} (h:WGlobs w) (i:Nat):w.cell? ⟨3,i,none⟩=wordsC[i]? :=World.var?_cell Z5I h i
theorem WGlobs.lt {w:World} (h:WGlobs w):3 < w.heap.size:=lt_of_cell ((WGlobs.cell h 0).trans (by rfl:wordsC[0]? =some (.string ⟨#[]⟩)))
theorem WGlobs.next {w w':World} (h:WGlobs w) (hb:Below w.heap.size w w'):WGlobs w':=var?_below hb Z5I (WGlobs.lt h) h
theorem Z4l {P:Program} {w:World}: ∀ {l:List (String×DataW Unit)} {ps:List MemPlace},DataW.LaidVars P w l ps-> ∀x∈l,
 ∃g t cs fuel p,P.globalNamed x.1=some g/\(P.globals[g]?).map (·.type)=some t/\w.var? P x.1=some cs/\DataW.trod (fun _=>()) P w 0 (fun _=>true) false fuel t cs.toList=some (x.2,p)
 | [],_,_,x,hx=>by simp at hx
 | (n,d)::r,ps,h,x,hx=>by
  obtain ⟨g,t,cs,fuel,p,q,h1,h2,h3,h4,h5,_⟩:=h;rcases List.mem_cons.1 hx with rfl | hx
  {exact ⟨g,t,cs,fuel,p,h1,h2,h3,h4⟩}
  {exact Z4l h5 x hx}
theorem ZcE {L:List (String×DataW Unit)} {W:World} (h:laidMet Tryz.prog L W) (m4: ("pandect/shape.words",Rows.laid_pandect_shape_words)∈L):WGlobs W:=by
 unfold WGlobs;obtain ⟨ps,hv,_,_⟩:=h;obtain ⟨g1,t1,cs,f1,p1,a1,b1,c1,d1⟩:=Z4l hv _ m4;obtain rfl:=Option.some.inj (Z5I.symm.trans a1);have ht: (Tryz.prog.globals[3]?).map (·.type)=some 221:=by kernel_rfl
 obtain rfl:=Option.some.inj (ht.symm.trans b1);rw[c1];congr 1;have hc1:Tryz.prog.cellsOf 9=1:=by kernel_rfl
 obtain ⟨xs,m,_,hx,hsz,hl,he⟩:=DataW.trod_array Tryz.underlying221 d1;rw[hc1] at he;have hc6:Tryz.prog.cellsOf 221=5:=by kernel_rfl
 rw[hc6] at hsz;have hx1:=(Prod.mk.inj hx).1;apply Array.ext'
 match xs,hl,hx1 with
 | [y0,y1,y2,y3,y4],_,hx1=>
  obtain ⟨L,hL⟩: ∃L,L=cs.toList:=⟨_,rfl⟩;rw[<-hL] at hsz he ⊢;clear hL
  match L,hsz with
  | [k0,k1,k2,k3,k4],_=>
   have e0:=he 0 (by omega);have e1:=he 1 (by omega);have e2:=he 2 (by omega);have e3:=he 3 (by omega);have e4:=he 4 (by omega);simp only[List.getElem?_cons_zero,List.getElem?_cons_succ,Nat.mul_one,List.drop_zero,List.drop_succ_cons,List.take_succ_cons,List.take_zero] at e0 e1 e2 e3 e4;obtain ⟨x0,h0,rfl,_⟩:=DataW.trod_string Tryz.underlying9 e0;obtain ⟨x1,h1,rfl,_⟩:=DataW.trod_string Tryz.underlying9 e1;obtain ⟨x2,h2,rfl,_⟩:=DataW.trod_string Tryz.underlying9 e2;obtain ⟨x3,h3,rfl,_⟩:=DataW.trod_string Tryz.underlying9 e3;obtain ⟨x4,h4,rfl,_⟩:=DataW.trod_string Tryz.underlying9 e4;simp at h0 h1 h2 h3 h4;simp[Rows.laid_pandect_shape_words] at hx1;obtain ⟨z0,z1,z2,z3,z4⟩:=hx1;have key: ∀(x:ByteArray) (l:List UInt8),l=x.data.toList->x=⟨l.toArray⟩:=fun x l h=>by rw[h]
   rw[h0,h1,h2,h3,h4];have k0:=key x0 [] (by simp[z0]);have k1:=key x1 [73,110,116] (by simp[<-z1]);have k2:=key x2 [66,111,111,108] (by simp[<-z2]);have k3:=key x3 [84,101,120,116] (by simp[<-z3]);have k4:=key x4 [65,110,121] (by simp[<-z4]);rw[k0,k1,k2,k3,k4]; rfl
end
end Go.Proofs.YtkncdbaoaeeoiaaGreatDoor
namespace Go.Proofs
open Go.Shelf
def Tryz.lays196_ren:Go.Shelf.Ren:=⟨fun | 196=>172 | 259=>183 | n=>n,fun | 9=>9 | 4=>4 | 3=>3 | 5=>5 | 12=>12 | 119=>200 | 0=>0 | 46=>204 | 139=>203 | 138=>202 | 53=>222 | n=>n,fun | 3=>0 | 4=>1 | n=>n⟩
theorem Tryz.lays196:Go.Proofs.Lays.n196 Tryz.prog Tryz.lays196_ren:= {
 mixed:=by kernel_rfl
 f196:=Tryz.func172.trans (congrArg some (by kernel_rfl))
 f259:=Tryz.func183.trans (congrArg some (by kernel_rfl))
 t0:=Tryz.underlying0
 a0:=Tryz.isAgg0
 z0:=Tryz.sizeOf0
 v0:=Tryz.zeroValue0
 t3:=Tryz.underlying3
 a3:=Tryz.isAgg3
 z3:=Tryz.sizeOf3
 v3:=Tryz.zeroValue3
 t4:=Tryz.underlying4
 a4:=Tryz.isAgg4
 z4:=Tryz.sizeOf4
 v4:=Tryz.zeroValue4
 t5:=Tryz.underlying5
 a5:=Tryz.isAgg5
 z5:=Tryz.sizeOf5
 v5:=Tryz.zeroValue5
 t9:=Tryz.underlying9
 a9:=Tryz.isAgg9
 z9:=Tryz.sizeOf9
 v9:=Tryz.zeroValue9
 t12:=Tryz.underlying12
 a12:=Tryz.isAgg12
 z12:=Tryz.sizeOf12
 v12:=Tryz.zeroValue12
 t46:=Tryz.underlying204
 a46:=Tryz.isAgg204
 z46:=Tryz.sizeOf204
 v46:=Tryz.zeroValue204
 t53:=Tryz.underlying222
 a53:=Tryz.isAgg222
 z53:=Tryz.sizeOf222
 v53:=Tryz.zeroValue222
 t119:=Tryz.underlying200
 a119:=Tryz.isAgg200
 z119:=Tryz.sizeOf200
 t138:=Tryz.underlying202
 a138:=Tryz.isAgg202
 z138:=Tryz.sizeOf202
 v138:=Tryz.zeroValue202
 t139:=Tryz.underlying203
 a139:=Tryz.isAgg203
 z139:=Tryz.sizeOf203
 v139:=Tryz.zeroValue203
 g3:=by kernel_rfl
 g4:=by kernel_rfl }
end Go.Proofs
namespace Go.Proofs.YtkncdbaoaeeoiaaGreatDoor
open Go.RowKit Go.Shelf
def Z0J (w:World):Prop:=Go.Lib.Utf8Tabs (Tryz.lays196_ren.g 3) (Tryz.lays196_ren.g 4) w
theorem Z0J.next {w w':World} (h:Z0J w) (hb:Below w.heap.size w w'):Z0J w':=Utf8Tabs_below h hb
theorem Zba {L:List (String×DataW Unit)} {W:World} (h:laidMet Tryz.prog L W) (m1: ("unicode/utf8.first",Rows.laid_unicode_utf8_first)∈L) (m2: ("unicode/utf8.acceptRanges",Rows.laid_unicode_utf8_acceptRanges)∈L):Z0J W:=
 utf8Tabs_of_readsT (U8Types.of196 Tryz.lays196) ⟨by kernel_rfl,by kernel_rfl,by kernel_rfl,by kernel_rfl,by kernel_rfl,by kernel_rfl,by kernel_rfl⟩
  (by have e:=Go.Lib.laidMet.reads h m1; rwa [show (Rows.laid_unicode_utf8_first:DataW Unit)=Go.Lib.firstData from by kernel_rfl] at e)
  (by have e:=Go.Lib.laidMet.reads h m2; rwa [show (Rows.laid_unicode_utf8_acceptRanges:DataW Unit)=Go.Lib.acceptData from by kernel_rfl] at e)
theorem Z5J (s:ByteArray) (w:World) (hs:s.size<=9223372036854775807) (hT:Z0J w):
 Y9 172 #[.string s] w (.bool (Go.Lib.validD s.data.toList)):=Any.utf8_ValidString Tryz.lays196 s w hs hT
end Go.Proofs.YtkncdbaoaeeoiaaGreatDoor
namespace Go.Proofs.YtkncdbaoaeeoiaaGreatDoor
open Go.RowKit Tms
open Shp (Sh)
open Pso (St)
section
variable {F G : List Nat} {a b c w w' : World}
theorem UpT.trans (h:UpT F a b) (k:UpT F b c):UpT F a c:=
 ⟨k.os.trans h.os,k.tape.trans h.tape,k.output.trans h.output,Nat.le_trans h.size k.size,fun x h1 h2=>(k.block x (Nat.lt_of_lt_of_le h1 h.size) h2).trans (h.block x h1 h2)⟩
theorem UpT.mono (h:UpT F a b) (hs: ∀x∈F,x < a.heap.size->x∈G):UpT G a b:=
 ⟨h.os,h.tape,h.output,h.size,fun x h1 h2=>h.block x h1 (fun hx=>h2 (hs x hx h1))⟩
theorem Z05 (h:Below a.heap.size a b):UpT F a b:=⟨h.os,h.tape,h.output,h.size,fun x h1 _=>h.block x h1⟩
theorem UpT.set (h:UpT F a b) (p:Addr) (hp:a.heap.size<=p.block\/p.block∈F) (v:Value):UpT F a (b.setCell p v):=
 ⟨h.os,h.tape,h.output,by simpa[World.setCell] using h.size,fun x h1 h2=>(Below.heap_setCell _ _ _ _ (fun e=>by
  rcases hp with hp | hp
  {omega}
  · exact h2 (e▸hp))).trans (h.block x h1 h2)⟩
theorem UpT.drew (h:UpT F a b):UpT F a b.drew:=⟨h.os,h.tape,h.output,h.size,h.block⟩
theorem UpT.alloc (h:UpT F a b) (o:Obj):UpT F a (b.alloc o):=h.below (Z01 _ _)
theorem UpT.grown (h:UpT F a b) {row:Option Nat} (hg:b.grownBy c row) (hr: ∀k,row=some k->a.heap.size<=k):UpT F a c:=
 ⟨hg.os.trans h.os,hg.tape.trans h.tape,hg.output.trans h.output,Nat.le_trans h.size hg.size,fun x h1 h2=>(hg.block x (Nat.lt_of_lt_of_le h1 h.size) (fun e=>by have:=hr x e.symm; omega)).trans (h.block x h1 h2)⟩
theorem UpT.low (h:UpT F a b) (hF: ∀x∈F,a.heap.size<=x):Below a.heap.size a b:=⟨h.os,h.tape,h.output,h.size,fun x h1=>h.block x h1 (fun hx=>by have:=hF x hx; omega)⟩
end
structure Gl (w:World):Prop where
 g:Globs w
 s:WGlobs w
 u:Z0J w
theorem Gl.next {w w':World} (h:Gl w) (hb:Below w.heap.size w w'):Gl w':=⟨h.g.next hb,h.s.next hb,h.u.next hb⟩
def GlAt (bp:Nat) (W:World):Prop:= ∃W0:World,W0.heap.size<=bp/\Below W0.heap.size W0 W/\Gl W0
theorem GlAt.gl {bp:Nat} {W:World} (h:GlAt bp W):Gl W:=by obtain ⟨W0,_,h2,h3⟩:=h; exact h3.next h2
theorem GlAt.up {bp:Nat} {W W':World} {F:List Nat} (h:GlAt bp W) (hu:UpT F W W') (hF: ∀x∈F,bp<=x):GlAt bp W':=by
 obtain ⟨W0,h1,h2,h3⟩:=h;refine ⟨W0,h1,⟨hu.os.trans h2.os,hu.tape.trans h2.tape,hu.output.trans h2.output,Nat.le_trans h2.size hu.size,fun k hk=> ?_⟩,h3⟩;rw[hu.block k (Nat.lt_of_lt_of_le hk h2.size) (fun hx=>by have:=hF k hx; omega)];exact h2.block k hk
structure PAt (W:World) (bp:Nat) (A:Option Addr) (c:Nat) (l:List Tk) (σ:St):Prop where
 lt:bp < W.heap.size
 c0:W.cell? ⟨bp,0,none⟩=some (.slice A l.length c)
 c1:W.cell? ⟨bp,1,none⟩=some (.int .i64 (σ.1:Int))
 c2:W.cell? ⟨bp,2,none⟩=some (.int .i64 σ.2.1)
 c3:W.cell? ⟨bp,3,none⟩=some (.int .i64 σ.2.2)
 fz: ∀k,W.frozen? ⟨bp,k,none⟩=false
 tk:Tks W bp A l
 gs:GlAt bp W
 tx: ∀b∈l,b.t.text.length<=1000000
theorem Tks.same {W W':World} {B:Nat} {A:Option Addr} {l:List Tk} (h:Tks W B A l) (hs: ∀b,b < B->SameT W W' b):Tks W' B A l:=by
 rcases h with h | ⟨g,off,hA,hlt,hc⟩
 {exact Or.inl h}
 {refine Or.inr ⟨g,off,hA,hlt,fun i hi=> ?_⟩;obtain ⟨h0,h1,h2⟩:=hc i hi;exact ⟨((hs g hlt).1 _).trans h0,((hs g hlt).1 _).trans h1,((hs g hlt).1 _).trans h2⟩}
section
variable {W W' : World} {bp : Nat} {A : Option Addr} {c : Nat} {l : List Tk} {σ : St}
theorem PAt.keep {F:List Nat} (h:PAt W bp A c l σ) (hu:UpT F W W') (hF: ∀x∈F,bp < x):PAt W' bp A c l σ:=by
 have hs:=hu.same h.lt (fun hx=>by have:=hF bp hx; omega);exact ⟨Nat.lt_of_lt_of_le h.lt hu.size,(hs.1 0).trans h.c0,(hs.1 1).trans h.c1,(hs.1 2).trans h.c2,(hs.1 3).trans h.c3,fun k=>(hs.2 k).trans (h.fz k),
  h.tk.same (fun b hb=>hu.same (Nat.lt_trans hb h.lt) (fun hx=>by have:=hF b hx; omega)),h.gs.up hu (fun x hx=>Nat.le_of_lt (hF x hx)),h.tx⟩
theorem PAt.below (h:PAt W bp A c l σ) (hb:Below W.heap.size W W'):PAt W' bp A c l σ:=h.keep (F:= []) (Z05 hb) (by simp)
theorem PAt.drew (h:PAt W bp A c l σ):PAt W.drew bp A c l σ:=h.below Y2.drew
theorem PAt.alloc (h:PAt W bp A c l σ) (o:Obj):PAt (W.alloc o) bp A c l σ:=h.below (Z01 _ _)
theorem PAt.set (h:PAt W bp A c l σ) (p:Addr) (hp:bp < p.block) (v:Value):PAt (W.setCell p v) bp A c l σ:=
 h.keep (F:= [p.block]) ((UpT.refl _ _).set p (Or.inr (by simp)) v) (by simpa using hp)
theorem PAt.turn1 (h:PAt W bp A c l σ) (i:Nat):PAt (W.setCell ⟨bp,1,none⟩ (.int .i64 (i:Int))) bp A c l (i,σ.2):=by
 have o: ∀k,k≠1->(W.setCell ⟨bp,1,none⟩ (.int .i64 (i:Int))).cell? ⟨bp,k,none⟩=W.cell? ⟨bp,k,none⟩:=fun k hk=>World.cell?_setCell_other _ _ _ _ (fun e=>by have:=congrArg Addr.off e; simp at this; omega);exact ⟨by simpa[World.setCell] using h.lt,(o 0 (by omega)).trans h.c0,World.cell?_setCell_same _ _ _ h.c1,(o 2 (by omega)).trans h.c2,(o 3 (by omega)).trans h.c3,fun k=>(World.frozen?_setCell ..).trans (h.fz k),h.tk.same (fun b hb=>Z1y _ _ _ (by simp; omega)),h.gs.up (F:= [bp]) ((UpT.refl _ _).set _ (Or.inr (by simp)) _) (by simp),h.tx⟩
theorem PAt.turn23 (h:PAt W bp A c l σ) (e a:Int):PAt ((W.setCell ⟨bp,2,none⟩ (.int .i64 e)).setCell ⟨bp,3,none⟩ (.int .i64 a)) bp A c l (σ.1,(e,a)):=by
 have o: ∀(w:World) k m v,k≠m->(w.setCell ⟨bp,m,none⟩ v).cell? ⟨bp,k,none⟩=w.cell? ⟨bp,k,none⟩:=fun w k m v hk=>World.cell?_setCell_other _ _ _ _ (fun e=>by have:=congrArg Addr.off e; simp at this; omega);refine ⟨by simpa[World.setCell] using h.lt, ?_, ?_, ?_, ?_,fun k=> ?_,h.tk.same (fun b hb=>(Z1y _ _ _ (by simp; omega)).trans (Z1y _ _ _ (by simp; omega))),h.gs.up (F:= [bp]) (((UpT.refl _ _).set _ (Or.inr (by simp)) _).set _ (Or.inr (by simp)) _) (by simp),h.tx⟩
 {rw[o _ 0 3 _ (by omega),o _ 0 2 _ (by omega)]; exact h.c0}
 {rw[o _ 1 3 _ (by omega),o _ 1 2 _ (by omega)]; exact h.c1}
 {rw[o _ 2 3 _ (by omega)]; exact World.cell?_setCell_same _ _ _ h.c2}
 {exact World.cell?_setCell_same _ _ _ ((o _ 3 2 _ (by omega)).trans h.c3)}
 {rw[World.frozen?_setCell,World.frozen?_setCell]; exact h.fz k}
end
structure New (lo hi:Nat) (W:World) (P:World->Prop):Prop where
 hi_:hi<=W.heap.size
 at_: ∀W',W.heap.size<=W'.heap.size->(∀b,lo<=b->b < hi->SameT W W' b)->P W'
section
variable {lo hi : Nat} {W W' : World} {P : World -> Prop}
theorem New.here (h:New lo hi W P):P W:=h.at_ W (Nat.le_refl _) (fun b _ _=>⟨fun _=>rfl,fun _=>rfl⟩)
theorem New.same (h:New lo hi W P) (hz:W.heap.size<=W'.heap.size) (hs: ∀b,lo<=b->b < hi->SameT W W' b):New lo hi W' P:=
 ⟨Nat.le_trans h.hi_ hz,fun W2 hz2 hs2=>h.at_ W2 (Nat.le_trans hz hz2) (fun b h1 h2=>(hs b h1 h2).trans (hs2 b h1 h2))⟩
theorem New.up {F:List Nat} (h:New lo hi W P) (hu:UpT F W W') (hF: ∀x∈F,x < lo\/hi<=x):New lo hi W' P:=
 h.same hu.size (fun b h1 h2=>hu.same (Nat.lt_of_lt_of_le h2 h.hi_) (fun hx=>by have:=hF b hx; omega))
section
variable (h : New lo hi W P)
include h
theorem New.below (hb:Below W.heap.size W W'):New lo hi W' P:=h.up (F:= []) (Z05 hb) (by simp)
theorem New.grown {row:Option Nat} (hg:W.grownBy W' row) (hr: ∀k,row=some k->k < lo\/hi<=k):New lo hi W' P:=
 h.same hg.size (fun b h1 h2=>by
  have h3:some b≠row:=fun e=>by have:=hr b e.symm; omega
  have h4:=h.hi_;exact ⟨fun j=>World.cell?_of_block (w:=W) (hg.block b (by omega) h3),fun j=>World.frozen?_of_block (w:=W) (hg.block b (by omega) h3)⟩)
theorem New.wide {lo' hi':Nat} (h1:lo'<=lo) (h2:hi<=hi') (h3:hi'<=W.heap.size):New lo' hi' W P:=
 ⟨h3,fun W' hz hs=>h.at_ W' hz (fun b k1 k2=>hs b (by omega) (by omega))⟩
end
end
end Go.Proofs.YtkncdbaoaeeoiaaGreatDoor
namespace Go.Proofs.YtkncdbaoaeeoiaaGreatDoor
open Go.RowKit Tms
open Shp (Sh)
section
variable {α : Type} {cf : α -> List Value} {m : Nat}
theorem Z1V (h: ∀x,(cf x).length=m) (l:List α): (l.flatMap cf).length=l.length * m:=by
 induction l with
 | nil=>simp
 | cons a l ih=>rw[List.flatMap_cons,List.length_append,ih,h,List.length_cons,Nat.add_mul,Nat.one_mul,Nat.add_comm]
theorem Zav (h: ∀x,(cf x).length=m) {l:List α} {i c:Nat} (hi:i < l.length) (hc:c < m): (l.flatMap cf)[i * m+c]? =(cf (l[i]'hi))[c]? :=by
 have h1:l=l.take i++([l[i]'hi]++l.drop (i+1)):=by rw[List.singleton_append,List.getElem_cons_drop,List.take_append_drop]
 have h2: ((l.take i).flatMap cf).length=i * m:=by rw[Z1V h,List.length_take]; congr 1; omega
 conv=>lhs; rw[h1]
 rw[List.flatMap_append,List.flatMap_append,List.getElem?_append_right (by omega),h2,Nat.add_sub_cancel_left,List.getElem?_append_left (by simpa[h] using hc)];simp
end
structure ES where
 t:Sh
 q:Ptr
 lo:Nat
 hi:Nat
def cS (x:ES):List Value:= [.int .i64 x.t.kind,.string ⟨x.t.of_.toArray⟩,.string ⟨x.t.name.toArray⟩,.slice x.q.A x.t.names.length x.q.c,.slice x.q.P x.t.parts.length x.q.d]
theorem Z8m (x:ES): (cS x).length=5:=rfl
theorem ZfZ (x:ES): ∀u∈cS x,u.oneCell'=true:=by
 intro u hu;simp only[cS,List.mem_cons,List.not_mem_nil,or_false] at hu;rcases hu with rfl | rfl | rfl | rfl | rfl <;> rfl
def ES.Is (x:ES) (W:World):Prop:=New x.lo x.hi W (fun W'=>ShAt W' W'.heap.size x.q x.t)
structure ET where
 t:Tm
 q:TP
 lo:Nat
 hi:Nat
def cT (x:ET):List Value:= [.int .i64 x.t.kind,.string ⟨x.t.of_.toArray⟩,.string ⟨x.t.name.toArray⟩,.int .i64 x.t.n,.slice x.q.A x.t.names.length x.q.c,.slice x.q.V x.t.vars.length x.q.e,.slice x.q.S x.t.shapes.length x.q.s,.slice x.q.P x.t.parts.length x.q.d,.int .i64 x.t.at_]
theorem Z3E (x:ET): (cT x).length=9:=rfl
theorem Zg0 (x:ET): ∀u∈cT x,u.oneCell'=true:=by
 intro u hu;simp only[cT,List.mem_cons,List.not_mem_nil,or_false] at hu;rcases hu with rfl | rfl | rfl | rfl | rfl | rfl | rfl | rfl | rfl <;> rfl
def ET.Is (x:ET) (W:World):Prop:=New x.lo x.hi W (fun W'=>TmAt W' W'.heap.size x.q x.t)
def cN (x:List UInt8):List Value:= [.string ⟨x.toArray⟩]
theorem Zg1 (x:List UInt8): (cN x).length=1:=rfl
def Row {α:Type} (W:World) (B:Nat) (e:TypeId) (m:Nat) (cf:α->List Value) (A:Option Addr) (c:Nat) (l:List α):Prop:=W.ownsRow B e m (.slice A l.length c) l.length (l.flatMap cf)
section
variable {α : Type} {W W' : World} {B : Nat} {e : TypeId} {m : Nat} {cf : α -> List Value} {A : Option Addr} {c : Nat} {l : List α}
theorem Row.start (W:World) (B:Nat) (e:TypeId) (m:Nat) (cf:α->List Value):Row W B e m cf none 0 []:=World.ownsRow_nil _ _ _ _
section
variable (h : Row W B e m cf A c l)
include h
theorem Row.lt: ∀b,rowT A=some b->B<=b/\b < W.heap.size:=Z21 h
theorem Row.form: (A=none/\l.length=0/\c=0)\/ ∃g,A=some ⟨g,0,none⟩/\l.length<=c:=Z5o h
theorem Row.grown {row:Option Nat} (hg:W.grownBy W' row) (hn:rowT A=none\/rowT A≠row):Row W' B e m cf A c l:=World.ownsRow.kept h hg (by rw[Z0v]; exact hn)
theorem Row.below (hb:Below W.heap.size W W'):Row W' B e m cf A c l:=
 h.grown (row:=none) ⟨hb.os,hb.tape,hb.output,hb.size,fun j hj _=>hb.block j hj⟩ (by cases h:rowT A with | none=>exact Or.inl rfl | some b=>exact Or.inr nofun)
theorem Row.set (a:Addr) (hn:rowT A≠some a.block) (u:Value):Row (W.setCell a u) B e m cf A c l:=Z1n h (by rw[Z0v]; exact hn) u
end
theorem Row.up {F:List Nat} (h:Row W B e m cf A c l) (hu:UpT F W W') (hF: ∀x∈F,rowT A≠some x):Row W' B e m cf A c l:=by
 obtain ⟨h1,h2⟩:=h;refine ⟨h1, ?_⟩;rcases h2 with h2 | ⟨g,cap,cur,hv,hb,hg,hc⟩
 {exact Or.inl h2}
 {refine Or.inr ⟨g,cap,cur,hv,hb, ?_,hc⟩;have hgl:g < W.heap.size:=by
   rcases Nat.lt_or_ge g W.heap.size with h | h
   {exact h}
   {rw[Array.getElem?_eq_none h] at hg; cases hg}
  rw[hu.block g hgl (fun hx=>hF g hx ?_)]
  {exact hg}
  {simp only[Value.slice.injEq] at hv;rw[hv.1]; rfl}}
end
end Go.Proofs.YtkncdbaoaeeoiaaGreatDoor
namespace Go.Proofs.YtkncdbaoaeeoiaaGreatDoor
section
open Go.RowKit
theorem Z2R (l:List UInt8) (hl:l.length<=1000000) (w:World):
 Calls Tryz.prog 50 #[.string ⟨l.toArray⟩] w fun e w'=>e= .returned (.int .i64 (l.takeWhile Lex.nameB).length)/\w=w':=
 Zcm ⟨l.toArray⟩ (by rw[Z07]; omega) w
theorem Zbb (c:UInt8) (r:List UInt8):Lex.isName (c::r)=(decide ((c::r).length<=24)&&Lex.small c&&(c::r).all Lex.nameB&& !Lex.isWord (c::r)):=rfl
theorem Z2S (l:List UInt8) (hl:l.length<=9223372036854775807) (w:World):
 Y9 52 #[.string ⟨l.toArray⟩] w (.bool (Lex.isName l)):=by
 cases l with
 | nil=>
  have HM:Hid (Lex.isName []=false):=Y1 rfl;go_enter Tryz.func52,Tryz.ntmps52;go_wp2;go_ret;exact ⟨by rw[HM.out]; rfl,Below.refl _ _⟩
 | cons c r=>
  have HM:=Y1 (Zbb c r);have HT:=Y1 (Lex.Z80 (p:=Lex.nameB) (s:=c::r));obtain ⟨l,hll⟩: ∃l:List UInt8,l=c::r:=⟨_,rfl⟩;rw[<-hll] at hl HM HT ⊢;have hz: (⟨l.toArray⟩:ByteArray).size=l.length:=Z07 _;have he:l.isEmpty=false:=by rw[hll]; rfl
  have hidx: ∀W,(Instr.index 9 (.string ⟨l.toArray⟩) (.int .i64 0)).run Tryz.prog W= .ok (.int .u8 c.toNat) W:=fun W=>by rw[hll]; rfl
  clear hll;by_cases h24:l.length<=24
  {have h24d:decide ((l.length:Int)<=24)=true:=decide_eq_true (by omega);cases h1:Lex.small c
   {have HF:Hid (Lex.isName l=false):=Y1 (by rw[HM.out,h1]; simp);go_enter Tryz.func52,Tryz.ntmps52
    go_wp2_with fail
    refine (Z0e c _).mono ?_;rintro e w2 ⟨rfl,rfl⟩;rw[h1];go_wp2;go_ret;exact ⟨by rw[HF.out]; rfl,Below.refl _ _⟩}
   {have H1:=Y1 h1;go_enter Tryz.func52,Tryz.ntmps52
    go_wp2_with fail
    refine (Z0e c _).mono ?_;rintro e w2 ⟨rfl,rfl⟩;rw[h1];clear h1
    go_wp2_with fail
    refine (Z2R l (by omega) _).mono ?_;rintro e w2 ⟨rfl,rfl⟩;obtain ⟨k,hk⟩: ∃k,k=(l.takeWhile Lex.nameB).length:=⟨_,rfl⟩;rw[<-hk] at HT ⊢;clear hk;by_cases hkl:k=l.length
    {have hkd: ((k:Int)==(l.length:Int))=true:=by rw[beq_iff_eq]; omega
     have HA:Hid (l.all Lex.nameB=true):=Y1 (HT.out.1 hkl);have HF:Hid (Lex.isName l= !Lex.isWord l):=Y1 (by rw[HM.out,H1.out,HA.out,decide_eq_true h24]; simp);clear hkl
     go_wp2_with fail
     refine (Z26 l _).mono ?_;rintro e w2 ⟨rfl,hb2⟩;go_wp2;go_ret;exact ⟨by rw[HF.out]; rfl,hb2⟩}
    {have hkd: ((k:Int)==(l.length:Int))=false:=by rw[beq_eq_false_iff_ne]; omega
     have HF:Hid (Lex.isName l=false):=Y1 (by
      have:l.all Lex.nameB=false:=by
       cases hq:l.all Lex.nameB with
       | false=>rfl
       | true=>exact absurd (HT.out.2 hq) hkl
      rw[HM.out,this]; simp)
     clear hkl;go_wp2;go_ret;exact ⟨by rw[HF.out]; rfl,Below.refl _ _⟩}}}
  {have h24d:decide ((l.length:Int)<=24)=false:=decide_eq_false (by omega);have HF:Hid (Lex.isName l=false):=Y1 (by rw[HM.out,decide_eq_false h24]; rfl);go_enter Tryz.func52,Tryz.ntmps52;go_wp2;go_ret;exact ⟨by rw[HF.out]; rfl,Below.refl _ _⟩}
theorem Z9B (c:UInt8) (r:List UInt8):Lex.isUpper (c::r)=(decide ((c::r).length<=24)&&Lex.great c&&(c::r).all Lex.nameB):=rfl
theorem Z2x (l:List UInt8) (hl:l.length<=9223372036854775807) (w:World):
 Y9 53 #[.string ⟨l.toArray⟩] w (.bool (Lex.isUpper l)):=by
 cases l with
 | nil=>
  have HM:Hid (Lex.isUpper []=false):=Y1 rfl;go_enter Tryz.func53,Tryz.ntmps53;go_wp2;go_ret;exact ⟨by rw[HM.out]; rfl,Below.refl _ _⟩
 | cons c r=>
  have HM:=Y1 (Z9B c r);have HT:=Y1 (Lex.Z80 (p:=Lex.nameB) (s:=c::r));obtain ⟨l,hll⟩: ∃l:List UInt8,l=c::r:=⟨_,rfl⟩;rw[<-hll] at hl HM HT ⊢;have hz: (⟨l.toArray⟩:ByteArray).size=l.length:=Z07 _;have he:l.isEmpty=false:=by rw[hll]; rfl
  have hidx: ∀W,(Instr.index 9 (.string ⟨l.toArray⟩) (.int .i64 0)).run Tryz.prog W= .ok (.int .u8 c.toNat) W:=fun W=>by rw[hll]; rfl
  clear hll;by_cases h24:l.length<=24
  {have h24d:decide ((l.length:Int)<=24)=true:=decide_eq_true (by omega);cases h1:Lex.great c
   {have HF:Hid (Lex.isUpper l=false):=Y1 (by rw[HM.out,h1]; simp);go_enter Tryz.func53,Tryz.ntmps53
    go_wp2_with fail
    refine (Z0j c _).mono ?_;rintro e w2 ⟨rfl,rfl⟩;rw[h1];go_wp2;go_ret;exact ⟨by rw[HF.out]; rfl,Below.refl _ _⟩}
   {have H1:=Y1 h1;go_enter Tryz.func53,Tryz.ntmps53
    go_wp2_with fail
    refine (Z0j c _).mono ?_;rintro e w2 ⟨rfl,rfl⟩;rw[h1];clear h1
    go_wp2_with fail
    refine (Z2R l (by omega) _).mono ?_;rintro e w2 ⟨rfl,rfl⟩;obtain ⟨k,hk⟩: ∃k,k=(l.takeWhile Lex.nameB).length:=⟨_,rfl⟩;rw[<-hk] at HT ⊢;clear hk;by_cases hkl:k=l.length
    {have hkd: ((k:Int)==(l.length:Int))=true:=by rw[beq_iff_eq]; omega
     have HA:Hid (l.all Lex.nameB=true):=Y1 (HT.out.1 hkl);have HF:Hid (Lex.isUpper l=true):=Y1 (by rw[HM.out,H1.out,HA.out,decide_eq_true h24]; rfl);clear hkl;go_wp2;go_ret;exact ⟨by rw[HF.out]; rfl,Below.refl _ _⟩}
    {have hkd: ((k:Int)==(l.length:Int))=false:=by rw[beq_eq_false_iff_ne]; omega
     have HF:Hid (Lex.isUpper l=false):=Y1 (by
      have:l.all Lex.nameB=false:=by
       cases hq:l.all Lex.nameB with
       | false=>rfl
       | true=>exact absurd (HT.out.2 hq) hkl
      rw[HM.out,this]; simp)
     clear hkl;go_wp2;go_ret;exact ⟨by rw[HF.out]; rfl,Below.refl _ _⟩}}}
  {have h24d:decide ((l.length:Int)<=24)=false:=decide_eq_false (by omega);have HF:Hid (Lex.isUpper l=false):=Y1 (by rw[HM.out,decide_eq_false h24]; rfl);go_enter Tryz.func53,Tryz.ntmps53;go_wp2;go_ret;exact ⟨by rw[HF.out]; rfl,Below.refl _ _⟩}
section
variable {p : UInt8 -> Bool} {l : List UInt8}
include p l
theorem Zfk {i:Nat} (hi:i < l.length) (h:p (l[i]'hi)=false):l.all p=false:=by
 rw[List.all_eq_false]; exact ⟨l[i],List.getElem_mem _,by rw[h]; simp⟩
theorem Zg2 (h: ∀j (hj:j < l.length),p (l[j]'hj)=true):l.all p=true:=by
 rw[List.all_eq_true];intro x hx;obtain ⟨j,hj,rfl⟩:=List.mem_iff_getElem.1 hx;exact h j hj
end
theorem Zfl (c:UInt8): ((c.toNat:Int) !=48)=decide (c≠48):=by
 rw[Bool.eq_iff_iff,bne_iff_ne,decide_eq_true_eq];constructor
 {rintro h rfl; exact h rfl}
 {intro h h2; refine h (UInt8.toNat_inj.1 ?_); show c.toNat=48; omega}
theorem Z29 (l:List UInt8) (hl:l.length<=1000000) (w:World):
 Calls Tryz.prog 56 #[.string ⟨l.toArray⟩] w fun e w'=>e= .returned (.bool (Lex.number l))/\w=w':=by
 have hz: (⟨l.toArray⟩:ByteArray).size=l.length:=Z07 _;go_enter Tryz.func56,Tryz.ntmps56
 go_wp2_with fail
 go_loopw [3] (fun ii wr=> ∃n:Nat,ii= .int .i64 n/\n<=l.length/\Hid (∀j (hj:j < l.length),j < n->Lex.digit (l[j]'hj)=true)/\w=wr)
  (fun i _=>l.length - (intOf i).toNat)
 case atStart=>exact ⟨0,rfl,Nat.zero_le _,Y1 (fun j _ hj=>absurd hj (by omega)),rfl⟩
 case round=>
  obtain ⟨n,rfl,hn,HN,rfl⟩:=hrel;by_cases hlt:n < l.length
  {have hi1: (n:Int) < (l.length:Int):=by omega
   obtain ⟨c,hc⟩: ∃c,c=l[n]'hlt:=⟨_,rfl⟩;have hidx: ∀W,(Instr.index 9 (.string ⟨l.toArray⟩) (.int .i64 (n:Int))).run Tryz.prog W= .ok (.int .u8 c.toNat) W:=fun W=>by
    rw[hc]; exact Z0i ⟨l.toArray⟩ n (by omega) W
   have HC:=Y1 hc;clear hc;cases h1:Lex.digit c
   {have HF:Hid (Lex.number l=false):=Y1 (by unfold Lex.number; rw[Zfk hlt (by rw[<-HC.out]; exact h1)]; rfl)
    go_wp2_with fail
    refine (Z0x c _).mono ?_;rintro e w2 ⟨rfl,rfl⟩;rw[h1];go_wp2;go_ret;exact ⟨by rw[HF.out]; rfl,rfl⟩}
   {have HM:Hid (Lex.digit (l[n]'hlt)=true):=Y1 (by rw[<-HC.out]; exact h1)
    go_wp2_with fail
    refine (Z0x c _).mono ?_;rintro e w2 ⟨rfl,rfl⟩;rw[h1];go_wp2
    go_roundw
    case rel=>exact ⟨n+1,by go_num,by omega,Y1 (fun j hj hji=>by
     rcases Nat.lt_succ_iff_lt_or_eq.1 hji with h | rfl
     {exact HN.out j hj h}
     · exact HM.out),trivial⟩
    case measure=>simp[intOf]; omega}}
  {have hi1: ¬(n:Int) < (l.length:Int):=by omega
   have HA:Hid (l.all Lex.digit=true):=Y1 (Zg2 (fun j hj=>HN.out j hj (by omega)));have HF:Hid (Lex.number l=(decide (1<=l.length)&&decide (l.length<=15)&&(decide (l.length=1)||decide (l.head? ≠some 48)))):=Y1 (by unfold Lex.number; rw[HA.out,Bool.true_and]);by_cases h1:1<=l.length
   {have h1d:decide ((1:Int)<=(l.length:Int))=true:=decide_eq_true (by omega);by_cases h15:l.length<=15
    {have h15d:decide ((l.length:Int)<=15)=true:=decide_eq_true (by omega);by_cases hone:l.length=1
     {have honed: ((l.length:Int)==1)=true:=by rw[beq_iff_eq]; omega
      have HF2:Hid (Lex.number l=true):=Y1 (by rw[HF.out,decide_eq_true h1,decide_eq_true h15,decide_eq_true hone]; rfl);clear hone;go_wp2;go_ret;exact ⟨by rw[HF2.out]; rfl,rfl⟩}
     {have honed: ((l.length:Int)==1)=false:=by rw[beq_eq_false_iff_ne]; omega
      obtain ⟨c,r,hcr⟩: ∃c r,l=c::r:=by cases l with
       | nil=>simp at h1
       | cons c r=>exact ⟨c,r,rfl⟩
      have hidx: ∀W,(Instr.index 9 (.string ⟨l.toArray⟩) (.int .i64 0)).run Tryz.prog W= .ok (.int .u8 c.toNat) W:=fun W=>by rw[hcr]; rfl
      have h48:=Zfl c;have HF2:Hid (Lex.number l=decide (c≠48)):=Y1 (by
       rw[HF.out,decide_eq_true h1,decide_eq_true h15,decide_eq_false hone,hcr];simp)
      obtain ⟨q,hq⟩: ∃q,q=decide (c≠48):=⟨_,rfl⟩;rw[<-hq] at HF2 h48;clear hcr hq hone;go_wp2;go_ret;exact ⟨by rw[HF2.out]; rfl,rfl⟩}}
    {have h15d:decide ((l.length:Int)<=15)=false:=decide_eq_false (by omega);have HF2:Hid (Lex.number l=false):=Y1 (by rw[HF.out,decide_eq_false h15]; simp);go_wp2;go_ret;exact ⟨by rw[HF2.out]; rfl,rfl⟩}}
   {have h1d:decide ((1:Int)<=(l.length:Int))=false:=decide_eq_false (by omega);have HF2:Hid (Lex.number l=false):=Y1 (by rw[HF.out,decide_eq_false h1]; rfl);go_wp2;go_ret;exact ⟨by rw[HF2.out]; rfl,rfl⟩}}
def Ints (w:World) (B:Nat) (A:Option Addr) (zs:List Int):Prop:=
 zs.length=0\/ ∃b off,A=some ⟨b,off,none⟩/\b < B/\ ∀i (h:i < zs.length),w.cell? ⟨b,off+i,none⟩=some (.int .i64 (zs[i]'h))
theorem Ints.keep {w w':World} {B B':Nat} {A:Option Addr} {zs:List Int} (h:Ints w B A zs) (hb:Below B' w w') (hB:B<=B'):Ints w' B A zs:=by
 rcases h with h | ⟨b,off,hA,hlt,hc⟩
 {exact Or.inl h}
 {exact Or.inr ⟨b,off,hA,hlt,fun i hi=>(hb.cell (p:=⟨b,off+i,none⟩) (Nat.lt_of_lt_of_le hlt hB)).trans (hc i hi)⟩}
theorem Ints.more {w:World} {B B':Nat} {A:Option Addr} {zs:List Int} (h:Ints w B A zs) (hB:B<=B'):Ints w B' A zs:=by
 rcases h with h | ⟨b,off,hA,hlt,hc⟩
 {exact Or.inl h}
 {exact Or.inr ⟨b,off,hA,Nat.lt_of_lt_of_le hlt hB,hc⟩}
theorem Ints.next {w w':World} {A:Option Addr} {zs:List Int} (h:Ints w w.heap.size A zs) (hb:Below w.heap.size w w'):Ints w' w'.heap.size A zs:=
 (h.keep hb (Nat.le_refl _)).more hb.size
theorem Z9C {w:World} {B n:Nat} {v:Value} {zs:List Int} (h:w.ownsRow B 3 1 v n (zs.map (Value.int .i64))): ∃A cap,v= .slice A zs.length cap/\Ints w w.heap.size A zs/\(A=none->zs.length=0/\cap=0):=by
 have hlen:=h.1;rw[List.length_map,Nat.mul_one] at hlen;subst hlen;rcases h.2 with ⟨rfl,h0⟩ | ⟨g,cap,cur,rfl,hB,hh,_⟩
 {exact ⟨none,0,by rw[h0],Or.inl h0,fun _=>⟨h0,rfl⟩⟩}
 {refine ⟨_,_,rfl,Or.inr ⟨g,0,rfl, ?_,fun i hi=> ?_⟩,fun h=>by cases h⟩
  {exact (h.lt g rfl).2}
  {rw[Nat.zero_add,h.cellAt i (by omega)];simp[hi]}}
theorem Z39 {w:World} {B n:Nat} {v:Value} {l:List UInt8} (h:w.ownsRow B 5 1 v n (Lib.byteCells l)):
 (convert 137 9 v).run Tryz.prog w= .ok (.string ⟨l.toArray⟩) w:=by
 have hlen:=h.1;rw[Lib.byteCells_length,Nat.mul_one] at hlen;rcases h.2 with ⟨rfl,rfl⟩ | ⟨g,cap,cur,rfl,_,hh,_⟩
 {have:l= []:=List.eq_nil_of_length_eq_zero hlen;subst this;exact run_convert_bytes_nil w 137 5 Tryz.underlying137 Tryz.underlying5 0 0 9 Tryz.underlying9}
 {have hr:=run_convert_bytes_arg (P:=Tryz.prog) w 137 5 Tryz.underlying137 Tryz.underlying5 g 0 n cap (l.map fun b=>(b.toNat:Int)) (by simpa using hlen) (fun i hi=>by
   have hc:=h.cellAt i (by omega);rw[Nat.zero_add,hc,Lib.byteCells];have hi':i < l.length:=by omega
   simp[hi']) 9 Tryz.underlying9
  rw[hr];have e:strOfNums (l.map fun b=>(b.toNat:Int))=⟨l.toArray⟩:=by
   unfold strOfNums;rw[List.map_map];congr 2
   conv=>rhs; rw[<-List.map_id l]
   apply List.map_congr_left;intro b _;simp
  rw[e]}
theorem Z2T (w:World) (l:List UInt8) {cs:Array Value} {n:Nat} (h:cs.toList=Lib.byteCells l) (hn:n=l.length) (hl:l.length<=1000):
 (convert 137 9 (.slice (some ⟨w.heap.size,0,none⟩) n n)).run Tryz.prog (w.alloc (.cells cs 5))= .ok (.string ⟨l.toArray⟩) (w.alloc (.cells cs 5)):=by
 subst hn;have hz:cs.size=l.length:=by rw[<-Array.length_toList,h,Lib.byteCells_length]
 have:=World.ownsRow_lit (base:=w.heap.size) (e:=5) (size:=1) w cs l.length (Nat.le_refl _) (by unfold maxLen; omega) (by omega);rw[h] at this;exact Z39 this
end
section
open Go
theorem Z73 (a:Nat) (ha:a < 9223372036854775808): (BitVec.ofInt 64 (a:Int)).toNat=a:=by
 rw[BitVec.ofInt_natCast,BitVec.toNat_ofNat]; exact Nat.mod_eq_of_lt (by omega)
theorem Zbc (a b:Nat) (ha:a < 9223372036854775808) (hb:b < 9223372036854775808):bits .or .i64 (a:Int) (b:Int)=((a ||| b:Nat):Int):=by
 have hx:a ||| b < 2 ^ 63:=Nat.or_lt_two_pow (by omega) (by omega);show IntKind.i64.wrap ((BitVec.ofInt 64 (a:Int) ||| BitVec.ofInt 64 (b:Int)).toNat:Int)=_;rw[BitVec.toNat_or,Z73 a ha,Z73 b hb,IntKind.wrap_i64];omega
theorem ZcG (x y:Int) (h0:0<=x) (h1:x < 1000000000) (h2:0<=y) (h3:y < 64):bits .or .i64 (x * 64) y=x * 64+y:=by
 obtain ⟨a,rfl⟩:=Int.eq_ofNat_of_zero_le h0;obtain ⟨b,rfl⟩:=Int.eq_ofNat_of_zero_le h2;rw[show (a:Int) * 64=((a * 64:Nat):Int) from by omega,Zbc _ _ (by omega) (by omega),nat_join 6 (a * 64) b (by omega) (by omega)];omega
end
section
open Go.RowKit
theorem Z2g {p:Int} (h:Utf.pt p=true):0<=p/\p<=1114111/\(p < 55296\/57343 < p):=(Utf.Z1f p).1 h
section
variable (p : Int) (w : World)
include p w
theorem Z4D:
 Calls Tryz.prog 189 #[.int .i64 p] w fun e w'=>e= .returned (.bool (Utf.pt p))/\w=w':=by
 by_cases h0:0<=p
 {by_cases h1:p<=1114111
  {by_cases h2:p < 55296
   {have e:Utf.pt p=true:=(Utf.Z1f p).2 ⟨h0,h1,Or.inl h2⟩;rw[e];clear e;go_enter Tryz.func189,Tryz.ntmps189;go_wp2;go_ret;exact ⟨rfl,rfl⟩}
   {by_cases h3:57343 < p
    {have e:Utf.pt p=true:=(Utf.Z1f p).2 ⟨h0,h1,Or.inr h3⟩;rw[e];clear e;go_enter Tryz.func189,Tryz.ntmps189;go_wp2;go_ret;exact ⟨rfl,rfl⟩}
    {have e:Utf.pt p=false:=Bool.eq_false_iff.2 fun h=>by have:=Z2g h; omega
     rw[e];clear e;go_enter Tryz.func189,Tryz.ntmps189;go_wp2;go_ret;exact ⟨rfl,rfl⟩}}}
  {have e:Utf.pt p=false:=Bool.eq_false_iff.2 fun h=>by have:=Z2g h; omega
   rw[e];clear e;go_enter Tryz.func189,Tryz.ntmps189;go_wp2;go_ret;exact ⟨rfl,rfl⟩}}
 {have e:Utf.pt p=false:=Bool.eq_false_iff.2 fun h=>by have:=Z2g h; omega
  rw[e];clear e;go_enter Tryz.func189,Tryz.ntmps189;go_wp2;go_ret;exact ⟨rfl,rfl⟩}
theorem Z11:
 Calls Tryz.prog 80 #[.int .i64 p] w fun e w'=>e= .returned (.bool (Utf.pt p))/\w=w':=by
 by_cases h0:0<=p
 {by_cases h1:p<=1114111
  {by_cases h2:p < 55296
   {have e:Utf.pt p=true:=(Utf.Z1f p).2 ⟨h0,h1,Or.inl h2⟩;rw[e];clear e;go_enter Tryz.func80,Tryz.ntmps80;go_wp2;go_ret;exact ⟨rfl,rfl⟩}
   {by_cases h3:57343 < p
    {have e:Utf.pt p=true:=(Utf.Z1f p).2 ⟨h0,h1,Or.inr h3⟩;rw[e];clear e;go_enter Tryz.func80,Tryz.ntmps80;go_wp2;go_ret;exact ⟨rfl,rfl⟩}
    {have e:Utf.pt p=false:=Bool.eq_false_iff.2 fun h=>by have:=Z2g h; omega
     rw[e];clear e;go_enter Tryz.func80,Tryz.ntmps80;go_wp2;go_ret;exact ⟨rfl,rfl⟩}}}
  {have e:Utf.pt p=false:=Bool.eq_false_iff.2 fun h=>by have:=Z2g h; omega
   rw[e];clear e;go_enter Tryz.func80,Tryz.ntmps80;go_wp2;go_ret;exact ⟨rfl,rfl⟩}}
 {have e:Utf.pt p=false:=Bool.eq_false_iff.2 fun h=>by have:=Z2g h; omega
  rw[e];clear e;go_enter Tryz.func80,Tryz.ntmps80;go_wp2;go_ret;exact ⟨rfl,rfl⟩}
theorem Z45:
 Calls Tryz.prog 190 #[.int .i64 p] w fun e w'=>e= .returned (.int .i64 (Utf.width p:Nat))/\w=w':=by
 unfold Utf.width;by_cases h0:p < 128
 {rw[if_pos h0];go_enter Tryz.func190,Tryz.ntmps190;go_wp2;go_ret;exact ⟨rfl,rfl⟩}
 {rw[if_neg h0];by_cases h1:p < 2048
  {rw[if_pos h1];go_enter Tryz.func190,Tryz.ntmps190;go_wp2;go_ret;exact ⟨rfl,rfl⟩}
  {rw[if_neg h1];by_cases h2:p < 65536
   {rw[if_pos h2];go_enter Tryz.func190,Tryz.ntmps190;go_wp2;go_ret;exact ⟨rfl,rfl⟩}
   {rw[if_neg h2];go_enter Tryz.func190,Tryz.ntmps190;go_wp2;go_ret;exact ⟨rfl,rfl⟩}}}
end
theorem ZcH (x:Int):Lib.byteCells [Utf.byte x]= [.int .u8 (x % 256)]:=by
 simp[Lib.byteCells,Utf.Z0a]
theorem ZcI (x y:Int):Lib.byteCells [Utf.byte x,Utf.byte y]= [.int .u8 (x % 256),.int .u8 (y % 256)]:=by
 simp[Lib.byteCells,Utf.Z0a]
theorem Z9D (x y z:Int):Lib.byteCells [Utf.byte x,Utf.byte y,Utf.byte z]= [.int .u8 (x % 256),.int .u8 (y % 256),.int .u8 (z % 256)]:=by
 simp[Lib.byteCells,Utf.Z0a]
theorem Zbd (x y z u:Int):Lib.byteCells [Utf.byte x,Utf.byte y,Utf.byte z,Utf.byte u]= [.int .u8 (x % 256),.int .u8 (y % 256),.int .u8 (z % 256),.int .u8 (u % 256)]:=by
 simp[Lib.byteCells,Utf.Z0a]
theorem Z2y (p:Int) (w:World) (h:Utf.pt p=true):
 Y9 81 #[.int .i64 p] w (.string ⟨(Utf.bytes p).toArray⟩):=by
 obtain ⟨h0,h1,_⟩:=Z2g h;clear h;unfold Utf.bytes;by_cases h2:p < 128
 {rw[if_pos h2];have hc:=Z2T w [Utf.byte (p)] (cs:=#[.int .u8 (p)]) (n:=1) (by rw[ZcH,show (p) % 256=p from by omega]) rfl (by simp);go_enter Tryz.func81,Tryz.ntmps81;go_wp2;go_ret;exact ⟨rfl,Y2.alloc (Nat.le_refl _) _⟩}
 {rw[if_neg h2];by_cases h3:p < 2048
  {rw[if_pos h3];have hc:=Z2T w [Utf.byte (192+p / 64),Utf.byte (128+p % 64)] (cs:=#[.int .u8 (192+p / 64),.int .u8 (128+p % 64)]) (n:=2) (by rw[ZcI,show (192+p / 64) % 256=192+p / 64 from by omega,show (128+p % 64) % 256=128+p % 64 from by omega]) rfl (by simp);go_enter Tryz.func81,Tryz.ntmps81;go_wp2;go_ret;exact ⟨rfl,Y2.alloc (Nat.le_refl _) _⟩}
  {rw[if_neg h3];by_cases h4:p < 65536
   {rw[if_pos h4];have hc:=Z2T w [Utf.byte (224+p / 4096),Utf.byte (128+p / 64 % 64),Utf.byte (128+p % 64)] (cs:=#[.int .u8 (224+p / 4096),.int .u8 (128+p / 64 % 64),.int .u8 (128+p % 64)]) (n:=3) (by rw[Z9D,show (224+p / 4096) % 256=224+p / 4096 from by omega,show (128+p / 64 % 64) % 256=128+p / 64 % 64 from by omega,show (128+p % 64) % 256=128+p % 64 from by omega]) rfl (by simp);go_enter Tryz.func81,Tryz.ntmps81;go_wp2;go_ret;exact ⟨rfl,Y2.alloc (Nat.le_refl _) _⟩}
   {rw[if_neg h4];have hc:=Z2T w [Utf.byte (240+p / 262144),Utf.byte (128+p / 4096 % 64),Utf.byte (128+p / 64 % 64),Utf.byte (128+p % 64)] (cs:=#[.int .u8 (240+p / 262144),.int .u8 (128+p / 4096 % 64),.int .u8 (128+p / 64 % 64),.int .u8 (128+p % 64)]) (n:=4) (by rw[Zbd,show (240+p / 262144) % 256=240+p / 262144 from by omega,show (128+p / 4096 % 64) % 256=128+p / 4096 % 64 from by omega,show (128+p / 64 % 64) % 256=128+p / 64 % 64 from by omega,show (128+p % 64) % 256=128+p % 64 from by omega]) rfl (by simp);go_enter Tryz.func81,Tryz.ntmps81;go_wp2;go_ret;exact ⟨rfl,Y2.alloc (Nat.le_refl _) _⟩}}}
end
end Go.Proofs.YtkncdbaoaeeoiaaGreatDoor
