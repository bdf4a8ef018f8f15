/- What the proofs of ParseAround want, part 6. -/
import Derived.MakeChecks
import Derived.Shelf.Unicode.ValidAny
import Derived.Lib.LaidU8T
import Derived.Deep.RegionHeld3
import Derived.Test.YtkncdbaoaeeoiaaGreatDoorL0n5
import Derived.Test.YtkncdbaoaeeoiaaGreatDoorL0n2
set_option linter.unusedVariables false
set_option linter.unusedSimpArgs false
set_option linter.unusedSectionVars false
set_option maxRecDepth 100000
set_option maxHeartbeats 16000000
namespace Go.Proofs.YtkncdbaoaeeoiaaGreatDoor
section
open Go.RowKit
structure Globs (w:World):Prop where
 syn: ∃te pe,w.cell? ⟨4,0,none⟩=some (.iface te pe)
 rng: ∃te pe,w.cell? ⟨5,0,none⟩=some (.iface te pe)
 tab:Lib.TabIs Tryz.prog w "internal/strconv.uint64pow10" .u64 Lib.pow10Tab
theorem Z5H:Tryz.prog.globalNamed "internal/strconv.uint64pow10" =some 6:=by kernel_rfl
theorem Globs.next {w w':World} (h:Globs w) (a:Below w.heap.size w w'):Globs w':=by
 obtain ⟨⟨l,k,d⟩,⟨c,b,e⟩,f⟩:=h;have g:=Lib.lt_of_cell d;have i:=Lib.lt_of_cell e;have j:=Lib.lt_of_cell (Lib.TabIs.cell f Z5H 0 (by rw[Lib.pow10Tab_length]; omega));exact ⟨⟨l,k,(a.cell (p:=⟨4,0,none⟩) g).trans d⟩,⟨c,b,(a.cell (p:=⟨5,0,none⟩) i).trans e⟩,var?_below a Z5H j f⟩
theorem Z28 {P:Program} {w:World}: ∀ {l:List (String×DataW Unit)} {ps:List MemPlace},DataW.LaidVars P w l ps-> ∀x∈l,
 ∃g t cs a p,P.globalNamed x.1=some g/\(P.globals[g]?).map (·.type)=some t/\w.var? P x.1=some cs/\DataW.trod (fun _=>()) P w 0 (fun _=>true) false a t cs.toList=some (x.2,p)
 | [],_,_,x,b=>by simp at b
 | (n,d)::r,ps,h,x,b=>by
  obtain ⟨g,t,cs,a,p,q,c,e,f,i,j,_⟩:=h;rcases List.mem_cons.1 b with rfl | b
  {exact ⟨g,t,cs,a,p,c,e,f,i⟩}
  {exact Z28 j x b}
theorem Z8l {w:World} {n:String} {g:Nat} {d:DataW Unit} {o:String} {cs:Array Value} {a:Nat} {p:List MemPlace} {c t:Nat}
 (f:Tryz.prog.globalNamed n=some g) (m: (Tryz.prog.globals[g]?).map (·.type)=some 184)
 (h:Tryz.prog.globalNamed n=some c) (i: (Tryz.prog.globals[c]?).map (·.type)=some t) (j:w.var? Tryz.prog n=some cs) (k:DataW.trod (fun _=>()) Tryz.prog w 0 (fun _=>true) false a t cs.toList=some (.iface o d,p)):
 ∃te pe,w.cell? ⟨g,0,none⟩=some (.iface te pe):=by
 obtain rfl:=Option.some.inj (f.symm.trans h);obtain rfl:=Option.some.inj (m.symm.trans i);obtain ⟨_,u,v,b,_,_⟩:=iface_of_trod Tryz.underlying184 k;have l:=World.var?_cell f j 0;refine ⟨u,v,l.trans ?_⟩;have e:cs=#[.iface u v]:=by
  apply Array.ext';simpa using b
 rw[e]; rfl
theorem Zeb {L:List (String×DataW Unit)} {W:World} (h:laidMet Tryz.prog L W) (u: ("strconv.ErrSyntax",Rows.laid_strconv_ErrSyntax)∈L) (v: ("strconv.ErrRange",Rows.laid_strconv_ErrRange)∈L)
 (w: ("internal/strconv.uint64pow10",Rows.laid_internal_strconv_uint64pow10)∈L):Globs W:=by
 obtain ⟨ps,c,_,_⟩:=h;obtain ⟨A,D,l,y,p1,d,i,c1,o⟩:=Z28 c _ u;obtain ⟨B,E,m,z,p2,f,j,c2,p⟩:=Z28 c _ v;obtain ⟨C,F,a,r,p3,g,k,c3,q⟩:=Z28 c _ w;refine ⟨Z8l (by kernel_rfl) (by kernel_rfl) d i c1 o,Z8l (by kernel_rfl) (by kernel_rfl) f j c2 p, ?_⟩;obtain rfl:=Option.some.inj (Z5H.symm.trans g);have t: (Tryz.prog.globals[6]?).map (·.type)=some 253:=by kernel_rfl
 obtain rfl:=Option.some.inj (t.symm.trans k);unfold Lib.TabIs;rw[c3];have e: (Rows.laid_internal_strconv_uint64pow10:DataW Unit)=Lib.tabData .u64 Lib.pow10Tab:=by kernel_rfl
 have b:DataW.trod (fun _=>()) Tryz.prog W 0 (fun _=>true) false r 253 a.toList=some (Lib.tabData .u64 Lib.pow10Tab,p3):=by rw[<-e]; exact q
 have s:=Lib.cells_of_tab (n:=20) Tryz.underlying253 Tryz.underlying222 (by kernel_rfl) (by kernel_rfl) b;rw[<-s]
def wordsC:Array Value:=#[.string ⟨#[]⟩,.string ⟨#[73,110,116]⟩,.string ⟨#[66,111,111,108]⟩,.string ⟨#[84,101,120,116]⟩,.string ⟨#[65,110,121]⟩]
theorem Z5I:Tryz.prog.globalNamed "pandect/shape.words" =some 3:=by kernel_rfl
def WGlobs (w:World):Prop:=w.var? Tryz.prog "pandect/shape.words" =some wordsC
theorem WGlobs.cell {w:World} (h:WGlobs w) (i:Nat):w.cell? ⟨3,i,none⟩=wordsC[i]? :=World.var?_cell Z5I h i
theorem WGlobs.lt {w:World} (h:WGlobs w):3 < w.heap.size:=lt_of_cell ((WGlobs.cell h 0).trans (by rfl:wordsC[0]? =some (.string ⟨#[]⟩)))
theorem WGlobs.next {w w':World} (h:WGlobs w) (a:Below w.heap.size w w'):WGlobs w':=var?_below a Z5I (WGlobs.lt h) h
theorem Z4l {P:Program} {w:World}: ∀ {l:List (String×DataW Unit)} {ps:List MemPlace},DataW.LaidVars P w l ps-> ∀x∈l,
 ∃g t cs a p,P.globalNamed x.1=some g/\(P.globals[g]?).map (·.type)=some t/\w.var? P x.1=some cs/\DataW.trod (fun _=>()) P w 0 (fun _=>true) false a t cs.toList=some (x.2,p)
 | [],_,_,x,b=>by simp at b
 | (n,d)::r,ps,h,x,b=>by
  obtain ⟨g,t,cs,a,p,q,c,e,f,i,j,_⟩:=h;rcases List.mem_cons.1 b with rfl | b
  {exact ⟨g,t,cs,a,p,c,e,f,i⟩}
  {exact Z4l j x b}
theorem ZcE {L:List (String×DataW Unit)} {W:World} (h:laidMet Tryz.prog L W) (G: ("pandect/shape.words",Rows.laid_pandect_shape_words)∈L):WGlobs W:=by
 unfold WGlobs;obtain ⟨ps,E,_,_⟩:=h;obtain ⟨S,T,cs,Q,p1,z,A,c1,B⟩:=Z4l E _ G;obtain rfl:=Option.some.inj (Z5I.symm.trans z);have D: (Tryz.prog.globals[3]?).map (·.type)=some 221:=by kernel_rfl
 obtain rfl:=Option.some.inj (D.symm.trans A);rw[c1];congr 1;have d:Tryz.prog.cellsOf 9=1:=by kernel_rfl
 obtain ⟨J,m,_,F,c,C,b⟩:=DataW.trod_array Tryz.underlying221 B;rw[d] at b;have e:Tryz.prog.cellsOf 221=5:=by kernel_rfl
 rw[e] at c;have a:=(Prod.mk.inj F).1;apply Array.ext'
 match J,C,a with
 | [y0,y1,y2,y3,y4],_,a=>
  obtain ⟨L,s⟩: ∃L,L=cs.toList:=⟨_,rfl⟩;rw[<-s] at c b ⊢;clear s
  match L,c with
  | [t,u,v,w,y],_=>
   have f:=b 0 (by omega);have g:=b 1 (by omega);have i:=b 2 (by omega);have j:=b 3 (by omega);have k:=b 4 (by omega);simp only[List.getElem?_cons_zero,List.getElem?_cons_succ,Nat.mul_one,List.drop_zero,List.drop_succ_cons,List.take_succ_cons,List.take_zero] at f g i j k;obtain ⟨x0,n,rfl,_⟩:=DataW.trod_string Tryz.underlying9 f;obtain ⟨x1,o,rfl,_⟩:=DataW.trod_string Tryz.underlying9 g;obtain ⟨x2,p,rfl,_⟩:=DataW.trod_string Tryz.underlying9 i;obtain ⟨H,q,rfl,_⟩:=DataW.trod_string Tryz.underlying9 j;obtain ⟨I,r,rfl,_⟩:=DataW.trod_string Tryz.underlying9 k;simp at n o p q r;simp[Rows.laid_pandect_shape_words] at a;obtain ⟨K,M,N,O,P⟩:=a;have key: ∀(x:ByteArray) (l:List UInt8),l=x.data.toList->x=⟨l.toArray⟩:=fun x l h=>by rw[h]
   rw[n,o,p,q,r];have t:=key x0 [] (by simp[K]);have u:=key x1 [73,110,116] (by simp[<-M]);have v:=key x2 [66,111,111,108] (by simp[<-N]);have w:=key H [84,101,120,116] (by simp[<-O]);have y:=key I [65,110,121] (by simp[<-P]);rw[t,u,v,w,y]; rfl
end
end Go.Proofs.YtkncdbaoaeeoiaaGreatDoor
namespace Go.Proofs
open Go.Shelf
def Tryz.lays196_ren:Go.Shelf.Ren:=⟨fun | 196=>172 | 259=>183 | n=>n,fun | 9=>9 | 4=>4 | 3=>3 | 5=>5 | 12=>12 | 119=>200 | 0=>0 | 46=>204 | 139=>203 | 138=>202 | 53=>222 | n=>n,fun | 3=>0 | 4=>1 | n=>n⟩
theorem Tryz.lays196:Go.Proofs.Lays.n196 Tryz.prog Tryz.lays196_ren:= {
 mixed:=by kernel_rfl
 f196:=Tryz.func172.trans (congrArg some (by kernel_rfl))
 f259:=Tryz.func183.trans (congrArg some (by kernel_rfl))
 t0:=Tryz.underlying0
 a0:=Tryz.isAgg0
 z0:=Tryz.sizeOf0
 v0:=Tryz.zeroValue0
 t3:=Tryz.underlying3
 a3:=Tryz.isAgg3
 z3:=Tryz.sizeOf3
 v3:=Tryz.zeroValue3
 t4:=Tryz.underlying4
 a4:=Tryz.isAgg4
 z4:=Tryz.sizeOf4
 v4:=Tryz.zeroValue4
 t5:=Tryz.underlying5
 a5:=Tryz.isAgg5
 z5:=Tryz.sizeOf5
 v5:=Tryz.zeroValue5
 t9:=Tryz.underlying9
 a9:=Tryz.isAgg9
 z9:=Tryz.sizeOf9
 v9:=Tryz.zeroValue9
 t12:=Tryz.underlying12
 a12:=Tryz.isAgg12
 z12:=Tryz.sizeOf12
 v12:=Tryz.zeroValue12
 t46:=Tryz.underlying204
 a46:=Tryz.isAgg204
 z46:=Tryz.sizeOf204
 v46:=Tryz.zeroValue204
 t53:=Tryz.underlying222
 a53:=Tryz.isAgg222
 z53:=Tryz.sizeOf222
 v53:=Tryz.zeroValue222
 t119:=Tryz.underlying200
 a119:=Tryz.isAgg200
 z119:=Tryz.sizeOf200
 t138:=Tryz.underlying202
 a138:=Tryz.isAgg202
 z138:=Tryz.sizeOf202
 v138:=Tryz.zeroValue202
 t139:=Tryz.underlying203
 a139:=Tryz.isAgg203
 z139:=Tryz.sizeOf203
 v139:=Tryz.zeroValue203
 g3:=by kernel_rfl
 g4:=by kernel_rfl }
end Go.Proofs
namespace Go.Proofs.YtkncdbaoaeeoiaaGreatDoor
open Go.RowKit Go.Shelf
def Z0J (w:World):Prop:=Go.Lib.Utf8Tabs (Tryz.lays196_ren.g 3) (Tryz.lays196_ren.g 4) w
theorem Z0J.next {w w':World} (h:Z0J w) (a:Below w.heap.size w w'):Z0J w':=Utf8Tabs_below h a
theorem Zba {L:List (String×DataW Unit)} {W:World} (h:laidMet Tryz.prog L W) (a: ("unicode/utf8.first",Rows.laid_unicode_utf8_first)∈L) (b: ("unicode/utf8.acceptRanges",Rows.laid_unicode_utf8_acceptRanges)∈L):Z0J W:=
 utf8Tabs_of_readsT (U8Types.of196 Tryz.lays196) ⟨by kernel_rfl,by kernel_rfl,by kernel_rfl,by kernel_rfl,by kernel_rfl,by kernel_rfl,by kernel_rfl⟩
  (by have e:=Go.Lib.laidMet.reads h a; rwa [show (Rows.laid_unicode_utf8_first:DataW Unit)=Go.Lib.firstData from by kernel_rfl] at e)
  (by have e:=Go.Lib.laidMet.reads h b; rwa [show (Rows.laid_unicode_utf8_acceptRanges:DataW Unit)=Go.Lib.acceptData from by kernel_rfl] at e)
theorem Z5J (s:ByteArray) (w:World) (b:s.size<=9223372036854775807) (a:Z0J w):
 Y9 172 #[.string s] w (.bool (Go.Lib.validD s.data.toList)):=Any.utf8_ValidString Tryz.lays196 s w b a
end Go.Proofs.YtkncdbaoaeeoiaaGreatDoor
namespace Go.Proofs.YtkncdbaoaeeoiaaGreatDoor
open Go.RowKit Tms
open Shp (Sh)
open Pso (St)
section
variable {F G : List Nat} {a b c w w' : World}
theorem UpT.trans (h:UpT F a b) (k:UpT F b c):UpT F a c:=
 ⟨k.os.trans h.os,k.tape.trans h.tape,k.output.trans h.output,Nat.le_trans h.size k.size,fun x h1 h2=>(k.block x (Nat.lt_of_lt_of_le h1 h.size) h2).trans (h.block x h1 h2)⟩
theorem UpT.mono (h:UpT F a b) (d: ∀x∈F,x < a.heap.size->x∈G):UpT G a b:=
 ⟨h.os,h.tape,h.output,h.size,fun x h1 h2=>h.block x h1 (fun hx=>h2 (d x hx h1))⟩
theorem Z05 (h:Below a.heap.size a b):UpT F a b:=⟨h.os,h.tape,h.output,h.size,fun x h1 _=>h.block x h1⟩
theorem UpT.set (h:UpT F a b) (p:Addr) (d:a.heap.size<=p.block\/p.block∈F) (v:Value):UpT F a (b.setCell p v):=
 ⟨h.os,h.tape,h.output,by simpa[World.setCell] using h.size,fun x h1 h2=>(Below.heap_setCell _ _ _ _ (fun e=>by
  rcases d with d | d
  {omega}
  · exact h2 (e▸d))).trans (h.block x h1 h2)⟩
theorem UpT.drew (h:UpT F a b):UpT F a b.drew:=⟨h.os,h.tape,h.output,h.size,h.block⟩
theorem UpT.alloc (h:UpT F a b) (o:Obj):UpT F a (b.alloc o):=h.below (Z01 _ _)
theorem UpT.grown (h:UpT F a b) {row:Option Nat} (d:b.grownBy c row) (f: ∀k,row=some k->a.heap.size<=k):UpT F a c:=
 ⟨d.os.trans h.os,d.tape.trans h.tape,d.output.trans h.output,Nat.le_trans h.size d.size,fun x h1 h2=>(d.block x (Nat.lt_of_lt_of_le h1 h.size) (fun e=>by have:=f x e.symm; omega)).trans (h.block x h1 h2)⟩
theorem UpT.low (h:UpT F a b) (d: ∀x∈F,a.heap.size<=x):Below a.heap.size a b:=⟨h.os,h.tape,h.output,h.size,fun x h1=>h.block x h1 (fun hx=>by have:=d x hx; omega)⟩
end
structure Gl (w:World):Prop where
 g:Globs w
 s:WGlobs w
 u:Z0J w
theorem Gl.next {w w':World} (h:Gl w) (a:Below w.heap.size w w'):Gl w':=⟨h.g.next a,h.s.next a,h.u.next a⟩
def GlAt (bp:Nat) (W:World):Prop:= ∃W0:World,W0.heap.size<=bp/\Below W0.heap.size W0 W/\Gl W0
theorem GlAt.gl {bp:Nat} {W:World} (h:GlAt bp W):Gl W:=by obtain ⟨W0,_,a,b⟩:=h; exact b.next a
theorem GlAt.up {bp:Nat} {W W':World} {F:List Nat} (h:GlAt bp W) (b:UpT F W W') (e: ∀x∈F,bp<=x):GlAt bp W':=by
 obtain ⟨W0,c,a,d⟩:=h;refine ⟨W0,c,⟨b.os.trans a.os,b.tape.trans a.tape,b.output.trans a.output,Nat.le_trans a.size b.size,fun k hk=> ?_⟩,d⟩;rw[b.block k (Nat.lt_of_lt_of_le hk a.size) (fun hx=>by have:=e k hx; omega)];exact a.block k hk
structure PAt (W:World) (bp:Nat) (A:Option Addr) (c:Nat) (l:List Tk) (σ:St):Prop where
 lt:bp < W.heap.size
 c0:W.cell? ⟨bp,0,none⟩=some (.slice A l.length c)
 c1:W.cell? ⟨bp,1,none⟩=some (.int .i64 (σ.1:Int))
 c2:W.cell? ⟨bp,2,none⟩=some (.int .i64 σ.2.1)
 c3:W.cell? ⟨bp,3,none⟩=some (.int .i64 σ.2.2)
 fz: ∀k,W.frozen? ⟨bp,k,none⟩=false
 tk:Tks W bp A l
 gs:GlAt bp W
 tx: ∀b∈l,b.t.text.length<=1000000
theorem Tks.same {W W':World} {B:Nat} {A:Option Addr} {l:List Tk} (h:Tks W B A l) (a: ∀b,b < B->SameT W W' b):Tks W' B A l:=by
 rcases h with h | ⟨g,off,hA,hlt,e⟩
 {exact Or.inl h}
 {refine Or.inr ⟨g,off,hA,hlt,fun i hi=> ?_⟩;obtain ⟨c,h1,d⟩:=e i hi;exact ⟨((a g hlt).1 _).trans c,((a g hlt).1 _).trans h1,((a g hlt).1 _).trans d⟩}
section
variable {W W' : World} {bp : Nat} {A : Option Addr} {c : Nat} {l : List Tk} {σ : St}
theorem PAt.keep {F:List Nat} (h:PAt W bp A c l σ) (d:UpT F W W') (e: ∀x∈F,bp < x):PAt W' bp A c l σ:=by
 have a:=d.same h.lt (fun hx=>by have:=e bp hx; omega);exact ⟨Nat.lt_of_lt_of_le h.lt d.size,(a.1 0).trans h.c0,(a.1 1).trans h.c1,(a.1 2).trans h.c2,(a.1 3).trans h.c3,fun k=>(a.2 k).trans (h.fz k),
  h.tk.same (fun b hb=>d.same (Nat.lt_trans hb h.lt) (fun hx=>by have:=e b hx; omega)),h.gs.up d (fun x hx=>Nat.le_of_lt (e x hx)),h.tx⟩
theorem PAt.below (h:PAt W bp A c l σ) (a:Below W.heap.size W W'):PAt W' bp A c l σ:=h.keep (F:= []) (Z05 a) (by simp)
theorem PAt.drew (h:PAt W bp A c l σ):PAt W.drew bp A c l σ:=h.below Y2.drew
theorem PAt.alloc (h:PAt W bp A c l σ) (o:Obj):PAt (W.alloc o) bp A c l σ:=h.below (Z01 _ _)
theorem PAt.set (h:PAt W bp A c l σ) (p:Addr) (a:bp < p.block) (v:Value):PAt (W.setCell p v) bp A c l σ:=
 h.keep (F:= [p.block]) ((UpT.refl _ _).set p (Or.inr (by simp)) v) (by simpa using a)
theorem PAt.turn1 (h:PAt W bp A c l σ) (i:Nat):PAt (W.setCell ⟨bp,1,none⟩ (.int .i64 (i:Int))) bp A c l (i,σ.2):=by
 have o: ∀k,k≠1->(W.setCell ⟨bp,1,none⟩ (.int .i64 (i:Int))).cell? ⟨bp,k,none⟩=W.cell? ⟨bp,k,none⟩:=fun k hk=>World.cell?_setCell_other _ _ _ _ (fun e=>by have:=congrArg Addr.off e; simp at this; omega);exact ⟨by simpa[World.setCell] using h.lt,(o 0 (by omega)).trans h.c0,World.cell?_setCell_same _ _ _ h.c1,(o 2 (by omega)).trans h.c2,(o 3 (by omega)).trans h.c3,fun k=>(World.frozen?_setCell ..).trans (h.fz k),h.tk.same (fun b hb=>Z1y _ _ _ (by simp; omega)),h.gs.up (F:= [bp]) ((UpT.refl _ _).set _ (Or.inr (by simp)) _) (by simp),h.tx⟩
theorem PAt.turn23 (h:PAt W bp A c l σ) (e a:Int):PAt ((W.setCell ⟨bp,2,none⟩ (.int .i64 e)).setCell ⟨bp,3,none⟩ (.int .i64 a)) bp A c l (σ.1,(e,a)):=by
 have o: ∀(w:World) k m v,k≠m->(w.setCell ⟨bp,m,none⟩ v).cell? ⟨bp,k,none⟩=w.cell? ⟨bp,k,none⟩:=fun w k m v hk=>World.cell?_setCell_other _ _ _ _ (fun e=>by have:=congrArg Addr.off e; simp at this; omega);refine ⟨by simpa[World.setCell] using h.lt, ?_, ?_, ?_, ?_,fun k=> ?_,h.tk.same (fun b hb=>(Z1y _ _ _ (by simp; omega)).trans (Z1y _ _ _ (by simp; omega))),h.gs.up (F:= [bp]) (((UpT.refl _ _).set _ (Or.inr (by simp)) _).set _ (Or.inr (by simp)) _) (by simp),h.tx⟩
 {rw[o _ 0 3 _ (by omega),o _ 0 2 _ (by omega)]; exact h.c0}
 {rw[o _ 1 3 _ (by omega),o _ 1 2 _ (by omega)]; exact h.c1}
 {rw[o _ 2 3 _ (by omega)]; exact World.cell?_setCell_same _ _ _ h.c2}
 {exact World.cell?_setCell_same _ _ _ ((o _ 3 2 _ (by omega)).trans h.c3)}
 {rw[World.frozen?_setCell,World.frozen?_setCell]; exact h.fz k}
end
structure New (lo hi:Nat) (W:World) (P:World->Prop):Prop where
 hi_:hi<=W.heap.size
 at_: ∀W',W.heap.size<=W'.heap.size->(∀b,lo<=b->b < hi->SameT W W' b)->P W'
section
variable {lo hi : Nat} {W W' : World} {P : World -> Prop}
theorem New.here (h:New lo hi W P):P W:=h.at_ W (Nat.le_refl _) (fun b _ _=>⟨fun _=>rfl,fun _=>rfl⟩)
theorem New.same (h:New lo hi W P) (a:W.heap.size<=W'.heap.size) (c: ∀b,lo<=b->b < hi->SameT W W' b):New lo hi W' P:=
 ⟨Nat.le_trans h.hi_ a,fun W2 hz2 hs2=>h.at_ W2 (Nat.le_trans a hz2) (fun b h1 h2=>(c b h1 h2).trans (hs2 b h1 h2))⟩
theorem New.up {F:List Nat} (h:New lo hi W P) (a:UpT F W W') (c: ∀x∈F,x < lo\/hi<=x):New lo hi W' P:=
 h.same a.size (fun b h1 h2=>a.same (Nat.lt_of_lt_of_le h2 h.hi_) (fun hx=>by have:=c b hx; omega))
section
variable (h : New lo hi W P)
include h
theorem New.below (a:Below W.heap.size W W'):New lo hi W' P:=h.up (F:= []) (Z05 a) (by simp)
theorem New.grown {row:Option Nat} (a:W.grownBy W' row) (d: ∀k,row=some k->k < lo\/hi<=k):New lo hi W' P:=
 h.same a.size (fun b h1 h2=>by
  have c:some b≠row:=fun e=>by have:=d b e.symm; omega
  have f:=h.hi_;exact ⟨fun j=>World.cell?_of_block (w:=W) (a.block b (by omega) c),fun j=>World.frozen?_of_block (w:=W) (a.block b (by omega) c)⟩)
theorem New.wide {c a:Nat} (e:c<=lo) (f:hi<=a) (d:a<=W.heap.size):New c a W P:=
 ⟨d,fun W' hz hs=>h.at_ W' hz (fun b k1 k2=>hs b (by omega) (by omega))⟩
end
end
end Go.Proofs.YtkncdbaoaeeoiaaGreatDoor
namespace Go.Proofs.YtkncdbaoaeeoiaaGreatDoor
open Go.RowKit Tms
open Shp (Sh)
section
variable {α : Type} {cf : α -> List Value} {m : Nat}
theorem Z1V (h: ∀x,(cf x).length=m) (l:List α): (l.flatMap cf).length=l.length * m:=by
 induction l with
 | nil=>simp
 | cons a l ih=>rw[List.flatMap_cons,List.length_append,ih,h,List.length_cons,Nat.add_mul,Nat.one_mul,Nat.add_comm]
theorem Zav (h: ∀x,(cf x).length=m) {l:List α} {i c:Nat} (a:i < l.length) (e:c < m): (l.flatMap cf)[i * m+c]? =(cf (l[i]'a))[c]? :=by
 have b:l=l.take i++([l[i]'a]++l.drop (i+1)):=by rw[List.singleton_append,List.getElem_cons_drop,List.take_append_drop]
 have d: ((l.take i).flatMap cf).length=i * m:=by rw[Z1V h,List.length_take]; congr 1; omega
 conv=>lhs; rw[b]
 rw[List.flatMap_append,List.flatMap_append,List.getElem?_append_right (by omega),d,Nat.add_sub_cancel_left,List.getElem?_append_left (by simpa[h] using e)];simp
end
structure ES where
 t:Sh
 q:Ptr
 lo:Nat
 hi:Nat
def cS (x:ES):List Value:= [.int .i64 x.t.kind,.string ⟨x.t.of_.toArray⟩,.string ⟨x.t.name.toArray⟩,.slice x.q.A x.t.names.length x.q.c,.slice x.q.P x.t.parts.length x.q.d]
theorem Z8m (x:ES): (cS x).length=5:=rfl
theorem ZfZ (x:ES): ∀u∈cS x,u.oneCell'=true:=by
 intro u a;simp only[cS,List.mem_cons,List.not_mem_nil,or_false] at a;rcases a with rfl | rfl | rfl | rfl | rfl <;> rfl
def ES.Is (x:ES) (W:World):Prop:=New x.lo x.hi W (fun W'=>ShAt W' W'.heap.size x.q x.t)
structure ET where
 t:Tm
 q:TP
 lo:Nat
 hi:Nat
def cT (x:ET):List Value:= [.int .i64 x.t.kind,.string ⟨x.t.of_.toArray⟩,.string ⟨x.t.name.toArray⟩,.int .i64 x.t.n,.slice x.q.A x.t.names.length x.q.c,.slice x.q.V x.t.vars.length x.q.e,.slice x.q.S x.t.shapes.length x.q.s,.slice x.q.P x.t.parts.length x.q.d,.int .i64 x.t.at_]
theorem Z3E (x:ET): (cT x).length=9:=rfl
theorem Zg0 (x:ET): ∀u∈cT x,u.oneCell'=true:=by
 intro u a;simp only[cT,List.mem_cons,List.not_mem_nil,or_false] at a;rcases a with rfl | rfl | rfl | rfl | rfl | rfl | rfl | rfl | rfl <;> rfl
def ET.Is (x:ET) (W:World):Prop:=New x.lo x.hi W (fun W'=>TmAt W' W'.heap.size x.q x.t)
def cN (x:List UInt8):List Value:= [.string ⟨x.toArray⟩]
theorem Zg1 (x:List UInt8): (cN x).length=1:=rfl
def Row {α:Type} (W:World) (B:Nat) (e:TypeId) (m:Nat) (cf:α->List Value) (A:Option Addr) (c:Nat) (l:List α):Prop:=W.ownsRow B e m (.slice A l.length c) l.length (l.flatMap cf)
section
variable {α : Type} {W W' : World} {B : Nat} {e : TypeId} {m : Nat} {cf : α -> List Value} {A : Option Addr} {c : Nat} {l : List α}
theorem Row.start (W:World) (B:Nat) (e:TypeId) (m:Nat) (cf:α->List Value):Row W B e m cf none 0 []:=World.ownsRow_nil _ _ _ _
section
variable (h : Row W B e m cf A c l)
include h
theorem Row.lt: ∀b,rowT A=some b->B<=b/\b < W.heap.size:=Z21 h
theorem Row.form: (A=none/\l.length=0/\c=0)\/ ∃g,A=some ⟨g,0,none⟩/\l.length<=c:=Z5o h
theorem Row.grown {row:Option Nat} (a:W.grownBy W' row) (b:rowT A=none\/rowT A≠row):Row W' B e m cf A c l:=World.ownsRow.kept h a (by rw[Z0v]; exact b)
theorem Row.below (a:Below W.heap.size W W'):Row W' B e m cf A c l:=
 h.grown (row:=none) ⟨a.os,a.tape,a.output,a.size,fun j hj _=>a.block j hj⟩ (by cases h:rowT A with | none=>exact Or.inl rfl | some b=>exact Or.inr nofun)
theorem Row.set (a:Addr) (b:rowT A≠some a.block) (u:Value):Row (W.setCell a u) B e m cf A c l:=Z1n h (by rw[Z0v]; exact b) u
end
theorem Row.up {F:List Nat} (h:Row W B e m cf A c l) (p:UpT F W W') (k: ∀x∈F,rowT A≠some x):Row W' B e m cf A c l:=by
 obtain ⟨j,b⟩:=h;refine ⟨j, ?_⟩;rcases b with b | ⟨g,cap,a,i,n,d,o⟩
 {exact Or.inl b}
 {refine Or.inr ⟨g,cap,a,i,n, ?_,o⟩;have f:g < W.heap.size:=by
   rcases Nat.lt_or_ge g W.heap.size with h | h
   {exact h}
   {rw[Array.getElem?_eq_none h] at d; cases d}
  rw[p.block g f (fun hx=>k g hx ?_)]
  {exact d}
  {simp only[Value.slice.injEq] at i;rw[i.1]; rfl}}
end
end Go.Proofs.YtkncdbaoaeeoiaaGreatDoor
namespace Go.Proofs.YtkncdbaoaeeoiaaGreatDoor
section
open Go.RowKit
def Ints (w:World) (B:Nat) (A:Option Addr) (zs:List Int):Prop:=
 zs.length=0\/ ∃b off,A=some ⟨b,off,none⟩/\b < B/\ ∀i (h:i < zs.length),w.cell? ⟨b,off+i,none⟩=some (.int .i64 (zs[i]'h))
theorem Ints.keep {w w':World} {B B':Nat} {A:Option Addr} {a:List Int} (h:Ints w B A a) (d:Below B' w w') (c:B<=B'):Ints w' B A a:=by
 rcases h with h | ⟨b,off,hA,hlt,e⟩
 {exact Or.inl h}
 {exact Or.inr ⟨b,off,hA,hlt,fun i hi=>(d.cell (p:=⟨b,off+i,none⟩) (Nat.lt_of_lt_of_le hlt c)).trans (e i hi)⟩}
theorem Ints.more {w:World} {B B':Nat} {A:Option Addr} {c:List Int} (h:Ints w B A c) (e:B<=B'):Ints w B' A c:=by
 rcases h with h | ⟨b,off,d,a,f⟩
 {exact Or.inl h}
 {exact Or.inr ⟨b,off,d,Nat.lt_of_lt_of_le a e,f⟩}
theorem Ints.next {w w':World} {A:Option Addr} {b:List Int} (h:Ints w w.heap.size A b) (a:Below w.heap.size w w'):Ints w' w'.heap.size A b:=
 (h.keep a (Nat.le_refl _)).more a.size
theorem Z9C {w:World} {B n:Nat} {v:Value} {b:List Int} (h:w.ownsRow B 3 1 v n (b.map (Value.int .i64))): ∃A cap,v= .slice A b.length cap/\Ints w w.heap.size A b/\(A=none->b.length=0/\cap=0):=by
 have a:=h.1;rw[List.length_map,Nat.mul_one] at a;subst a;rcases h.2 with ⟨rfl,c⟩ | ⟨g,cap,d,rfl,e,f,_⟩
 {exact ⟨none,0,by rw[c],Or.inl c,fun _=>⟨c,rfl⟩⟩}
 {refine ⟨_,_,rfl,Or.inr ⟨g,0,rfl, ?_,fun i hi=> ?_⟩,fun h=>by cases h⟩
  {exact (h.lt g rfl).2}
  {rw[Nat.zero_add,h.cellAt i (by omega)];simp[hi]}}
theorem Z39 {w:World} {B n:Nat} {v:Value} {l:List UInt8} (h:w.ownsRow B 5 1 v n (Lib.byteCells l)):
 (convert 137 9 v).run Tryz.prog w= .ok (.string ⟨l.toArray⟩) w:=by
 have a:=h.1;rw[Lib.byteCells_length,Nat.mul_one] at a;rcases h.2 with ⟨rfl,rfl⟩ | ⟨g,cap,d,rfl,_,j,_⟩
 {have:l= []:=List.eq_nil_of_length_eq_zero a;subst this;exact run_convert_bytes_nil w 137 5 Tryz.underlying137 Tryz.underlying5 0 0 9 Tryz.underlying9}
 {have f:=run_convert_bytes_arg (P:=Tryz.prog) w 137 5 Tryz.underlying137 Tryz.underlying5 g 0 n cap (l.map fun b=>(b.toNat:Int)) (by simpa using a) (fun i hi=>by
   have hc:=h.cellAt i (by omega);rw[Nat.zero_add,hc,Lib.byteCells];have c:i < l.length:=by omega
   simp[c]) 9 Tryz.underlying9
  rw[f];have e:strOfNums (l.map fun b=>(b.toNat:Int))=⟨l.toArray⟩:=by
   unfold strOfNums;rw[List.map_map];congr 2
   conv=>rhs; rw[<-List.map_id l]
   apply List.map_congr_left;intro b _;simp
  rw[e]}
theorem Zhl (a b:List UInt8): (⟨a.toArray⟩:ByteArray)++⟨b.toArray⟩=⟨(a++b).toArray⟩:=by
 apply ByteArray.ext;simp[ByteArray.data_append]
end
section
open Go
theorem Z73 (a:Nat) (b:a < 9223372036854775808): (BitVec.ofInt 64 (a:Int)).toNat=a:=by
 rw[BitVec.ofInt_natCast,BitVec.toNat_ofNat]; exact Nat.mod_eq_of_lt (by omega)
theorem Zbc (a b:Nat) (c:a < 9223372036854775808) (d:b < 9223372036854775808):bits .or .i64 (a:Int) (b:Int)=((a ||| b:Nat):Int):=by
 have e:a ||| b < 2 ^ 63:=Nat.or_lt_two_pow (by omega) (by omega);show IntKind.i64.wrap ((BitVec.ofInt 64 (a:Int) ||| BitVec.ofInt 64 (b:Int)).toNat:Int)=_;rw[BitVec.toNat_or,Z73 a c,Z73 b d,IntKind.wrap_i64];omega
theorem ZcG (x y:Int) (c:0<=x) (e:x < 1000000000) (d:0<=y) (f:y < 64):bits .or .i64 (x * 64) y=x * 64+y:=by
 obtain ⟨a,rfl⟩:=Int.eq_ofNat_of_zero_le c;obtain ⟨b,rfl⟩:=Int.eq_ofNat_of_zero_le d;rw[show (a:Int) * 64=((a * 64:Nat):Int) from by omega,Zbc _ _ (by omega) (by omega),nat_join 6 (a * 64) b (by omega) (by omega)];omega
end
section
open Go.RowKit
theorem Z2g {p:Int} (h:Utf.pt p=true):0<=p/\p<=1114111/\(p < 55296\/57343 < p):=(Utf.Z1f p).1 h
theorem Z4D (p:Int) (w:World):
 Calls Tryz.prog 189 #[.int .i64 p] w fun e w'=>e= .returned (.bool (Utf.pt p))/\w=w':=by
 by_cases a:0<=p
 {by_cases h1:p<=1114111
  {by_cases b:p < 55296
   {have e:Utf.pt p=true:=(Utf.Z1f p).2 ⟨a,h1,Or.inl b⟩;rw[e];clear e;go_enter Tryz.func189,Tryz.ntmps189;go_wp2;go_ret;exact ⟨rfl,rfl⟩}
   {by_cases c:57343 < p
    {have e:Utf.pt p=true:=(Utf.Z1f p).2 ⟨a,h1,Or.inr c⟩;rw[e];clear e;go_enter Tryz.func189,Tryz.ntmps189;go_wp2;go_ret;exact ⟨rfl,rfl⟩}
    {have e:Utf.pt p=false:=Bool.eq_false_iff.2 fun h=>by have:=Z2g h; omega
     rw[e];clear e;go_enter Tryz.func189,Tryz.ntmps189;go_wp2;go_ret;exact ⟨rfl,rfl⟩}}}
  {have e:Utf.pt p=false:=Bool.eq_false_iff.2 fun h=>by have:=Z2g h; omega
   rw[e];clear e;go_enter Tryz.func189,Tryz.ntmps189;go_wp2;go_ret;exact ⟨rfl,rfl⟩}}
 {have e:Utf.pt p=false:=Bool.eq_false_iff.2 fun h=>by have:=Z2g h; omega
  rw[e];clear e;go_enter Tryz.func189,Tryz.ntmps189;go_wp2;go_ret;exact ⟨rfl,rfl⟩}
theorem Z45 (p:Int) (w:World):
 Calls Tryz.prog 190 #[.int .i64 p] w fun e w'=>e= .returned (.int .i64 (Utf.width p:Nat))/\w=w':=by
 unfold Utf.width;by_cases a:p < 128
 {rw[if_pos a];go_enter Tryz.func190,Tryz.ntmps190;go_wp2;go_ret;exact ⟨rfl,rfl⟩}
 {rw[if_neg a];by_cases b:p < 2048
  {rw[if_pos b];go_enter Tryz.func190,Tryz.ntmps190;go_wp2;go_ret;exact ⟨rfl,rfl⟩}
  {rw[if_neg b];by_cases c:p < 65536
   {rw[if_pos c];go_enter Tryz.func190,Tryz.ntmps190;go_wp2;go_ret;exact ⟨rfl,rfl⟩}
   {rw[if_neg c];go_enter Tryz.func190,Tryz.ntmps190;go_wp2;go_ret;exact ⟨rfl,rfl⟩}}}
def duo (x:Int×Nat):Value:= .tuple #[.int .i64 x.1,.int .i64 x.2]
theorem Z4E (a:UInt8) (w:World):
 Calls Tryz.prog 188 #[.int .u8 a.toNat] w fun e w'=>e= .returned (duo (Utf.plead a.toNat))/\w=w':=by
 have d:=a.toNat_lt;rcases Utf.Z1L a.toNat with ⟨b,e⟩ | ⟨b,c,e⟩ | ⟨b,c,e⟩ | ⟨b,c,e⟩ | ⟨b,e⟩ <;> rw[e] <;> clear e
 {go_enter Tryz.func188,Tryz.ntmps188;go_wp2
  go_ret2
  exact ⟨rfl,rfl⟩}
 {go_enter Tryz.func188,Tryz.ntmps188;go_wp2
  go_ret2
  exact ⟨rfl,rfl⟩}
 {go_enter Tryz.func188,Tryz.ntmps188;go_wp2
  go_ret2
  exact ⟨rfl,rfl⟩}
 {go_enter Tryz.func188,Tryz.ntmps188;go_wp2
  go_ret2
  exact ⟨rfl,rfl⟩}
 {rcases b with ⟨b,c⟩ | b
  {go_enter Tryz.func188,Tryz.ntmps188;go_wp2
   go_ret2
   exact ⟨rfl,rfl⟩}
  {go_enter Tryz.func188,Tryz.ntmps188;go_wp2
   go_ret2
   exact ⟨rfl,rfl⟩}}
theorem Z3F (s:ByteArray) (h:0 < s.size): ∃r,s.data.toList=s[0]::r/\r.length+1=s.size/\ ∀(i:Nat) (f:i < r.length) (c:i+1 < s.size),r[i]=s[i+1]:=by
 have b:=Lib.size_eq s;obtain ⟨a,r,e⟩: ∃a r,s.data.toList=a::r:=by
  rcases g:s.data.toList with _ | ⟨a,r⟩
  {rw[g,List.length_nil] at b; omega}
  {exact ⟨a,r,rfl⟩}
 have d:s[0]=s.data.toList[0]'(by rw[e]; simp):=rfl;refine ⟨r, ?_,by rw[b,e]; rfl, ?_⟩
 {rw[e,d]; simp[e]}
 {intro i f c;have:s[i+1]=s.data.toList[i+1]'(by rw[<-b]; exact c):=rfl;rw[this]; simp[e]}
theorem Z46 (s:ByteArray) (r:List UInt8) (e:r.length+1=s.size) (b: ∀(i:Nat) (b:i < r.length) (h':i+1 < s.size),r[i]=s[i+1]) {x v:Int} (k:Nat) (d:1<=k) (a:k < s.size)
 (c:x=Utf.val v (r.take (k - 1))):x * 64+(s[k]'a).toNat - 128=Utf.val v (r.take k):=by
 obtain ⟨j,rfl⟩: ∃j,k=j+1:=⟨k - 1,by omega⟩;rw[List.take_succ_eq_append_getElem (by omega),Utf.ZdI,b j (by omega) a,c];rfl
def Box2 (W:World) (g:Nat) (a b:Int):Prop:=g < W.heap.size/\W.cell? ⟨g,0,none⟩=some (.int .i64 a)/\W.cell? ⟨g,1,none⟩=some (.int .i64 b)/\W.frozen? ⟨g,0,none⟩=false/\W.frozen? ⟨g,1,none⟩=false
theorem Box2.keep {W W':World} {g B:Nat} {a b:Int} (h:Box2 W g a b) (d:g < B) (c:Below B W W'):Box2 W' g a b:=
 ⟨Nat.lt_of_lt_of_le h.1 c.size,(c.cell (p:=⟨g,0,none⟩) d).trans h.2.1,(c.cell (p:=⟨g,1,none⟩) d).trans h.2.2.1,(c.frozen (p:=⟨g,0,none⟩) d).trans h.2.2.2.1,(c.frozen (p:=⟨g,1,none⟩) d).trans h.2.2.2.2⟩
theorem Z0L (w:World) (a b:Int):Box2 (w.alloc (.cells #[.int .i64 a,.int .i64 b] 29)) w.heap.size a b:=
 ⟨by simp,by simp[go_sem],by simp[go_sem],by simp[go_sem],by simp[go_sem]⟩
theorem Z0o (c:UInt8) (k:Nat) (b:k < 256): ((c.toNat:Int)==(k:Int))=(c==UInt8.ofNat k):=by
 have a: (UInt8.ofNat k).toNat=k:=by simp; omega
 rw[Bool.eq_iff_iff,beq_iff_eq,beq_iff_eq];constructor
 {intro h; apply UInt8.toNat_inj.1; rw[a]; omega}
 {intro h; rw[h,a]}
theorem Zgs {P:Program} (w:World) {b:Array Oper} {rest:List Oper} {o:Oper} {a:Act} {Q:Exit->Act->World->Prop} (d:Region.wanted o (yielded b a.tmps)=true) (s x:Operand) (t:TypeId)
 (ho:o.op= .call { callee:= .builtin .append,args:=#[s,x],argTypes:=#[t,t] })
 (base:Nat) (e:TypeId) (i:TypeInfo) (z:Value) (size bytes:Nat) (ht:P.underlying t=some (.slice e)) (hi:P.info? e=some i) (hz:i.zero=some z)
 (hsize:i.size=size) (hby:i.bytes=bytes) (hzs:z.cells.size=size) (hsz:0 < size)
 (v:Value) (n:Nat) (xs:List Value) (hs:a.eval s=v) (hown:w.ownsRow base e size v n xs)
 (A:Option Addr) (m c:Nat) (news:List Value) (hx:a.eval x= .slice A m c) (hA:A=none->m=0/\c=0) (hl:news.length=m * size)
 (hnews: ∀ad,A=some ad-> ∀j u,news[j]? =some u->w.cell? (ad.add j)=some u) (h1: ∀u∈news,u.oneCell'=true)
 (h63:n+m<=maxLen) (hbytes: (n+m) * bytes<=140737488355328) (hbase:base<=w.heap.size)
 (h: ∀v' w',w'.ownsRow base e size v' (n+m) (xs++news)->Below base w w'->wpList P b Q rest (a.put o.dst v') w'):wpList P b Q (o::rest) a w:=by
 refine wpList_step fun K hK=> ?_;rw[if_pos d]
 match A,hA,hnews,hx with
 | some ad,_,hnews,hx=>
  exact wp_append_own w s x t ho base e i z size bytes ht hi hz hsize hby hzs hsz v n xs hs hown ad m c news hx hl (hnews ad rfl) h1 h63 hbytes hbase
   fun v' w' h2 h3 _=>hK _ _ (h v' w' h2 (Y2.grown h3 hbase (fun k hk=>(hown.lt k hk).1)))
 | none,hA,_,hx=>
  obtain ⟨rfl,rfl⟩:=hA rfl;obtain rfl:news= []:=List.eq_nil_of_length_eq_zero (by rw[hl,Nat.zero_mul]);have f:=run_append_owned_none (P:=P) (w:=w) base t o.type e i size ht hi v n xs hown;unfold Oper.wp execOp;simp only[ho,resolve,invoke,builtin,Sem.run_bind,Sem.run_pure,Result.andThen_ok,List.map_toArray,List.map_cons,List.map_nil,hs,hx,f];exact hK _ _ (h v w (by rw[List.append_nil]; exact hown) Y2)
end
end Go.Proofs.YtkncdbaoaeeoiaaGreatDoor
namespace Prs
open Go.Proofs.YtkncdbaoaeeoiaaGreatDoor (Tk)
theorem look_in {l:List Tk} {i:Nat} (h:i < l.length):look l i=l[i]:=by unfold look; rw[List.getElem?_eq_getElem h]
theorem look_out {l:List Tk} {i:Nat} (h: ¬i < l.length) (a:0 < l.length):look l i=⟨⟨0,[]⟩,(l[l.length - 1]'(by omega)).at_⟩:=by
 unfold look;rw[List.getElem?_eq_none (by omega),List.getLast?_eq_getElem?,List.getElem?_eq_getElem (by omega)]
theorem look_nil {l:List Tk} (i:Nat) (h:l.length=0):look l i=⟨⟨0,[]⟩,0⟩:=by
 unfold look;rw[List.getElem?_eq_none (by omega),List.getLast?_eq_getElem?,List.getElem?_eq_none (by omega)]
end Prs
namespace Go.Proofs.YtkncdbaoaeeoiaaGreatDoor
open Go.RowKit Prs
theorem Box2.next {W W':World} {g:Nat} {a b:Int} (h:Box2 W g a b) (c:Below W.heap.size W W'):Box2 W' g a b:=h.keep h.1 c
theorem Tks.on {w w':World} {A:Option Addr} {l:List Tk} (h:Tks w w.heap.size A l) (a:Below w.heap.size w w'):Tks w' w'.heap.size A l:=(h.keep a (Nat.le_refl _)).more a.size
theorem Z47 (a:Int) (s:ByteArray) (b:Int) (W:World): (Instr.field 54 (.agg #[.int .i64 a,.string s,.int .i64 b]) 2).run Tryz.prog W= .ok (.int .i64 b) W:=by
 simp[go_sem,Instr.field,asAgg]
end Go.Proofs.YtkncdbaoaeeoiaaGreatDoor
namespace Go.Proofs.YtkncdbaoaeeoiaaGreatDoor
section
open Go.RowKit
def placeG {α:Type} (p:α->Bool) (l:List α):Int:=match l.findIdx? p with
 | some i=>(i:Int)
 | none=> -1
section
variable {α : Type}
include α
theorem Z2J {p:α->Bool} {l:List α} {i:Nat} (a:i < l.length) (h:p (l[i]'a)=true) (b: ∀j (hj:j < l.length),j < i->p (l[j]'hj)=false):placeG p l=(i:Int):=by
 have:l.findIdx? p=some i:=List.findIdx?_eq_some_iff_getElem.2 ⟨a,h,fun j hj=>by rw[b j (by omega) hj]; simp⟩;unfold placeG; rw[this]
theorem Z1O {p:α->Bool} {l:List α} (b: ∀j (a:j < l.length),p (l[j]'a)=false):placeG p l= -1:=by
 have:l.findIdx? p=none:=List.findIdx?_eq_none_iff.2 (fun x hx=>by
  obtain ⟨j,a,rfl⟩:=List.getElem_of_mem hx;exact b j a)
 unfold placeG; rw[this]
theorem Z2a (p:α->Bool) (l:List α):decide (0<=placeG p l)=l.any p:=by
 unfold placeG;cases h:l.findIdx? p with
 | some i=>
  obtain ⟨a,b,_⟩:=List.findIdx?_eq_some_iff_getElem.1 h;show decide ((0:Int)<=(i:Int))=_;rw[decide_eq_true (by omega)];exact (List.any_eq_true.2 ⟨_,List.getElem_mem a,b⟩).symm
 | none=>
  have:=List.findIdx?_eq_none_iff.1 h;show false=_;symm;rw[List.any_eq_false];intro x c; rw[this x c]; simp
theorem Z3i (p:α->Bool) (l:List α): -1<=placeG p l:=by
 unfold placeG;cases l.findIdx? p with
 | some i=>show (-1:Int)<=(i:Int); omega
 | none=>show (-1:Int)<= -1; omega
theorem Z6w (p:α->Bool) (l:List α):l.any (fun x=> !p x)= !l.all p:=by
 induction l with
 | nil=>rfl
 | cons a l ih=>simp[ih]
end
end
section
open Go.RowKit Tms
open Shp (Sh)
open Pso (St)
open Prs (sign)
theorem Row.names {W:World} {B:Nat} {A:Option Addr} {c:Nat} {l:List (List UInt8)} (h:Row W B 9 1 cN A c l):l.length=0\/ ∃g,A=some ⟨g,0,none⟩/\B<=g/\g < W.heap.size/\ ∀i (hi:i < l.length),W.cell? ⟨g,i,none⟩=some (.string ⟨(l[i]'hi).toArray⟩):=by
 rcases h.form with ⟨_,a,_⟩ | ⟨g,rfl,_⟩
 {exact Or.inl a}
 {refine Or.inr ⟨g,rfl,(h.lt g rfl).1,(h.lt g rfl).2,fun i hi=> ?_⟩;rw[World.ownsRow.cellAt h i (by omega)];have:=Zav Zg1 hi (show 0 < 1 by omega);rw[Nat.mul_one,Nat.add_zero] at this;rw[this]; rfl}
theorem Z9G (B:Nat) (A:Option Addr) (c:Nat) (l:List (List UInt8)) (s:List UInt8) (w:World) (z:l.length<=1000000) (h:Row w B 9 1 cN A c l):
 Y9 128 #[.slice A l.length c,.string ⟨s.toArray⟩] w (.int .i64 (placeG (fun x=>s==x) l)):=by
 have t:=Y1 h.names;clear h;go_enter Tryz.func128,Tryz.ntmps128
 go_wp2_with fail
 go_loopw [8] (fun ii wr=> ∃i:Nat,ii= .int .i64 i/\i<=l.length/\Hid (∀j (h:j < l.length),j < i->(s==(l[j]'h))=false)/\Below w.heap.size w wr) (fun i _=>l.length - (intOf i).toNat)
 case atStart=>exact ⟨0,rfl,Nat.zero_le _,Y1 (fun j _ hj=>absurd hj (by omega)),Below.refl _ _⟩
 case round=>
  obtain ⟨i,rfl,y,e,b⟩:=hrel;by_cases a:i < l.length
  {rcases t.out with v | ⟨g,rfl,_,q,o⟩
   {omega}
   {obtain ⟨x,m⟩: ∃x,x=l[i]'a:=⟨_,rfl⟩;have p0:=(b.cell (p:=⟨g,i,none⟩) q).trans (o i a);have u:g < wr.heap.size:=Nat.lt_of_lt_of_le q b.size;rw[<-m] at p0;have n:=Y1 m;clear m o;have k: (i:Int) < (l.length:Int):=by omega
    cases d: (s==x) with
    | true=>
     have f:Hid (placeG (fun x=>s==x) l=(i:Int)):=Y1 (Z2J a (by show (s==_)=true; rw[<-n.out]; exact d) (fun j hj hji=>e.out j hj hji));go_wp2;go_ret;exact ⟨Z0p f.out.symm,b⟩
    | false=>
     have r:=Y1 d;go_wp2
     go_roundw
     case rel=>exact ⟨i+1,by go_num,by omega,Y1 (fun j hj hji=>by
      rcases Nat.lt_succ_iff_lt_or_eq.1 hji with h | rfl
      {exact e.out j hj h}
      · rw[<-n.out]; exact r.out),b⟩
     case measure=>simp[intOf]; omega}}
  {have k: ¬(i:Int) < (l.length:Int):=by omega
   have f:Hid (placeG (fun x=>s==x) l= -1):=Y1 (Z1O (fun j hj=>e.out j hj (by omega)));go_wp2;go_ret;exact ⟨Z0p f.out.symm,b⟩}
theorem Z8n (l:List (List UInt8)) (s:List UInt8):l.any (fun x=>s==x)=l.contains s:=by
 induction l with
 | nil=>rfl
 | cons a l ih=>rw[List.any_cons,List.contains_cons,ih]
theorem Z3G (B:Nat) (A:Option Addr) (c:Nat) (l:List (List UInt8)) (s:List UInt8) (w:World) (f:l.length<=1000000) (h:Row w B 9 1 cN A c l):
 Y9 95 #[.slice A l.length c,.string ⟨s.toArray⟩] w (.bool (l.contains s)):=by
 have b:=Y1 ((Z2a (fun x=>s==x) l).trans (Z8n l s));have a:=Z9G B A c l s w f h;generalize placeG (fun x=>s==x) l=k at b a;clear h;go_enter Tryz.func95,Tryz.ntmps95
 go_wp2_with fail
 refine a.mono ?_;rintro e w' ⟨rfl,d⟩;go_wp2;go_ret;exact ⟨Z08 b.out,d⟩
theorem Z5q: (Tryz.prog.info? 9).map (fun i=>(i.zero,i.size,i.bytes))=some (some (.string ByteArray.empty),1,16):=by kernel_rfl
theorem Z1e {P:Program} {e:TypeId} {z:Value} {size bytes:Nat} (h: (P.info? e).map (fun i=>(i.zero,i.size,i.bytes))=some (some z,size,bytes)): ∃i,P.info? e=some i/\i.zero=some z/\i.size=size/\i.bytes=bytes:=by
 cases a:P.info? e with
 | none=>rw[a] at h; cases h
 | some i=>
  rw[a] at h;simp only[Option.map_some,Option.some.injEq,Prod.mk.injEq] at h;exact ⟨i,rfl,h.1,h.2.1,h.2.2⟩
theorem Z5K (W:World) (s:List UInt8):Row (W.alloc (.cells #[.string ⟨s.toArray⟩] 9)) W.heap.size 9 1 cN (some ⟨W.heap.size,0,none⟩) 1 [s]:=by
 have:=World.ownsRow_lit (base:=W.heap.size) (e:=9) (size:=1) W #[.string ⟨s.toArray⟩] 1 (Nat.le_refl _) (by decide) rfl;exact this
theorem Z4F {B:Nat} {a W:World} (h:Below B a W) {b:Nat} (c:B<=b) (x y z:Value):Below B a (((W.setCell ⟨b,0,none⟩ x).setCell ⟨b,1,none⟩ y).setCell ⟨b,2,none⟩ z):=
 ((h.setCell (p:=⟨b,0,none⟩) c _).setCell (p:=⟨b,1,none⟩) c _).setCell (p:=⟨b,2,none⟩) c _
theorem Z1o (bp:Nat) (A:Option Addr) (c:Nat) (l:List Tk) (σ:St) (G:l.length<=1000000) (z:σ.1<=l.length) (w:World) (h:PAt w bp A c l σ):
 Y9 35 #[.pointer (some ⟨bp,0,none⟩)] w (.agg #[.int .i64 (Prs.look l σ.1).t.kind,.string ⟨(Prs.look l σ.1).t.text.toArray⟩,.int .i64 (Prs.look l σ.1).at_]):=by
 obtain ⟨i,e,a⟩:=σ;simp only at z ⊢;obtain ⟨B,C,c1,c2,c3,p,s,t,_⟩:=h;simp only at c1;have E:=p 0;have F:=p 1;clear c2 c3 p t;have o:=Y1 (Z01 w (.cells Yd 54));by_cases b:i < l.length
 {have j: (i:Int) < (l.length:Int):=by omega
  rcases s with h | ⟨g,off,rfl,y,f⟩
  {omega}
  {obtain ⟨x,d⟩: ∃x,x=l[i]'b:=⟨_,rfl⟩;obtain ⟨k,t1,n⟩:=f i b;rw[Prs.look_in b, <-d];rw[<-d] at k t1 n;have r:g < w.heap.size:=by omega
   clear f d;go_enter Tryz.func35,Tryz.ntmps35
   go_wp2_with fail
   go_quiet (fail)
   go_wp2_with fail
   go_region
   go_wp2;refine bodyPost_ret (v:= .agg #[.int .i64 x.t.kind,.string ⟨x.t.text.toArray⟩,.int .i64 x.at_]) (by simp[results,Tryz.results35,go_sem]) rfl ?_;exact ⟨rfl,Z4F (Z0b o.out _) (Nat.le_refl _) _ _ _⟩}}
 {have j: ¬(i:Int) < (l.length:Int):=by omega
  by_cases q:l.length=0
  {have u: ¬(0:Int) < (l.length:Int):=by omega
   rw[Prs.look_nil i q];clear q;go_enter Tryz.func35,Tryz.ntmps35
   go_wp2_with fail
   go_quiet (fail)
   go_wp2;refine bodyPost_ret (v:= .agg #[.int .i64 0,.string ⟨#[]⟩,.int .i64 0]) (by simp[results,Tryz.results35,go_sem]) rfl ?_;exact ⟨rfl,Z03 (Z4F (Z0b o.out _) (Nat.le_refl _) _ _ _) _⟩}
  {have u: (0:Int) < (l.length:Int):=by omega
   rcases s with h | ⟨g,off,rfl,y,f⟩
   {omega}
   {obtain ⟨x,d⟩: ∃x,x=l[l.length - 1]'(by omega):=⟨_,rfl⟩;obtain ⟨k,t1,n⟩:=f (l.length - 1) (by omega);rw[Prs.look_out b (by omega), <-d];rw[<-d] at k t1 n;obtain ⟨m,H⟩: ∃m,m+1=l.length:=⟨l.length - 1,by omega⟩;rw[show l.length - 1=m from by omega] at k t1 n;have D: (l.length:Int) - 1=(m:Int):=by omega
    have r:g < w.heap.size:=by omega
    clear f d q;go_enter Tryz.func35,Tryz.ntmps35
    go_wp2_with fail
    go_quiet (fail)
    go_wp2;refine bodyPost_ret (v:= .agg #[.int .i64 0,.string ⟨#[]⟩,.int .i64 x.at_]) (by simp[results,Tryz.results35,go_sem]) rfl ?_;exact ⟨rfl,Z03 (Z4F (Z0b o.out _) (Nat.le_refl _) _ _ _) _⟩}}}
section
variable (a : Int) (s : ByteArray) (b : Int) (W : World)
include a s b W
theorem Z6x: (Instr.field 54 (.agg #[.int .i64 a,.string s,.int .i64 b]) 0).run Tryz.prog W= .ok (.int .i64 a) W:=by
 simp[go_sem,Instr.field,asAgg]
theorem Zfn: (Instr.field 54 (.agg #[.int .i64 a,.string s,.int .i64 b]) 1).run Tryz.prog W= .ok (.string s) W:=by
 simp[go_sem,Instr.field,asAgg]
end
def signs (l:List Tk) (i:Nat) (ws:List (List UInt8)):Bool:=(decide ((Prs.look l i).t.kind=6)||decide ((Prs.look l i).t.kind=5))&&ws.contains (Prs.look l i).t.text
theorem Z4G (l:List Tk) (i:Nat) (s:List UInt8):signs l i [s]=sign l i s:=by
 unfold signs sign;rw[Bool.and_comm,List.contains_cons,List.contains_nil,Bool.or_false]
section
variable (bp : Nat) (A : Option Addr) (c : Nat) (l : List Tk) (σ : St)
include bp A c l σ
theorem Z4H (B:Nat) (p:Option Addr) (r:Nat) (g:List (List UInt8)) (G:l.length<=1000000) (F:σ.1<=l.length) (t:g.length<=1000000) (w:World) (h:PAt w bp A c l σ) (y:Row w B 9 1 cN p r g):
 Y9 69 #[.pointer (some ⟨bp,0,none⟩),.slice p g.length r] w (.bool (signs l σ.1 g)):=by
 have j:=Y1 (Z1o bp A c l σ G F w h);have s:Hid (signs l σ.1 g=((decide ((Prs.look l σ.1).t.kind=6)||decide ((Prs.look l σ.1).t.kind=5))&&g.contains (Prs.look l σ.1).t.text)):=Y1 rfl;have u:=Y1 y;have q:=Y1 (fun (w:World) (h:Row w B 9 1 cN p r g)=>Z3G B p r g (Prs.look l σ.1).t.text w t h);clear h y;obtain ⟨x,z⟩: ∃x,x=Prs.look l σ.1:=⟨_,rfl⟩;rw[<-z] at j s q;rw[s.out];obtain ⟨b,v⟩: ∃b,b=g.contains x.t.text:=⟨_,rfl⟩;rw[<-v] at q ⊢;clear z s v;by_cases m:x.t.kind=6
 {have E: (x.t.kind==6)=true:=by simpa using m
  have o:decide (x.t.kind=6)=true:=decide_eq_true m;rw[o,Bool.true_or,Bool.true_and];clear m o;go_enter Tryz.func69,Tryz.ntmps69
  go_wp2_with fail
  refine j.out.mono ?_;rintro e C ⟨rfl,d⟩;have a:=Y1 (Z03 d (.cells #[.int .i64 x.t.kind,.string ⟨x.t.text.toArray⟩,.int .i64 x.at_] 54));clear d j
  go_wp2_with fail
  refine (q.out _ (u.out.below a.out)).mono ?_;rintro e H ⟨rfl,f⟩;have i:=Y1 (Z00 a.out f);clear f a;go_wp2;go_ret;exact ⟨rfl,i.out⟩}
 {have E: (x.t.kind==6)=false:=by simpa using m
  have o:decide (x.t.kind=6)=false:=decide_eq_false m;rw[o,Bool.false_or];clear m o;by_cases k:x.t.kind=5
  {have D: (x.t.kind==5)=true:=by simpa using k
   have n:decide (x.t.kind=5)=true:=decide_eq_true k;rw[n,Bool.true_and];clear k n;go_enter Tryz.func69,Tryz.ntmps69
   go_wp2_with fail
   refine j.out.mono ?_;rintro e C ⟨rfl,d⟩;have a:=Y1 (Z03 d (.cells #[.int .i64 x.t.kind,.string ⟨x.t.text.toArray⟩,.int .i64 x.at_] 54));clear d j
   go_wp2_with fail
   refine (q.out _ (u.out.below a.out)).mono ?_;rintro e H ⟨rfl,f⟩;have i:=Y1 (Z00 a.out f);clear f a;go_wp2;go_ret;exact ⟨rfl,i.out⟩}
  {have D: (x.t.kind==5)=false:=by simpa using k
   have n:decide (x.t.kind=5)=false:=decide_eq_false k;rw[n,Bool.false_and];clear k n;go_enter Tryz.func69,Tryz.ntmps69
   go_wp2_with fail
   refine j.out.mono ?_;rintro e C ⟨rfl,d⟩;have a:=Y1 (Z03 d (.cells #[.int .i64 x.t.kind,.string ⟨x.t.text.toArray⟩,.int .i64 x.at_] 54));clear d j;go_wp2;go_ret;exact ⟨rfl,a.out⟩}}
theorem Zbe (s:List UInt8) (g:l.length<=1000000) (f:σ.1<=l.length) (w:World) (h:PAt w bp A c l σ) {b:Nat} (a:b=w.heap.size:=by first | rfl | simp | omega):
 Calls Tryz.prog 69 #[.pointer (some ⟨bp,0,none⟩),.slice (some ⟨b,0,none⟩) 1 1] (w.alloc (.cells #[.string ⟨s.toArray⟩] 9)) fun e w'=>e= .returned (.bool (Prs.sign l σ.1 s))/\Below w.heap.size w w':=by
 subst a;have d:=Z4H bp A c l σ w.heap.size (some ⟨w.heap.size,0,none⟩) 1 [s] g f (by simp) _ (h.alloc (.cells #[.string ⟨s.toArray⟩] 9)) (Z5K w s);rw[Z4G] at d;refine d.mono ?_;rintro e w' ⟨rfl,a⟩;exact ⟨rfl,Z00 (Z01 w _) a⟩
theorem ZcJ (B:Nat) (k:Option Addr) (n:Nat) (g:List (List UInt8)) (s:l.length<=1000000) (p:σ.1<=l.length) (o:g.length<=1000000) (w:World) (h:PAt w bp A c l σ) (q:Row w B 9 1 cN k n g):
 Calls Tryz.prog 64 #[.pointer (some ⟨bp,0,none⟩),.slice k g.length n] w fun e w'=>e= .returned (.bool (signs l σ.1 g))/\PAt w' bp A c l (if signs l σ.1 g=true then (σ.1+1,σ.2) else σ)/\UpT [bp] w w':=by
 obtain ⟨i,f⟩:=σ;simp only at p ⊢;have j:=Y1 (Z4H bp A c l (i,f) B k n g s p o w h q);have m:=Y1 h;clear h q;cases r:signs l i g
 {simp only[r] at j;go_enter Tryz.func64,Tryz.ntmps64
  go_wp2_with fail
  refine j.out.mono ?_;rintro e u ⟨rfl,a⟩;have b:=Y1 a;clear a j;go_wp2;go_ret;exact ⟨rfl,m.out.below b.out,Z05 b.out⟩}
 {simp only[r] at j;go_enter Tryz.func64,Tryz.ntmps64
  go_wp2_with fail
  refine j.out.mono ?_;rintro e u ⟨rfl,a⟩;have b:=Y1 a;have d:=Y1 (m.out.below a);have t:=d.out.lt;have c1:=d.out.c1;simp only at c1;have v:=d.out.fz 1;clear a j m;go_wp2;go_ret;exact ⟨rfl,d.out.turn1 _,(Z05 b.out).set _ (Or.inr (by simp)) _⟩}
theorem Z2U (s:List UInt8) (f:l.length<=1000000) (d:σ.1<=l.length) (w:World) (h:PAt w bp A c l σ) {b:Nat} (hb:b=w.heap.size:=by first | rfl | simp | omega):
 Calls Tryz.prog 64 #[.pointer (some ⟨bp,0,none⟩),.slice (some ⟨b,0,none⟩) 1 1] (w.alloc (.cells #[.string ⟨s.toArray⟩] 9)) fun e w'=>e= .returned (.bool (Prs.sign l σ.1 s))/\PAt w' bp A c l (if Prs.sign l σ.1 s=true then (σ.1+1,σ.2) else σ)/\UpT [bp] w w':=by
 subst hb;have a:=ZcJ bp A c l σ w.heap.size (some ⟨w.heap.size,0,none⟩) 1 [s] f d (by simp) _ (h.alloc (.cells #[.string ⟨s.toArray⟩] 9)) (Z5K w s);rw[Z4G] at a;refine a.mono ?_;rintro e w' ⟨rfl,g,i⟩;exact ⟨rfl,g,(Z05 (F:= [bp]) (Z01 w _)).trans i⟩
theorem Z3j (k a:Int) (s:l.length<=1000000) (w:World) (h:PAt w bp A c l σ):
 Calls Tryz.prog 37 #[.pointer (some ⟨bp,0,none⟩),.int .i64 k,.int .i64 a] w fun e w'=>e= .returned (.tuple #[])/\PAt w' bp A c l (Pso.fail l σ k a)/\UpT [bp] w w':=by
 obtain ⟨i,f,b⟩:=σ;have j:=Y1 h;have g:Hid (Pso.fail l (i,(f,b)) k a=(l.length,if f=0 then (k,a) else (f,b))):=Y1 rfl;rw[g.out];have n:=h.lt;have o:=h.c0;have c1:=h.c1;have c2:=h.c2;have c3:=h.c3;have p:=h.fz 1;have q:=h.fz 2;have r:=h.fz 3;simp only at c1 c2 c3;clear h g;by_cases d:f=0
 {subst d;rw[if_pos rfl];have m: ((0:Int)==0)=true:=rfl;go_enter Tryz.func37,Tryz.ntmps37;go_wp2
  go_end0
  exact ⟨rfl,(j.out.turn23 k a).turn1 l.length,(((UpT.refl _ _).set _ (Or.inr (by simp)) _).set _ (Or.inr (by simp)) _).set _ (Or.inr (by simp)) _⟩}
 {rw[if_neg d];have m: (f==0)=false:=by simpa using d
  go_enter Tryz.func37,Tryz.ntmps37;go_wp2
  go_end0
  exact ⟨rfl,j.out.turn1 l.length,(UpT.refl _ _).set _ (Or.inr (by simp)) _⟩}
theorem Z2z (m:l.length<=1000000) (q:σ.1<=l.length) (w:World) (h:PAt w bp A c l σ):
 Calls Tryz.prog 88 #[.pointer (some ⟨bp,0,none⟩)] w fun e w'=>e= .returned (.tuple #[])/\PAt w' bp A c l (Pso.misfit l σ)/\UpT [bp] w w':=by
 have k:Hid (Pso.misfit l σ=Pso.fail l σ 90 (Prs.look l σ.1).at_):=Y1 rfl;rw[k.out];have g:=Y1 (Z1o bp A c l σ m q w h);obtain ⟨x,n⟩: ∃x,x=Prs.look l σ.1:=⟨_,rfl⟩;rw[<-n] at g ⊢;have o:=Y1 h;have p:=Z47 x.t.kind ⟨x.t.text.toArray⟩ x.at_;clear h k n;go_enter Tryz.func88,Tryz.ntmps88
 go_wp2_with fail
 refine g.out.mono ?_;rintro e r ⟨rfl,b⟩;have a:=Y1 b;clear b g
 go_wp2_with fail
 refine (Z3j bp A c l σ 90 x.at_ m r (o.out.below a.out)).mono ?_;rintro e s ⟨rfl,d,f⟩;have i:=Y1 d;have j:=Y1 f;clear d f;go_wp2
 go_end0
 exact ⟨rfl,i.out,(Z05 a.out).trans j.out⟩
end
end
end Go.Proofs.YtkncdbaoaeeoiaaGreatDoor
namespace Sem
section
def cut (c:UInt8):List UInt8->List UInt8×List UInt8×Bool
 | []=>([],[],false)
 | d::r=>if d=c then ([],r,true) else (d::(cut c r).1,(cut c r).2.1,(cut c r).2.2)
theorem Z8o {c:UInt8}: ∀ {l:List UInt8},(∀d∈l,d≠c)->cut c l=(l,[],false)
 | [],_=>rfl
 | d::r,h=>by rw[cut,if_neg (h d (by simp)),Z8o (fun e he=>h e (by simp[he]))]
theorem Z63 {c:UInt8}: ∀ {p:List UInt8} (q:List UInt8),(∀d∈p,d≠c)->cut c (p++c::q)=(p,q,true)
 | [],q,_=>by rw[List.nil_append,cut,if_pos rfl]
 | d::r,q,h=>by rw[List.cons_append,cut,if_neg (h d (by simp)),Z63 q (fun e he=>h e (by simp[he]))]
theorem ZcK (l:List UInt8):parts l=if (cut 46 l).2.2=true then (cut 46 l).1::parts (cut 46 l).2.1 else [l]:=by
 induction l with
 | nil=>rfl
 | cons d r ih=>
  by_cases h:d=46
  {subst h; rw[Z17,cut,if_pos rfl]; rfl}
  {rw[cut,if_neg h];simp only;rcases a:parts r with _ | ⟨p,ps⟩
   {exact absurd a (Z1R r)}
   {rw[Z0K h a];rw[a] at ih;by_cases b: (cut 46 r).2.2=true
    {rw[if_pos b] at ih ⊢;simp only[List.cons.injEq] at ih;rw[ih.1,ih.2]}
    {rw[if_neg b] at ih ⊢;simp only[List.cons.injEq] at ih;rw[ih.1,ih.2]}}}
theorem Z6y (c:UInt8): ∀l:List UInt8,(cut c l).1.length<=l.length/\(cut c l).2.1.length<=l.length/\((cut c l).2.2=true->(cut c l).2.1.length < l.length)
 | []=>by simp[cut]
 | d::r=>by
  obtain ⟨b,e,a⟩:=Z6y c r;rw[cut];split
  {simp}
  {simp only[List.length_cons];exact ⟨by omega,by omega,fun h=>by have:=a h; omega⟩}
end
end Sem
