/- ExpandDeclares: a declaration does to an environment what the document says, and leaves it as it was; for all values that the row lets in, with the program's variable laid as its text lays it. -/
import Derived.Test.YtmeiijjpomcgcaaDoorTie
import Derived.Test.YtmeiijjpomcgcaaDoorCards
import Derived.LaidMore
import Derived.Lay
import Derived.Test.YtmeiijjpomcgcaaDoorK0n18
set_option linter.unusedVariables false
set_option linter.unusedSimpArgs false
set_option linter.unusedSectionVars false
set_option maxRecDepth 100000
set_option maxHeartbeats 16000000
namespace Go.Proofs.YtmeiijjpomcgcaaDoor
section
open Go.RowKit Shp
open Expd (Bd put find Z0L)
def kI:Sh:=⟨1,[],[],[],[]⟩
def kL:Sh:=⟨5,[],[],[],[kI]⟩
def kA:Sh:=⟨9,[],[65],[],[]⟩
def kX:Sh:=⟨6,[],[],[[120],[97]],[kA,kI]⟩
def kU:Sh:=⟨6,[],[],[[120],[97]],[kL,kI]⟩
def kY:Sh:=⟨6,[],[],[[97],[120]],[kI,kL]⟩
def kE:List Bd:= [⟨[],[65],kL⟩]
theorem Z7b:check kX=0:=by decide+kernel
theorem ZbP:check kU=0:=by decide+kernel
theorem Zcz:put (find kE) kX=some kU:=by rfl
theorem Zcj:put (find []) kX=none:=by rfl
theorem Zb6:sorted kU=kY:=by kernel_rfl
theorem Zck:Expd.resolve kE kX=(kY,0):=by rw[Expd.resolve_ok Z7b Zcz ZbP,Zb6]
theorem Zcl:Expd.resolve [] kX=(Z0L,110):=Expd.resolve_name Z7b Zcj
def kW (w:World):World:=(((((((w.alloc (.cells #[.int .i64 1,.string ⟨#[]⟩,.string ⟨#[]⟩,.slice none 0 0,.slice none 0 0] 25)).alloc (.cells #[.int .i64 1,.string ⟨#[]⟩,.string ⟨#[]⟩,.slice none 0 0,.slice none 0 0] 25)).alloc
 (.cells #[.int .i64 5,.string ⟨#[]⟩,.string ⟨#[]⟩,.slice none 0 0,.slice (some ⟨w.heap.size+1,0,none⟩) 1 1] 25)).alloc (.cells #[.int .i64 9,.string ⟨#[]⟩,.string ⟨#[65]⟩,.slice none 0 0,.slice none 0 0] 25)).alloc
 (.cells #[.string ⟨#[120]⟩,.string ⟨#[97]⟩] 9)).alloc (.cells #[.int .i64 9,.string ⟨#[]⟩,.string ⟨#[65]⟩,.slice none 0 0,.slice none 0 0,.int .i64 1,.string ⟨#[]⟩,.string ⟨#[]⟩,.slice none 0 0,.slice none 0 0] 25)).alloc
 (.cells #[.int .i64 6,.string ⟨#[]⟩,.string ⟨#[]⟩,.slice (some ⟨w.heap.size+1+1+1+1,0,none⟩) 2 2,.slice (some ⟨w.heap.size+1+1+1+1+1,0,none⟩) 2 2] 25)).alloc
 (.cells #[.string ⟨#[]⟩,.string ⟨#[65]⟩,.int .i64 5,.string ⟨#[]⟩,.string ⟨#[]⟩,.slice none 0 0,.slice (some ⟨w.heap.size+1,0,none⟩) 1 1] 54)
theorem Z1J (w:World): (kW w).heap.size=w.heap.size+8:=by simp[kW]
theorem Z4J (w:World):Below w.heap.size w (kW w):=Z0h (Z0h (Z0h (Z0h (Z0h (Z0h (Z0h (Z01 _ _) _) _) _) _) _) _) _
def kq0:Ptr:=⟨none,0,none,0⟩
def kqL (H:Nat):Ptr:=⟨none,0,some ⟨H+1,0,none⟩,1⟩
def kqX (H:Nat):Ptr:=⟨some ⟨H+1+1+1+1,0,none⟩,2,some ⟨H+1+1+1+1+1,0,none⟩,2⟩
theorem Z2I (W:World) (B:Nat) (t:Sh) (h1:t.names= []) (h2:t.parts= []) (h3:t.of_.length<=9223372036854775807) (h4:t.name.length<=9223372036854775807):ShAt W B kq0 t:=
 .mk _ _ 0 0 (fun _=>kq0) ⟨h3,h4,by rw[h1]; nofun,by rw[h1]; simp,by rw[h2]; simp,by rw[h1]; exact Nat.le_refl _,by rw[h2]; exact Nat.le_refl _,fun _=>rfl,fun _=>rfl⟩ (Or.inl (by rw[h1]; rfl)) (Or.inl (by rw[h2]; rfl)) (fun i h=>absurd h (by rw[h2]; simp)) (fun i h=>absurd h (by rw[h2]; simp))
section
variable (w : World)
include w
theorem kW_L:ShAt (kW w) (kW w).heap.size (kqL w.heap.size) kL:=by
 refine .mk _ _ (w.heap.size+1) 0 (fun _=>kq0) ⟨by decide,by decide,nofun,by decide,by decide,Nat.le_refl _,Nat.le_refl _,fun _=>rfl,nofun⟩ (Or.inl rfl) (Or.inr ⟨rfl,by rw[Z1J]; omega⟩) (fun i h=> ?_) (fun i h=> ?_)
 {have h1:i < 1:=h
  match i,h1 with
  | 0,_=>refine ⟨?_, ?_, ?_, ?_, ?_⟩ <;> simp[kW,go_sem,kL,kI,kq0]}
 {have h1:i < 1:=h
  match i,h1 with
  | 0,_=>exact Z2I _ _ kI rfl rfl (by decide) (by decide)}
theorem kW_X:ShAt (kW w) (kW w).heap.size (kqX w.heap.size) kX:=by
 refine .mk _ _ (w.heap.size+1+1+1+1+1) 0 (fun _=>kq0) ⟨by decide,by decide,by decide,by decide,by decide,Nat.le_refl _,Nat.le_refl _,nofun,nofun⟩ (Or.inr ⟨w.heap.size+1+1+1+1,0,rfl,by rw[Z1J]; omega,fun i hi=> ?_⟩) (Or.inr ⟨rfl,by rw[Z1J]; omega⟩) (fun i h=> ?_) (fun i h=> ?_)
 {have h2:i < 2:=hi
  match i,h2 with
  | 0,_=>simp[kW,go_sem,kX,strs]
  | 1,_=>simp[kW,go_sem,kX,strs]}
 {have h2:i < 2:=h
  match i,h2 with
  | 0,_=>refine ⟨?_, ?_, ?_, ?_, ?_⟩ <;> simp[kW,go_sem,kX,kA,kq0]
  | 1,_=>refine ⟨?_, ?_, ?_, ?_, ?_⟩ <;> simp[kW,go_sem,kX,kI,kq0]}
 {have h2:i < 2:=h
  match i,h2 with
  | 0,_=>exact Z2I _ _ kA rfl rfl (by decide) (by decide)
  | 1,_=>exact Z2I _ _ kI rfl rfl (by decide) (by decide)}
theorem kW_E:BdsAt (kW w) (kW w).heap.size (some ⟨w.heap.size+1+1+1+1+1+1+1,0,none⟩) kE:=by
 refine Or.inr ⟨w.heap.size+1+1+1+1+1+1+1,0,fun _=>kqL w.heap.size,rfl,by rw[Z1J]; omega,fun i h=> ?_⟩;have h1:i < 1:=h
 match i,h1 with
 | 0,_=>exact ⟨by simp[kW,go_sem,kE],by simp[kW,go_sem,kE],⟨by simp[kW,go_sem,kE,kL,kqL],by simp[kW,go_sem,kE,kL,kqL],by simp[kW,go_sem,kE,kL,kqL],by simp[kW,go_sem,kE,kL,kqL],by simp[kW,go_sem,kE,kL,kqL]⟩,kW_L w,by simp[kE],by simp[kE]⟩
theorem kW_i:Box5 (kW w) w.heap.size kI kq0:=by
 refine ⟨by rw[Z1J]; omega,⟨?_, ?_, ?_, ?_, ?_⟩, ?_, ?_, ?_, ?_, ?_⟩ <;> simp[kW,go_sem,kI,kq0]
theorem kW_l:Box5 (kW w) (w.heap.size+1+1) kL (kqL w.heap.size):=by
 refine ⟨by rw[Z1J]; omega,⟨?_, ?_, ?_, ?_, ?_⟩, ?_, ?_, ?_, ?_, ?_⟩ <;> simp[kW,go_sem,kL,kqL]
theorem kW_x:Box5 (kW w) (w.heap.size+1+1+1+1+1+1) kX (kqX w.heap.size):=by
 refine ⟨by rw[Z1J]; omega,⟨?_, ?_, ?_, ?_, ?_⟩, ?_, ?_, ?_, ?_, ?_⟩ <;> simp[kW,go_sem,kX,kqX]
theorem Z47 (hg:WGlobs w):Y9 8 #[] w (.bool true):=by
 have HBW:=Y1 (Z4J w);have HG:=Y1 (hg.next (Z4J w));have HI:=Y1 (kW_i w);have HL:=Y1 (kW_l w);have HX:=Y1 (kW_x w);have HXA:=Y1 (kW_X w);have HLA:=Y1 (kW_L w);have HSZ:=Y1 (Z1J w);have HR:=Y1 (Z2y kX (kqX w.heap.size) kE (some ⟨w.heap.size+1+1+1+1+1+1+1,0,none⟩) 1 (kW w) (kW_X w) (kW_E w) (by decide) (hg.next (Z4J w)));clear hg;go_enter Tryd.func8,Tryd.ntmps8
 go_wp2_with fail
 change Calls _ _ _ (kW w) _;obtain ⟨H,hH⟩: ∃H,H=w.heap.size:=⟨_,rfl⟩;rw[<-hH] at HI HL HX HXA HLA HR HSZ ⊢;generalize kW w=W0 at HBW HG HI HL HX HXA HLA HR HSZ ⊢;refine HR.out.mono ?_;rintro e w1 ⟨q1,he,hat,hb1⟩;rw[Zck] at he hat;obtain ⟨z,hz⟩: ∃z,z=kY:=⟨_,rfl⟩;rw[<-hz] at he hat;subst he;have HZ:=Y1 hz;have hb2:=Z01 w1 (.cells (Y8 z q1) 25);have hbb:=Z03 hb1 hb2;have HB2:=Y1 hbb;have HBZ:=Y1 (Z07 w1 z q1);have HAT:=Y1 (hat.next hb2);have HG2:=Y1 (HG.out.next hbb);have HXA2:=Y1 (HXA.out.next hbb);obtain ⟨z1,⟨x0,x1,x2,x3,x4⟩,z2⟩:=HX.out.next hbb;simp only[Nat.zero_add] at x0 x1 x2 x3 x4;change (w1.alloc _).cell? _=some (.int .i64 6) at x0;change (w1.alloc _).cell? _=some (.string ⟨#[]⟩) at x1;change (w1.alloc _).cell? _=some (.string ⟨#[]⟩) at x2;change (w1.alloc _).cell? _=some (.slice (some ⟨H+1+1+1+1,0,none⟩) 2 2) at x3;change (w1.alloc _).cell? _=some (.slice (some ⟨H+1+1+1+1+1,0,none⟩) 2 2) at x4;have HR2:=Y1 (Z2y kX (kqX H) [] none 0 _ HXA2.out (Or.inl rfl) (by decide) HG2.out);clear hz hb1 hb2 hbb hat z1 z2 hH HR;unfold shV;obtain ⟨W2,hW2⟩: ∃W2,w1.alloc (.cells (Y8 z q1) 25)=W2:=⟨_,rfl⟩;rw[hW2] at x0 x1 x2 x3 x4 HR2 HB2 HBZ HAT HG2 HXA2
 go_wp2_with fail
 clear hW2;refine HR2.out.mono ?_;rintro e w3 ⟨q2,he, -,hb3⟩;rw[Zcl] at he;subst he;have hb4:=Z03 hb3 (Z01 w3 (.cells #[.int .i64 0,.string ⟨#[]⟩,.string ⟨#[]⟩,.slice q2.A 0 q2.c,.slice q2.P 0 q2.d] 25));have HB4:=Y1 (Z03 HB2.out hb4);have HBZ4:=Y1 (HBZ.out.next hb4);have HAT4:=Y1 (HAT.out.next hb4);clear x0 x1 x2 x3 x4 hb3 hb4 HR2
 try simp only
 unfold shV Z0L
 try simp only
 obtain ⟨W4,hW4⟩: ∃W4,w3.alloc (.cells #[.int .i64 0,.string ⟨#[]⟩,.string ⟨#[]⟩,.slice q2.A 0 q2.c,.slice q2.P 0 q2.d] 25)=W4:=⟨_,rfl⟩;rw[hW4] at HB4 HBZ4 HAT4;have hz8:H+8<=W4.heap.size:=by have:=HSZ.out; have:=HB4.out.size; omega
 have hn1:H≠W4.heap.size:=by omega
 have hn2:H+1+1≠W4.heap.size:=by omega
 obtain ⟨z1,⟨x0,x1,x2,x3,x4⟩,z2⟩:=HBZ4.out;obtain ⟨z3,⟨i0,i1,i2,i3,i4⟩,z4⟩:=(HI.out.next HB4.out).next (Z01 W4 (.cells #[.string ⟨#[97]⟩,.string ⟨#[120]⟩] 9));obtain ⟨z5,⟨l0,l1,l2,l3,l4⟩,z6⟩:=(HL.out.next HB4.out).next (Z01 W4 (.cells #[.string ⟨#[97]⟩,.string ⟨#[120]⟩] 9));simp only[Nat.zero_add] at x0 x1 x2 x3 x4 i0 i1 i2 i3 i4 l0 l1 l2 l3 l4;change (W4.alloc _).cell? _=some (.int .i64 1) at i0;change (W4.alloc _).cell? _=some (.string ⟨#[]⟩) at i1;change (W4.alloc _).cell? _=some (.string ⟨#[]⟩) at i2;change (W4.alloc _).cell? _=some (.slice none 0 0) at i3;change (W4.alloc _).cell? _=some (.slice none 0 0) at i4;change (W4.alloc _).cell? _=some (.int .i64 5) at l0;change (W4.alloc _).cell? _=some (.string ⟨#[]⟩) at l1;change (W4.alloc _).cell? _=some (.string ⟨#[]⟩) at l2;change (W4.alloc _).cell? _=some (.slice none 0 0) at l3;change (W4.alloc _).cell? _=some (.slice (some ⟨H+1,0,none⟩) 1 1) at l4;have hb6:Below W4.heap.size W4 ((W4.alloc (.cells #[.string ⟨#[97]⟩,.string ⟨#[120]⟩] 9)).alloc (.cells #[.int .i64 1,.string ⟨#[]⟩,.string ⟨#[]⟩,.slice none 0 0,.slice none 0 0,.int .i64 5,.string ⟨#[]⟩,.string ⟨#[]⟩,.slice none 0 0,.slice (some ⟨H+1,0,none⟩) 1 1] 25)):=Z0h (Z01 _ _) _;have hs6: ((W4.alloc (.cells #[.string ⟨#[97]⟩,.string ⟨#[120]⟩] 9)).alloc (.cells #[.int .i64 1,.string ⟨#[]⟩,.string ⟨#[]⟩,.slice none 0 0,.slice none 0 0,.int .i64 5,.string ⟨#[]⟩,.string ⟨#[]⟩,.slice none 0 0,.slice (some ⟨H+1,0,none⟩) 1 1] 25)).heap.size=W4.heap.size+2:=by simp
 have hy:ShAt ((W4.alloc (.cells #[.string ⟨#[97]⟩,.string ⟨#[120]⟩] 9)).alloc (.cells #[.int .i64 1,.string ⟨#[]⟩,.string ⟨#[]⟩,.slice none 0 0,.slice none 0 0,.int .i64 5,.string ⟨#[]⟩,.string ⟨#[]⟩,.slice none 0 0,.slice (some ⟨H+1,0,none⟩) 1 1] 25)) (W4.heap.size+2) ⟨some ⟨W4.heap.size,0,none⟩,2,some ⟨W4.heap.size+1,0,none⟩,2⟩ kY:=by
  refine .mk _ _ (W4.heap.size+1) 0 (fun i=>if i=0 then kq0 else kqL H) ⟨by decide,by decide,by decide,by decide,by decide,Nat.le_refl _,Nat.le_refl _,nofun,nofun⟩ (Or.inr ⟨W4.heap.size,0,rfl,by omega,fun i hi=> ?_⟩) (Or.inr ⟨rfl,by omega⟩) (fun i h=> ?_) (fun i h=> ?_)
  {have h2:i < 2:=hi
   match i,h2 with
   | 0,_=>simp[go_sem,kY,strs]
   | 1,_=>simp[go_sem,kY,strs]}
  {have h2:i < 2:=h
   match i,h2 with
   | 0,_=>refine ⟨?_, ?_, ?_, ?_, ?_⟩ <;> simp[go_sem,kY,kI,kq0]
   | 1,_=>refine ⟨?_, ?_, ?_, ?_, ?_⟩ <;> simp[go_sem,kY,kL,kqL]}
  {have h2:i < 2:=h
   match i,h2 with
   | 0,_=>exact Z2I _ _ kI rfl rfl (by decide) (by decide)
   | 1,_=>rw[<-hs6]; exact (HLA.out.next HB4.out).next hb6}
 rw[<-hs6] at hy;have HE:=Y1 (Z4v z kY q1 _ _ (HAT4.out.next hb6) hy);have HB6:=Y1 (Z03 HB4.out hb6);clear hb6 hs6 hy z1 z2 z3 z4 z5 z6 hz8;obtain ⟨W5,hW5⟩: ∃W5,W4.alloc (.cells #[.string ⟨#[97]⟩,.string ⟨#[120]⟩] 9)=W5:=⟨_,rfl⟩;have hs5:Hid (W5.heap.size=W4.heap.size+1):=Y1 (by rw[<-hW5]; simp);rw[hW5] at i0 i1 i2 i3 i4 l0 l1 l2 l3 l4 HE HB6
 go_wp2_with fail
 rw[<-hs5.out] at HE;have heq:eqB z kY=true:=by rw[HZ.out]; exact Z3n _
 rw[heq] at HE;refine HE.out.mono ?_;rintro e w7 ⟨rfl,hb7⟩;have HB7:=Y1 (HBW.out.trans ((HB6.out.mono HBW.out.size).trans (hb7.mono (by have:=HBW.out.size; have:=HB6.out.size; omega))));clear hb7 HE heq;go_wp2;go_ret;exact ⟨rfl,HB7.out⟩
end
end
end Go.Proofs.YtmeiijjpomcgcaaDoor
namespace Go.Proofs.YtmeiijjpomcgcaaDoor
open Go.RowKit Shp
section
variable {H : Type} {enc : TypeId × Value -> H} {W : World} {base : Nat} {held : Bool}
theorem Z32 {P:Program} {e:TypeId} {l:List (DataW H)} {d:DataW H} (hd:d∈l) {n:Nat} (hn:n∈d.weights P e):n∈DataW.weightsAll P e l:=by
 induction l with
 | nil=>cases hd
 | cons a l ih=>
  rw[DataW.weightsAll,List.mem_append];rcases List.mem_cons.1 hd with rfl | hd
  {exact Or.inl hn}
  {exact Or.inr (ih hd)}
theorem Z5k (t:Sh): ∀(fuel:Nat) (q:Ptr) (x:DataW H×List MemPlace),DataW.trod enc Tryd.prog W base (fun _=>true) held fuel 25 [.int .i64 t.kind,.string ⟨t.of_.toArray⟩,.string ⟨t.name.toArray⟩,.slice q.A t.names.length q.c,.slice q.P t.parts.length q.d]=some x->
 (∀n∈DataW.weights Tryd.prog 25 x.1,n<=reachBytes)->ShAt W W.heap.size q t->Thin t:=by
 induction t using Sh.ind with
 | h t ih=>
 intro fuel q x h hw hat;obtain ⟨xs,n,hn,rfl,hlen,hxl,hf⟩:=DataW.trod_struct Tryd.underlying25 h;have hC:Tryd.prog.cellsOf 25=5:=by kernel_rfl
 have c22:Tryd.prog.cellsOf 22=1:=by kernel_rfl
 have c23:Tryd.prog.cellsOf 23=1:=by kernel_rfl
 have b9:Tryd.prog.bytesOf 9=16:=by kernel_rfl
 have hz:xs.length=5:=hxl;have f3:=hf 3 _ rfl;have f4:=hf 4 _ rfl;change DataW.trod enc _ W base _ held n 22 (([.int .i64 t.kind,.string ⟨t.of_.toArray⟩,.string ⟨t.name.toArray⟩,.slice q.A t.names.length q.c,.slice q.P t.parts.length q.d].drop 3).take (Tryd.prog.cellsOf 22))=_ at f3;change DataW.trod enc _ W base _ held n 23 (([.int .i64 t.kind,.string ⟨t.of_.toArray⟩,.string ⟨t.name.toArray⟩,.slice q.A t.names.length q.c,.slice q.P t.parts.length q.d].drop 4).take (Tryd.prog.cellsOf 23))=_ at f4;rw[c22,List.getElem?_eq_getElem (by omega)] at f3;rw[c23,List.getElem?_eq_getElem (by omega)] at f4;simp only[List.drop_succ_cons,List.drop_zero,List.take_succ_cons,List.take_zero] at f3 f4;have hw': ∀(j:Nat) (hj:j < xs.length) (e:TypeId),(Tryd.prog.underlying 25=none\/True)->(match Tryd.prog.underlying 25 with | some (.struct fs)=>(fs.toList.map (·.type))[j]? | _=>none)=some e-> ∀m∈DataW.weights Tryd.prog e (xs[j]'hj).1,m<=reachBytes:=by
  intro j hj e _ he m hm;refine hw m ?_;rw[DataW.weights,Tryd.underlying25];rw[Tryd.underlying25] at he;exact DataW.weights_mem_each he (by rw[List.getElem?_map,List.getElem?_eq_getElem hj]; rfl) m hm
 have w3:=hw' 3 (by omega) 22 (Or.inr trivial) (by rw[Tryd.underlying25]; rfl);have w4:=hw' 4 (by omega) 23 (Or.inr trivial) (by rw[Tryd.underlying25]; rfl);refine .mk t ?_ (fun p hp=> ?_)
 {rcases DataW.trod_slice Tryd.underlying22 f3 with ⟨h0,_⟩ | ⟨a,len,cap,elems,rest,n2,_,h1,h2,_,_,_,hel,_,_⟩
  {simp at h0;rw[h0.2.1]; simp}
  {simp at h1;obtain ⟨_,rfl,_⟩:=h1;rw[h2] at w3;have:=w3 ((elems.length+rest.length) * 16) (by rw[DataW.weights,Tryd.underlying22]; simp[b9]);unfold reachBytes at this;omega}}
 {rcases DataW.trod_slice Tryd.underlying23 f4 with ⟨h0,_⟩ | ⟨a,len,cap,elems,rest,n2,_,h1,h2,_,_,_,hel,hx,_⟩
  {simp at h0;rw[h0.2.1] at hp; cases hp}
  {simp at h1;obtain ⟨hqP,rfl,_⟩:=h1;rw[h2] at w4;obtain ⟨i,hi,rfl⟩:=List.getElem_of_mem hp;rcases hat.part with h0 | ⟨g,off,qs,hqP2,hg,hc,hr⟩
   {omega}
   rw[hqP] at hqP2;cases hqP2;have hxi:=hx i hi;rw[hC,List.getElem?_eq_getElem (by omega)] at hxi;cases hcs:W.cells? base ((⟨g,off,none⟩:Addr).add (i * 5)) 5 with
   | none=>rw[hcs] at hxi; cases hxi
   | some cs'=>
    rw[hcs] at hxi;obtain ⟨_,hcl,hat'⟩:=World.cells?_some hcs;obtain ⟨z0,z1,z2,z3,z4⟩:=hc i hi;have hcell: ∀k v,k < 5->W.cell? ⟨g,off+i * 5+k,none⟩=some v->cs'[k]? =some v:=fun k v hk hv=>by
     have h:=hat' k (by omega);rw[Go.Deep.add_add,Z0d, <-Nat.add_assoc,hv] at h;exact h.symm
    have e5:cs'= [.int .i64 (t.parts[i]'hi).kind,.string ⟨(t.parts[i]'hi).of_.toArray⟩,.string ⟨(t.parts[i]'hi).name.toArray⟩,.slice (qs i).A (t.parts[i]'hi).names.length (qs i).c,.slice (qs i).P (t.parts[i]'hi).parts.length (qs i).d]:=by
     have k0:=hcell 0 _ (by omega) z0;have k1:=hcell 1 _ (by omega) z1;have k2:=hcell 2 _ (by omega) z2;have k3:=hcell 3 _ (by omega) z3;have k4:=hcell 4 _ (by omega) z4
     match cs',hcl with
     | [a0,a1,a2,a3,a4],_=>
      simp at k0 k1 k2 k3 k4;rw[k0,k1,k2,k3,k4]
    rw[e5] at hxi;refine ih _ (List.getElem_mem hi) n2 (qs i) (elems[i]'(by omega)) hxi (fun m hm=>w4 m ?_) (hr i hi);rw[DataW.weights,Tryd.underlying23];refine List.mem_cons_of_mem _ (List.mem_append_left _ (Z32 (List.mem_map.2 ⟨elems[i]'(by omega),List.getElem_mem _,rfl⟩) hm))}}
end
end Go.Proofs.YtmeiijjpomcgcaaDoor
namespace Go.Proofs.YtmeiijjpomcgcaaDoor
open Go.RowKit Shp
open Expd (Bd It)
section
variable {H : Type} {enc : TypeId × Value -> H} {W : World} {base : Nat} {held : Bool}
theorem Zb8 (b:Bd) (q:Ptr) (fuel:Nat) (x:DataW H×List MemPlace) (h:DataW.trod enc Tryd.prog W base (fun _=>true) held fuel 54 [.string ⟨b.of_.toArray⟩,.string ⟨b.name.toArray⟩,.int .i64 b.sh.kind,.string ⟨b.sh.of_.toArray⟩,.string ⟨b.sh.name.toArray⟩,.slice q.A b.sh.names.length q.c,.slice q.P b.sh.parts.length q.d]=some x)
 (hw: ∀n∈DataW.weights Tryd.prog 54 x.1,n<=reachBytes) (hat:ShAt W W.heap.size q b.sh):Thin b.sh:=by
 obtain ⟨xs,n,hn,rfl,hlen,hxl,hf⟩:=DataW.trod_struct Tryd.underlying54 h;have c2:Tryd.prog.cellsOf 25=5:=by kernel_rfl
 have hz:xs.length=3:=hxl;have f2:=hf 2 _ rfl;change DataW.trod enc _ W base _ held n 25 (([.string ⟨b.of_.toArray⟩,.string ⟨b.name.toArray⟩,.int .i64 b.sh.kind,.string ⟨b.sh.of_.toArray⟩,.string ⟨b.sh.name.toArray⟩,.slice q.A b.sh.names.length q.c,.slice q.P b.sh.parts.length q.d].drop 2).take (Tryd.prog.cellsOf 25))=_ at f2;rw[c2,List.getElem?_eq_getElem (by omega)] at f2;simp only[List.drop_succ_cons,List.drop_zero,List.take_succ_cons,List.take_zero] at f2;refine Z5k b.sh n q (xs[2]'(by omega)) f2 (fun m hm=>hw m ?_) hat;rw[DataW.weights,Tryd.underlying54];exact DataW.weights_mem_each (t:=25) (j:=2) (by rfl) (by rw[List.getElem?_map,List.getElem?_eq_getElem (by omega)]; rfl) m hm
theorem Z9H {A:Option Addr} {l:List Bd} {c:Nat} {d:DataW H} {p:List MemPlace} (h:DataW.Trod enc Tryd.prog W base (fun _=>true) held 26 (.slice A l.length c) d p) (hw: ∀n∈DataW.weights Tryd.prog 26 d,n<=reachBytes) (hI:BdsAt W W.heap.size A l): ∀x∈l,Thin x.sh:=by
 intro x hp;obtain ⟨fuel,hf⟩:=h;have hC:Tryd.prog.cellsOf 54=7:=by kernel_rfl
 rcases DataW.trod_slice Tryd.underlying26 hf with ⟨h0,_⟩ | ⟨a,len,cap,elems,rest,n2,_,h1,h2,_,_,_,hel,hx,_⟩
 {simp[Value.cells] at h0;rw[h0.2.1] at hp; cases hp}
 {simp[Value.cells] at h1;obtain ⟨hqP,rfl,_⟩:=h1;have h2d:=congrArg Prod.fst h2;simp only at h2d;rw[h2d] at hw;obtain ⟨i,hi,rfl⟩:=List.getElem_of_mem hp;rcases hI with h0 | ⟨g,off,qs,hqP2,hg,hc⟩
  {omega}
  rw[hqP] at hqP2;cases hqP2;have hxi:=hx i hi;rw[hC,List.getElem?_eq_getElem (by omega)] at hxi;cases hcs:W.cells? base ((⟨g,off,none⟩:Addr).add (i * 7)) 7 with
  | none=>rw[hcs] at hxi; cases hxi
  | some cs'=>
   rw[hcs] at hxi;obtain ⟨_,hcl,hat'⟩:=World.cells?_some hcs;obtain ⟨y0,y1,⟨z0,z1,z2,z3,z4⟩,hat,_⟩:=hc i hi;have hcell: ∀k v,k < 7->W.cell? ⟨g,off+i * 7+k,none⟩=some v->cs'[k]? =some v:=fun k v hk hv=>by
    have h:=hat' k (by omega);rw[Go.Deep.add_add,Z0d, <-Nat.add_assoc,hv] at h;exact h.symm
   have e7:cs'= [.string ⟨(l[i]'hi).of_.toArray⟩,.string ⟨(l[i]'hi).name.toArray⟩,.int .i64 (l[i]'hi).sh.kind,.string ⟨(l[i]'hi).sh.of_.toArray⟩,.string ⟨(l[i]'hi).sh.name.toArray⟩,.slice (qs i).A (l[i]'hi).sh.names.length (qs i).c,.slice (qs i).P (l[i]'hi).sh.parts.length (qs i).d]:=by
    have k0:=hcell 0 _ (by omega) y0;have k1:=hcell 1 _ (by omega) y1;have k2:=hcell 2 _ (by omega) z0;have k3:=hcell 3 _ (by omega) z1;have k4:=hcell 4 _ (by omega) z2;have k5:=hcell 5 _ (by omega) z3;have k6:=hcell 6 _ (by omega) z4
    match cs',hcl with
    | [a0,a1,a2,a3,a4,a5,a6],_=>
     simp at k0 k1 k2 k3 k4 k5 k6;rw[k0,k1,k2,k3,k4,k5,k6]
   rw[e7] at hxi;refine Zb8 _ (qs i) n2 (elems[i]'(by omega)) hxi (fun m hm=>hw m ?_) hat;rw[DataW.weights,Tryd.underlying26];refine List.mem_cons_of_mem _ (List.mem_append_left _ (Z32 (List.mem_map.2 ⟨elems[i]'(by omega),List.getElem_mem _,rfl⟩) hm))}
theorem Zb9 {b0:Nat} {v:Value} {d:DataW H} {p:List MemPlace}
 (hv:Value.okWide Tryd.prog W .any b0 47 v) (h:DataW.Trod enc Tryd.prog W base (fun _=>true) held 47 v d p):
 ∃(b:It) (q:Ptr) (r0 r1 r2 r3 r4 r5 r6 r7 r8 r9:Value),v= .agg #[.int .i64 b.kind,.string ⟨b.name.toArray⟩,.int .i64 b.sh.kind,.string ⟨b.sh.of_.toArray⟩,.string ⟨b.sh.name.toArray⟩,.slice q.A b.sh.names.length q.c,.slice q.P b.sh.parts.length q.d,r0,r1,r2,r3,r4,r5,r6,r7,r8,r9]/\ShAt W W.heap.size q b.sh/\b.name.length<=9223372036854775807:=by
 obtain ⟨cs,rfl,hsz⟩:=Go.WideShapes.okWide_struct Tryd.underlying47 hv;obtain ⟨fuel,hf⟩:=h;change DataW.trod enc _ W base _ held fuel 47 cs.toList=_ at hf;obtain ⟨xs,n,hn,_,hlen,hxl,hf⟩:=DataW.trod_struct Tryd.underlying47 hf;have hC:Tryd.prog.cellsOf 47=17:=by kernel_rfl
 have c0:Tryd.prog.cellsOf 3=1:=by kernel_rfl
 have c1:Tryd.prog.cellsOf 9=1:=by kernel_rfl
 have c2:Tryd.prog.cellsOf 25=5:=by kernel_rfl
 rw[hC] at hlen;obtain ⟨l⟩:=cs
 match l,hlen with
 | [a0,a1,a2,a3,a4,a5,a6,r0,r1,r2,r3,r4,r5,r6,r7,r8,r9],_=>
  have f0:=hf 0 _ rfl;have f1:=hf 1 _ rfl;have f2:=hf 2 _ rfl;have hz:xs.length=5:=hxl;change DataW.trod enc _ W base _ held n 3 (([a0,a1,a2,a3,a4,a5,a6,r0,r1,r2,r3,r4,r5,r6,r7,r8,r9].drop 0).take (Tryd.prog.cellsOf 3))=_ at f0;change DataW.trod enc _ W base _ held n 9 (([a0,a1,a2,a3,a4,a5,a6,r0,r1,r2,r3,r4,r5,r6,r7,r8,r9].drop 1).take (Tryd.prog.cellsOf 9))=_ at f1;change DataW.trod enc _ W base _ held n 25 (([a0,a1,a2,a3,a4,a5,a6,r0,r1,r2,r3,r4,r5,r6,r7,r8,r9].drop 2).take (Tryd.prog.cellsOf 25))=_ at f2;rw[c0,List.getElem?_eq_getElem (by omega)] at f0;rw[c1,List.getElem?_eq_getElem (by omega)] at f1;rw[c2,List.getElem?_eq_getElem (by omega)] at f2;obtain ⟨b0,hb0,_,hm0⟩:=DataW.trod_int Tryd.underlying3 f0;obtain ⟨b1,hb1,_,hm1⟩:=DataW.trod_string Tryd.underlying9 f1;obtain ⟨t,q,hb2,hat⟩:=Z2e _ f2;simp at hb0 hb1 hb2;obtain ⟨h2,h3,h4,h5,h6⟩:=hb2;subst hb0 hb1 h2 h3 h4 h5 h6;exact ⟨⟨b0,b1.data.toList,t⟩,q,r0,r1,r2,r3,r4,r5,r6,r7,r8,r9,rfl,hat,by unfold maxLen at hm1; rw[Z1t]; exact hm1⟩
end
end Go.Proofs.YtmeiijjpomcgcaaDoor
namespace Go.Proofs.YtmeiijjpomcgcaaDoor
section
open Go.RowKit Shp Sub SubM
open Expd (Bd)
structure Rows17 (W:World) (g:Nat) (k:Int) (nm:List UInt8) (t:Sh) (q:Ptr) (r0 r1 r2 r3 r4 r5 r6 r7 r8 r9:Value):Prop where
 lt:g < W.heap.size
 c0:W.cell? ⟨g,0,none⟩=some (.int .i64 k)
 c1:W.cell? ⟨g,1,none⟩=some (.string ⟨nm.toArray⟩)
 c2:W.cell? ⟨g,2,none⟩=some (.int .i64 t.kind)
 c3:W.cell? ⟨g,3,none⟩=some (.string ⟨t.of_.toArray⟩)
 c4:W.cell? ⟨g,4,none⟩=some (.string ⟨t.name.toArray⟩)
 c5:W.cell? ⟨g,5,none⟩=some (.slice q.A t.names.length q.c)
 c6:W.cell? ⟨g,6,none⟩=some (.slice q.P t.parts.length q.d)
 c7:W.cell? ⟨g,7,none⟩=some (r0)
 c8:W.cell? ⟨g,8,none⟩=some (r1)
 c9:W.cell? ⟨g,9,none⟩=some (r2)
 c10:W.cell? ⟨g,10,none⟩=some (r3)
 c11:W.cell? ⟨g,11,none⟩=some (r4)
 c12:W.cell? ⟨g,12,none⟩=some (r5)
 c13:W.cell? ⟨g,13,none⟩=some (r6)
 c14:W.cell? ⟨g,14,none⟩=some (r7)
 c15:W.cell? ⟨g,15,none⟩=some (r8)
 c16:W.cell? ⟨g,16,none⟩=some (r9)
theorem Rows17.next {W W':World} {g:Nat} {k:Int} {nm:List UInt8} {t:Sh} {q:Ptr} {r0 r1 r2 r3 r4 r5 r6 r7 r8 r9:Value} (h:Rows17 W g k nm t q r0 r1 r2 r3 r4 r5 r6 r7 r8 r9) (hb:Below W.heap.size W W'):Rows17 W' g k nm t q r0 r1 r2 r3 r4 r5 r6 r7 r8 r9:=by
 have c:=fun j=>hb.cell (p:=⟨g,j,none⟩) h.lt;exact ⟨Nat.lt_of_lt_of_le h.lt hb.size,(c 0).trans h.c0,(c 1).trans h.c1,(c 2).trans h.c2,(c 3).trans h.c3,(c 4).trans h.c4,(c 5).trans h.c5,(c 6).trans h.c6,(c 7).trans h.c7,(c 8).trans h.c8,(c 9).trans h.c9,(c 10).trans h.c10,(c 11).trans h.c11,(c 12).trans h.c12,(c 13).trans h.c13,(c 14).trans h.c14,(c 15).trans h.c15,(c 16).trans h.c16⟩
theorem Z8g (L:List Bd) (self:List UInt8) (k:Int) (nm:List UInt8) (t:Sh): (Expd.declare L self k nm t).1.length<=L.length+1:=by
 unfold Expd.declare;split
 {exact Nat.le_succ _}
 {split
  {exact Nat.zero_le _}
  {rw[List.length_append]; exact Nat.le_refl _}}
theorem Z3I (L:List Bd) (A:Option Addr) (cap:Nat) (self:List UInt8) (k:Int) (nm:List UInt8) (t:Sh) (q:Ptr) (r0 r1 r2 r3 r4 r5 r6 r7 r8 r9:Value) (w:World) (hL:BdsAt w w.heap.size A L) (hl:L.length<=9223372036854775807) (hc:L.length<=cap) (hz:A=none->cap=0) (hth: ∀b∈L,Thin b.sh) (hsf:self.length<=9223372036854775807) (hnm:nm.length<=9223372036854775807) (hq:ShAt w w.heap.size q t) (hg:WGlobs w):
 Y9 5 #[.slice A L.length cap,.string ⟨self.toArray⟩,.agg #[.int .i64 k,.string ⟨nm.toArray⟩,.int .i64 t.kind,.string ⟨t.of_.toArray⟩,.string ⟨t.name.toArray⟩,.slice q.A t.names.length q.c,.slice q.P t.parts.length q.d,r0,r1,r2,r3,r4,r5,r6,r7,r8,r9]] w (.bool true):=by
 have hbb:=Z01 w (.cells #[.int .i64 k,.string ⟨nm.toArray⟩,.int .i64 t.kind,.string ⟨t.of_.toArray⟩,.string ⟨t.name.toArray⟩,.slice q.A t.names.length q.c,.slice q.P t.parts.length q.d,r0,r1,r2,r3,r4,r5,r6,r7,r8,r9] 47);have hdx:Rows17 (w.alloc (.cells #[.int .i64 k,.string ⟨nm.toArray⟩,.int .i64 t.kind,.string ⟨t.of_.toArray⟩,.string ⟨t.name.toArray⟩,.slice q.A t.names.length q.c,.slice q.P t.parts.length q.d,r0,r1,r2,r3,r4,r5,r6,r7,r8,r9] 47)) w.heap.size k nm t q r0 r1 r2 r3 r4 r5 r6 r7 r8 r9:=by constructor <;> simp[go_sem]
 obtain ⟨W0,hW0⟩: ∃W0,w.alloc (.cells #[.int .i64 k,.string ⟨nm.toArray⟩,.int .i64 t.kind,.string ⟨t.of_.toArray⟩,.string ⟨t.name.toArray⟩,.slice q.A t.names.length q.c,.slice q.P t.parts.length q.d,r0,r1,r2,r3,r4,r5,r6,r7,r8,r9] 47)=W0:=⟨_,rfl⟩;rw[hW0] at hbb hdx;have HB:=Y1 hbb;have HD:=Y1 hdx;have HL:=Y1 (hL.next hbb);have HQ:=Y1 (hq.next hbb);have HG:=Y1 (hg.next hbb);have HTH:=Y1 hth;have HZ:=Y1 hz;clear hbb hdx hL hq hg hz hth;have HSM:=Y1 (Z9G L A cap W0 HL.out hl);go_enter Tryd.func5,Tryd.ntmps5
 go_wp2_with fail
 refine HSM.out.mono ?_;rintro e v1 ⟨rfl,hbb⟩;have HB:=Y1 (Z03 HB.out hbb);have HD:=Y1 (HD.out.next hbb);have HL:=Y1 (HL.out.next hbb);have HQ:=Y1 (HQ.out.next hbb);have HG:=Y1 (HG.out.next hbb);clear hbb HSM hW0;obtain ⟨sm,hsm⟩: ∃c,smallB L=c:=⟨_,rfl⟩;rw[hsm];cases sm with
 | false=>
  clear hsm
  go_wp2_with fail
  refine (Z47 _ HG.out).mono ?_;rintro e v ⟨rfl,hb⟩;have HB3:=Y1 (Z03 HB.out hb);clear hb;go_wp2;go_ret;exact ⟨rfl,HB3.out⟩
 | true=>
  have hln:=Z9F hsm;have HSS:Hid (∀b∈L,size b.sh<=800/\Thin b.sh):=Y1 (fun b hb=>⟨Z4w hsm b hb,HTH.out b hb⟩);clear hsm;obtain ⟨lE,hlE,hok,hcl⟩:=Z4g HL.out;have hle:lE.length=L.length:=by have:=congrArg List.length hlE; simpa using this
  have HOK:=Y1 hok;have HCL:=Y1 hcl;have HLE:=Y1 hlE;have HLL:=Y1 hle;obtain ⟨ib,hifb,hzb,hsb,hbb7⟩:=Z1o Z1H;clear hok hcl hlE hle
  go_wp2_with (at_builtin; refine Z0I _ rfl _ _ 26 rfl v1.heap.size 54 ib (.agg #[.string ByteArray.empty,.string ByteArray.empty,.int .i64 0,.string ByteArray.empty,.string ByteArray.empty,.slice none 0 0,.slice none 0 0]) 7 120 Tryd.underlying26 hifb hzb hsb hbb7 rfl (by decide) _ 0 [] rfl (World.ownsRow_made v1 #[] 0 (Nat.le_refl _) (Nat.zero_le _) rfl) A L.length cap (cellsB lE) rfl ?qc0 ?qc1 ?qc2 ?qc3 ?qc4 ?qc5 ?qc6 ?_)
  case qc0=>intro h; have:=HZ.out h; omega
  case qc1=>rw[Z0u,HLL.out]
  case qc2=>
   intro ad' had j u hj;rcases HCL.out with h0 | ⟨g,off,hgo,hg,hcc⟩
   {rw[h0] at hj; simp[cellsB] at hj}
   {rw[hgo] at had;cases had;rw[Z2v];exact ((Z01 v1 _).cell (p:=⟨g,off+j,none⟩) hg).trans (hcc j u hj)}
  case qc3=>exact Z0D _
  case qc4=>unfold maxLen; omega
  case qc5=>omega
  case qc6=>simp
  intro v' v2 hown hb;have hown2:v2.ownsRow v1.heap.size 54 7 v' L.length (cellsB lE):=by simpa using hown
  have hbb:Below v1.heap.size v1 v2:=(Z01 v1 (.cells #[] 54)).trans hb;have hform: ∃A' c',v'= .slice A' L.length c'/\L.length<=c'/\(A'=none->c'=0):=by
   rcases hown2.2 with ⟨hv,h0⟩ | ⟨g,cap',cur,hv,_,_,hnc,_⟩
   {exact ⟨none,0,by rw[hv,h0],by omega,fun _=>rfl⟩}
   {exact ⟨some ⟨g,0,none⟩,cap',hv,hnc,nofun⟩}
  obtain ⟨A',c',rfl,hc',hz'⟩:=hform;have HC:Hid (BdsAt v2 v2.heap.size A' L):=Y1 (by
   have h:=Z2l hown2 HLL.out (fun x hx=>⟨(HOK.out x hx).1.next hbb,(HOK.out x hx).2⟩);rw[HLE.out] at h; exact h)
  have HB:=Y1 (Z03 HB.out hbb);have HD:=Y1 (HD.out.next hbb);have HL:=Y1 (HL.out.next hbb);have HQ:=Y1 (HQ.out.next hbb);have HG:=Y1 (HG.out.next hbb);clear hown hown2 hb hbb HOK HCL;obtain ⟨_,x0,x1,x2,x3,x4,x5,x6,x7,x8,x9,x10,x11,x12,x13,x14,x15,x16⟩:=HD.out;have HDW:=Y1 (Z74 L A' c' self k nm t q r0 r1 r2 r3 r4 r5 r6 r7 r8 r9 v2 HC.out hln hc' hz' HSS.out hsf hnm HQ.out HG.out)
  go_wp2_with fail
  refine HDW.out.mono ?_;rintro e v3 ⟨A2,c2,rfl,hd2,hbb⟩;clear x0 x1 x2 x3 x4 x5 x6 x7 x8 x9 x10 x11 x12 x13 x14 x15 x16;have H2:=Y1 hd2;have HC:=Y1 (HC.out.next hbb);have HB:=Y1 (Z03 HB.out hbb);have HD:=Y1 (HD.out.next hbb);have HL:=Y1 (HL.out.next hbb);have HQ:=Y1 (HQ.out.next hbb);have HG:=Y1 (HG.out.next hbb);clear hd2 hbb HDW;obtain ⟨_,x0,x1,x2,x3,x4,x5,x6,x7,x8,x9,x10,x11,x12,x13,x14,x15,x16⟩:=HD.out;have HDW:=Y1 (Z66 L A cap self k nm t q r0 r1 r2 r3 r4 r5 r6 r7 r8 r9 v3 HL.out hln hc HZ.out hsf hnm HQ.out)
  go_wp2_with fail
  refine HDW.out.mono ?_;rintro e v4 ⟨A3,c3,rfl,hd3,hbb⟩;clear x0 x1 x2 x3 x4 x5 x6 x7 x8 x9 x10 x11 x12 x13 x14 x15 x16;have H3:=Y1 hd3;have H2:=Y1 (H2.out.next hbb);have HC:=Y1 (HC.out.next hbb);have HB:=Y1 (Z03 HB.out hbb);have HL:=Y1 (HL.out.next hbb);have HG:=Y1 (HG.out.next hbb);clear hd3 hbb HDW;have hdl:=Z8g L self k nm t;obtain ⟨dd,hdd⟩: ∃x,x=Expd.declare L self k nm t:=⟨_,rfl⟩;rw[<-hdd] at H2 H3 hdl ⊢;obtain ⟨M,er⟩:=dd;have heq: (er==er)=true:=by simp
  have HS1:=Y1 (Z5j M A2 A3 c2 c3 v4 H2.out H3.out (by simp only at hdl; omega));clear hdd
  go_wp2_with fail
  refine HS1.out.mono ?_;rintro e v5 ⟨rfl,hbb⟩;have HB:=Y1 (Z03 HB.out hbb);have HG:=Y1 (HG.out.next hbb);have HS2:=Y1 (Z5j L A' A c' cap v5 (HC.out.next hbb) (HL.out.next hbb) (by omega));clear hbb HS1
  go_wp2_with fail
  refine HS2.out.mono ?_;rintro e v6 ⟨rfl,hbb⟩;have HB:=Y1 (Z03 HB.out hbb);have HG:=Y1 (HG.out.next hbb);clear hbb HS2
  go_wp2_with fail
  refine (Z47 _ HG.out).mono ?_;rintro e v7 ⟨rfl,hbb⟩;have HB:=Y1 (Z03 HB.out hbb);clear hbb;go_wp2;go_ret;exact ⟨rfl,HB.out⟩
end
end Go.Proofs.YtmeiijjpomcgcaaDoor
namespace Go.Proofs.YtmeiijjpomcgcaaDoor.expandDeclares
section
open Go.ChangeShapes Go.WideShapes Go.ChangeAt Go.RowKit
open Go.ChangeMaps (open_string shut_string)
theorem walk (w:World) (A0:Option Addr) (c0:Nat) (s0:List Expd.Bd) (S0:BdsAt w w.heap.size A0 s0) (m0:s0.length<=9223372036854775807) (q0:s0.length<=c0) (z0:A0=none->c0=0) (y0: ∀x∈s0,Thin x.sh) (a1:ByteArray) (r1:a1.size<=140737488351232) (u2:Expd.It) (p2:Ptr) (ra2 rb2 rc2 rd2 re2 rf2 rg2 rh2 ri2 rj2:Value) (S2:ShAt w w.heap.size p2 u2.sh) (n2:u2.name.length<=9223372036854775807) (hg:WGlobs w):Y9 5 #[.slice A0 s0.length c0,.string a1,.agg #[.int .i64 u2.kind,.string ⟨u2.name.toArray⟩,.int .i64 u2.sh.kind,.string ⟨u2.sh.of_.toArray⟩,.string ⟨u2.sh.name.toArray⟩,.slice p2.A u2.sh.names.length p2.c,.slice p2.P u2.sh.parts.length p2.d,ra2,rb2,rc2,rd2,re2,rf2,rg2,rh2,ri2,rj2]] w (.bool true):=by
 have h:=Z3I s0 A0 c0 a1.data.toList u2.kind u2.name u2.sh p2 ra2 rb2 rc2 rd2 re2 rf2 rg2 rh2 ri2 rj2 w S0 m0 q0 z0 y0 (by rw[Z1t]; omega) n2 S2 hg
 rwa [show (⟨a1.data.toList.toArray⟩:ByteArray)=a1 from by cases a1; simp] at h
theorem own:ownKnob Tryd.prog.godebug=none:=by kernel_rfl
theorem laidOut:laidOutB Tryd.prog=true:=by kernel_rfl
theorem contract (H:Type) (enc:TypeId×Value->H) (W:World) (base:Nat) (args:Array Value) (ds gs:List (DataW H)) (before:List MemPlace)
 (hval0: ∀(j:Nat) t v,Tryd.f5.params[j]? =some t->args[j]? =some v->Value.okWide Tryd.prog W .any base t v)
 (hW:DataW.Whole enc Tryd.prog Tryd.f5.params.toList Rows.expandDeclaresSpec.vars false W args.toList ds gs before) (hL:laidMetH Tryd.prog Rows.expandDeclaresRow.laid W) (hsz0: (DataW.weightsEach Tryd.prog (Tryd.f5.params.toList++Rows.expandDeclaresSpec.plain.varTypes Tryd.prog) (ds++gs)).all (· <=reachBytes)=true):
 Calls Tryd.prog 5 args W fun e W'=> ∃v,e= .returned v/\Rows.expandDeclaresSpec.post enc Tryd.prog Tryd.f5 false true false false W args v W':=by
 have hval: ∀(j:Nat) t v,Tryd.f5.params[j]? =some t->args[j]? =some v->Value.okWide Tryd.prog W .any base t v:=hval0;have hsz: (DataW.weightsEach Tryd.prog (Tryd.f5.params.toList++Rows.expandDeclaresSpec.plain.varTypes Tryd.prog) (ds++gs)).all (· <=reachBytes)=true:=hsz0
 have hW':=hW;obtain ⟨p,q,hA0,hV,rfl,hfz,hnd⟩:=hW;have hA:DataW.TrodAll enc Tryd.prog W 0 (fun _=>true) true Tryd.f5.params.toList args.toList ds p:=hA0;rw[Tryd.params5] at hA hval hsz;obtain ⟨v0,vs0,d0,ds0,p0,q0,hargs,rfl,rfl,h0,t0⟩:=trodAll_cons hA;obtain ⟨v1,vs1,d1,ds1,p1,q1,rfl,rfl,rfl,h1,t1⟩:=trodAll_cons t0;obtain ⟨v2,vs2,d2,ds2,p2,q2,rfl,rfl,rfl,h2,t2⟩:=trodAll_cons t1;obtain ⟨rfl,rfl,rfl⟩:=trodAll_nil t2;obtain rfl:args=#[v0,v1,v2]:=by cases args; simp_all
 obtain ⟨rfl,rfl⟩:=trodVars_none hV;obtain ⟨A0,n0,c0,rfl⟩:=okWide_slice Tryd.underlying26 (hval 0 26 v0 rfl rfl);have k0:=h0;have lt0: ∀x∈p0,x.block < W.heap.size:=by obtain ⟨m,hm⟩:=k0; exact DataW.trod_lt m _ _ _ hm
 obtain ⟨s0,rfl,S0,m0,q0,z0⟩:=Z9g h0;have y0:=Z9H k0 (fun n hn=>by simpa using List.all_eq_true.1 hsz n (DataW.weights_mem_each (t:=26) (j:=0) rfl rfl n hn)) S0;obtain ⟨a1,rfl,rfl,rfl,w1⟩:=open_string Tryd.underlying9 (hval 1 9 v1 rfl rfl) h1;have r1:a1.size<=140737488351232:=by
  have:=sized_string hsz (j:=1) (t:=9) rfl rfl;rw[Lib.size_eq]; exact Nat.le_trans this (by decide)
 have k2:=h2;have lt2: ∀x∈p2,x.block < W.heap.size:=by obtain ⟨m,hm⟩:=k2; exact DataW.trod_lt m _ _ _ hm
 obtain ⟨u2,y2,ra2,rb2,rc2,rd2,re2,rf2,rg2,rh2,ri2,rj2,rfl,S2,n2⟩:=Zb9 (hval 2 47 v2 rfl rfl) h2;clear hA0 hval0;rw[MakeChecks.laidMetH_plain _ _ _ (by kernel_rfl)] at hL;have hglob:WGlobs W:=ZaD hL (List.Mem.head _);refine (walk W A0 c0 s0 S0 m0 q0 z0 y0 a1 r1 u2 y2 ra2 rb2 rc2 rd2 re2 rf2 rg2 rh2 ri2 rj2 S2 n2 hglob).mono fun e W' ⟨he,bel⟩=> ?_;subst he;exact ⟨_,rfl,_,_,_,[],_,[],hW',trodAll_mk1 (shut_bool Tryd.underlying4 _),(trodAll_cons_mk (Below.trod laidOut (by kernel_rfl) (of_decide_eq_true (by kernel_rfl)) k0 bel lt0) (trodAll_cons_mk (shut_string Tryd.underlying9 w1) (trodAll_cons_mk (Below.trod laidOut (by kernel_rfl) (of_decide_eq_true (by kernel_rfl)) k2 bel lt2) trodAll_mk0))),rfl,bel.frame _,fun h=>by cases h⟩
theorem lifted (os:Os) (started:os.Started) (H:Type) (enc:TypeId×Value->H):
 ReturnsInHanded {} Tryd.checked os 5 .any (fun w args=>(Rows.expandDeclaresSpec.pre enc Tryd.prog Tryd.f5 Rows.expandDeclaresRow.domain false w args/\laidMetH Tryd.prog Rows.expandDeclaresRow.laid w)/\sizedMet enc Tryd.prog Tryd.f5 (OpenSpec.ofChange Rows.expandDeclaresSpec) false w args)
  (Rows.expandDeclaresSpec.post enc Tryd.prog Tryd.f5 false true false false):=by
 refine returnsInHanded_of_change_and (C:=Tryd.checked) (X:=fun w _=>laidMetH Tryd.prog Rows.expandDeclaresRow.laid w) (fun _ _ _ hh h=>h.of_heap hh) own started (by kernel_rfl) Tryd.func5
  (ChangeSpec.witness_shaped (enc:=enc) (C:=Tryd.checked) (os:=os) (X:=fun w _=>laidMetH Tryd.prog Rows.expandDeclaresRow.laid w) false (World.laidAll Tryd.prog os Rows.expandDeclaresRow.laid) #[(.slice none 0 0),(.string ByteArray.empty),(.agg #[.int .i64 0,.string ByteArray.empty,.int .i64 0,.string ByteArray.empty,.string ByteArray.empty,.slice none 0 0,.slice none 0 0,.int .i64 0,.string ByteArray.empty,.string ByteArray.empty,.int .i64 0,.slice none 0 0,.slice none 0 0,.slice none 0 0,.slice none 0 0,.int .i64 0,.int .i64 0])] 8 (World.laidAll_os _ _ _)
   (World.shaped_of_ZipB (by kernel_rfl) (by kernel_rfl)) (by kernel_rfl) (by kernel_rfl) (by kernel_rfl)
   (by rw[MakeChecks.laidMetH_plain _ _ _ (by kernel_rfl)]; exact laidMet_laidAll _ (by kernel_rfl) (by kernel_rfl))) ?_
 intro W base args ds gs before hval hW _ hsz hL _;exact contract H enc W base args ds gs before hval hW hL hsz
theorem proved:Rows.ExpandDeclaresSaid:=
 OpenClaim.holds_of_wide 5 Tryd.f5 rfl rfl rfl rfl rfl rfl rfl ⟨rfl,rfl,rfl,rfl,rfl⟩ rfl rfl rfl rfl rfl (by kernel_rfl) Tryd.func5 (by kernel_rfl)
  (of_decide_eq_true (by kernel_rfl)) (by unfold Func.isWrapper; first | (rw[if_pos (by decide+kernel)]; kernel_rfl) | (rw[if_neg (by decide+kernel)]; exact ⟨rfl,rfl⟩))
  (fun os started H enc _=>lifted os started H enc)
theorem card:Rows.ExpandDeclaresCardSaid:=
 Claim7.holds_tied_plain_at .later [] [.data] true _ false proved (fun _ h=>by cases h) (by kernel_rfl) (fun _ h=>by cases h) expandDeclares_row_tie rfl ⟨rfl,rfl⟩ (by kernel_rfl) rfl
  (fun f fn hf hfn=>by
   obtain rfl:f=5:=Option.some.inj ((show Tryd.prog.funcNamed "pandect/pandectlaw11.ExpandDeclares" =some 5 by kernel_rfl).symm.trans hf) |>.symm;obtain rfl:fn=Tryd.f5:=(Option.some.inj (Tryd.func5.symm.trans hfn)).symm;exact ⟨by kernel_rfl,fun j t ht=>by
    rw[Tryd.params5] at ht;have hm:t∈ [26,9,47]:=by simpa using Array.mem_of_getElem? ht
    have hall: ([26,9,47].all fun u=> !Tryd.prog.wantsStandIn u)=true:=by kernel_rfl
    exact (show Tryd.prog.wantsStandIn t=false by simpa using List.all_eq_true.1 hall t hm)⟩)
  (by kernel_rfl)
end
end Go.Proofs.YtmeiijjpomcgcaaDoor.expandDeclares
