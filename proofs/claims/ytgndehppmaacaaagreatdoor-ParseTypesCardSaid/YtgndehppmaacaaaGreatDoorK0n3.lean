/- What the proofs of ParseTypes want, part 3. -/
import Derived.Deep.DeepHandedRow
import Derived.Lib.SmallJoins
import Derived.Shelf.Strings.Search3
import Derived.Shelf.Strconv.AtoiAll
import Derived.Shelf.Strconv.Itoa3
import Derived.Shelf.Strings.Trim
import Derived.Shelf.Small.Strs
import Derived.Shelf.Small.Wraps
import Derived.MakeChecks
import Derived.Shelf.Unicode.ValidAny
import Derived.Lib.LaidU8T
import Derived.Test.YtgndehppmaacaaaGreatDoorK0n1
set_option linter.unusedVariables false
set_option linter.unusedSimpArgs false
set_option linter.unusedSectionVars false
set_option maxRecDepth 100000
set_option maxHeartbeats 16000000
namespace Go.Proofs.YtgndehppmaacaaaGreatDoor
section
open Go.RowKit Tms
open Shp (Sh)
def TmsAt (w:World) (B:Nat) (P:Option Addr) (l:List Tm):Prop:=
 l.length=0\/ ∃(g off:Nat) (qs:Nat->TP),P=some ⟨g,off,none⟩/\g < B/\(∀i (h:i < l.length),Tm9 w g (off+i * 9) (l[i]'h) (qs i))/\ ∀i (h:i < l.length),TmAt w B (qs i) (l[i]'h)
theorem TmsAt.of {w w':World} {B B':Nat} {P:Option Addr} {l:List Tm} (h:TmsAt w B P l) (b:B<=B') (c: ∀g k,g < B->w'.cell? ⟨g,k,none⟩=w.cell? ⟨g,k,none⟩):TmsAt w' B' P l:=by
 rcases h with h | ⟨g,off,rs,d,a,e,f⟩
 {exact Or.inl h}
 {exact Or.inr ⟨g,off,rs,d,Nat.lt_of_lt_of_le a b,fun i hi=>(e i hi).of (fun k=>c g k a),fun i hi=>(f i hi).of b c⟩}
theorem TmsAt.next {w w':World} {P:Option Addr} {l:List Tm} (h:TmsAt w w.heap.size P l) (a:Below w.heap.size w w'):TmsAt w' w'.heap.size P l:=h.of a.size (fun g k hg=>a.cell (p:=⟨g,k,none⟩) hg)
theorem Zg4 {H:Type} {enc:TypeId×Value->H} {C:Checked} {os:Os} {f:FuncId} {k:Func} {s:OpenSpec} {b:List PathCond} {a:Bool} {c:List (String×DataW Unit)} (modest:Bool) (g:World) (args:Array Value) (h:g.os=os)
 (j: (g.forCall (fun _ _=>0) ⟨#[],args,[]⟩).Shaped C.prog)
 (d:Input.okWideB C.prog (g.forCall (fun _ _=>0) ⟨#[],args,[]⟩) f ⟨#[],args,[]⟩=true)
 (e:s.preRow enc C.prog k b a c (g.forCall (fun _ _=>0) ⟨#[],args,[]⟩).memory args):
 ∃(w:World) (tape:Tape) (i:Input),w.os=os/\(w.forCall tape i).Shaped C.prog/\i.vars= []/\Input.okWide C.prog (w.forCall tape i) .any w.heap.size f i/\
  s.preRow enc C.prog k b a c (w.forCall tape i).memory i.args/\({ modest:=modest }:Assume).holds C.prog (lone (Frame.enter C.prog f i.args .normal) [] (w.forCall tape i)):=
 ⟨g,fun _ _=>0,⟨#[],args,[]⟩,h,j,(Input.okWide_of_okWideB (base:=0) d).1,(Input.okWide_of_okWideB d).2,e,by
  simp only[Assume.holds];exact ⟨by simp,by simp,fun _=>Modest.zero,by simp,by simp⟩⟩
end
section
open Go.RowKit
structure Tk where
 t:Lex.Tok
 at_:Int
deriving DecidableEq
def TkAt (w:World) (g o:Nat) (b:Tk):Prop:=
 w.cell? ⟨g,o,none⟩=some (.int .i64 b.t.kind)/\w.cell? ⟨g,o+1,none⟩=some (.string ⟨b.t.text.toArray⟩)/\w.cell? ⟨g,o+2,none⟩=some (.int .i64 b.at_)
theorem TkAt.keep {w w':World} {g o B:Nat} {b:Tk} (h:TkAt w g o b) (c:g < B) (a:Below B w w'):TkAt w' g o b:=by
 obtain ⟨d,e,f⟩:=h;exact ⟨(a.cell (p:=⟨g,o,none⟩) c).trans d,(a.cell (p:=⟨g,o+1,none⟩) c).trans e,(a.cell (p:=⟨g,o+2,none⟩) c).trans f⟩
def Tks (w:World) (B:Nat) (A:Option Addr) (l:List Tk):Prop:=
 l.length=0\/ ∃g off,A=some ⟨g,off,none⟩/\g < B/\ ∀i (h:i < l.length),TkAt w g (off+i * 3) (l[i]'h)
theorem Tks.keep {w w':World} {B B':Nat} {A:Option Addr} {l:List Tk} (h:Tks w B A l) (d:Below B' w w') (c:B<=B'):Tks w' B A l:=by
 rcases h with h | ⟨g,off,b,a,e⟩
 {exact Or.inl h}
 {exact Or.inr ⟨g,off,b,a,fun i hi=>(e i hi).keep (Nat.lt_of_lt_of_le a c) d⟩}
theorem Tks.more {w:World} {B B':Nat} {A:Option Addr} {l:List Tk} (h:Tks w B A l) (c:B<=B'):Tks w B' A l:=by
 rcases h with h | ⟨g,off,b,a,d⟩
 {exact Or.inl h}
 {exact Or.inr ⟨g,off,b,Nat.lt_of_lt_of_le a c,d⟩}
theorem Tks.next {w w':World} {A:Option Addr} {l:List Tk} (h:Tks w w.heap.size A l) (a:Below w.heap.size w w'):Tks w' w'.heap.size A l:=
 (h.keep a (Nat.le_refl _)).more a.size
theorem Zh8 (b off k:Nat): (⟨b,off,none⟩:Addr).add k=⟨b,off+k,none⟩:=by unfold Addr.add; split <;> simp_all
section
variable {H : Type} {enc : TypeId × Value -> H} {W : World} {base fuel : Nat} {spare : Nat -> Bool} {held : Bool} {cs : List Value} {x : DataW H × List MemPlace}
theorem Zml (h:DataW.trod enc Tryz.prog W base spare held fuel 46 cs=some x):
 ∃v:Tk,cs= [.int .i64 v.t.kind,.string ⟨v.t.text.toArray⟩,.int .i64 v.at_]/\v.t.text.length<=9223372036854775807:=by
 obtain ⟨q,n,_,_,a,j,i⟩:=DataW.trod_struct Tryz.underlying46 h;have p:Tryz.prog.cellsOf 46=3:=by kernel_rfl
 have c1:Tryz.prog.cellsOf 3=1:=by kernel_rfl
 have o:Tryz.prog.cellsOf 9=1:=by kernel_rfl
 rw[p] at a
 match cs,a with
 | [a0,a1,a2],_=>
  have e:=i 0 _ rfl;have f:=i 1 _ rfl;have g:=i 2 _ rfl;have r:q.length=3:=j;change DataW.trod enc _ W base spare held n 3 (([a0,a1,a2].drop 0).take (Tryz.prog.cellsOf 3))=_ at e;change DataW.trod enc _ W base spare held n 9 (([a0,a1,a2].drop 1).take (Tryz.prog.cellsOf 9))=_ at f;change DataW.trod enc _ W base spare held n 3 (([a0,a1,a2].drop 2).take (Tryz.prog.cellsOf 3))=_ at g;rw[c1,List.getElem?_eq_getElem (by omega)] at e g;rw[o,List.getElem?_eq_getElem (by omega)] at f;obtain ⟨k,hb0,_,_⟩:=DataW.trod_int Tryz.underlying3 e;obtain ⟨l,b,_,d⟩:=DataW.trod_string Tryz.underlying9 f;obtain ⟨m,c,_,_⟩:=DataW.trod_int Tryz.underlying3 g;simp at hb0 b c;subst hb0 b c;exact ⟨⟨⟨k,l.data.toList⟩,m⟩,rfl,by unfold maxLen at d; exact d⟩
theorem ZnO (h:DataW.trod enc Tryz.prog W base (fun _=>true) held fuel 22 cs=some x):
 ∃(A:Option Addr) (l:List Tk) (c:Nat),cs= [.slice A l.length c]/\Tks W W.heap.size A l/\l.length<=9223372036854775807/\l.length<=c/\ ∀b∈l,b.t.text.length<=9223372036854775807:=by
 rcases Go.Deep.open_slice Tryz.underlying22 h with ⟨j,_⟩ | ⟨a,e,cap,m,n,D,Pl,j,t,N,O,C,Q,y⟩
 {exact ⟨none,[],0,j,Or.inl rfl,Nat.zero_le _,Nat.zero_le _,fun b t=>by cases t⟩}
 {have K:Tryz.prog.cellsOf 46=3:=by kernel_rfl
  unfold maxLen at O;have z:m=cap:=by simpa using C
  subst z;have F: ∀i,∃u:Tk,i < m->W.cell? (a.add (i * 3+0))=some (.int .i64 u.t.kind)/\W.cell? (a.add (i * 3+1))=some (.string ⟨u.t.text.toArray⟩)/\W.cell? (a.add (i * 3+2))=some (.int .i64 u.at_)/\u.t.text.length<=9223372036854775807:=by
   intro i;by_cases r:i < m
   {obtain ⟨G,E,P⟩:=y i r;rw[K] at E;obtain ⟨b,rfl,B⟩:=Zml P;obtain ⟨_,L,g⟩:=World.cells?_some E;refine ⟨b,fun _=>⟨?_, ?_, ?_,B⟩⟩
    {rw[<-Go.Deep.add_add]; exact g 0 (by omega)}
    {rw[<-Go.Deep.add_add]; exact g 1 (by omega)}
    {rw[<-Go.Deep.add_add]; exact g 2 (by omega)}}
   {exact ⟨⟨⟨0,[]⟩,0⟩,fun h=>absurd h r⟩}
  let f:=fun i=>(F i).choose
  have o: ∀i,i < m->W.cell? (a.add (i * 3+0))=some (.int .i64 (f i).t.kind)/\W.cell? (a.add (i * 3+1))=some (.string ⟨(f i).t.text.toArray⟩)/\W.cell? (a.add (i * 3+2))=some (.int .i64 (f i).at_)/\(f i).t.text.length<=9223372036854775807:=fun i=>(F i).choose_spec;have p: ((List.range e).map f).length=e:=by simp
  refine ⟨some a,(List.range e).map f,m,by rw[p]; exact j, ?_,by rw[p]; omega,by rw[p]; exact N,fun b t=>by
   obtain ⟨i,y,rfl⟩:=List.mem_map.1 t;exact (o i (by have:=List.mem_range.1 y; omega)).2.2.2⟩
  by_cases J:e=0
  {exact Or.inl (by simp[J])}
  {obtain ⟨b,off,s⟩:=a;have w:=(o 0 (by omega)).1;have q:s=none:=by simpa[Addr.add] using World.cell?_spot w
   subst q;have d: ∀k,(⟨b,off,none⟩:Addr).add k=⟨b,off+k,none⟩:=fun k=>Zh8 b off k;refine Or.inr ⟨b,off,rfl, ?_,fun i hi'=> ?_⟩
   {rw[d] at w;rcases Nat.lt_or_ge b W.heap.size with v | v
    {exact v}
    {simp[World.cell?,Array.getElem?_eq_none v] at w}}
   {have M:i < e:=by simpa using hi'
    obtain ⟨I,g1,g2,_⟩:=o i (by omega);have:=And.intro I (And.intro g1 g2);simp only[d] at this;simp only[List.getElem_map,List.getElem_range];simpa[TkAt,Nat.add_assoc] using this}}}
end
theorem ZnP {H:Type} {enc:TypeId×Value->H} {W:World} {base:Nat} {e:Bool} {A:Option Addr} {n c:Nat} {d:DataW H} {p:List MemPlace}
 (h:DataW.Trod enc Tryz.prog W base (fun _=>true) e 22 (.slice A n c) d p):
 ∃l:List Tk,n=l.length/\Tks W W.heap.size A l/\l.length<=9223372036854775807/\l.length<=c/\ ∀b∈l,b.t.text.length<=9223372036854775807:=by
 obtain ⟨f,m⟩:=h;obtain ⟨o,l,q,a,g,i,j,k⟩:=ZnO m;simp[Value.cells] at a;obtain ⟨rfl,rfl,rfl⟩:=a;exact ⟨l,rfl,g,i,j,k⟩
def cellsT (l:List Tk):List Value:=l.flatMap fun b=> [.int .i64 b.t.kind,.string ⟨b.t.text.toArray⟩,.int .i64 b.at_]
theorem Zh9 (l:List Tk): (cellsT l).length=l.length * 3:=by
 induction l with
 | nil=>rfl
 | cons b r ih=>simp only[cellsT,List.flatMap_cons,List.length_append,List.length_cons,List.length_nil] at ih ⊢; omega
theorem Zf8 (l:List Tk) (b:Tk):cellsT (l++ [b])=cellsT l++ [.int .i64 b.t.kind,.string ⟨b.t.text.toArray⟩,.int .i64 b.at_]:=by simp[cellsT]
theorem Zg5: ∀(l:List Tk) (i:Nat) (h:i < l.length),(cellsT l)[i * 3]? =some (.int .i64 (l[i]'h).t.kind)/\(cellsT l)[i * 3+1]? =some (.string ⟨(l[i]'h).t.text.toArray⟩)/\(cellsT l)[i * 3+2]? =some (.int .i64 (l[i]'h).at_)
 | [],i,h=>by simp at h
 | b::r,0,_=>⟨rfl,rfl,rfl⟩
 | b::r,i+1,h=>by
  have c:=Zg5 r i (by simpa using h);have e: ∀k,(cellsT (b::r))[(i+1) * 3+k]? =(cellsT r)[i * 3+k]? :=fun k=>by
   rw[show (i+1) * 3+k=i * 3+k+3 from by omega];simp[cellsT]
  have a:=e 0;simp only[Nat.add_zero] at a;rw[a,e 1,e 2];exact c
theorem ZfC {w:World} {B:Nat} {v:Value} {l:List Tk} (h:w.ownsRow B 46 3 v l.length (cellsT l)): ∃A cap,v= .slice A l.length cap/\l.length<=cap/\Tks w w.heap.size A l:=by
 rcases h.2 with ⟨rfl,a⟩ | ⟨g,cap,c,rfl,d,e,hc,_⟩
 {exact ⟨none,0,by rw[a],by omega,Or.inl a⟩}
 {refine ⟨_,_,rfl,hc,Or.inr ⟨g,0,rfl,(h.lt g rfl).2,fun i hi=> ?_⟩⟩;obtain ⟨b,c1,c2⟩:=Zg5 l i hi;rw[Nat.zero_add];exact ⟨(h.cellAt _ (by omega)).trans b,(h.cellAt _ (by omega)).trans c1,(h.cellAt _ (by omega)).trans c2⟩}
theorem Zlc (W:World) (a b:Int) (s:ByteArray) (g:Nat) (c:g=W.heap.size): ∀j u,([.int .i64 a,.string s,.int .i64 b]:List Value)[j]? =some u->
 (W.alloc (.cells #[.int .i64 a,.string s,.int .i64 b] 46)).cell? ((⟨g,0,none⟩:Addr).add j)=some u:=by
 subst c;exact World.news_of_block (heap_alloc_new W _)
theorem one3 {a b:Int} {s:ByteArray}: ∀u∈([.int .i64 a,.string s,.int .i64 b]:List Value),u.oneCell'=true:=by
 intro u c;simp at c;rcases c with rfl | rfl | rfl <;> rfl
theorem Zec {w:World} {B B':Nat} {e:TypeId} {size:Nat} {v:Value} {n:Nat} {c:List Value} (h:w.ownsRow B e size v n c) (f:B'<=B):w.ownsRow B' e size v n c:=by
 obtain ⟨d,b⟩:=h;refine ⟨d, ?_⟩;rcases b with b | ⟨g,cap,a,i,j,r⟩
 {exact Or.inl b}
 {exact Or.inr ⟨g,cap,a,i,Nat.le_trans f j,r⟩}
theorem Z0K {w w':World} {B:Nat} {e:TypeId} {size:Nat} {v:Value} {n:Nat} {a:List Value} (h:w.ownsRow B e size v n a) (b:Below w.heap.size w w'):w'.ownsRow B e size v n a:=
 h.kept (Z36 b (Nat.le_refl _) none) (by
  rcases c:v.ownBlock with _ | x
  {exact Or.inl rfl}
  · exact Or.inr (by simp))
end
section
open Go.RowKit
section
variable {H : Type} {enc : TypeId × Value -> H} {W : World} {base : Nat} {held : Bool}
theorem Zmm {A:Option Addr} {n c:Nat} {d:DataW H} {p:List MemPlace}
 (h:DataW.Trod enc Tryz.prog W base (fun _=>true) held 22 (.slice A n c) d p):
 ∃l:List Tk,n=l.length/\Tks W W.heap.size A l/\l.length<=9223372036854775807/\l.length<=c/\(∀b∈l,b.t.text.length<=9223372036854775807)/\(A=none->c=0):=by
 obtain ⟨l,i,j,k,o,q⟩:=ZnP h;refine ⟨l,i,j,k,o,q,fun e=> ?_⟩;obtain ⟨g,r⟩:=h;rcases Go.Deep.open_slice Tryz.underlying22 r with ⟨f,_⟩ | ⟨a,s,cap,m,t,D,Pl,f,_⟩
 {simp[Value.cells] at f;exact f.2.2}
 {simp[Value.cells] at f;rw[e] at f;exact absurd f.1 nofun}
end
theorem ZjX (l:List Tk): ∀u∈cellsT l,u.oneCell'=true:=by
 intro u a;unfold cellsT at a;obtain ⟨x,_,b⟩:=List.mem_flatMap.1 a;simp only[List.mem_cons,List.not_mem_nil,or_false] at b;rcases b with rfl | rfl | rfl <;> rfl
theorem ZnQ: (Tryz.prog.info? 46).map (fun i=>(i.zero,i.size,i.bytes))=some (some (.agg #[.int .i64 0,.string ByteArray.empty,.int .i64 0]),3,32):=by kernel_rfl
theorem Zmn {w:World} {B:Nat} {A:Option Addr} {l:List Tk} (h:Tks w B A l): ∀b,A=some b-> ∀j u,(cellsT l)[j]? =some u->w.cell? (b.add j)=some u:=by
 intro b e j u a;have r:j < l.length * 3:=by
  have:=(List.getElem?_eq_some_iff.1 a).1
  rwa [Zh9] at this
 rcases h with p | ⟨g,off,rfl,q,n⟩
 {omega}
 {cases e;have c:j / 3 < l.length:=by omega
  obtain ⟨d,c1,c2⟩:=Zg5 l (j / 3) c;obtain ⟨f,i,k⟩:=n (j / 3) c;rw[Zh8];have o:j=j / 3 * 3+0\/j=j / 3 * 3+1\/j=j / 3 * 3+2:=by omega
  rcases o with e | e | e
  {rw[e] at a ⊢;have m:=a.symm.trans d;rw[Option.some.inj m];simpa using f}
  {rw[e] at a ⊢;rw[Option.some.inj (a.symm.trans c1), <-Nat.add_assoc]; exact i}
  {rw[e] at a ⊢;rw[Option.some.inj (a.symm.trans c2), <-Nat.add_assoc]; exact k}}
end
end Go.Proofs.YtgndehppmaacaaaGreatDoor
namespace Go.Proofs.YtgndehppmaacaaaGreatDoor
open Go.RowKit Tms
open Shp (Sh)
def SameT (W W':World) (b:Nat):Prop:=(∀k,W'.cell? ⟨b,k,none⟩=W.cell? ⟨b,k,none⟩)/\ ∀k,W'.frozen? ⟨b,k,none⟩=W.frozen? ⟨b,k,none⟩
theorem ZdC (W:World) (a:Addr) (u:Value) {b:Nat} (h:a.block≠b):SameT W (W.setCell a u) b:=
 ⟨fun k=>World.cell?_setCell_other _ _ _ _ (fun e=>h (congrArg Addr.block e)),fun k=>World.frozen?_setCell ..⟩
theorem SameT.trans {a b c:World} {x:Nat} (h:SameT a b x) (k:SameT b c x):SameT a c x:=⟨fun j=>(k.1 j).trans (h.1 j),fun j=>(k.2 j).trans (h.2 j)⟩
theorem Zdt {W:World} {B:Nat} {e:TypeId} {size:Nat} {v:Value} {n:Nat} {c:List Value} (h:W.ownsRow B e size v n c) {a:Addr} (b:v.ownBlock≠some a.block) (u:Value): (W.setCell a u).ownsRow B e size v n c:=
 h.kept (row:=some a.block) ⟨rfl,rfl,rfl,by simp[World.setCell],fun k hk hn=>Below.heap_setCell _ _ _ _ (fun e=>hn (by rw[e]))⟩ (Or.inr b)
structure UpT (F:List Nat) (w w':World):Prop where
 os:w'.os=w.os
 tape:w'.tape=w.tape
 output:w'.output=w.output
 size:w.heap.size<=w'.heap.size
 block: ∀k,k < w.heap.size->k∉F->w'.heap[k]? =w.heap[k]?
theorem UpT.refl (F:List Nat) (w:World):UpT F w w:=⟨rfl,rfl,rfl,Nat.le_refl _,fun _ _ _=>rfl⟩
theorem UpT.below {F:List Nat} {a b c:World} (h:UpT F a b) (k:Below b.heap.size b c):UpT F a c:=
 ⟨k.os.trans h.os,k.tape.trans h.tape,k.output.trans h.output,Nat.le_trans h.size k.size,fun x h1 h2=>(k.block x (Nat.lt_of_lt_of_le h1 h.size)).trans (h.block x h1 h2)⟩
theorem UpT.same {F:List Nat} {w w':World} (h:UpT F w w') {b:Nat} (a:b < w.heap.size) (c:b∉F):SameT w w' b:=
 ⟨fun k=>World.cell?_of_block (w:=w) (h.block b a c),fun k=>World.frozen?_of_block (w:=w) (h.block b a c)⟩
def rowT (A:Option Addr):Option Nat:=A.map (·.block)
theorem ZcQ (A:Option Addr) (n c:Nat):Value.ownBlock (.slice A n c)=rowT A:=by cases A <;> rfl
section
variable {W : World} {A : Option Addr} {m c B e s : Nat} {xs : List Value} (h : W.ownsRow B e s (.slice A m c) m xs)
include W A m c B e s xs h
theorem Ze3: ∀b,rowT A=some b->B<=b/\b < W.heap.size:=fun b hb=>h.lt b (by rw[ZcQ]; exact hb)
theorem ZgK: (A=none/\m=0/\c=0)\/ ∃g,A=some ⟨g,0,none⟩/\m<=c:=by
 rcases h.2 with ⟨a,b⟩ | ⟨g,cap,d,a,_,_,b,_⟩
 {simp only[Value.slice.injEq] at a; exact Or.inl ⟨a.1,b,a.2.2⟩}
 {simp only[Value.slice.injEq] at a;obtain ⟨h3,_,rfl⟩:=a;exact Or.inr ⟨g,h3,b⟩}
end
inductive TOwn (W:World) (B0:Nat) (F:Nat->Prop):TP->Tm->Prop
 | mk (q:TP) (t:Tm) (g:Nat) (qs:Nat->TP) (hs:TSmall t q) (hn:Strs W B0 q.A (strs t.names)) (hv:Strs W B0 q.V (strs t.vars)) (hS:ShsAt W B0 q.S t.shapes) (hp:t.parts.length=0\/q.P=some ⟨g,0,none⟩/\F g/\g < W.heap.size)
  (hc: ∀i (h:i < t.parts.length),Tm9 W g (i * 9) (t.parts[i]'h) (qs i)) (hr: ∀i (h:i < t.parts.length),TOwn W B0 F (qs i) (t.parts[i]'h)):TOwn W B0 F q t
theorem TOwn.of {W W':World} {c:Nat} {F f:Nat->Prop} {q:TP} {t:Tm} (h:TOwn W c F q t) (d: ∀b k,b < c->W'.cell? ⟨b,k,none⟩=W.cell? ⟨b,k,none⟩)
 (l: ∀b,F b->b < W.heap.size->f b/\ ∀k,W'.cell? ⟨b,k,none⟩=W.cell? ⟨b,k,none⟩) (n:W.heap.size<=W'.heap.size):TOwn W' c f q t:=by
 induction h with
 | mk q t g qs hs hn hv hS hp hc hr ih=>
  refine .mk q t g qs hs (Zdz hn (Nat.le_refl _) d) (Zdz hv (Nat.le_refl _) d) (hS.of (Nat.le_refl _) d) ?_ ?_ ih
  {rcases hp with h | ⟨j,e,a⟩
   {exact Or.inl h}
   {exact Or.inr ⟨j,(l g e a).1,Nat.lt_of_lt_of_le a n⟩}}
  {intro i m;rcases hp with h | ⟨j,e,a⟩
   {omega}
   {exact (hc i m).of (l g e a).2}}
theorem TOwn.at_ {W:World} {b:Nat} {F:Nat->Prop} {q:TP} {t:Tm} (h:TOwn W b F q t) (a:b<=W.heap.size):TmAt W W.heap.size q t:=by
 induction h with
 | mk q t g qs hs hn hv hS hp hc hr ih=>
  refine .mk q t g 0 qs hs (Zdz hn a (fun _ _ _=>rfl)) (Zdz hv a (fun _ _ _=>rfl)) (hS.of a (fun _ _ _=>rfl)) ?_ ?_ ih
  {rcases hp with h | ⟨c,_,d⟩
   {exact Or.inl h}
   {exact Or.inr ⟨c,d⟩}}
  {intro i e; rw[Nat.zero_add]; exact hc i e}
theorem TOwn.low {W W':World} {a:Nat} {F d:Nat->Prop} {q:TP} {t:Tm} (h:TOwn W a F q t) (c:Below W.heap.size W W') (e:a<=W.heap.size) (f: ∀b,F b->b < W.heap.size->d b):TOwn W' a d q t:=
 h.of (fun b k hk=>c.cell (p:=⟨b,k,none⟩) (Nat.lt_of_lt_of_le hk e)) (fun b h1 h2=>⟨f b h1 h2,fun k=>c.cell (p:=⟨b,k,none⟩) h2⟩) c.size
structure Et where
 t:Tm
 q:TP
def ZeC (x:Et):List Value:= [.int .i64 x.t.kind,.string ⟨x.t.of_.toArray⟩,.string ⟨x.t.name.toArray⟩,.int .i64 x.t.n,.slice x.q.A x.t.names.length x.q.c,.slice x.q.V x.t.vars.length x.q.e,.slice x.q.S x.t.shapes.length x.q.s,.slice x.q.P x.t.parts.length x.q.d,.int .i64 x.t.at_]
def cellsTm (l:List Et):List Value:=l.flatMap ZeC
structure OutT (W1 W:World) (ob B0:Nat) (s:Tm) (q:TP) (a:Int) (l:List Et) (AP:Option Addr) (cP:Nat):Prop where
 up:UpT [ob] W1 W
 lt:ob < W1.heap.size
 bo:B0<=ob
 c0:W.cell? ⟨ob,0,none⟩=some (.int .i64 s.kind)
 c1:W.cell? ⟨ob,1,none⟩=some (.string ⟨s.of_.toArray⟩)
 c2:W.cell? ⟨ob,2,none⟩=some (.string ⟨s.name.toArray⟩)
 c3:W.cell? ⟨ob,3,none⟩=some (.int .i64 s.n)
 c4:W.cell? ⟨ob,4,none⟩=some (.slice q.A s.names.length q.c)
 c5:W.cell? ⟨ob,5,none⟩=some (.slice q.V s.vars.length q.e)
 c6:W.cell? ⟨ob,6,none⟩=some (.slice q.S s.shapes.length q.s)
 c7:W.cell? ⟨ob,7,none⟩=some (.slice AP l.length cP)
 c8:W.cell? ⟨ob,8,none⟩=some (.int .i64 a)
 fz: ∀j,W.frozen? ⟨ob,j,none⟩=false
 rP:W.ownsRow W1.heap.size 40 9 (.slice AP l.length cP) l.length (cellsTm l)
 own: ∀x∈l,TOwn W B0 (fun b=>W1.heap.size<=b/\rowT AP≠some b) x.q x.t
section
variable {W1 W : World} {ob B0 : Nat} {s : Tm} {q : TP} {a : Int} {l : List Et} {AP : Option Addr} {cP : Nat}
theorem OutT.below {W':World} (h:OutT W1 W ob B0 s q a l AP cP) (c:Below W.heap.size W W'):OutT W1 W' ob B0 s q a l AP cP:=by
 have d:=Nat.lt_of_lt_of_le h.lt h.up.size;have f:=h.bo;have e: ∀j,W'.cell? ⟨ob,j,none⟩=W.cell? ⟨ob,j,none⟩:=fun j=>c.cell (p:=⟨ob,j,none⟩) d;have g:W.grownBy W' none:=⟨c.os,c.tape,c.output,c.size,fun j hj _=>c.block j hj⟩;refine ⟨h.up.below c,h.lt,h.bo,(e 0).trans h.c0,(e 1).trans h.c1,(e 2).trans h.c2,(e 3).trans h.c3,(e 4).trans h.c4,(e 5).trans h.c5,(e 6).trans h.c6,(e 7).trans h.c7,(e 8).trans h.c8,fun j=>(c.frozen (p:=⟨ob,j,none⟩) d).trans (h.fz j),h.rP.kept g ?_,fun x hx=>(h.own x hx).low c (by omega) (fun b h1 _=>h1)⟩;cases i:Value.ownBlock (.slice AP l.length cP) with
 | none=>exact Or.inl rfl
 | some b=>exact Or.inr nofun
theorem OutT.putP {f:World} {d:List Et} {g cap:Nat} (h:OutT W1 W ob B0 s q a l AP cP) (o:W.grownBy f (rowT AP)) (r:f.ownsRow W1.heap.size 40 9 (.slice (some ⟨g,0,none⟩) d.length cap) d.length (cellsTm d))
 (m:rowT AP=some g\/W.heap.size<=g) (C: ∀x∈d,TOwn W B0 (fun b=>W1.heap.size<=b/\rowT AP≠some b) x.q x.t):
 OutT W1 (f.setCell ⟨ob,7,none⟩ (.slice (some ⟨g,0,none⟩) d.length cap)) ob B0 s q a d (some ⟨g,0,none⟩) cap:=by
 have y:=Nat.lt_of_lt_of_le h.lt h.up.size;have p:=h.bo;have D:=h.lt;have t:g≠ob:=by
  rcases m with n | n
  {have:=(Ze3 h.rP g n).1; omega}
  {omega}
 have u:some ob≠rowT AP:=fun e=>by have:=(Ze3 h.rP ob e.symm).1; omega
 have z: ∀b,b < W.heap.size->rowT AP≠some b->SameT W f b:=fun b hb hn=>⟨fun j=>World.cell?_of_block (w:=W) (o.block b hb (fun e=>hn e.symm)),fun j=>World.frozen?_of_block (w:=W) (o.block b hb (fun e=>hn e.symm))⟩;have v:=z ob y (fun e=>u e.symm);have c: ∀j,j≠7->(f.setCell ⟨ob,7,none⟩ (.slice (some ⟨g,0,none⟩) d.length cap)).cell? ⟨ob,j,none⟩=W.cell? ⟨ob,j,none⟩:=fun j hj=>(World.cell?_setCell_other _ _ _ _ (fun e=>by have:=congrArg Addr.off e; simp at this; omega)).trans (v.1 j);have E: (f.setCell ⟨ob,7,none⟩ (.slice (some ⟨g,0,none⟩) d.length cap)).heap.size=f.heap.size:=by simp[World.setCell]
 have B:=h.up.size;have F:=o.size;refine ⟨⟨o.os.trans h.up.os,o.tape.trans h.up.tape,o.output.trans h.up.output,by omega,fun b hb hm=> ?_⟩,h.lt,h.bo,(c 0 (by omega)).trans h.c0,(c 1 (by omega)).trans h.c1,(c 2 (by omega)).trans h.c2,(c 3 (by omega)).trans h.c3,(c 4 (by omega)).trans h.c4,(c 5 (by omega)).trans h.c5,(c 6 (by omega)).trans h.c6,World.cell?_setCell_same _ _ _ ((v.1 7).trans h.c7),(c 8 (by omega)).trans h.c8,fun j=> ?_, ?_,fun x hx=> ?_⟩
 {have p:b≠ob:=by simpa using hm
  rw[Below.heap_setCell _ _ _ _ p,o.block b (by omega) (fun e=>by have:=(Ze3 h.rP b e.symm).1; omega)];exact h.up.block b hb hm}
 {rw[World.frozen?_setCell]; exact (v.2 j).trans (h.fz j)}
 {exact Zdt r (a:=⟨ob,7,none⟩) (fun e=>t (Option.some.inj e)) _}
 {have i: ∀b k,b < W.heap.size->rowT AP≠some b->b≠ob->(f.setCell ⟨ob,7,none⟩ (.slice (some ⟨g,0,none⟩) d.length cap)).cell? ⟨b,k,none⟩=W.cell? ⟨b,k,none⟩:=fun b k n h2 h3=>((z b n h2).trans (ZdC _ _ _ (fun e=>h3 (by simpa using e.symm)))).1 k;refine (C x hx).of (fun b k hb=>i b k (by omega) (fun e=>by have:=(Ze3 h.rP b e).1; omega) (by omega)) (fun b hb hbl=>⟨⟨hb.1,fun e=> ?_⟩,fun k=>i b k hbl hb.2 (by have:=hb.1; omega)⟩) (by omega);have A:g=b:=Option.some.inj e;rcases m with n | n
  {exact hb.2 (A▸n)}
  {omega}}
end
end Go.Proofs.YtgndehppmaacaaaGreatDoor
namespace Prs
section
open Go.Proofs.YtgndehppmaacaaaGreatDoor (Tk)
open Shp (Sh)
open Tms (Tm)
abbrev Flt:=Int×Int
abbrev R (α:Type):=Except Flt (α×Nat)
def look (l:List Tk) (i:Nat):Tk:=match l[i]? with
 | some t=>t
 | none=>match l.getLast? with
  | some t=>⟨⟨0,[]⟩,t.at_⟩
  | none=>⟨⟨0,[]⟩,0⟩
def sign (l:List Tk) (i:Nat) (s:List UInt8):Bool:=(look l i).t.text==s&&(decide ((look l i).t.kind=6)||decide ((look l i).t.kind=5))
def no (l:List Tk) (i:Nat):Flt:=(90,(look l i).at_)
def need (l:List Tk) (i:Nat) (s:List UInt8):Except Flt Nat:=if sign l i s then .ok (i+1) else .error (no l i)
def kind (l:List Tk) (i:Nat) (k:Int):R (List UInt8):=if (look l i).t.kind=k then .ok ((look l i).t.text,i+1) else .error (no l i)
def fresh (l:List Tk) (i:Nat) (others:List (List UInt8)):R (List UInt8):=
 if (look l i).t.kind=1 then (if others.contains (look l i).t.text then .error (111,(look l i).at_) else .ok ((look l i).t.text,i+1)) else .error (no l i)
def upper (o n:List UInt8):Sh:=
 if o= []/\n= [73,110,116] then ⟨1,[],[],[],[]⟩ else if o= []/\n= [66,111,111,108] then ⟨2,[],[],[],[]⟩
 else if o= []/\n= [84,101,120,116] then ⟨3,[],[],[],[]⟩ else if o= []/\n= [65,110,121] then ⟨4,[],[],[],[]⟩ else ⟨9,o,n,[],[]⟩
def andThen {α β:Type} (x:Except Flt α) (f:α->Except Flt β):Except Flt β:=match x with
 | .ok a=>f a
 | .error e=> .error e
mutual
def shp:Nat->List Tk->Nat->R Sh
 | 0,l,i=> .error (no l i)
 | n+1,l,i=>
  if (look l i).t.kind=2 then .ok (upper [] (look l i).t.text,i+1)
  else if (look l i).t.kind=1 then andThen (need l (i+1) [47]) fun j=>andThen (kind l j 2) fun s=> .ok (upper (look l i).t.text s.1,s.2)
  else if sign l i [91] then andThen (shp n l (i+1)) fun s=>andThen (need l s.2 [93]) fun j=> .ok (⟨5,[],[],[],[s.1]⟩,j)
  else if sign l i [123] then (if sign l (i+1) [125] then .ok (⟨6,[],[],[],[]⟩,i+2) else fields n l (i+1) 6 [44] [125] [] [])
  else if sign l i [60] then (if sign l (i+1) [62] then .ok (⟨7,[],[],[],[]⟩,i+2) else fields n l (i+1) 7 [124] [62] [] [])
  else if sign l i [40] then (if sign l (i+1) [41] then arrow n l (i+2) [] else from_ n l (i+1) [])
  else .error (no l i)
def fields:Nat->List Tk->Nat->Int->List UInt8->List UInt8->List (List UInt8)->List Sh->R Sh
 | 0,l,i,_,_,_,_,_=> .error (no l i)
 | n+1,l,i,k,b,e,ns,ps=>
  andThen (fresh l i ns) fun x=>andThen (need l x.2 [58]) fun j=>andThen (shp n l j) fun s=>
   if sign l s.2 e then .ok (⟨k,[],[],ns++ [x.1],ps++ [s.1]⟩,s.2+1)
   else andThen (need l s.2 b) fun j=>fields n l j k b e (ns++ [x.1]) (ps++ [s.1])
def from_:Nat->List Tk->Nat->List Sh->R Sh
 | 0,l,i,_=> .error (no l i)
 | n+1,l,i,ps=>
  andThen (shp n l i) fun s=>
   if sign l s.2 [41] then arrow n l (s.2+1) (ps++ [s.1])
   else andThen (need l s.2 [44]) fun j=>from_ n l j (ps++ [s.1])
def arrow:Nat->List Tk->Nat->List Sh->R Sh
 | 0,l,i,_=> .error (no l i)
 | n+1,l,i,ps=>andThen (need l i [45,62]) fun j=>andThen (shp n l j) fun s=> .ok (⟨8,[],[],[],ps++ [s.1]⟩,s.2)
end
def whole (l:List Tk) (i:Nat):R Sh:=andThen (shp (2 * l.length+4) l i) fun s=>if Shp.check s.1=0 then .ok s else .error (Shp.check s.1,(look l i).at_)
def opened (l:List Tk) (at_:Int):Except Flt Nat:=if at_ < 0\/(l.length:Int) < at_ then .error (2,0) else if 4097 < l.length then .error (3,0) else .ok at_.toNat
def type (l:List Tk) (at_:Int):R Sh:=andThen (opened l at_) fun i=>whole l i
def tm (k a:Int):Tm:=⟨k,[],[],0,[],[],[],[],a⟩
def typed (l:List Tk) (i:Nat) (t:Tm) (s:List UInt8):R Tm:=
 andThen (need l i s) fun j=>andThen (whole l j) fun x=> .ok ({ t with shapes:=t.shapes++ [x.1] },x.2)
def num:List UInt8->Int->Int
 | [],a=>a
 | c::r,a=>num r (10 * a+((c.toNat:Int) - 48))
mutual
def term:Nat->List Tk->Nat->R Tm
 | 0,l,i=> .error (no l i)
 | n+1,l,i=>
  let a:=(look l i).at_
  if sign l i [102,117,110] then andThen (need l (i+1) [40]) fun j=>if sign l j [41] then row n l (j+1) (tm 6 a) [[45,62]] else binds n l j (tm 6 a)
  else if sign l i [108,101,116] then andThen (kind l (i+1) 1) fun s=>row n l s.2 { tm 14 a with name:=s.1 } [[61],[105,110]]
  else if sign l i [105,102] then andThen (row n l i (tm 12 a) [[105,102],[116,104,101,110],[101,108,115,101]]) fun x=>typed l x.2 x.1 [97,115]
  else if sign l i [99,97,115,101] then andThen (row n l i (tm 13 a) [[99,97,115,101]]) fun x=>andThen (need l x.2 [111,102]) fun j=>andThen (need l j [123]) fun j=>
   andThen (if sign l j [125] then .ok (x.1,j+1) else ways n l j x.1) fun y=>typed l y.2 y.1 [97,115]
  else if sign l i [91] then andThen (if sign l (i+1) [93] then .ok (tm 11 a,i+2) else args n l (i+1) (tm 11 a) [93]) fun x=>typed l x.2 x.1 [111,102]
  else andThen (atom n l i) fun x=>post n l x.2 a x.1
def row:Nat->List Tk->Nat->Tm->List (List UInt8)->R Tm
 | 0,l,i,_,_=> .error (no l i)
 | n+1,l,i,t,[]=> .ok (t,i)
 | n+1,l,i,t,w::ws=>andThen (need l i w) fun j=>andThen (term n l j) fun p=>row n l p.2 { t with parts:=t.parts++ [p.1] } ws
def args:Nat->List Tk->Nat->Tm->List UInt8->R Tm
 | 0,l,i,_,_=> .error (no l i)
 | n+1,l,i,t,e=>andThen (term n l i) fun p=>
  if sign l p.2 e then .ok ({ t with parts:=t.parts++ [p.1] },p.2+1) else andThen (need l p.2 [44]) fun j=>args n l j { t with parts:=t.parts++ [p.1] } e
def binds:Nat->List Tk->Nat->Tm->R Tm
 | 0,l,i,_=> .error (no l i)
 | n+1,l,i,t=>andThen (fresh l i t.names) fun s=>andThen (typed l s.2 { t with names:=t.names++ [s.1] } [58]) fun x=>
  if sign l x.2 [41] then row n l (x.2+1) x.1 [[45,62]] else andThen (need l x.2 [44]) fun j=>binds n l j x.1
def ways:Nat->List Tk->Nat->Tm->R Tm
 | 0,l,i,_=> .error (no l i)
 | n+1,l,i,t=>andThen (fresh l i t.names) fun s=>andThen (need l s.2 [40]) fun j=>andThen (kind l j 1) fun v=>
  andThen (typed l v.2 { t with names:=t.names++ [s.1],vars:=t.vars++ [v.1] } [58]) fun x=>andThen (need l x.2 [41]) fun j=>
  andThen (row n l j x.1 [[45,62]]) fun y=>if sign l y.2 [125] then .ok (y.1,y.2+1) else andThen (need l y.2 [124]) fun j=>ways n l j y.1
def post:Nat->List Tk->Nat->Int->Tm->R Tm
 | 0,l,i,_,_=> .error (no l i)
 | n+1,l,i,a,t=>
  if sign l i [40] then andThen (if sign l (i+1) [41] then .ok ({ tm 7 a with parts:= [t] },i+2) else args n l (i+1) { tm 7 a with parts:= [t] } [41]) fun x=>post n l x.2 a x.1
  else if sign l i [46] then andThen (kind l (i+1) 1) fun s=>post n l s.2 a { tm 9 a with name:=s.1,parts:= [t] }
  else .ok (t,i)
def atom:Nat->List Tk->Nat->R Tm
 | 0,l,i=> .error (no l i)
 | n+1,l,i=>
  let k:=look l i
  if k.t.kind=3 then .ok ({ tm 1 k.at_ with n:=num k.t.text 0 },i+1)
  else if k.t.kind=4 then .ok ({ tm 2 k.at_ with name:=k.t.text },i+1)
  else if k.t.kind=1 then (if sign l (i+1) [47] then andThen (kind l (i+2) 1) fun s=> .ok ({ tm 5 k.at_ with of_:=k.t.text,name:=s.1 },s.2) else .ok ({ tm 5 k.at_ with name:=k.t.text },i+1))
  else if sign l i [116,114,117,101] then .ok (tm 3 k.at_,i+1)
  else if sign l i [102,97,108,115,101] then .ok (tm 4 k.at_,i+1)
  else if sign l i [40] then andThen (term n l (i+1)) fun u=>
   if sign l u.2 [97,115] then andThen (typed l u.2 { tm 15 k.at_ with parts:= [u.1] } [97,115]) fun x=>andThen (need l x.2 [41]) fun j=> .ok (x.1,j)
   else andThen (need l u.2 [41]) fun j=> .ok (u.1,j)
  else if sign l i [123] then (if sign l (i+1) [125] then .ok (tm 8 k.at_,i+2) else rec_ n l (i+1) (tm 8 k.at_))
  else if sign l i [64] then named n l (i+1) (tm 10 k.at_) 1
  else if sign l i [110,101,119] then named n l (i+1) (tm 16 k.at_) 2
  else if sign l i [114,97,119] then named n l (i+1) (tm 17 k.at_) 2
  else .error (no l i)
def rec_:Nat->List Tk->Nat->Tm->R Tm
 | 0,l,i,_=> .error (no l i)
 | n+1,l,i,t=>andThen (fresh l i t.names) fun s=>andThen (row n l s.2 { t with names:=t.names++ [s.1] } [[61]]) fun x=>
  if sign l x.2 [125] then .ok (x.1,x.2+1) else andThen (need l x.2 [44]) fun j=>rec_ n l j x.1
def named:Nat->List Tk->Nat->Tm->Int->R Tm
 | 0,l,i,_,_=> .error (no l i)
 | n+1,l,i,t,k=>andThen (kind l i k) fun s=>andThen (row n l s.2 { t with name:=s.1 } [[40]]) fun x=>andThen (need l x.2 [41]) fun j=> .ok (x.1,j)
end
end
end Prs
namespace Pso
section
open Prs (look sign no Flt upper tm num)
open Go.Proofs.YtgndehppmaacaaaGreatDoor (Tk)
open Shp (Sh)
open Tms (Tm)
abbrev St:=Nat×Flt
def fail (l:List Tk) (σ:St) (e a:Int):St:=(l.length,if σ.2.1=0 then (e,a) else σ.2)
def misfit (l:List Tk) (σ:St):St:=fail l σ 90 (look l σ.1).at_
def want (l:List Tk) (σ:St) (s:List UInt8):St:=if sign l σ.1 s then (σ.1+1,σ.2) else misfit l σ
def textOf (l:List Tk) (σ:St) (k:Int) (ok:List UInt8->Bool):List UInt8×St:=
 if decide ((look l σ.1).t.kind=k)&&ok (look l σ.1).t.text then ((look l σ.1).t.text,(σ.1+1,σ.2)) else ([],misfit l σ)
def name (l:List Tk) (σ:St):List UInt8×St:=textOf l σ 1 Lex.isName
def upperN (l:List Tk) (σ:St):List UInt8×St:=textOf l σ 2 Lex.isUpper
def another (l:List Tk) (σ:St) (ns:List (List UInt8)):List (List UInt8)×St:=
 let x:=name l σ
 (ns++ [x.1],if ns.contains x.1 then fail l x.2 111 (look l σ.1).at_ else x.2)
section
variable {α : Type}
def loop (l:List Tk) (s:List UInt8) (read:St->α->St×α):Nat->St->α->St×α
 | 0,σ,a=>(σ,a)
 | n+1,σ,a=>if sign l σ.1 s then loop l s read n (read (σ.1+1,σ.2) a).1 (read (σ.1+1,σ.2) a).2 else (σ,a)
def betw (l:List Tk) (o s e:List UInt8) (read:St->α->St×α) (σ:St) (a:α):St×α:=
 let σ:=want l σ o
 if sign l σ.1 e then ((σ.1+1,σ.2),a)
 else
  let x:=read σ a
  let y:=loop l s read (l.length+1) x.1 x.2
  (want l y.1 e,y.2)
end
def fieldsR (l:List Tk) (ty:St->Sh×St) (σ:St) (a:List (List UInt8)×List Sh):St×(List (List UInt8)×List Sh):=
 let z:=another l σ a.1
 let x:=ty (want l z.2 [58])
 (x.2,(z.1,a.2++ [x.1]))
def fieldsT (l:List Tk) (ty:St->Sh×St) (σ:St) (k:Int) (o s e:List UInt8):Sh×St:=
 let y:=betw l o s e (fieldsR l ty) σ ([],[])
 (⟨k,[],[],y.2.1,y.2.2⟩,y.1)
def partsR (l:List Tk) (ty:St->Sh×St) (σ:St) (a:List Sh):St×List Sh:=
 let x:=ty σ
 (x.2,a++ [x.1])
def funT (l:List Tk) (ty:St->Sh×St) (σ:St):Sh×St:=
 let y:=betw l [40] [44] [41] (partsR l ty) σ []
 let x:=ty (want l y.1 [45,62])
 (⟨8,[],[],[],y.2++ [x.1]⟩,x.2)
def listT (l:List Tk) (ty:St->Sh×St) (σ:St):Sh×St:=
 let x:=ty σ
 (⟨5,[],[],[],[x.1]⟩,want l x.2 [93])
def othersT (l:List Tk) (σ:St):Sh×St:=
 let x:=name l σ
 let y:=upperN l (want l x.2 [47])
 (⟨9,x.1,y.1,[],[]⟩,y.2)
def bodyT (l:List Tk) (ty:St->Sh×St) (σ:St):Sh×St:=
 if sign l σ.1 [91] then listT l ty (σ.1+1,σ.2)
 else if sign l σ.1 [123] then fieldsT l ty σ 6 [123] [44] [125]
 else if sign l σ.1 [60] then fieldsT l ty σ 7 [60] [124] [62]
 else if sign l σ.1 [40] then funT l ty σ
 else if (look l σ.1).t.kind=1 then othersT l σ
 else (upper [] (upperN l σ).1,(upperN l σ).2)
def anyT (l:List Tk):Nat->St->Sh×St
 | 0,σ=>(⟨9,[],[],[],[]⟩,misfit l σ)
 | n+1,σ=>bodyT l (anyT l n) σ
def wholeT (l:List Tk) (σ:St):Sh×St:=
 let x:=anyT l (l.length+1) σ
 (x.1,if Shp.check x.1=0 then x.2 else fail l x.2 (Shp.check x.1) (look l σ.1).at_)
def begin_ (l:List Tk) (σ:St):St:=if (look l σ.1).at_ < 0 then misfit l σ else σ
def bindsR (l:List Tk) (σ:St) (a:List (List UInt8)×List Sh):St×(List (List UInt8)×List Sh):=
 let z:=another l σ a.1
 let x:=wholeT l (want l z.2 [58])
 (x.2,(z.1,a.2++ [x.1]))
def funE (l:List Tk) (ex:St->Tm×St) (σ:St) (a:Int):Tm×St:=
 let y:=betw l [40] [44] [41] (bindsR l) σ ([],[])
 let p:=ex (want l y.1 [45,62])
 ({ tm 6 a with names:=y.2.1,shapes:=y.2.2,parts:= [p.1] },p.2)
def letE (l:List Tk) (ex:St->Tm×St) (σ:St) (a:Int):Tm×St:=
 let x:=name l σ
 let p:=ex (want l x.2 [61])
 let r:=ex (want l p.2 [105,110])
 ({ tm 14 a with name:=x.1,parts:= [p.1,r.1] },r.2)
def choiceE (l:List Tk) (ex:St->Tm×St) (σ:St) (a:Int):Tm×St:=
 let p:=ex σ
 let r:=ex (want l p.2 [116,104,101,110])
 let s:=ex (want l r.2 [101,108,115,101])
 let x:=wholeT l (want l s.2 [97,115])
 ({ tm 12 a with shapes:= [x.1],parts:= [p.1,r.1,s.1] },x.2)
structure Ways where
 names:List (List UInt8)
 vars:List (List UInt8)
 shapes:List Sh
 parts:List Tm
def wayR (l:List Tk) (ex:St->Tm×St) (σ:St) (a:Ways):St×Ways:=
 let z:=another l σ a.names
 let v:=name l (want l z.2 [40])
 let x:=wholeT l (want l v.2 [58])
 let p:=ex (want l (want l x.2 [41]) [45,62])
 (p.2,⟨z.1,a.vars++ [v.1],a.shapes++ [x.1],a.parts++ [p.1]⟩)
def matchE (l:List Tk) (ex:St->Tm×St) (σ:St) (a:Int):Tm×St:=
 let p:=ex σ
 let y:=betw l [123] [124] [125] (wayR l ex) (want l p.2 [111,102]) ⟨[],[],[],[p.1]⟩
 let x:=wholeT l (want l y.1 [97,115])
 ({ tm 13 a with names:=y.2.names,vars:=y.2.vars,shapes:=y.2.shapes++ [x.1],parts:=y.2.parts },x.2)
def argsR (l:List Tk) (ex:St->Tm×St) (σ:St) (a:List Tm):St×List Tm:=
 let p:=ex σ
 (p.2,a++ [p.1])
def listE (l:List Tk) (ex:St->Tm×St) (σ:St) (a:Int):Tm×St:=
 let y:=betw l [91] [44] [93] (argsR l ex) σ []
 let x:=wholeT l (want l y.1 [111,102])
 ({ tm 11 a with shapes:= [x.1],parts:=y.2 },x.2)
def recR (l:List Tk) (ex:St->Tm×St) (σ:St) (a:List (List UInt8)×List Tm):St×(List (List UInt8)×List Tm):=
 let z:=another l σ a.1
 let p:=ex (want l z.2 [61])
 (p.2,(z.1,a.2++ [p.1]))
def recordE (l:List Tk) (ex:St->Tm×St) (σ:St) (a:Int):Tm×St:=
 let y:=betw l [123] [44] [125] (recR l ex) σ ([],[])
 ({ tm 8 a with names:=y.2.1,parts:=y.2.2 },y.1)
def ofE (l:List Tk) (ex:St->Tm×St) (k:Int) (nm:List UInt8) (σ:St) (a:Int):Tm×St:=
 let p:=ex (want l σ [40])
 ({ tm k a with name:=nm,parts:= [p.1] },want l p.2 [41])
def enclosedE (l:List Tk) (ex:St->Tm×St) (σ:St) (a:Int):Tm×St:=
 let p:=ex σ
 if sign l p.2.1 [97,115] then
  let x:=wholeT l (p.2.1+1,p.2.2)
  ({ tm 15 a with shapes:= [x.1],parts:= [p.1] },want l x.2 [41])
 else (p.1,want l p.2 [41])
def valueE (l:List Tk) (σ:St) (a:Int):Tm×St:=
 let x:=name l σ
 if sign l x.2.1 [47] then
  let y:=name l (x.2.1+1,x.2.2)
  ({ tm 5 a with of_:=x.1,name:=y.1 },y.2)
 else ({ tm 5 a with name:=x.1 },x.2)
def isText (s:List UInt8):Bool:=decide (Tms.check { tm 2 0 with name:=s }=0)
def atomE (l:List Tk) (ex:St->Tm×St) (σ:St) (a:Int):Tm×St:=
 let nx:St:=(σ.1+1,σ.2)
 if sign l σ.1 [116,114,117,101] then (tm 3 a,nx)
 else if sign l σ.1 [102,97,108,115,101] then (tm 4 a,nx)
 else if sign l σ.1 [40] then enclosedE l ex nx a
 else if sign l σ.1 [123] then recordE l ex σ a
 else if sign l σ.1 [64] then ofE l ex 10 (name l nx).1 (name l nx).2 a
 else if sign l σ.1 [110,101,119] then ofE l ex 16 (upperN l nx).1 (upperN l nx).2 a
 else if sign l σ.1 [114,97,119] then ofE l ex 17 (upperN l nx).1 (upperN l nx).2 a
 else if (look l σ.1).t.kind=3 then ({ tm 1 a with n:=num (textOf l σ 3 Lex.number).1 0 },(textOf l σ 3 Lex.number).2)
 else if (look l σ.1).t.kind=4 then ({ tm 2 a with name:=(textOf l σ 4 isText).1 },(textOf l σ 4 isText).2)
 else valueE l σ a
def chainL (l:List Tk) (ex:St->Tm×St) (a:Int):Nat->St->Tm->Tm×St
 | 0,σ,t=>(t,σ)
 | n+1,σ,t=>
  if sign l σ.1 [40] then
   let y:=betw l [40] [44] [41] (argsR l ex) σ [t]
   chainL l ex a n y.1 { tm 7 a with parts:=y.2 }
  else if sign l σ.1 [46] then
   let x:=name l (σ.1+1,σ.2)
   chainL l ex a n x.2 { tm 9 a with name:=x.1,parts:= [t] }
  else (t,σ)
def chainE (l:List Tk) (ex:St->Tm×St) (σ:St) (a:Int):Tm×St:=
 let x:=atomE l ex σ a
 chainL l ex a (l.length+1) x.2 x.1
def bodyE (l:List Tk) (ex:St->Tm×St) (σ:St):Tm×St:=
 let a:=(look l σ.1).at_
 let σ:=begin_ l σ
 let nx:St:=(σ.1+1,σ.2)
 if sign l σ.1 [102,117,110] then funE l ex nx a
 else if sign l σ.1 [108,101,116] then letE l ex nx a
 else if sign l σ.1 [105,102] then choiceE l ex nx a
 else if sign l σ.1 [99,97,115,101] then matchE l ex nx a
 else if sign l σ.1 [91] then listE l ex σ a
 else chainE l ex σ a
def expr (l:List Tk):Nat->St->Tm×St
 | 0,σ=>(tm 5 0,misfit l σ)
 | n+1,σ=>bodyE l (expr l n) σ
def wholeE (l:List Tk) (σ:St):Tm×St:=
 let x:=expr l (l.length+1) σ
 (x.1,if Tms.check x.1=0 then x.2 else fail l x.2 (Tms.check x.1) (look l σ.1).at_)
theorem sign_lt {l:List Tk} {i:Nat} {s:List UInt8} (h:sign l i s=true):i < l.length:=by
 rcases Nat.lt_or_ge i l.length with a | a
 {exact a}
 {exfalso;unfold sign look at h;rw[List.getElem?_eq_none a] at h;cases b:l.getLast? <;> rw[b] at h <;> simp at h}
theorem kind_lt {l:List Tk} {i:Nat} (h: (look l i).t.kind≠0):i < l.length:=by
 rcases Nat.lt_or_ge i l.length with a | a
 {exact a}
 {exfalso;apply h;unfold look;rw[List.getElem?_eq_none a];cases b:l.getLast? <;> rfl}
def Ok (l:List Tk) (σ:St):Prop:=σ.1<=l.length/\(σ.2.1≠0->σ.1=l.length)
def To (l:List Tk) (σ τ:St):Prop:=Ok l τ/\σ.1<=τ.1/\(σ.2.1≠0->τ.2=σ.2)
section
variable {l : List Tk}
include l
theorem To.trans {a b c:St} (h:To l a b) (k:To l b c):To l a c:=
 ⟨k.1,Nat.le_trans h.2.1 k.2.1,fun hf=>by have:=h.2.2 hf; rw[k.2.2 (by rw[this]; exact hf),this]⟩
theorem To.refl {a:St} (h:Ok l a):To l a a:=⟨h,Nat.le_refl _,fun _=>rfl⟩
theorem to_fail {σ:St} (h:Ok l σ) {e:Int} (b:e≠0) (a:Int):To l σ (fail l σ e a):=by
 refine ⟨⟨Nat.le_refl _,fun _=>rfl⟩,h.1,fun hf=> ?_⟩;unfold fail; rw[if_neg hf]
theorem to_misfit {σ:St} (h:Ok l σ):To l σ (misfit l σ):=to_fail h (by decide) _
theorem to_next {σ:St} (h:Ok l σ) (a:σ.1 < l.length):To l σ (σ.1+1,σ.2):=
 ⟨⟨a,fun hf=>absurd (h.2 hf) (by omega)⟩,Nat.le_succ _,fun _=>rfl⟩
theorem to_want {σ:St} (h:Ok l σ) (s:List UInt8):To l σ (want l σ s):=by
 unfold want;split
 {next hs=>exact to_next h (sign_lt hs)}
 {exact to_misfit h}
theorem to_text {σ:St} (h:Ok l σ) {k:Int} (a:k≠0) (b:List UInt8->Bool):To l σ (textOf l σ k b).2:=by
 unfold textOf;split
 {next hs=>
  simp only[Bool.and_eq_true,decide_eq_true_eq] at hs;exact to_next h (kind_lt (by rw[hs.1]; exact a))}
 {exact to_misfit h}
theorem to_name {σ:St} (h:Ok l σ):To l σ (name l σ).2:=to_text h (by decide) _
theorem to_upper {σ:St} (h:Ok l σ):To l σ (upperN l σ).2:=to_text h (by decide) _
theorem to_another {σ:St} (h:Ok l σ) (ns:List (List UInt8)):To l σ (another l σ ns).2:=by
 unfold another;simp only;split
 {exact (to_name h).trans (to_fail (to_name h).1 (by decide) _)}
 {exact to_name h}
end
section
variable {α : Type} {l : List Tk}
def Goes (l:List Tk) (f:St->α->St×α):Prop:= ∀σ a,Ok l σ->To l σ (f σ a).1
theorem to_loop {s:List UInt8} {f:St->α->St×α} (d:Goes l f): ∀n σ a,Ok l σ->To l σ (loop l s f n σ a).1
 | 0,σ,a,h=>To.refl h
 | n+1,σ,a,h=>by
  unfold loop;split
  {next hs=>
   have b:=to_next h (sign_lt hs);have c:=d _ a b.1;exact (b.trans c).trans (to_loop d n _ _ c.1)}
  {exact To.refl h}
theorem to_betw {o s e:List UInt8} {f:St->α->St×α} (g:Goes l f) {σ:St} (a:α) (h:Ok l σ):To l σ (betw l o s e f σ a).1:=by
 unfold betw;have b:=to_want h o;simp only;split
 {next hs=>exact b.trans (to_next b.1 (sign_lt hs))}
 {have c:=g _ a b.1;have d:=to_loop (s:=s) g (l.length+1) _ (f (want l σ o) a).2 c.1;exact ((b.trans c).trans d).trans (to_want d.1 e)}
end
def Ty (l:List Tk) {α:Type} (ty:St->α×St):Prop:= ∀σ,Ok l σ->To l σ (ty σ).2
variable {l : List Tk} {ty : St -> Sh × St} {ex : St -> Tm × St}
theorem goes_fields (h:Ty l ty):Goes l (fieldsR l ty):=fun σ a hs=>by
 have b:=to_another hs a.1;have c:=to_want b.1 [58];exact (b.trans c).trans (h _ c.1)
theorem goes_parts (h:Ty l ty):Goes l (partsR l ty):=fun σ a hs=>h σ hs
theorem to_bodyT (h:Ty l ty):Ty l (bodyT l ty):=fun σ hs=>by
 unfold bodyT;split
 {next hx=>
  have a:=to_next hs (sign_lt hx);have b:=h _ a.1;exact (a.trans b).trans (to_want b.1 _)}
 {split
  {exact to_betw (goes_fields h) _ hs}
  {split
   {exact to_betw (goes_fields h) _ hs}
   {split
    {unfold funT;have a:=to_betw (o:= [40]) (s:= [44]) (e:= [41]) (goes_parts h) [] hs;have b:=to_want a.1 [45,62];exact (a.trans b).trans (h _ b.1)}
    {split
     {unfold othersT;have a:=to_name hs;have b:=to_want a.1 [47];exact (a.trans b).trans (to_upper b.1)}
     {exact to_upper hs}}}}}
theorem to_anyT: ∀n,Ty l (anyT l n)
 | 0=>fun σ h=>to_misfit h
 | n+1=>to_bodyT (to_anyT n)
theorem to_wholeT:Ty l (wholeT l):=fun σ h=>by
 have a:=to_anyT (l.length+1) σ h;unfold wholeT;simp only;split
 {exact a}
 {next hc=>exact a.trans (to_fail a.1 hc _)}
theorem to_begin {σ:St} (h:Ok l σ):To l σ (begin_ l σ):=by
 unfold begin_;split
 {exact to_misfit h}
 {exact To.refl h}
theorem goes_binds:Goes l (bindsR l):=fun σ a hs=>by
 have b:=to_another hs a.1;have c:=to_want b.1 [58];exact (b.trans c).trans (to_wholeT _ c.1)
section
variable (h : Ty l ex)
include h
theorem goes_args:Goes l (argsR l ex):=fun σ a hs=>h σ hs
theorem goes_rec:Goes l (recR l ex):=fun σ a hs=>by
 have b:=to_another hs a.1;have c:=to_want b.1 [61];exact (b.trans c).trans (h _ c.1)
theorem goes_way:Goes l (wayR l ex):=fun σ a hs=>by
 have b:=to_another hs a.names;have c:=to_want b.1 [40];have d:=to_name c.1;have e:=to_want d.1 [58];have f:=to_wholeT _ e.1;have g:=to_want f.1 [41];have i:=to_want g.1 [45,62];exact ((((((b.trans c).trans d).trans e).trans f).trans g).trans i).trans (h _ i.1)
theorem to_fun (a:Int):Ty l (fun σ=>funE l ex σ a):=fun σ hs=>by
 have b:=to_betw (o:= [40]) (s:= [44]) (e:= [41]) (goes_binds (l:=l)) ([],[]) hs;have c:=to_want b.1 [45,62];exact (b.trans c).trans (h _ c.1)
theorem to_let (a:Int):Ty l (fun σ=>letE l ex σ a):=fun σ hs=>by
 have b:=to_name hs;have c:=to_want b.1 [61];have d:=h _ c.1;have e:=to_want d.1 [105,110];exact (((b.trans c).trans d).trans e).trans (h _ e.1)
theorem to_choice (a:Int):Ty l (fun σ=>choiceE l ex σ a):=fun σ hs=>by
 have b:=h _ hs;have c:=to_want b.1 [116,104,101,110];have d:=h _ c.1;have e:=to_want d.1 [101,108,115,101];have f:=h _ e.1;have g:=to_want f.1 [97,115];exact (((((b.trans c).trans d).trans e).trans f).trans g).trans (to_wholeT _ g.1)
theorem to_match (a:Int):Ty l (fun σ=>matchE l ex σ a):=fun σ hs=>by
 have b:=h _ hs;have c:=to_want b.1 [111,102];have d:=to_betw (o:= [123]) (s:= [124]) (e:= [125]) (goes_way h) ⟨[],[],[],[(ex σ).1]⟩ c.1;have f:=to_want d.1 [97,115];exact (((b.trans c).trans d).trans f).trans (to_wholeT _ f.1)
theorem to_list (a:Int):Ty l (fun σ=>listE l ex σ a):=fun σ hs=>by
 have b:=to_betw (o:= [91]) (s:= [44]) (e:= [93]) (goes_args h) [] hs;have c:=to_want b.1 [111,102];exact (b.trans c).trans (to_wholeT _ c.1)
theorem to_of (k:Int) (d:List UInt8) (a:Int):Ty l (fun σ=>ofE l ex k d σ a):=fun σ hs=>by
 have b:=to_want hs [40];have c:=h _ b.1;exact (b.trans c).trans (to_want c.1 _)
theorem to_enclosed (a:Int):Ty l (fun σ=>enclosedE l ex σ a):=fun σ hs=>by
 have b:=h _ hs;show To l σ (enclosedE l ex σ a).2;unfold enclosedE;simp only;split
 {next hx=>
  have c:=to_next b.1 (sign_lt hx);have d:=to_wholeT _ c.1;exact ((b.trans c).trans d).trans (to_want d.1 _)}
 {exact b.trans (to_want b.1 _)}
end
theorem to_value (a:Int):Ty l (fun σ=>valueE l σ a):=fun σ hs=>by
 have b:=to_name hs;show To l σ (valueE l σ a).2;unfold valueE;simp only;split
 {next hx=>
  have c:=to_next b.1 (sign_lt hx);exact (b.trans c).trans (to_name c.1)}
 {exact b}
theorem to_atom (h:Ty l ex) (a:Int):Ty l (fun σ=>atomE l ex σ a):=fun σ hs=>by
 show To l σ (atomE l ex σ a).2;unfold atomE;simp only;split
 {next hx=>exact to_next hs (sign_lt hx)}
 split
 {next hx=>exact to_next hs (sign_lt hx)}
 split
 {next hx=>
  have b:=to_next hs (sign_lt hx);exact b.trans (to_enclosed h a _ b.1)}
 split
 {exact to_betw (goes_rec h) ([],[]) hs}
 split
 {next hx=>
  have b:=to_next hs (sign_lt hx);have c:=to_name b.1;exact (b.trans c).trans (to_of h _ _ a _ c.1)}
 split
 {next hx=>
  have b:=to_next hs (sign_lt hx);have c:=to_upper b.1;exact (b.trans c).trans (to_of h _ _ a _ c.1)}
 split
 {next hx=>
  have b:=to_next hs (sign_lt hx);have c:=to_upper b.1;exact (b.trans c).trans (to_of h _ _ a _ c.1)}
 split
 {exact to_text hs (by decide) _}
 split
 {exact to_text hs (by decide) _}
 {exact to_value a _ hs}
theorem to_chainL (h:Ty l ex) (a:Int): ∀n σ t,Ok l σ->To l σ (chainL l ex a n σ t).2
 | 0,σ,t,hs=>To.refl hs
 | n+1,σ,t,hs=>by
  unfold chainL;split
  {have b:=to_betw (o:= [40]) (s:= [44]) (e:= [41]) (goes_args h) [t] hs;exact b.trans (to_chainL h a n _ _ b.1)}
  {split
   {next hx=>
    have b:=to_next hs (sign_lt hx);have c:=to_name b.1;exact (b.trans c).trans (to_chainL h a n _ _ c.1)}
   {exact To.refl hs}}
theorem to_chain (h:Ty l ex) (a:Int):Ty l (fun σ=>chainE l ex σ a):=fun σ hs=>by
 have b:=to_atom h a _ hs;exact b.trans (to_chainL h a _ _ _ b.1)
theorem to_bodyE (h:Ty l ex):Ty l (bodyE l ex):=fun σ hs=>by
 have a:=to_begin hs;unfold bodyE;simp only;split
 {next hx=>
  have b:=to_next a.1 (sign_lt hx);exact (a.trans b).trans (to_fun h _ _ b.1)}
 split
 {next hx=>
  have b:=to_next a.1 (sign_lt hx);exact (a.trans b).trans (to_let h _ _ b.1)}
 split
 {next hx=>
  have b:=to_next a.1 (sign_lt hx);exact (a.trans b).trans (to_choice h _ _ b.1)}
 split
 {next hx=>
  have b:=to_next a.1 (sign_lt hx);exact (a.trans b).trans (to_match h _ _ b.1)}
 split
 {exact a.trans (to_list h _ _ a.1)}
 {exact a.trans (to_chain h _ _ a.1)}
theorem to_expr: ∀n,Ty l (expr l n)
 | 0=>fun σ h=>to_misfit h
 | n+1=>to_bodyE (to_expr n)
end
end Pso
namespace Go.Proofs
section
open Go.Shelf
def Tryz.lays143_ren:Go.Shelf.Ren:=⟨fun | 143=>242 | 219=>202 | 217=>211 | 225=>212 | 224=>213 | 267=>214 | 266=>231 | 314=>232 | n=>n,fun | 9=>9 | 3=>3 | 4=>4 | 5=>5 | 46=>187 | 146=>209 | 51=>208 | n=>n,fun | 1=>1 | n=>n⟩
theorem Tryz.lays143:Go.Proofs.Lays.n143 Tryz.prog Tryz.lays143_ren:= {
 mixed:=by kernel_rfl
 f143:=Tryz.func242.trans (congrArg some (by kernel_rfl))
 f217:=Tryz.func211.trans (congrArg some (by kernel_rfl))
 f219:=Tryz.func202.trans (congrArg some (by kernel_rfl))
 f224:=Tryz.func213.trans (congrArg some (by kernel_rfl))
 f225:=Tryz.func212.trans (congrArg some (by kernel_rfl))
 f266:=Tryz.func231.trans (congrArg some (by kernel_rfl))
 f267:=Tryz.func214.trans (congrArg some (by kernel_rfl))
 f314:=Tryz.func232.trans (congrArg some (by kernel_rfl))
 t3:=Tryz.underlying3
 a3:=Tryz.isAgg3
 z3:=Tryz.sizeOf3
 v3:=Tryz.zeroValue3
 t4:=Tryz.underlying4
 a4:=Tryz.isAgg4
 z4:=Tryz.sizeOf4
 v4:=Tryz.zeroValue4
 t5:=Tryz.underlying5
 a5:=Tryz.isAgg5
 z5:=Tryz.sizeOf5
 v5:=Tryz.zeroValue5
 t9:=Tryz.underlying9
 a9:=Tryz.isAgg9
 z9:=Tryz.sizeOf9
 v9:=Tryz.zeroValue9
 t46:=Tryz.underlying187
 a46:=Tryz.isAgg187
 z46:=Tryz.sizeOf187
 v46:=Tryz.zeroValue187
 t51:=Tryz.underlying208
 a51:=Tryz.isAgg208
 z51:=Tryz.sizeOf208
 v51:=Tryz.zeroValue208
 t146:=Tryz.underlying209
 a146:=Tryz.isAgg209
 z146:=Tryz.sizeOf209
 v146:=Tryz.zeroValue209
 g1:=by kernel_rfl }
def Tryz.lays219_ren:Go.Shelf.Ren:=⟨fun | 219=>202 | 217=>211 | 225=>212 | 224=>213 | 267=>214 | 266=>231 | 314=>232 | n=>n,fun | 9=>9 | 3=>3 | 4=>4 | 5=>5 | 46=>187 | 146=>209 | 51=>208 | n=>n,fun | 1=>1 | n=>n⟩
theorem Tryz.lays219:Go.Proofs.Lays.n219 Tryz.prog Tryz.lays219_ren:= {
 mixed:=by kernel_rfl
 f217:=Tryz.func211.trans (congrArg some (by kernel_rfl))
 f219:=Tryz.func202.trans (congrArg some (by kernel_rfl))
 f224:=Tryz.func213.trans (congrArg some (by kernel_rfl))
 f225:=Tryz.func212.trans (congrArg some (by kernel_rfl))
 f266:=Tryz.func231.trans (congrArg some (by kernel_rfl))
 f267:=Tryz.func214.trans (congrArg some (by kernel_rfl))
 f314:=Tryz.func232.trans (congrArg some (by kernel_rfl))
 t3:=Tryz.underlying3
 a3:=Tryz.isAgg3
 z3:=Tryz.sizeOf3
 v3:=Tryz.zeroValue3
 t4:=Tryz.underlying4
 a4:=Tryz.isAgg4
 z4:=Tryz.sizeOf4
 v4:=Tryz.zeroValue4
 t5:=Tryz.underlying5
 a5:=Tryz.isAgg5
 z5:=Tryz.sizeOf5
 v5:=Tryz.zeroValue5
 t9:=Tryz.underlying9
 a9:=Tryz.isAgg9
 z9:=Tryz.sizeOf9
 v9:=Tryz.zeroValue9
 t46:=Tryz.underlying187
 a46:=Tryz.isAgg187
 z46:=Tryz.sizeOf187
 v46:=Tryz.zeroValue187
 t51:=Tryz.underlying208
 a51:=Tryz.isAgg208
 z51:=Tryz.sizeOf208
 v51:=Tryz.zeroValue208
 t146:=Tryz.underlying209
 a146:=Tryz.isAgg209
 z146:=Tryz.sizeOf209
 v146:=Tryz.zeroValue209
 g1:=by kernel_rfl }
def Tryz.lays172_ren:Go.Shelf.Ren:=⟨fun | 172=>195 | 244=>206 | 245=>207 | 247=>220 | 279=>221 | 280=>222 | 281=>223 | 282=>224 | 287=>236 | 316=>182 | 171=>235 | 205=>237 | 321=>246 | 322=>247 | 243=>245 | 246=>256 | 283=>259 | 284=>260 | 285=>261 | 286=>262 | 129=>264 | 317=>263 | 318=>265 | 319=>266 | 320=>267 | 337=>268 | 338=>269 | n=>n,fun | 9=>9 | 3=>3 | 75=>171 | 76=>172 | 4=>4 | 5=>5 | 167=>192 | 37=>131 | 0=>0 | 85=>193 | 2=>2 | 168=>195 | 53=>213 | 175=>214 | 46=>187 | 210=>217 | 127=>177 | 145=>226 | 143=>224 | 21=>21 | 171=>233 | 173=>236 | 212=>239 | 51=>208 | 20=>20 | 213=>240 | 232=>243 | 233=>244 | 80=>83 | n=>n,fun | 15=>4 | 16=>5 | 17=>6 | 18=>7 | 19=>8 | n=>n⟩
theorem Tryz.lays172:Go.Proofs.LaysC.n172 Tryz.prog Tryz.lays172_ren:= {
 mixed:=by kernel_rfl
 f129:=Tryz.func264.trans (congrArg some (by kernel_rfl))
 f171:=Tryz.func235.trans (congrArg some (by kernel_rfl))
 f172:=Tryz.func195.trans (congrArg some (by kernel_rfl))
 f205:=Tryz.func237.trans (congrArg some (by kernel_rfl))
 f243:=Tryz.func245.trans (congrArg some (by kernel_rfl))
 f244:=Tryz.func206.trans (congrArg some (by kernel_rfl))
 f245:=Tryz.func207.trans (congrArg some (by kernel_rfl))
 f246:=Tryz.func256.trans (congrArg some (by kernel_rfl))
 f247:=Tryz.func220.trans (congrArg some (by kernel_rfl))
 f279:=Tryz.func221.trans (congrArg some (by kernel_rfl))
 f280:=Tryz.func222.trans (congrArg some (by kernel_rfl))
 f281:=Tryz.func223.trans (congrArg some (by kernel_rfl))
 f282:=Tryz.func224.trans (congrArg some (by kernel_rfl))
 f283:=Tryz.func259.trans (congrArg some (by kernel_rfl))
 f284:=Tryz.func260.trans (congrArg some (by kernel_rfl))
 f285:=Tryz.func261.trans (congrArg some (by kernel_rfl))
 f286:=Tryz.func262.trans (congrArg some (by kernel_rfl))
 f287:=Tryz.func236.trans (congrArg some (by kernel_rfl))
 f316:=Tryz.func182.trans (congrArg some (by kernel_rfl))
 f317:=Tryz.func263.trans (congrArg some (by kernel_rfl))
 f318:=Tryz.func265.trans (congrArg some (by kernel_rfl))
 f319:=Tryz.func266.trans (congrArg some (by kernel_rfl))
 f320:=Tryz.func267.trans (congrArg some (by kernel_rfl))
 f321:=Tryz.func246.trans (congrArg some (by kernel_rfl))
 f322:=Tryz.func247.trans (congrArg some (by kernel_rfl))
 f337:=Tryz.func268.trans (congrArg some (by kernel_rfl))
 f338:=Tryz.func269.trans (congrArg some (by kernel_rfl))
 t0:=Tryz.underlying0
 a0:=Tryz.isAgg0
 z0:=Tryz.sizeOf0
 v0:=Tryz.zeroValue0
 t2:=Tryz.underlying2
 a2:=Tryz.isAgg2
 z2:=Tryz.sizeOf2
 v2:=Tryz.zeroValue2
 t3:=Tryz.underlying3
 a3:=Tryz.isAgg3
 z3:=Tryz.sizeOf3
 v3:=Tryz.zeroValue3
 t4:=Tryz.underlying4
 a4:=Tryz.isAgg4
 z4:=Tryz.sizeOf4
 v4:=Tryz.zeroValue4
 t5:=Tryz.underlying5
 a5:=Tryz.isAgg5
 z5:=Tryz.sizeOf5
 v5:=Tryz.zeroValue5
 t9:=Tryz.underlying9
 a9:=Tryz.isAgg9
 z9:=Tryz.sizeOf9
 v9:=Tryz.zeroValue9
 t20:=Tryz.underlying20
 a20:=Tryz.isAgg20
 z20:=Tryz.sizeOf20
 v20:=Tryz.zeroValue20
 t21:=Tryz.underlying21
 a21:=Tryz.isAgg21
 z21:=Tryz.sizeOf21
 v21:=Tryz.zeroValue21
 t37:=Tryz.underlying131
 a37:=Tryz.isAgg131
 z37:=Tryz.sizeOf131
 v37:=Tryz.zeroValue131
 t46:=Tryz.underlying187
 a46:=Tryz.isAgg187
 z46:=Tryz.sizeOf187
 v46:=Tryz.zeroValue187
 t51:=Tryz.underlying208
 a51:=Tryz.isAgg208
 z51:=Tryz.sizeOf208
 v51:=Tryz.zeroValue208
 t53:=Tryz.underlying213
 a53:=Tryz.isAgg213
 z53:=Tryz.sizeOf213
 v53:=Tryz.zeroValue213
 t75:=Tryz.underlying171
 a75:=Tryz.isAgg171
 z75:=Tryz.sizeOf171
 v75:=Tryz.zeroValue171
 t76:=Tryz.underlying172
 a76:=Tryz.isAgg172
 z76:=Tryz.sizeOf172
 v76:=Tryz.zeroValue172
 t85:=Tryz.underlying193
 a85:=Tryz.isAgg193
 z85:=Tryz.sizeOf193
 v85:=Tryz.zeroValue193
 t127:=Tryz.underlying177
 a127:=Tryz.isAgg177
 z127:=Tryz.sizeOf177
 v127:=Tryz.zeroValue177
 t143:=Tryz.underlying224
 a143:=Tryz.isAgg224
 z143:=Tryz.sizeOf224
 v143:=Tryz.zeroValue224
 t145:=Tryz.underlying226
 a145:=Tryz.isAgg226
 z145:=Tryz.sizeOf226
 v145:=Tryz.zeroValue226
 t167:=Tryz.underlying192
 a167:=Tryz.isAgg192
 z167:=Tryz.sizeOf192
 v167:=Tryz.zeroValue192
 t168:=Tryz.underlying195
 a168:=Tryz.isAgg195
 z168:=Tryz.sizeOf195
 v168:=Tryz.zeroValue195
 t171:=Tryz.underlying233
 a171:=Tryz.isAgg233
 z171:=Tryz.sizeOf233
 v171:=Tryz.zeroValue233
 t173:=Tryz.underlying236
 a173:=Tryz.isAgg236
 z173:=Tryz.sizeOf236
 v173:=Tryz.zeroValue236
 t175:=Tryz.underlying214
 a175:=Tryz.isAgg214
 z175:=Tryz.sizeOf214
 v175:=Tryz.zeroValue214
 t210:=Tryz.underlying217
 a210:=Tryz.isAgg217
 z210:=Tryz.sizeOf217
 v210:=Tryz.zeroValue217
 t212:=Tryz.underlying239
 a212:=Tryz.isAgg239
 z212:=Tryz.sizeOf239
 v212:=Tryz.zeroValue239
 t213:=Tryz.underlying240
 a213:=Tryz.isAgg240
 z213:=Tryz.sizeOf240
 t232:=Tryz.underlying243
 a232:=Tryz.isAgg243
 z232:=Tryz.sizeOf243
 v232:=Tryz.zeroValue243
 t233:=Tryz.underlying244
 a233:=Tryz.isAgg244
 z233:=Tryz.sizeOf244
 v233:=Tryz.zeroValue244
 g15:=by kernel_rfl
 g16:=by kernel_rfl
 g17:=by kernel_rfl
 g18:=by kernel_rfl
 g19:=by kernel_rfl
 t80:=Tryz.underlying83
 a80:=Tryz.isAgg83
 z80:=Tryz.sizeOf83
 v80:=Tryz.zeroValue83
 i0:=by kernel_rfl
 i2:=by kernel_rfl
 i3:=by kernel_rfl
 i4:=by kernel_rfl
 i5:=by kernel_rfl
 i9:=by kernel_rfl
 i20:=by kernel_rfl
 i21:=by kernel_rfl
 i37:=by kernel_rfl
 i46:=by kernel_rfl
 i51:=by kernel_rfl
 i53:=by kernel_rfl
 i75:=by kernel_rfl
 i76:=by kernel_rfl
 i80:=by kernel_rfl
 i85:=by kernel_rfl
 i127:=by kernel_rfl
 i143:=by kernel_rfl
 i145:=by kernel_rfl
 i167:=by kernel_rfl
 i168:=by kernel_rfl
 i171:=by kernel_rfl
 i173:=by kernel_rfl
 i175:=by kernel_rfl
 i210:=by kernel_rfl
 i212:=by kernel_rfl
 i232:=by kernel_rfl
 i233:=by kernel_rfl
 m15:=by kernel_rfl
 m16:=by kernel_rfl
 m17:=by kernel_rfl
 m18:=by kernel_rfl
 m19:=by kernel_rfl
 c0:=by kernel_rfl
 c2:=by kernel_rfl
 c3:=by kernel_rfl
 c4:=by kernel_rfl
 c5:=by kernel_rfl
 c9:=by kernel_rfl
 c20:=by kernel_rfl
 c21:=by kernel_rfl
 c37:=by kernel_rfl
 c46:=by kernel_rfl
 c51:=by kernel_rfl
 c53:=by kernel_rfl
 c75:=by kernel_rfl
 c76:=by kernel_rfl
 c80:=by kernel_rfl
 c85:=by kernel_rfl
 c127:=by kernel_rfl
 c143:=by kernel_rfl
 c145:=by kernel_rfl
 c167:=by kernel_rfl
 c168:=by kernel_rfl
 c171:=by kernel_rfl
 c173:=by kernel_rfl
 c175:=by kernel_rfl
 c210:=by kernel_rfl
 c212:=by kernel_rfl
 c213:=by kernel_rfl
 c232:=by kernel_rfl
 c233:=by kernel_rfl }
def Tryz.laysM171_ren:Go.Shelf.Ren:=⟨fun | 171=>235 | 243=>245 | 246=>256 | 283=>259 | 284=>260 | 285=>261 | 286=>262 | 129=>264 | 317=>263 | 318=>265 | 319=>266 | 320=>267 | 337=>268 | 338=>269 | n=>n,fun | 3=>3 | 9=>9 | 2=>2 | 4=>4 | 171=>233 | 0=>0 | 53=>213 | 37=>131 | 5=>5 | 173=>236 | 212=>239 | 51=>208 | 20=>20 | 213=>240 | 46=>187 | 232=>243 | 233=>244 | n=>n,fun | 17=>6 | 18=>7 | 19=>8 | n=>n⟩
theorem Tryz.laysM171:Go.Proofs.LaysM.n171 Tryz.prog Tryz.laysM171_ren:= {
 mixed:=by kernel_rfl
 f129:=Tryz.func264.trans (congrArg some (by kernel_rfl))
 f171:=Tryz.func235.trans (congrArg some (by kernel_rfl))
 f243:=Tryz.func245.trans (congrArg some (by kernel_rfl))
 f246:=Tryz.func256.trans (congrArg some (by kernel_rfl))
 f283:=Tryz.func259.trans (congrArg some (by kernel_rfl))
 f284:=Tryz.func260.trans (congrArg some (by kernel_rfl))
 f285:=Tryz.func261.trans (congrArg some (by kernel_rfl))
 f286:=Tryz.func262.trans (congrArg some (by kernel_rfl))
 f317:=Tryz.func263.trans (congrArg some (by kernel_rfl))
 f318:=Tryz.func265.trans (congrArg some (by kernel_rfl))
 f319:=Tryz.func266.trans (congrArg some (by kernel_rfl))
 f320:=Tryz.func267.trans (congrArg some (by kernel_rfl))
 f337:=Tryz.func268.trans (congrArg some (by kernel_rfl))
 f338:=Tryz.func269.trans (congrArg some (by kernel_rfl))
 t0:=Tryz.underlying0
 a0:=Tryz.isAgg0
 z0:=Tryz.sizeOf0
 v0:=Tryz.zeroValue0
 t2:=Tryz.underlying2
 a2:=Tryz.isAgg2
 z2:=Tryz.sizeOf2
 v2:=Tryz.zeroValue2
 t3:=Tryz.underlying3
 a3:=Tryz.isAgg3
 z3:=Tryz.sizeOf3
 v3:=Tryz.zeroValue3
 t4:=Tryz.underlying4
 a4:=Tryz.isAgg4
 z4:=Tryz.sizeOf4
 v4:=Tryz.zeroValue4
 t5:=Tryz.underlying5
 a5:=Tryz.isAgg5
 z5:=Tryz.sizeOf5
 v5:=Tryz.zeroValue5
 t9:=Tryz.underlying9
 a9:=Tryz.isAgg9
 z9:=Tryz.sizeOf9
 v9:=Tryz.zeroValue9
 t20:=Tryz.underlying20
 a20:=Tryz.isAgg20
 z20:=Tryz.sizeOf20
 v20:=Tryz.zeroValue20
 t37:=Tryz.underlying131
 a37:=Tryz.isAgg131
 z37:=Tryz.sizeOf131
 v37:=Tryz.zeroValue131
 t46:=Tryz.underlying187
 a46:=Tryz.isAgg187
 z46:=Tryz.sizeOf187
 v46:=Tryz.zeroValue187
 t51:=Tryz.underlying208
 a51:=Tryz.isAgg208
 z51:=Tryz.sizeOf208
 v51:=Tryz.zeroValue208
 t53:=Tryz.underlying213
 a53:=Tryz.isAgg213
 z53:=Tryz.sizeOf213
 v53:=Tryz.zeroValue213
 t171:=Tryz.underlying233
 a171:=Tryz.isAgg233
 z171:=Tryz.sizeOf233
 v171:=Tryz.zeroValue233
 t173:=Tryz.underlying236
 a173:=Tryz.isAgg236
 z173:=Tryz.sizeOf236
 v173:=Tryz.zeroValue236
 t212:=Tryz.underlying239
 a212:=Tryz.isAgg239
 z212:=Tryz.sizeOf239
 v212:=Tryz.zeroValue239
 t213:=Tryz.underlying240
 a213:=Tryz.isAgg240
 z213:=Tryz.sizeOf240
 t232:=Tryz.underlying243
 a232:=Tryz.isAgg243
 z232:=Tryz.sizeOf243
 v232:=Tryz.zeroValue243
 t233:=Tryz.underlying244
 a233:=Tryz.isAgg244
 z233:=Tryz.sizeOf244
 v233:=Tryz.zeroValue244
 g17:=by kernel_rfl
 g18:=by kernel_rfl
 g19:=by kernel_rfl
 i0:=by kernel_rfl
 i2:=by kernel_rfl
 i3:=by kernel_rfl
 i4:=by kernel_rfl
 i5:=by kernel_rfl
 i9:=by kernel_rfl
 i20:=by kernel_rfl
 i37:=by kernel_rfl
 i46:=by kernel_rfl
 i51:=by kernel_rfl
 i53:=by kernel_rfl
 i171:=by kernel_rfl
 i173:=by kernel_rfl
 i212:=by kernel_rfl
 i232:=by kernel_rfl
 i233:=by kernel_rfl
 m17:=by kernel_rfl
 m18:=by kernel_rfl
 m19:=by kernel_rfl }
def Tryz.laysM316_ren:Go.Shelf.Ren:=⟨fun | 316=>182 | n=>n,fun | 9=>9 | 3=>3 | 4=>4 | 37=>131 | 0=>0 | 127=>177 | 5=>5 | n=>n,fun | n=>n⟩
theorem Tryz.laysM316:Go.Proofs.LaysM.n316 Tryz.prog Tryz.laysM316_ren:= {
 mixed:=by kernel_rfl
 f316:=Tryz.func182.trans (congrArg some (by kernel_rfl))
 t0:=Tryz.underlying0
 a0:=Tryz.isAgg0
 z0:=Tryz.sizeOf0
 v0:=Tryz.zeroValue0
 t3:=Tryz.underlying3
 a3:=Tryz.isAgg3
 z3:=Tryz.sizeOf3
 v3:=Tryz.zeroValue3
 t4:=Tryz.underlying4
 a4:=Tryz.isAgg4
 z4:=Tryz.sizeOf4
 v4:=Tryz.zeroValue4
 t9:=Tryz.underlying9
 a9:=Tryz.isAgg9
 z9:=Tryz.sizeOf9
 v9:=Tryz.zeroValue9
 t37:=Tryz.underlying131
 a37:=Tryz.isAgg131
 z37:=Tryz.sizeOf131
 v37:=Tryz.zeroValue131
 t127:=Tryz.underlying177
 a127:=Tryz.isAgg177
 z127:=Tryz.sizeOf177
 v127:=Tryz.zeroValue177
 t5:=Tryz.underlying5
 a5:=Tryz.isAgg5
 z5:=Tryz.sizeOf5
 v5:=Tryz.zeroValue5
 i0:=by kernel_rfl
 i3:=by kernel_rfl
 i4:=by kernel_rfl
 i5:=by kernel_rfl
 i9:=by kernel_rfl
 i37:=by kernel_rfl
 i127:=by kernel_rfl }
end
end Go.Proofs
namespace Go.Proofs.YtgndehppmaacaaaGreatDoor
section
open Go.RowKit
structure Globs (w:World):Prop where
 syn: ∃te pe,w.cell? ⟨4,0,none⟩=some (.iface te pe)
 rng: ∃te pe,w.cell? ⟨5,0,none⟩=some (.iface te pe)
 tab:Lib.TabIs Tryz.prog w "internal/strconv.uint64pow10" .u64 Lib.pow10Tab
theorem ZgW:Tryz.prog.globalNamed "internal/strconv.uint64pow10" =some 6:=by kernel_rfl
theorem Globs.next {w w':World} (h:Globs w) (a:Below w.heap.size w w'):Globs w':=by
 obtain ⟨⟨l,k,d⟩,⟨c,b,e⟩,f⟩:=h;have g:=Lib.lt_of_cell d;have i:=Lib.lt_of_cell e;have j:=Lib.lt_of_cell (Lib.TabIs.cell f ZgW 0 (by rw[Lib.pow10Tab_length]; omega));exact ⟨⟨l,k,(a.cell (p:=⟨4,0,none⟩) g).trans d⟩,⟨c,b,(a.cell (p:=⟨5,0,none⟩) i).trans e⟩,var?_below a ZgW j f⟩
theorem Ze8 {P:Program} {w:World}: ∀ {l:List (String×DataW Unit)} {ps:List MemPlace},DataW.LaidVars P w l ps-> ∀x∈l,
 ∃g t cs a p,P.globalNamed x.1=some g/\(P.globals[g]?).map (·.type)=some t/\w.var? P x.1=some cs/\DataW.trod (fun _=>()) P w 0 (fun _=>true) false a t cs.toList=some (x.2,p)
 | [],_,_,x,b=>by simp at b
 | (n,d)::r,ps,h,x,b=>by
  obtain ⟨g,t,cs,a,p,q,c,e,f,i,j,_⟩:=h;rcases List.mem_cons.1 b with rfl | b
  {exact ⟨g,t,cs,a,p,c,e,f,i⟩}
  {exact Ze8 j x b}
theorem Zj4 {w:World} {n:String} {g:Nat} {d:DataW Unit} {o:String} {cs:Array Value} {a:Nat} {p:List MemPlace} {c t:Nat}
 (f:Tryz.prog.globalNamed n=some g) (m: (Tryz.prog.globals[g]?).map (·.type)=some 171)
 (h:Tryz.prog.globalNamed n=some c) (i: (Tryz.prog.globals[c]?).map (·.type)=some t) (j:w.var? Tryz.prog n=some cs) (k:DataW.trod (fun _=>()) Tryz.prog w 0 (fun _=>true) false a t cs.toList=some (.iface o d,p)):
 ∃te pe,w.cell? ⟨g,0,none⟩=some (.iface te pe):=by
 obtain rfl:=Option.some.inj (f.symm.trans h);obtain rfl:=Option.some.inj (m.symm.trans i);obtain ⟨_,u,v,b,_,_⟩:=iface_of_trod Tryz.underlying171 k;have l:=World.var?_cell f j 0;refine ⟨u,v,l.trans ?_⟩;have e:cs=#[.iface u v]:=by
  apply Array.ext';simpa using b
 rw[e]; rfl
theorem ZnR {L:List (String×DataW Unit)} {W:World} (h:laidMet Tryz.prog L W) (u: ("strconv.ErrSyntax",Rows.laid_strconv_ErrSyntax)∈L) (v: ("strconv.ErrRange",Rows.laid_strconv_ErrRange)∈L)
 (w: ("internal/strconv.uint64pow10",Rows.laid_internal_strconv_uint64pow10)∈L):Globs W:=by
 obtain ⟨ps,c,_,_⟩:=h;obtain ⟨A,D,l,y,p1,d,i,c1,o⟩:=Ze8 c _ u;obtain ⟨B,E,m,z,p2,f,j,c2,p⟩:=Ze8 c _ v;obtain ⟨C,F,a,r,p3,g,k,c3,q⟩:=Ze8 c _ w;refine ⟨Zj4 (by kernel_rfl) (by kernel_rfl) d i c1 o,Zj4 (by kernel_rfl) (by kernel_rfl) f j c2 p, ?_⟩;obtain rfl:=Option.some.inj (ZgW.symm.trans g);have t: (Tryz.prog.globals[6]?).map (·.type)=some 239:=by kernel_rfl
 obtain rfl:=Option.some.inj (t.symm.trans k);unfold Lib.TabIs;rw[c3];have e: (Rows.laid_internal_strconv_uint64pow10:DataW Unit)=Lib.tabData .u64 Lib.pow10Tab:=by kernel_rfl
 have b:DataW.trod (fun _=>()) Tryz.prog W 0 (fun _=>true) false r 239 a.toList=some (Lib.tabData .u64 Lib.pow10Tab,p3):=by rw[<-e]; exact q
 have s:=Lib.cells_of_tab (n:=20) Tryz.underlying239 Tryz.underlying213 (by kernel_rfl) (by kernel_rfl) b;rw[<-s]
def wordsC:Array Value:=#[.string ⟨#[]⟩,.string ⟨#[73,110,116]⟩,.string ⟨#[66,111,111,108]⟩,.string ⟨#[84,101,120,116]⟩,.string ⟨#[65,110,121]⟩]
theorem Z4H:Tryz.prog.globalNamed "pandect/shape.words" =some 0:=by kernel_rfl
def WGlobs (w:World):Prop:=w.var? Tryz.prog "pandect/shape.words" =some wordsC
theorem WGlobs.cell {w:World} (h:WGlobs w) (i:Nat):w.cell? ⟨0,i,none⟩=wordsC[i]? :=World.var?_cell Z4H h i
theorem WGlobs.lt {w:World} (h:WGlobs w):0 < w.heap.size:=lt_of_cell ((WGlobs.cell h 0).trans (by rfl:wordsC[0]? =some (.string ⟨#[]⟩)))
theorem WGlobs.next {w w':World} (h:WGlobs w) (a:Below w.heap.size w w'):WGlobs w':=var?_below a Z4H (WGlobs.lt h) h
theorem Z3H {P:Program} {w:World}: ∀ {l:List (String×DataW Unit)} {ps:List MemPlace},DataW.LaidVars P w l ps-> ∀x∈l,
 ∃g t cs a p,P.globalNamed x.1=some g/\(P.globals[g]?).map (·.type)=some t/\w.var? P x.1=some cs/\DataW.trod (fun _=>()) P w 0 (fun _=>true) false a t cs.toList=some (x.2,p)
 | [],_,_,x,b=>by simp at b
 | (n,d)::r,ps,h,x,b=>by
  obtain ⟨g,t,cs,a,p,q,c,e,f,i,j,_⟩:=h;rcases List.mem_cons.1 b with rfl | b
  {exact ⟨g,t,cs,a,p,c,e,f,i⟩}
  {exact Z3H j x b}
theorem ZaD {L:List (String×DataW Unit)} {W:World} (h:laidMet Tryz.prog L W) (G: ("pandect/shape.words",Rows.laid_pandect_shape_words)∈L):WGlobs W:=by
 unfold WGlobs;obtain ⟨ps,E,_,_⟩:=h;obtain ⟨S,T,cs,Q,p1,z,A,c1,B⟩:=Z3H E _ G;obtain rfl:=Option.some.inj (Z4H.symm.trans z);have D: (Tryz.prog.globals[0]?).map (·.type)=some 166:=by kernel_rfl
 obtain rfl:=Option.some.inj (D.symm.trans A);rw[c1];congr 1;have d:Tryz.prog.cellsOf 9=1:=by kernel_rfl
 obtain ⟨J,m,_,F,c,C,b⟩:=DataW.trod_array Tryz.underlying166 B;rw[d] at b;have e:Tryz.prog.cellsOf 166=5:=by kernel_rfl
 rw[e] at c;have a:=(Prod.mk.inj F).1;apply Array.ext'
 match J,C,a with
 | [y0,y1,y2,y3,y4],_,a=>
  obtain ⟨L,s⟩: ∃L,L=cs.toList:=⟨_,rfl⟩;rw[<-s] at c b ⊢;clear s
  match L,c with
  | [t,u,v,w,y],_=>
   have f:=b 0 (by omega);have g:=b 1 (by omega);have i:=b 2 (by omega);have j:=b 3 (by omega);have k:=b 4 (by omega);simp only[List.getElem?_cons_zero,List.getElem?_cons_succ,Nat.mul_one,List.drop_zero,List.drop_succ_cons,List.take_succ_cons,List.take_zero] at f g i j k;obtain ⟨x0,n,rfl,_⟩:=DataW.trod_string Tryz.underlying9 f;obtain ⟨x1,o,rfl,_⟩:=DataW.trod_string Tryz.underlying9 g;obtain ⟨x2,p,rfl,_⟩:=DataW.trod_string Tryz.underlying9 i;obtain ⟨H,q,rfl,_⟩:=DataW.trod_string Tryz.underlying9 j;obtain ⟨I,r,rfl,_⟩:=DataW.trod_string Tryz.underlying9 k;simp at n o p q r;simp[Rows.laid_pandect_shape_words] at a;obtain ⟨K,M,N,O,P⟩:=a;have key: ∀(x:ByteArray) (l:List UInt8),l=x.data.toList->x=⟨l.toArray⟩:=fun x l h=>by rw[h]
   rw[n,o,p,q,r];have t:=key x0 [] (by simp[K]);have u:=key x1 [73,110,116] (by simp[<-M]);have v:=key x2 [66,111,111,108] (by simp[<-N]);have w:=key H [84,101,120,116] (by simp[<-O]);have y:=key I [65,110,121] (by simp[<-P]);rw[t,u,v,w,y]; rfl
end
end Go.Proofs.YtgndehppmaacaaaGreatDoor
namespace Go.Proofs
open Go.Shelf
def Tryz.lays196_ren:Go.Shelf.Ren:=⟨fun | 196=>209 | 259=>230 | n=>n,fun | 9=>9 | 4=>4 | 3=>3 | 5=>5 | 12=>12 | 119=>204 | 0=>0 | 46=>187 | 139=>207 | 138=>206 | 53=>213 | n=>n,fun | 3=>2 | 4=>3 | n=>n⟩
theorem Tryz.lays196:Go.Proofs.Lays.n196 Tryz.prog Tryz.lays196_ren:= {
 mixed:=by kernel_rfl
 f196:=Tryz.func209.trans (congrArg some (by kernel_rfl))
 f259:=Tryz.func230.trans (congrArg some (by kernel_rfl))
 t0:=Tryz.underlying0
 a0:=Tryz.isAgg0
 z0:=Tryz.sizeOf0
 v0:=Tryz.zeroValue0
 t3:=Tryz.underlying3
 a3:=Tryz.isAgg3
 z3:=Tryz.sizeOf3
 v3:=Tryz.zeroValue3
 t4:=Tryz.underlying4
 a4:=Tryz.isAgg4
 z4:=Tryz.sizeOf4
 v4:=Tryz.zeroValue4
 t5:=Tryz.underlying5
 a5:=Tryz.isAgg5
 z5:=Tryz.sizeOf5
 v5:=Tryz.zeroValue5
 t9:=Tryz.underlying9
 a9:=Tryz.isAgg9
 z9:=Tryz.sizeOf9
 v9:=Tryz.zeroValue9
 t12:=Tryz.underlying12
 a12:=Tryz.isAgg12
 z12:=Tryz.sizeOf12
 v12:=Tryz.zeroValue12
 t46:=Tryz.underlying187
 a46:=Tryz.isAgg187
 z46:=Tryz.sizeOf187
 v46:=Tryz.zeroValue187
 t53:=Tryz.underlying213
 a53:=Tryz.isAgg213
 z53:=Tryz.sizeOf213
 v53:=Tryz.zeroValue213
 t119:=Tryz.underlying204
 a119:=Tryz.isAgg204
 z119:=Tryz.sizeOf204
 t138:=Tryz.underlying206
 a138:=Tryz.isAgg206
 z138:=Tryz.sizeOf206
 v138:=Tryz.zeroValue206
 t139:=Tryz.underlying207
 a139:=Tryz.isAgg207
 z139:=Tryz.sizeOf207
 v139:=Tryz.zeroValue207
 g3:=by kernel_rfl
 g4:=by kernel_rfl }
end Go.Proofs
namespace Go.Proofs.YtgndehppmaacaaaGreatDoor
open Go.RowKit Go.Shelf
def Zd1 (w:World):Prop:=Go.Lib.Utf8Tabs (Tryz.lays196_ren.g 3) (Tryz.lays196_ren.g 4) w
theorem Zd1.next {w w':World} (h:Zd1 w) (a:Below w.heap.size w w'):Zd1 w':=Utf8Tabs_below h a
theorem Zlf {L:List (String×DataW Unit)} {W:World} (h:laidMet Tryz.prog L W) (a: ("unicode/utf8.first",Rows.laid_unicode_utf8_first)∈L) (b: ("unicode/utf8.acceptRanges",Rows.laid_unicode_utf8_acceptRanges)∈L):Zd1 W:=
 utf8Tabs_of_readsT (U8Types.of196 Tryz.lays196) ⟨by kernel_rfl,by kernel_rfl,by kernel_rfl,by kernel_rfl,by kernel_rfl,by kernel_rfl,by kernel_rfl⟩
  (by have e:=Go.Lib.laidMet.reads h a; rwa [show (Rows.laid_unicode_utf8_first:DataW Unit)=Go.Lib.firstData from by kernel_rfl] at e)
  (by have e:=Go.Lib.laidMet.reads h b; rwa [show (Rows.laid_unicode_utf8_acceptRanges:DataW Unit)=Go.Lib.acceptData from by kernel_rfl] at e)
theorem ZgX (s:ByteArray) (w:World) (b:s.size<=9223372036854775807) (a:Zd1 w):
 Y9 209 #[.string s] w (.bool (Go.Lib.validD s.data.toList)):=Any.utf8_ValidString Tryz.lays196 s w b a
end Go.Proofs.YtgndehppmaacaaaGreatDoor
namespace Go.Proofs.YtgndehppmaacaaaGreatDoor
open Go.RowKit Tms
open Shp (Sh)
open Pso (St)
section
variable {F G : List Nat} {a b c w w' : World}
theorem UpT.trans (h:UpT F a b) (k:UpT F b c):UpT F a c:=
 ⟨k.os.trans h.os,k.tape.trans h.tape,k.output.trans h.output,Nat.le_trans h.size k.size,fun x h1 h2=>(k.block x (Nat.lt_of_lt_of_le h1 h.size) h2).trans (h.block x h1 h2)⟩
theorem UpT.mono (h:UpT F a b) (d: ∀x∈F,x < a.heap.size->x∈G):UpT G a b:=
 ⟨h.os,h.tape,h.output,h.size,fun x h1 h2=>h.block x h1 (fun hx=>h2 (d x hx h1))⟩
theorem ZcF (h:Below a.heap.size a b):UpT F a b:=⟨h.os,h.tape,h.output,h.size,fun x h1 _=>h.block x h1⟩
theorem UpT.set (h:UpT F a b) (p:Addr) (d:a.heap.size<=p.block\/p.block∈F) (v:Value):UpT F a (b.setCell p v):=
 ⟨h.os,h.tape,h.output,by simpa[World.setCell] using h.size,fun x h1 h2=>(Below.heap_setCell _ _ _ _ (fun e=>by
  rcases d with d | d
  {omega}
  · exact h2 (e▸d))).trans (h.block x h1 h2)⟩
theorem UpT.drew (h:UpT F a b):UpT F a b.drew:=⟨h.os,h.tape,h.output,h.size,h.block⟩
theorem UpT.alloc (h:UpT F a b) (o:Obj):UpT F a (b.alloc o):=h.below (Z01 _ _)
theorem UpT.grown (h:UpT F a b) {row:Option Nat} (d:b.grownBy c row) (f: ∀k,row=some k->a.heap.size<=k):UpT F a c:=
 ⟨d.os.trans h.os,d.tape.trans h.tape,d.output.trans h.output,Nat.le_trans h.size d.size,fun x h1 h2=>(d.block x (Nat.lt_of_lt_of_le h1 h.size) (fun e=>by have:=f x e.symm; omega)).trans (h.block x h1 h2)⟩
theorem UpT.low (h:UpT F a b) (d: ∀x∈F,a.heap.size<=x):Below a.heap.size a b:=⟨h.os,h.tape,h.output,h.size,fun x h1=>h.block x h1 (fun hx=>by have:=d x hx; omega)⟩
end
structure Gl (w:World):Prop where
 g:Globs w
 s:WGlobs w
 u:Zd1 w
theorem Gl.next {w w':World} (h:Gl w) (a:Below w.heap.size w w'):Gl w':=⟨h.g.next a,h.s.next a,h.u.next a⟩
def GlAt (bp:Nat) (W:World):Prop:= ∃W0:World,W0.heap.size<=bp/\Below W0.heap.size W0 W/\Gl W0
theorem GlAt.gl {bp:Nat} {W:World} (h:GlAt bp W):Gl W:=by obtain ⟨W0,_,a,b⟩:=h; exact b.next a
theorem GlAt.up {bp:Nat} {W W':World} {F:List Nat} (h:GlAt bp W) (b:UpT F W W') (e: ∀x∈F,bp<=x):GlAt bp W':=by
 obtain ⟨W0,c,a,d⟩:=h;refine ⟨W0,c,⟨b.os.trans a.os,b.tape.trans a.tape,b.output.trans a.output,Nat.le_trans a.size b.size,fun k hk=> ?_⟩,d⟩;rw[b.block k (Nat.lt_of_lt_of_le hk a.size) (fun hx=>by have:=e k hx; omega)];exact a.block k hk
structure PAt (W:World) (bp:Nat) (A:Option Addr) (c:Nat) (l:List Tk) (σ:St):Prop where
 lt:bp < W.heap.size
 c0:W.cell? ⟨bp,0,none⟩=some (.slice A l.length c)
 c1:W.cell? ⟨bp,1,none⟩=some (.int .i64 (σ.1:Int))
 c2:W.cell? ⟨bp,2,none⟩=some (.int .i64 σ.2.1)
 c3:W.cell? ⟨bp,3,none⟩=some (.int .i64 σ.2.2)
 fz: ∀k,W.frozen? ⟨bp,k,none⟩=false
 tk:Tks W bp A l
 gs:GlAt bp W
 tx: ∀b∈l,b.t.text.length<=1000000
theorem Tks.same {W W':World} {B:Nat} {A:Option Addr} {l:List Tk} (h:Tks W B A l) (a: ∀b,b < B->SameT W W' b):Tks W' B A l:=by
 rcases h with h | ⟨g,off,hA,hlt,e⟩
 {exact Or.inl h}
 {refine Or.inr ⟨g,off,hA,hlt,fun i hi=> ?_⟩;obtain ⟨c,h1,d⟩:=e i hi;exact ⟨((a g hlt).1 _).trans c,((a g hlt).1 _).trans h1,((a g hlt).1 _).trans d⟩}
section
variable {W W' : World} {bp : Nat} {A : Option Addr} {c : Nat} {l : List Tk} {σ : St}
theorem PAt.keep {F:List Nat} (h:PAt W bp A c l σ) (d:UpT F W W') (e: ∀x∈F,bp < x):PAt W' bp A c l σ:=by
 have a:=d.same h.lt (fun hx=>by have:=e bp hx; omega);exact ⟨Nat.lt_of_lt_of_le h.lt d.size,(a.1 0).trans h.c0,(a.1 1).trans h.c1,(a.1 2).trans h.c2,(a.1 3).trans h.c3,fun k=>(a.2 k).trans (h.fz k),
  h.tk.same (fun b hb=>d.same (Nat.lt_trans hb h.lt) (fun hx=>by have:=e b hx; omega)),h.gs.up d (fun x hx=>Nat.le_of_lt (e x hx)),h.tx⟩
theorem PAt.below (h:PAt W bp A c l σ) (a:Below W.heap.size W W'):PAt W' bp A c l σ:=h.keep (F:= []) (ZcF a) (by simp)
theorem PAt.drew (h:PAt W bp A c l σ):PAt W.drew bp A c l σ:=h.below Y2.drew
theorem PAt.alloc (h:PAt W bp A c l σ) (o:Obj):PAt (W.alloc o) bp A c l σ:=h.below (Z01 _ _)
theorem PAt.set (h:PAt W bp A c l σ) (p:Addr) (a:bp < p.block) (v:Value):PAt (W.setCell p v) bp A c l σ:=
 h.keep (F:= [p.block]) ((UpT.refl _ _).set p (Or.inr (by simp)) v) (by simpa using a)
theorem PAt.turn1 (h:PAt W bp A c l σ) (i:Nat):PAt (W.setCell ⟨bp,1,none⟩ (.int .i64 (i:Int))) bp A c l (i,σ.2):=by
 have o: ∀k,k≠1->(W.setCell ⟨bp,1,none⟩ (.int .i64 (i:Int))).cell? ⟨bp,k,none⟩=W.cell? ⟨bp,k,none⟩:=fun k hk=>World.cell?_setCell_other _ _ _ _ (fun e=>by have:=congrArg Addr.off e; simp at this; omega);exact ⟨by simpa[World.setCell] using h.lt,(o 0 (by omega)).trans h.c0,World.cell?_setCell_same _ _ _ h.c1,(o 2 (by omega)).trans h.c2,(o 3 (by omega)).trans h.c3,fun k=>(World.frozen?_setCell ..).trans (h.fz k),h.tk.same (fun b hb=>ZdC _ _ _ (by simp; omega)),h.gs.up (F:= [bp]) ((UpT.refl _ _).set _ (Or.inr (by simp)) _) (by simp),h.tx⟩
theorem PAt.turn23 (h:PAt W bp A c l σ) (e a:Int):PAt ((W.setCell ⟨bp,2,none⟩ (.int .i64 e)).setCell ⟨bp,3,none⟩ (.int .i64 a)) bp A c l (σ.1,(e,a)):=by
 have o: ∀(w:World) k m v,k≠m->(w.setCell ⟨bp,m,none⟩ v).cell? ⟨bp,k,none⟩=w.cell? ⟨bp,k,none⟩:=fun w k m v hk=>World.cell?_setCell_other _ _ _ _ (fun e=>by have:=congrArg Addr.off e; simp at this; omega);refine ⟨by simpa[World.setCell] using h.lt, ?_, ?_, ?_, ?_,fun k=> ?_,h.tk.same (fun b hb=>(ZdC _ _ _ (by simp; omega)).trans (ZdC _ _ _ (by simp; omega))),h.gs.up (F:= [bp]) (((UpT.refl _ _).set _ (Or.inr (by simp)) _).set _ (Or.inr (by simp)) _) (by simp),h.tx⟩
 {rw[o _ 0 3 _ (by omega),o _ 0 2 _ (by omega)]; exact h.c0}
 {rw[o _ 1 3 _ (by omega),o _ 1 2 _ (by omega)]; exact h.c1}
 {rw[o _ 2 3 _ (by omega)]; exact World.cell?_setCell_same _ _ _ h.c2}
 {exact World.cell?_setCell_same _ _ _ ((o _ 3 2 _ (by omega)).trans h.c3)}
 {rw[World.frozen?_setCell,World.frozen?_setCell]; exact h.fz k}
end
structure New (lo hi:Nat) (W:World) (P:World->Prop):Prop where
 hi_:hi<=W.heap.size
 at_: ∀W',W.heap.size<=W'.heap.size->(∀b,lo<=b->b < hi->SameT W W' b)->P W'
section
variable {lo hi : Nat} {W W' : World} {P : World -> Prop}
theorem New.here (h:New lo hi W P):P W:=h.at_ W (Nat.le_refl _) (fun b _ _=>⟨fun _=>rfl,fun _=>rfl⟩)
theorem New.same (h:New lo hi W P) (a:W.heap.size<=W'.heap.size) (c: ∀b,lo<=b->b < hi->SameT W W' b):New lo hi W' P:=
 ⟨Nat.le_trans h.hi_ a,fun W2 hz2 hs2=>h.at_ W2 (Nat.le_trans a hz2) (fun b h1 h2=>(c b h1 h2).trans (hs2 b h1 h2))⟩
theorem New.up {F:List Nat} (h:New lo hi W P) (a:UpT F W W') (c: ∀x∈F,x < lo\/hi<=x):New lo hi W' P:=
 h.same a.size (fun b h1 h2=>a.same (Nat.lt_of_lt_of_le h2 h.hi_) (fun hx=>by have:=c b hx; omega))
section
variable (h : New lo hi W P)
include h
theorem New.below (a:Below W.heap.size W W'):New lo hi W' P:=h.up (F:= []) (ZcF a) (by simp)
theorem New.grown {row:Option Nat} (a:W.grownBy W' row) (d: ∀k,row=some k->k < lo\/hi<=k):New lo hi W' P:=
 h.same a.size (fun b h1 h2=>by
  have c:some b≠row:=fun e=>by have:=d b e.symm; omega
  have f:=h.hi_;exact ⟨fun j=>World.cell?_of_block (w:=W) (a.block b (by omega) c),fun j=>World.frozen?_of_block (w:=W) (a.block b (by omega) c)⟩)
theorem New.wide {c a:Nat} (e:c<=lo) (f:hi<=a) (d:a<=W.heap.size):New c a W P:=
 ⟨d,fun W' hz hs=>h.at_ W' hz (fun b k1 k2=>hs b (by omega) (by omega))⟩
end
theorem New.imp {Q:World->Prop} (h:New lo hi W P) (a: ∀W',P W'->Q W'):New lo hi W Q:=⟨h.hi_,fun W' hz hs=>a _ (h.at_ W' hz hs)⟩
end
end Go.Proofs.YtgndehppmaacaaaGreatDoor
