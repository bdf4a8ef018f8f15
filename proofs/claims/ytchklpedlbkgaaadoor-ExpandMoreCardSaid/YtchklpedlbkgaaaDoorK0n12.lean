/- What the proofs of ExpandMore want, part 12. -/
import Derived.Test.YtchklpedlbkgaaaDoorK0n11
set_option linter.unusedVariables false
set_option linter.unusedSimpArgs false
set_option linter.unusedSectionVars false
set_option maxRecDepth 100000
set_option maxHeartbeats 16000000
namespace Go.Proofs.YtchklpedlbkgaaaDoor
open Go.RowKit Shp Sub
namespace SubM
def rowB (A:Option Addr):Option Nat:=A.map (·.block)
theorem rowB_own (A:Option Addr) (n c:Nat):Value.ownBlock (.slice A n c)=rowB A:=by cases A <;> rfl
section
variable {W : World} {A : Option Addr} {m c B e s : Nat} {xs : List Value} (h : W.ownsRow B e s (.slice A m c) m xs)
include W A m c B e s xs h
theorem Z0u: ∀b,rowB A=some b->B<=b/\b < W.heap.size:=fun b hb=>h.lt b (by rw[rowB_own]; exact hb)
theorem slice_form: (A=none/\m=0/\c=0)\/ ∃g,A=some ⟨g,0,none⟩/\m<=c:=by
 rcases h.2 with ⟨h1,h2⟩ | ⟨g,cap,cur,h1,_,_,h2,_⟩
 {simp only[Value.slice.injEq] at h1; exact Or.inl ⟨h1.1,h2,h1.2.2⟩}
 {simp only[Value.slice.injEq] at h1;obtain ⟨h3,_,rfl⟩:=h1;exact Or.inr ⟨g,h3,h2⟩}
end
theorem Z1j {S:Nat->Prop} {W W':World} {A:Option Addr} {m c B e s n:Nat} {xs:List Value} (h:W.ownsRow B e s (.slice A m c) n xs) (hu:Upd S W W') (hS: ∀b,rowB A=some b-> ¬S b):W'.ownsRow B e s (.slice A m c) n xs:=by
 obtain ⟨h1,h2⟩:=h;refine ⟨h1, ?_⟩;rcases h2 with h2 | ⟨g,cap,cur,hv,hb,hg,hc⟩
 {exact Or.inl h2}
 {refine Or.inr ⟨g,cap,cur,hv,hb, ?_,hc⟩;have hgl:g < W.heap.size:=(Array.getElem?_eq_some_iff.1 hg).1;rw[hu.block g hgl (hS g (by simp only[Value.slice.injEq] at hv; rw[hv.1]; rfl))];exact hg}
theorem Z4C {W:World} {g m c B e s n:Nat} {xs:List Value} (h:W.ownsRow B e s (.slice (some ⟨g,0,none⟩) m c) n xs) {j:Nat} {u:Value} (hu:xs[j]? =some u):W.cell? ⟨g,j,none⟩=some u:=by
 have:=h.cells (g:=g) rfl j u hu
 rwa [Z0b,Nat.zero_add] at this
abbrev El:=Sh×Ptr
def cells5 (x:El):List Value:= [.int .i64 x.1.kind,.string ⟨x.1.of_.toArray⟩,.string ⟨x.1.name.toArray⟩,.slice x.2.A x.1.names.length x.2.c,.slice x.2.P x.1.parts.length x.2.d]
def cellsE (l:List El):List Value:=l.flatMap cells5
def namesE (l:List (List UInt8)):List Value:=l.map fun n=> .string ⟨n.toArray⟩
theorem cellsE_append (l m:List El):cellsE (l++m)=cellsE l++cellsE m:=by simp[cellsE]
theorem cellsE_one (x:El):cellsE [x]=cells5 x:=by simp[cellsE]
theorem cellsE_len (l:List El): (cellsE l).length=l.length * 5:=by
 induction l with
 | nil=>rfl
 | cons a l ih=>rw[show a::l= [a]++l from rfl,cellsE_append,List.length_append,ih,cellsE_one]; simp[cells5]; omega
theorem namesE_len (l:List (List UInt8)): (namesE l).length=l.length:=by simp[namesE]
theorem cells5_one (x:El): ∀u∈cells5 x,u.oneCell'=true:=by
 intro u hu;simp only[cells5,List.mem_cons,List.not_mem_nil,or_false] at hu;rcases hu with rfl | rfl | rfl | rfl | rfl <;> rfl
theorem cellsE_at {l:List El} {i c:Nat} (hi:i < l.length) (hc:c < 5): (cellsE l)[i * 5+c]? =(cells5 (l[i]'hi))[c]? :=by
 have h1:l=l.take i++([l[i]'hi]++l.drop (i+1)):=by rw[List.singleton_append,List.getElem_cons_drop,List.take_append_drop]
 have h2: (cellsE (l.take i)).length=i * 5:=by rw[cellsE_len,List.length_take]; omega
 have h3: (cells5 (l[i]'hi)).length=5:=rfl
 conv=>lhs; rw[h1]
 rw[cellsE_append,cellsE_append,cellsE_one,List.getElem?_append_right (by omega),h2,Nat.add_sub_cancel_left,List.getElem?_append_left (by omega)]
def Kept (S:Nat->Prop) (W:World) (x:El):Prop:= ∀W',W.heap.size<=W'.heap.size->(∀b,b < W.heap.size->S b->W'.heap[b]? =W.heap[b]?)->ShAt W' W'.heap.size x.2 x.1
section
variable {S T : Nat -> Prop} {W W' : World} {x : El}
section
variable (h : Kept S W x)
include h
theorem Kept.here:ShAt W W.heap.size x.2 x.1:=h W (Nat.le_refl _) (fun _ _ _=>rfl)
theorem Kept.upd (hu:Upd T W W') (hd: ∀b,b < W.heap.size->S b-> ¬T b):Kept S W' x:=fun W2 h1 h2=>
 h W2 (Nat.le_trans hu.size h1) (fun b hb hs=>(h2 b (Nat.lt_of_lt_of_le hb hu.size) hs).trans (hu.block b hb (hd b hb hs)))
theorem Kept.more (hs: ∀b,b < W.heap.size->S b->T b):Kept T W x:=fun W2 h1 h2=>h W2 h1 (fun b hb hS=>h2 b hb (hs b hb hS))
end
theorem Kept.old {n0:Nat} (h:ShAt W n0 x.2 x.1) (hn:n0<=W.heap.size) (hS: ∀b,b < n0->S b):Kept S W x:=fun W2 h1 h2=>
 h.of (Nat.le_trans hn h1) (fun g k hg=>World.cell?_of_block (w:=W) (h2 g (by omega) (hS g hg)))
end
structure Mk (w0:World) (gm hi:Nat) (k:Int) (o nm:List UInt8) (nl:List (List UInt8)) (l:List El) (AN:Option Addr) (cN:Nat) (AP:Option Addr) (cP:Nat) (W:World):Prop where
 up:Below w0.heap.size w0 W
 lo:w0.heap.size<=gm
 gh:gm < hi
 hw:hi<=W.heap.size
 c0:W.cell? ⟨gm,0,none⟩=some (.int .i64 k)
 c1:W.cell? ⟨gm,1,none⟩=some (.string ⟨o.toArray⟩)
 c2:W.cell? ⟨gm,2,none⟩=some (.string ⟨nm.toArray⟩)
 c3:W.cell? ⟨gm,3,none⟩=some (.slice AN nl.length cN)
 c4:W.cell? ⟨gm,4,none⟩=some (.slice AP l.length cP)
 fz: ∀j,W.frozen? ⟨gm,j,none⟩=false
 rN:W.ownsRow hi 9 1 (.slice AN nl.length cN) nl.length (namesE nl)
 rP:W.ownsRow hi 25 5 (.slice AP l.length cP) l.length (cellsE l)
 ne:rowB AN=none\/rowB AN≠rowB AP
def Free (n0 hi:Nat) (AN AP:Option Addr) (b:Nat):Prop:=b < n0\/(hi<=b/\rowB AN≠some b/\rowB AP≠some b)
section
variable {w0 W W' : World} {gm hi : Nat} {k : Int} {o nm : List UInt8} {nl : List (List UInt8)} {l : List El} {AN AP : Option Addr} {cN cP : Nat}
theorem Mk.upd {S:Nat->Prop} (h:Mk w0 gm hi k o nm nl l AN cN AP cP W) (hu:Upd S W W') (h0: ∀b,b < w0.heap.size-> ¬S b) (h1: ¬S gm) (h2: ∀b,rowB AN=some b-> ¬S b) (h3: ∀b,rowB AP=some b-> ¬S b):
 Mk w0 gm hi k o nm nl l AN cN AP cP W':=by
 have hg:gm < W.heap.size:=Nat.lt_of_lt_of_le h.gh h.hw;refine ⟨h.up.trans (hu.below h.up.size (fun b hb=> ?_)),h.lo,h.gh,Nat.le_trans h.hw hu.size,(hu.cell hg h1).trans h.c0,(hu.cell hg h1).trans h.c1,(hu.cell hg h1).trans h.c2,(hu.cell hg h1).trans h.c3,(hu.cell hg h1).trans h.c4,
  fun j=>(hu.frozen hg h1).trans (h.fz j),Z1j h.rN hu h2,Z1j h.rP hu h3,h.ne⟩
 exact Nat.le_of_not_lt (fun hlt=>h0 b hlt hb)
end
theorem Mk.at_ {w0 W:World} {gm hi n0:Nat} {k:Int} {o nm:List UInt8} {nl:List (List UInt8)} {l:List El} {AN AP:Option Addr} {cN cP:Nat} (h:Mk w0 gm hi k o nm nl l AN cN AP cP W)
 (hk: ∀x∈l,Kept (Free n0 hi AN AP) W x) (ho:o.length<=9223372036854775807) (hnm:nm.length<=9223372036854775807) (hnl: ∀x∈nl,x.length<=9223372036854775807) (hl:nl.length<=1000000) (hm:l.length<=1000000):
 Kept (fun b=>b < n0\/hi<=b) W (⟨k,o,nm,nl,l.map Prod.fst⟩,⟨AN,cN,AP,cP⟩):=by
 intro W' hz hs;have hN:=slice_form h.rN;have hP:=slice_form h.rP;have kept: ∀x∈l,ShAt W' W'.heap.size x.2 x.1:=fun x hx=>hk x hx W' hz (fun b hb hf=>hs b hb (by
  rcases hf with h | h
  {exact Or.inl h}
  · exact Or.inr h.1))
 refine .mk _ _ ((rowB AP).getD 0) 0 (fun i=>(l[i]?.map Prod.snd).getD ⟨none,0,none,0⟩) ⟨ho,hnm,hnl,by show nl.length<=_; omega,by show (l.map Prod.fst).length<=_; rw[List.length_map]; omega, ?_, ?_, ?_, ?_⟩ ?_ ?_ ?_ ?_
 {show nl.length<=cN;rcases hN with ⟨_,h1,h2⟩ | ⟨_,_,h1⟩ <;> omega}
 {show (l.map Prod.fst).length<=cP;rw[List.length_map];rcases hP with ⟨_,h1,h2⟩ | ⟨_,_,h1⟩ <;> omega}
 {intro (e:AN=none);show cN=0;rcases hN with ⟨_,h1,h2⟩ | ⟨g,h1,_⟩
  {exact h2}
  {rw[e] at h1; cases h1}}
 {intro (e:AP=none);show cP=0;rcases hP with ⟨_,h1,h2⟩ | ⟨g,h1,_⟩
  {exact h2}
  {rw[e] at h1; cases h1}}
 {show Strs W' W'.heap.size AN (strs nl);rcases hN with ⟨_,h1,_⟩ | ⟨g,rfl,_⟩
  {exact Or.inl (by unfold strs; simp[h1])}
  {have hg:=Z0u h.rN g rfl;refine Or.inr ⟨g,0,rfl,Nat.lt_of_lt_of_le hg.2 hz,fun i hi=> ?_⟩;have hi':i < nl.length:=by simpa[strs] using hi
   have e1:W'.cell? ⟨g,i,none⟩=W.cell? ⟨g,i,none⟩:=World.cell?_of_block (w:=W) (hs g hg.2 (Or.inr hg.1));rw[Nat.zero_add,e1,Z4C h.rN (u:= .string ⟨(nl[i]'hi').toArray⟩) (by unfold namesE; rw[List.getElem?_map,List.getElem?_eq_getElem hi']; rfl)];simp[strs]}}
 {show (l.map Prod.fst).length=0\/_;rcases hP with ⟨_,h1,_⟩ | ⟨g,rfl,_⟩
  {exact Or.inl (by rw[List.length_map]; exact h1)}
  {exact Or.inr ⟨rfl,Nat.lt_of_lt_of_le (Z0u h.rP g rfl).2 hz⟩}}
 {intro i hi;have hi':i < l.length:=by simpa using hi
  rcases hP with ⟨_,h1,_⟩ | ⟨g,rfl,_⟩
  {omega}
  {have hg:=Z0u h.rP g rfl;have e1: ∀j,W'.cell? ⟨g,j,none⟩=W.cell? ⟨g,j,none⟩:=fun j=>World.cell?_of_block (w:=W) (hs g hg.2 (Or.inr hg.1));have e2: ∀c v,c < 5->(cells5 (l[i]'hi'))[c]? =some v->W'.cell? ⟨g,0+i * 5+c,none⟩=some v:=fun c v hc hv=>by
    rw[Nat.zero_add,e1];exact Z4C h.rP (by rw[cellsE_at hi' hc]; exact hv)
   simp only[List.getElem_map];rw[List.getElem?_eq_getElem hi'];exact ⟨e2 0 _ (by omega) rfl,e2 1 _ (by omega) rfl,e2 2 _ (by omega) rfl,e2 3 _ (by omega) rfl,e2 4 _ (by omega) rfl⟩}}
 {intro i hi;have hi':i < l.length:=by simpa using hi
  simp only[List.getElem_map];rw[List.getElem?_eq_getElem hi'];exact kept _ (List.getElem_mem _)}
end SubM
end Go.Proofs.YtchklpedlbkgaaaDoor
namespace Go.Proofs.YtchklpedlbkgaaaDoor
open Go.RowKit
def Shutd (ops:Array Oper) (d:Nat->Bool):Prop:= ∀k o,ops[k]? =some o->d k=true-> ∀m,waits o m=true->d m=true
section
variable {P : Program} {ops : Array Oper} {Q : Exit -> Act -> World -> Prop} {d : Nat -> Bool}
theorem Z5F (i:Nat) {k:Nat} (h:d k=true):also d i k=true:=by
 unfold also;cases Nat.beq k i
 {exact h}
 {rfl}
theorem Shutd.also (h:Shutd ops d) {i:Nat} {o:Oper} (ho:ops[i]? =some o) (hw: ∀j,waits o j=true->d j=true):Shutd ops (also d i):=by
 intro k o2 hk hd m hm;by_cases e:k=i
 {subst e;rw[ho] at hk;obtain rfl:=Option.some.inj hk;exact Z5F _ (hw m hm)}
 {have:Go.Proofs.YtchklpedlbkgaaaDoor.also d i k=d k:=by
   unfold Go.Proofs.YtchklpedlbkgaaaDoor.also;have:Nat.beq k i=false:=by cases hb:Nat.beq k i <;> first | rfl | exact absurd (Nat.eq_of_beq_eq_true hb) e
   rw[this]; rfl
  rw[this] at hd;exact Z5F _ (h k o2 hk hd m hm)}
theorem StepsInv.cons2 {A: (Nat->Value)->Act} {I: (Nat->Bool)->(Nat->Value)->World->Prop} {i:Nat} {rs:List Nat} (o:Oper) (ho:ops[i]? =some o)
 (h: ∀(d:Nat->Bool) (u:Nat->Value) (W:World) (K':Act->World->Prop),Shutd ops d->I d u W->d i=false->(∀j,waits o j=true->d j=true)->
  Shut (∀v w',I (also d i) (upd u i v) w'->K' (A (upd u i v)) w')->
  if Region.wanted o (yielded ops (A u).tmps)=true then Oper.wp P o (A u) W K' Q else K' ((A u).put o.dst undef) W)
 (hs:StepsInv P ops Q A (fun d u W=>Shutd ops d/\I d u W) rs):StepsInv P ops Q A (fun d u W=>Shutd ops d/\I d u W) (i::rs):=
 StepsInv.cons o ho (fun d u W K' hI hd hw hK=>h d u W K' hI.1 hI.2 hd hw (fun v w' hv=>hK _ _ ⟨hI.1.also ho hw,hv⟩)) hs
theorem Z49 {id:Nat} {w:World} {rs:List Nat} (A: (Nat->Value)->Act) (u0:Nat->Value) (I: (Nat->Bool)->(Nat->Value)->World->Prop) (hm:P.follows .mixedOrders=true) (hl:lowAfter ops=true)
 (hrs:List.range ops.size=rs) (hI:I (fun _=>false) u0 w.drew) (hstep:StepsInv P ops Q A (fun d u W=>Shutd ops d/\I d u W) rs)
 (hdone: ∀d u W,I d u W->(∀j,j < ops.size->d j=true)->Q .normal (A u) W):
 (Code.region id ops true).wp P Q (A u0) w:=
 Z30 A u0 (fun d u W=>Shutd ops d/\I d u W) hm hl hrs ⟨fun _ _ _ h=>(by cases h),hI⟩ hstep (fun d u W h=>hdone d u W h.2)
end
end Go.Proofs.YtchklpedlbkgaaaDoor
namespace Go.Proofs.YtchklpedlbkgaaaDoor
open Go.RowKit Shp Sub
namespace SubM
theorem Z8a {P:Program} {e:TypeId} {z:Value} {size bytes:Nat} (h: (P.info? e).map (fun i=>(i.zero,i.size,i.bytes))=some (some z,size,bytes)): ∃i,P.info? e=some i/\i.zero=some z/\i.size=size/\i.bytes=bytes:=by
 cases hi:P.info? e with
 | none=>rw[hi] at h; cases h
 | some i=>
  rw[hi] at h;simp only[Option.map_some,Option.some.injEq,Prod.mk.injEq] at h;exact ⟨i,rfl,h.1,h.2.1,h.2.2⟩
theorem Z08 (d:Nat->Bool) {i j:Nat} (h:j≠i):also d i j=d j:=by
 unfold also;have:Nat.beq j i=false:=by cases hb:Nat.beq j i <;> first | rfl | exact absurd (Nat.eq_of_beq_eq_true hb) h
 rw[this]; rfl
theorem Z0t (d:Nat->Bool) (i:Nat):also d i i=true:=by unfold also; rw[Nat.beq_refl]; rfl
structure PX where
 W0:World
 gm:Nat
 hi:Nat
 pb:Nat
 AN:Option Addr
 cN:Nat
 AP:Option Addr
 cP:Nat
 nl:List (List UInt8)
 l:List El
 nm:List UInt8
 x:El
namespace PX
variable (X : PX)
def val (j:Nat):Option Value:=match j with
 | 0 | 1 | 2 | 3 | 9 | 10 | 16 | 19=>some (.pointer (some ⟨X.gm,0,none⟩))
 | 4 | 17=>some (.pointer (some ⟨X.gm,3,none⟩))
 | 11 | 20=>some (.pointer (some ⟨X.gm,4,none⟩))
 | 5=>some (.slice X.AN X.nl.length X.cN)
 | 6=>some (.string ⟨X.nm.toArray⟩)
 | 12=>some (.slice X.AP X.l.length X.cP)
 | 13=>some (sv X.x.1 X.x.2)
 | _=>none
def set (b:Nat):Prop:=b=X.gm\/rowB X.AN=some b\/rowB X.AP=some b
structure Good:Prop where
 gh:X.gm < X.hi
 hw:X.hi<=X.pb
 pw:X.pb < X.W0.heap.size
 c3:X.W0.cell? ⟨X.gm,3,none⟩=some (.slice X.AN X.nl.length X.cN)
 c4:X.W0.cell? ⟨X.gm,4,none⟩=some (.slice X.AP X.l.length X.cP)
 fz: ∀j,X.W0.frozen? ⟨X.gm,j,none⟩=false
 rN:X.W0.ownsRow X.hi 9 1 (.slice X.AN X.nl.length X.cN) X.nl.length (namesE X.nl)
 rP:X.W0.ownsRow X.hi 25 5 (.slice X.AP X.l.length X.cP) X.l.length (cellsE X.l)
 ne:rowB X.AN=none\/rowB X.AN≠rowB X.AP
 bn:rowB X.AN≠some X.pb
 bp:rowB X.AP≠some X.pb
 box:Sh5 X.W0 X.pb 0 X.x.1 X.x.2
 ln:X.nl.length<=1000
 ll:X.l.length<=1000
structure PI (d:Nat->Bool) (u:Nat->Value) (W:World):Prop where
 vals: ∀j,d j=true-> ∀v,X.val j=some v->u j=v
 up:Upd X.set X.W0 W
 f7:d 7=true-> ∃z,u 7= .slice (some ⟨z,0,none⟩) 1 1/\X.W0.heap.size<=z/\z < W.heap.size/\W.cell? ⟨z,0,none⟩=some (.string ⟨X.nm.toArray⟩)
 f14:d 14=true-> ∃z,u 14= .slice (some ⟨z,0,none⟩) 1 1/\X.W0.heap.size<=z/\z < W.heap.size/\ ∀(j:Nat) v,(cells5 X.x)[j]? =some v->W.cell? ⟨z,j,none⟩=some v
 n0:d 8=false->W.ownsRow X.hi 9 1 (.slice X.AN X.nl.length X.cN) X.nl.length (namesE X.nl)
 n1:d 8=true-> ∃g c,u 8= .slice (some ⟨g,0,none⟩) (X.nl.length+1) c/\W.ownsRow X.hi 9 1 (.slice (some ⟨g,0,none⟩) (X.nl.length+1) c) (X.nl.length+1) (namesE X.nl++ [.string ⟨X.nm.toArray⟩])/\(rowB X.AN=some g\/X.W0.heap.size<=g)
 p0:d 15=false->W.ownsRow X.hi 25 5 (.slice X.AP X.l.length X.cP) X.l.length (cellsE X.l)
 p1:d 15=true-> ∃g c,u 15= .slice (some ⟨g,0,none⟩) (X.l.length+1) c/\W.ownsRow X.hi 25 5 (.slice (some ⟨g,0,none⟩) (X.l.length+1) c) (X.l.length+1) (cellsE X.l++cells5 X.x)/\(rowB X.AP=some g\/X.W0.heap.size<=g)/\
  ∀g8 n c8,u 8= .slice (some ⟨g8,0,none⟩) n c8->g8≠g
 c3:W.cell? ⟨X.gm,3,none⟩=some (if d 18=true then u 8 else .slice X.AN X.nl.length X.cN)
 c4:W.cell? ⟨X.gm,4,none⟩=some (if d 21=true then u 15 else .slice X.AP X.l.length X.cP)
 cr: ∀j,j < 3->W.cell? ⟨X.gm,j,none⟩=X.W0.cell? ⟨X.gm,j,none⟩
 fz: ∀j,W.frozen? ⟨X.gm,j,none⟩=false
variable {X : PX} {d : Nat -> Bool} {u : Nat -> Value} {W W' : World}
theorem PI.vals' (h:X.PI d u W) {i:Nat} {v:Value} (hv: ∀v',X.val i=some v'->v=v'): ∀j,also d i j=true-> ∀v',X.val j=some v'->upd u i v j=v':=fun j hj v' hv'=>by
 by_cases hij:j=i
 {subst hij; rw[Z06]; exact hv v' hv'}
 {rw[Z08 d hij] at hj; rw[Z01 u v hij]; exact h.vals j hj v' hv'}
theorem Good.start (h:X.Good):X.PI (fun _=>false) u X.W0.drew:=
 ⟨nofun,(Upd.refl _ _).drew,nofun,nofun,fun _=>h.rN,nofun,fun _=>h.rP,nofun,h.c3,h.c4,fun _ _=>rfl,h.fz⟩
theorem PI.pure (h:X.PI d u W) {i:Nat} (hi:i≠7/\i≠8/\i≠14/\i≠15/\i≠18/\i≠21) {v:Value} (hv: ∀v',X.val i=some v'->v=v'):X.PI (also d i) (upd u i v) W:=by
 have k: ∀j,j=7\/j=8\/j=14\/j=15\/j=18\/j=21->also d i j=d j/\upd u i v j=u j:=fun j hj=>⟨Z08 d (by omega),Z01 u v (by omega)⟩;refine ⟨h.vals' hv,h.up, ?_, ?_, ?_, ?_, ?_, ?_, ?_, ?_,h.cr,h.fz⟩
 {rw[(k 7 (by omega)).1,(k 7 (by omega)).2]; exact h.f7}
 {rw[(k 14 (by omega)).1,(k 14 (by omega)).2]; exact h.f14}
 {rw[(k 8 (by omega)).1]; exact h.n0}
 {rw[(k 8 (by omega)).1,(k 8 (by omega)).2]; exact h.n1}
 {rw[(k 15 (by omega)).1]; exact h.p0}
 {rw[(k 15 (by omega)).1,(k 15 (by omega)).2,(k 8 (by omega)).2]; exact h.p1}
 {rw[(k 18 (by omega)).1,(k 8 (by omega)).2]; exact h.c3}
 {rw[(k 21 (by omega)).1,(k 15 (by omega)).2]; exact h.c4}
theorem PI.box (h:X.PI d u W) (hX:X.Good):Sh5 W X.pb 0 X.x.1 X.x.2:=
 hX.box.of (fun k=>h.up.cell hX.pw (fun hs=>by
  rcases hs with hs | hs | hs
  {have:=hX.gh; have:=hX.hw; omega}
  {exact hX.bn hs}
  · exact hX.bp hs))
end PX
end SubM
end Go.Proofs.YtchklpedlbkgaaaDoor
namespace Go.Proofs.YtchklpedlbkgaaaDoor
open Go.RowKit Shp Sub
namespace SubM
theorem Z0a {ops:Array Oper} {d:Nat->Bool} (hs:Shutd ops d) {k m:Nat} {o:Oper} (ho:ops[k]? =some o) (hw:waits o m=true) (hm:d m=false):d k=false:=by
 cases h:d k with
 | false=>rfl
 | true=>rw[hs k o ho h m hw] at hm; cases hm
def PutOk (W:World) (gm:Nat) (AN AP:Option Addr) (AN' AP':Option Addr) (W':World):Prop:=
 Upd (fun b=>b=gm\/rowB AN=some b\/rowB AP=some b) W W'/\(∀b,rowB AN'=some b->rowB AN=some b\/W.heap.size<=b)/\(∀b,rowB AP'=some b->rowB AP=some b\/W.heap.size<=b)
end SubM
end Go.Proofs.YtchklpedlbkgaaaDoor
namespace Go.Proofs.YtchklpedlbkgaaaDoor
open Go.RowKit Shp Sub
namespace SubM
structure P2 (n0 N:Nat) (a b:Sh) (pa pb:Ptr) (w:World) (K:Bool->Nat->World->Prop) (k:Nat) (W:World):Prop where
 ba:Box5 W N a pa
 bb:Box5 W (N+1) b pb
 up:Upd (fun x=>n0<=x) w W
 sz:N+2<=W.heap.size
 k:K true k W
section
variable {n0 : Nat} {a b : Sh} {pa pb : Ptr} {w : World} {K : Bool -> Nat -> World -> Prop} {k : Nat} {W W' : World} {fn : Nat} {cs : List Value} {step : Nat -> Bool}
theorem P2.upd (h:P2 n0 w.heap.size a b pa pb w K k W) (hn:n0<=w.heap.size) (hu:Upd (fun x=>n0<=x/\ ¬(w.heap.size<=x/\x < w.heap.size+2)) W W') {k':Nat} (hk:K true k' W'):P2 n0 w.heap.size a b pa pb w K k' W':=
 ⟨Z3q h.ba hu (by omega),Z3q h.bb hu (by omega),h.up.trans (hu.mono (fun x _ hx=>hx.1)),Nat.le_trans h.sz hu.size,hk⟩
end
end SubM
end Go.Proofs.YtchklpedlbkgaaaDoor
namespace Sub
section
open Shp Go.Proofs.YtchklpedlbkgaaaDoor
def stepNarrow (g:Sh->Sh->Bool) (c:Cl):Bool:=
 match c with
 | (_,_,none)=>true
 | (_,some p,some q)=>g p q
 | (_,none,some _)=>false
def stepWide (g:Sh->Sh->Bool) (c:Cl):Bool:=
 match c with
 | (_,none,_)=>true
 | (_,some p,some q)=>g p q
 | (_,some _,none)=>false
def placesAll (g:Sh->Sh->Bool):List Sh->List Sh->Bool
 | [],[]=>true
 | a::us,b::vs=>(if us.isEmpty then g a b else g b a)&&placesAll g us vs
 | [],_::_=>false
 | _::_,[]=>false
def bw:Nat->Sh->Sh->Bool
 | 0,_,_=>false
 | f+1,a,b=>
  if a.kind≠b.kind then false
  else if a.kind=6 then (calls a b).all (stepNarrow (bw f))
  else if a.kind=7 then (calls a b).all (stepWide (bw f))
  else decide (a.of_=b.of_/\a.name=b.name)&&placesAll (bw f) a.parts b.parts
def whole (o:Option Sh):Option Sh:=o.bind (fun j=>if check j=0 then some (sorted j) else none)
def J (up:Bool) (a b:Sh):Option Sh:=if check a=0/\check b=0 then whole (bound 40 up a b) else none
def below (a b:Sh):Bool:=decide (check a=0)&&decide (check b=0)&&bw 40 a b
end
end Sub
namespace Go.Proofs.YtchklpedlbkgaaaDoor
open Go.RowKit Shp Sub
namespace SubM
structure Two (f:Nat) (a b:Sh):Prop where
 ra:right a=true
 rb:right b=true
 da:deep a<=f
 db:deep b<=f
 sa:size a<=400
 sb:size b<=400
theorem Two.part {f:Nat} {a b p q:Sh} (h:Two (f+1) a b) (hp:p∈a.parts) (hq:q∈b.parts):Two f p q:=by
 obtain ⟨ra,rb,da,db,sa,sb⟩:=h;have h1:=Z0F hp;have h2:=Z0F hq;have h3:=Z1l hp;have h4:=Z1l hq;rw[Z0l] at da db;rw[size_eq] at sa sb;exact ⟨Z05 ra hp,Z05 rb hq,by omega,by omega,by omega,by omega⟩
theorem Two.swap {f:Nat} {a b:Sh} (h:Two f a b):Two f b a:=⟨h.rb,h.ra,h.db,h.da,h.sb,h.sa⟩
end SubM
end Go.Proofs.YtchklpedlbkgaaaDoor
namespace Go.Proofs.YtchklpedlbkgaaaDoor
open Go.RowKit Shp Sub
namespace SubM
namespace RX
def lay (W:World) (g:Nat) (t:Sh) (q:Ptr):World:=
 ((((W.setCell ⟨g,0,none⟩ (.int .i64 t.kind)).setCell ⟨g,1,none⟩ (.string ⟨t.of_.toArray⟩)).setCell ⟨g,2,none⟩ (.string ⟨t.name.toArray⟩)).setCell ⟨g,3,none⟩ (.slice q.A t.names.length q.c)).setCell ⟨g,4,none⟩ (.slice q.P t.parts.length q.d)
section
variable (W : World) (g : Nat) (t : Sh) (q : Ptr)
include W g t q
theorem lay_upd:Upd (fun b=>b=g) W (lay W g t q):=
 Upd.set (Upd.set (Upd.set (Upd.set (Upd.set (Upd.refl (fun b=>b=g) W) ⟨g,0,none⟩ (fun _=>rfl) _) ⟨g,1,none⟩ (fun _=>rfl) _) ⟨g,2,none⟩ (fun _=>rfl) _) ⟨g,3,none⟩ (fun _=>rfl) _) ⟨g,4,none⟩ (fun _=>rfl) _
theorem lay_size: (lay W g t q).heap.size=W.heap.size:=by simp[lay,World.setCell]
theorem lay_fz (j:Nat): (lay W g t q).frozen? ⟨g,j,none⟩=W.frozen? ⟨g,j,none⟩:=by
 unfold lay; rw[World.frozen?_setCell,World.frozen?_setCell,World.frozen?_setCell,World.frozen?_setCell,World.frozen?_setCell]
end
theorem soc {W:World} {b x y:Nat} {v:Value} (h:x≠y): (W.setCell ⟨b,x,none⟩ v).cell? ⟨b,y,none⟩=W.cell? ⟨b,y,none⟩:=World.cell?_setCell_other _ _ _ _ (fun e=>by have:=congrArg Addr.off e; simp at this; omega)
theorem lay_at {W:World} {g:Nat} (t:Sh) (q:Ptr) (h: ∀j,j < 5-> ∃v,W.cell? ⟨g,j,none⟩=some v):Sh5 (lay W g t q) g 0 t q:=by
 obtain ⟨v0,h0⟩:=h 0 (by omega);obtain ⟨v1,h1⟩:=h 1 (by omega);obtain ⟨v2,h2⟩:=h 2 (by omega);obtain ⟨v3,h3⟩:=h 3 (by omega);obtain ⟨v4,h4⟩:=h 4 (by omega);unfold lay Sh5;simp only[Nat.zero_add];refine ⟨?_, ?_, ?_, ?_, ?_⟩
 {rw[soc (by omega),soc (by omega),soc (by omega),soc (by omega)]; exact World.cell?_setCell_same _ _ _ h0}
 {rw[soc (by omega),soc (by omega),soc (by omega)]; exact World.cell?_setCell_same _ _ _ (by rw[soc (by omega)]; exact h1)}
 {rw[soc (by omega),soc (by omega)]; exact World.cell?_setCell_same _ _ _ (by rw[soc (by omega),soc (by omega)]; exact h2)}
 {rw[soc (by omega)]; exact World.cell?_setCell_same _ _ _ (by rw[soc (by omega),soc (by omega),soc (by omega)]; exact h3)}
 {exact World.cell?_setCell_same _ _ _ (by rw[soc (by omega),soc (by omega),soc (by omega),soc (by omega)]; exact h4)}
end RX
theorem ZbZ {t' t:Sh} {q' q:Ptr} (h:sv t' q'=sv t q):t'.kind=t.kind/\t'.of_=t.of_/\t'.name=t.name/\q'.A=q.A/\t'.names.length=t.names.length/\q'.c=q.c/\q'.P=q.P/\t'.parts.length=t.parts.length/\q'.d=q.d:=by
 simp[sv] at h;exact ⟨h.1,h.2.1,h.2.2.1,h.2.2.2.1.1,h.2.2.2.1.2.1,h.2.2.2.1.2.2,h.2.2.2.2.1,h.2.2.2.2.2.1,h.2.2.2.2.2.2⟩
theorem Kept.move {S S' T:Nat->Prop} {W W':World} {x:El} (h:Kept S W x) (hu:Upd T W W') (hd: ∀b,b < W.heap.size->S b-> ¬T b/\S' b):Kept S' W' x:=fun W2 h1 h2=>
 h W2 (Nat.le_trans hu.size h1) (fun b hb hs=>(h2 b (Nat.lt_of_lt_of_le hb hu.size) (hd b hb hs).2).trans (hu.block b hb (hd b hb hs).1))
structure KNs (w0:World) (n0 gm hi pf:Nat) (fv:Value) (k:Int) (ok:Bool) (L:List Fld) (l:List El) (AN:Option Addr) (cN:Nat) (AP:Option Addr) (cP:Nat) (W:World):Prop where
 mm:Mk w0 gm hi k [] [] (L.map Prod.fst) l AN cN AP cP W
 eq:l.map Prod.fst=L.map Prod.snd
 kp:ok=true-> ∀x∈l,Kept (Free n0 hi AN AP) W x
 fc:W.cell? ⟨pf,0,none⟩=some fv
def KN (w0:World) (n0 gm hi pf:Nat) (fv:Value) (k:Int) (ok:Bool) (L:List Fld) (W:World):Prop:= ∃l AN cN AP cP,KNs w0 n0 gm hi pf fv k ok L l AN cN AP cP W
section
variable {w0 W W' : World} {n0 gm hi pf : Nat} {fv : Value} {k : Int} {ok : Bool} {L : List Fld} {l : List El} {AN AP : Option Addr} {cN cP : Nat}
section
variable (h : KNs w0 n0 gm hi pf fv k ok L l AN cN AP cP W)
include h
theorem KNs.len:l.length=L.length:=by have:=congrArg List.length h.eq; simpa using this
theorem KNs.put (hn:n0<=gm) (hpf:pf < hi) (hpg:pf≠gm) {nm:List UInt8} {t:Sh} {q:Ptr} {ok':Bool} (hok:ok'=true->ok=true) (hkp:ok'=true->Kept (Free n0 hi AN AP) W (t,q))
 {AN' AP':Option Addr} {cN' cP':Nat} (hm:Mk w0 gm hi k [] [] (L.map Prod.fst++ [nm]) (l++ [(t,q)]) AN' cN' AP' cP' W') (hp:PutOk W gm AN AP AN' AP' W'):KN w0 n0 gm hi pf fv k ok' (L++ [(nm,t)]) W':=by
 obtain ⟨hu,h1,h2⟩:=hp;have hg:=h.mm.gh;have key: ∀x,Kept (Free n0 hi AN AP) W x->Kept (Free n0 hi AN' AP') W' x:=fun x hx=>hx.move hu (fun b hb hf=>by
  refine ⟨fun ht=> ?_, ?_⟩
  {rcases hf with hf | ⟨hf,f1,f2⟩
   {rcases ht with ht | ht | ht
    {omega}
    {have:=(Z0u h.mm.rN b ht).1; omega}
    {have:=(Z0u h.mm.rP b ht).1; omega}}
   {rcases ht with ht | ht | ht
    {omega}
    {exact f1 ht}
    {exact f2 ht}}}
  · rcases hf with hf | ⟨hf,f1,f2⟩
    {exact Or.inl hf}
    · exact Or.inr ⟨hf,fun e=>(h1 b e).elim f1 (fun h=>by omega),fun e=>(h2 b e).elim f2 (fun h=>by omega)⟩)
 refine ⟨l++ [(t,q)],AN',cN',AP',cP',⟨by rw[List.map_append]; exact hm,by rw[List.map_append,List.map_append,h.eq]; rfl,fun ho x hx=> ?_, ?_⟩⟩
 {rcases List.mem_append.1 hx with hx | hx
  {exact key x (h.kp (hok ho) x hx)}
  {rw[List.mem_singleton.1 hx]; exact key _ (hkp ho)}}
 {refine (hu.cell (Nat.lt_of_lt_of_le hpf h.mm.hw) (fun ht=> ?_)).trans h.fc;rcases ht with ht | ht | ht
  {exact hpg ht}
  {have:=(Z0u h.mm.rN pf ht).1; omega}
  {have:=(Z0u h.mm.rP pf ht).1; omega}}
end
end
abbrev noneQ12:Ptr:=⟨none,0,none,0⟩
structure St0 (w0:World) (gm pf:Nat) (fv:Value) (k:Int) (W:World):Prop where
 up:Below w0.heap.size w0 W
 lo:w0.heap.size<=gm
 gw:gm < W.heap.size
 c5:Sh5 W gm 0 ⟨k,[],[],[],[]⟩ noneQ12
 fz: ∀j,W.frozen? ⟨gm,j,none⟩=false
 pw:pf < W.heap.size
 fc:W.cell? ⟨pf,0,none⟩=some fv
section
variable {w0 W W' : World} {n0 gm hi pf : Nat} {fv : Value} {k : Int}
theorem St0.fin (h:St0 w0 gm pf fv k W) (S:Nat->Prop):Sh5 W gm 0 (made k []) noneQ12/\Kept S W (made k [],noneQ12):=
 ⟨h.c5,fun W' _ _=> .mk _ _ 0 0 (fun _=>noneQ12) ⟨by simp[made],by simp[made],by simp[made],by simp[made],by simp[made],by simp[made],by simp[made],fun _=>rfl,fun _=>rfl⟩ (Or.inl rfl) (Or.inl rfl) (fun i hi=>by simp[made] at hi) (fun i hi=>by simp[made] at hi)⟩
section
variable {ok : Bool} {L : List Fld} (h : KN w0 n0 gm hi pf fv k ok L W)
include ok L h
theorem KN.fin: ∃q,Sh5 W gm 0 (made k L) q/\(ok=true->(∀x∈L.map Prod.fst,x.length<=1000)->L.length<=1000->Kept (fun b=>b < n0\/hi<=b) W (made k L,q)):=by
 obtain ⟨l,AN,cN,AP,cP,h⟩:=h;have he: (⟨k,[],[],L.map Prod.fst,l.map Prod.fst⟩:Sh)=made k L:=by rw[h.eq]; rfl
 refine ⟨⟨AN,cN,AP,cP⟩, ?_,fun ho hx hl=> ?_⟩
 {have hlen:=h.len;refine ⟨h.mm.c0,h.mm.c1,h.mm.c2,h.mm.c3, ?_⟩;have:=h.mm.c4;simp only[made,List.length_map];rw[hlen] at this;exact this}
 {have hlen:=h.len;have:=h.mm.at_ (n0:=n0) (h.kp ho) (by simp) (by simp) (fun x hm=>by have:=hx x hm; omega) (by rw[List.length_map]; omega) (by omega);rw[he] at this;exact this}
theorem KN.below:Below w0.heap.size w0 W/\gm < W.heap.size/\hi<=W.heap.size:=by
 obtain ⟨l,AN,cN,AP,cP,h⟩:=h;exact ⟨h.mm.up,Nat.lt_of_lt_of_le h.mm.gh h.mm.hw,h.mm.hw⟩
end
end
theorem Two.ln {f:Nat} {a b:Sh} (h:Two f a b) (A:Rec a):a.names.length<=400:=by rw[A.l]; have:=h.sa; have:=Z0L a.parts; rw[size_eq] at *; omega
structure Rc (rc:Nat) (W:World):Prop where
 lt:rc < W.heap.size
 ex: ∀j,j < 5-> ∃v,W.cell? ⟨rc,j,none⟩=some v
 fz: ∀j,W.frozen? ⟨rc,j,none⟩=false
theorem Rc.upd {T:Nat->Prop} {rc:Nat} {W W':World} (h:Rc rc W) (hu:Upd T W W') (hT: ¬T rc):Rc rc W':=
 ⟨Nat.lt_of_lt_of_le h.lt hu.size,fun j hj=>by
  obtain ⟨v,hv⟩:=h.ex j hj;exact ⟨v,(hu.cell h.lt hT).trans hv⟩,fun j=>(hu.frozen h.lt hT).trans (h.fz j)⟩
end SubM
end Go.Proofs.YtchklpedlbkgaaaDoor
namespace Go.Proofs.YtchklpedlbkgaaaDoor
open Go.RowKit
section
variable {P : Program} {ops : Array Oper} {Q : Exit -> Act -> World -> Prop}
theorem Z2R {d:Nat->Bool} {i j:Nat} (h:j≠i):also d i j=d j:=by
 unfold also;have:Nat.beq j i=false:=by cases hb:Nat.beq j i <;> first | rfl | exact absurd (Nat.eq_of_beq_eq_true hb) h
 rw[this]; rfl
end
end Go.Proofs.YtchklpedlbkgaaaDoor
namespace Go.Proofs.YtchklpedlbkgaaaDoor
namespace Expd
open Shp
mutual
def mB (o n:List UInt8):Sh->Bool
 | ⟨k,o',n',_,ps⟩=>mBs o n ps||(decide (k=9)&&decide (o'=o)&&decide (n'=n))
def mBs (o n:List UInt8):List Sh->Bool
 | []=>false
 | p::ps=>mB o n p||mBs o n ps
end
theorem mB_eq (o n:List UInt8) (t:Sh):mB o n t=(mBs o n t.parts||(decide (t.kind=9)&&decide (t.of_=o)&&decide (t.name=n))):=by
 cases t; rw[mB]
theorem mBs_iff {o n:List UInt8} {l:List Sh}:mBs o n l=true ↔ ∃p∈l,mB o n p=true:=by
 induction l with
 | nil=>rw[mBs]; simp
 | cons p l ih=>rw[mBs,Bool.or_eq_true,ih]; simp
theorem mB_keys {o n:List UInt8} (t:Sh):mB o n t=false-> ¬meets o n t:=by
 induction t using Sh.ind with
 | h t ih=>
 intro h hm;rw[mB_eq,Bool.or_eq_false_iff] at h;unfold meets at hm;rw[Z5g] at hm;by_cases hk:t.kind=9
 {rw[if_pos hk] at hm;have h3:=h.2;simp only[List.mem_singleton,Prod.mk.injEq] at hm;rw[decide_eq_true hk,decide_eq_true hm.1.symm,decide_eq_true hm.2.symm] at h3;cases h3}
 {rw[if_neg hk] at hm;obtain ⟨p,hp,hm⟩:=List.mem_flatMap.1 hm;refine ih p hp ?_ hm;cases e:mB o n p with
  | false=>rfl
  | true=>rw[mBs_iff.2 ⟨p,hp,e⟩] at h; cases h.1}
end Expd
open Go.RowKit Shp Sub
open Expd (Bd mB mBs)
namespace SubM
structure MtI (W0:World) (tk:Nat->Value->Prop) (d:Nat->Bool) (u:Nat->Value) (W:World):Prop where
 up:Below W0.heap.size W0 W
 vals: ∀j,d j=true->tk j (u j)
theorem MtI.start {W0:World} {tk:Nat->Value->Prop} {u:Nat->Value}:MtI W0 tk (fun _=>false) u W0.drew:=⟨Y2.drew,nofun⟩
theorem MtI.step {W0 W W':World} {tk:Nat->Value->Prop} {d:Nat->Bool} {u:Nat->Value} (h:MtI W0 tk d u W) {i:Nat} {v:Value} (hv:tk i v) (hb:Below W.heap.size W W'):MtI W0 tk (also d i) (upd u i v) W':=
 ⟨Z02 h.up hb,fun j hj=>by
  by_cases e:j=i
  {subst e; rw[Z06]; exact hv}
  · rw[Z01 u v e]; rw[Z2R e] at hj; exact h.vals j hj⟩
def mtT (v0 v1 v2 v3 v4 v5 v6:Value):Nat->Value->Prop
 | 0,v=>v=v0
 | 1,v=>v=v1
 | 2,v=>v=v2
 | 3,v=>v=v3
 | 4,v=>v=v4
 | 5,v=>v=v5
 | 6,v=>v=v6
 | _,_=>True
def MtOk (f:Nat):Prop:= ∀(t:Sh) (q:Ptr) (b:Bd) (qb:Ptr) (w:World),deep t<=f->ShAt w w.heap.size q t->
 Y9 20 #[.agg (Y8 t q),.agg #[.string ⟨b.of_.toArray⟩,.string ⟨b.name.toArray⟩,.int .i64 b.sh.kind,.string ⟨b.sh.of_.toArray⟩,.string ⟨b.sh.name.toArray⟩,.slice qb.A b.sh.names.length qb.c,.slice qb.P b.sh.parts.length qb.d]] w (.bool (mB b.of_ b.name t))
theorem Z9k {f:Nat} (hI:MtOk f) (t:Sh) (q:Ptr) (b:Bd) (qb:Ptr) (w:World) (hd:deep t<=f+1) (hq:ShAt w w.heap.size q t):
 Y9 20 #[.agg (Y8 t q),.agg #[.string ⟨b.of_.toArray⟩,.string ⟨b.name.toArray⟩,.int .i64 b.sh.kind,.string ⟨b.sh.of_.toArray⟩,.string ⟨b.sh.name.toArray⟩,.slice qb.A b.sh.names.length qb.c,.slice qb.P b.sh.parts.length qb.d]] w (.bool (mB b.of_ b.name t)):=by
 have hb1:=Z00 w (.cells (Y8 t q) 25);obtain ⟨w1,hw1⟩: ∃w1,w1=w.alloc (.cells (Y8 t q) 25):=⟨_,rfl⟩;have hs1:w1.heap.size=w.heap.size+1:=by rw[hw1]; simp
 have hb2:=Z00 w1 (.cells #[.string ⟨b.of_.toArray⟩,.string ⟨b.name.toArray⟩,.int .i64 b.sh.kind,.string ⟨b.sh.of_.toArray⟩,.string ⟨b.sh.name.toArray⟩,.slice qb.A b.sh.names.length qb.c,.slice qb.P b.sh.parts.length qb.d] 54);obtain ⟨w2,hw2⟩: ∃w2,w2=w1.alloc (.cells #[.string ⟨b.of_.toArray⟩,.string ⟨b.name.toArray⟩,.int .i64 b.sh.kind,.string ⟨b.sh.of_.toArray⟩,.string ⟨b.sh.name.toArray⟩,.slice qb.A b.sh.names.length qb.c,.slice qb.P b.sh.parts.length qb.d] 54):=⟨_,rfl⟩;rw[<-hw1] at hb1;rw[<-hw2] at hb2;have hbw:=Z02 hb1 hb2;have hB1:Box5 w1 w.heap.size t q:=by rw[hw1]; exact Z07 w t q
 have hB12:=hB1.next hb2;have hB2: (w2.cell? ⟨w.heap.size+1,0,none⟩=some (.string ⟨b.of_.toArray⟩)/\w2.cell? ⟨w.heap.size+1,1,none⟩=some (.string ⟨b.name.toArray⟩)/\w2.cell? ⟨w.heap.size+1,2,none⟩=some (.int .i64 b.sh.kind)/\w2.cell? ⟨w.heap.size+1,3,none⟩=some (.string ⟨b.sh.of_.toArray⟩)/\w2.cell? ⟨w.heap.size+1,4,none⟩=some (.string ⟨b.sh.name.toArray⟩)/\w2.cell? ⟨w.heap.size+1,5,none⟩=some (.slice qb.A b.sh.names.length qb.c)/\w2.cell? ⟨w.heap.size+1,6,none⟩=some (.slice qb.P b.sh.parts.length qb.d))/\w.heap.size+1 < w2.heap.size:=by
  rw[<-hs1,hw2]; refine ⟨⟨?_, ?_, ?_, ?_, ?_, ?_, ?_⟩, ?_⟩ <;> simp[go_sem]
 have HX:=Y1 hB12;have HY:=Y1 hB2;have HB:=Y1 hbw;have HM:=Y1 hq.small.m;have HP:=Y1 hq.part;have HI:=Y1 hI;have HD:Hid (∀p∈t.parts,deep p<=f):=Y1 (fun p hp=>by have h1:=Z0F hp; rw[Z0l] at hd; omega);have HE:=Y1 (Expd.mB_eq b.of_ b.name t);have hW: (w.alloc (.cells (Y8 t q) 25)).alloc (.cells #[.string ⟨b.of_.toArray⟩,.string ⟨b.name.toArray⟩,.int .i64 b.sh.kind,.string ⟨b.sh.of_.toArray⟩,.string ⟨b.sh.name.toArray⟩,.slice qb.A b.sh.names.length qb.c,.slice qb.P b.sh.parts.length qb.d] 54)=w2:=by rw[hw2,hw1]
 clear hb1 hb2 hbw hB1 hB12 hB2 hw1 hw2 hq hI hd hs1;go_enter Tryd.func20,Tryd.ntmps20
 go_wp2_with fail
 clear hW
 go_loopw [5] (fun ii wr=> ∃i:Nat,ii= .int .i64 i/\i<=t.parts.length/\Hid (Below w2.heap.size w2 wr/\mBs b.of_ b.name (t.parts.take i)=false)) (fun i _=>t.parts.length - (intOf i).toNat)
 case atStart=>exact ⟨0,rfl,Nat.zero_le _,Y1 ⟨Below.refl _ _,by rw[List.take_zero,mBs]⟩⟩
 case round=>
  obtain ⟨i,rfl,hi,HK⟩:=hrel;have hm:=HM.out;obtain ⟨_,⟨c0,c1,c2,c3,c4⟩,_⟩:=HX.out.next HK.out.1;simp only[Nat.zero_add] at c0 c1 c2 c3 c4;have hyl:=HY.out.2;have hy:=fun k=>HK.out.1.cell (p:=⟨w.heap.size+1,k,none⟩) hyl;obtain ⟨⟨y0,y1,y2,y3,y4,y5,y6⟩,_⟩:=HY.out;rw[<-hy 0] at y0;rw[<-hy 1] at y1;rw[<-hy 2] at y2;rw[<-hy 3] at y3;rw[<-hy 4] at y4;rw[<-hy 5] at y5;rw[<-hy 6] at y6;have HYW:=Y1 (And.intro y0 (And.intro y1 (And.intro y2 (And.intro y3 (And.intro y4 (And.intro y5 y6))))));clear hy;by_cases hlt:i < t.parts.length
  {have hi1: (i:Int) < (t.parts.length:Int):=by omega
   rcases HP.out with h0 | ⟨g,off,qs,hqP,hg,hc,hr⟩
   {omega}
   have hbw:Below w.heap.size w wr:=HB.out.trans (HK.out.1.mono HB.out.size);obtain ⟨x,hx⟩: ∃x,x=t.parts[i]'hlt:=⟨_,rfl⟩;obtain ⟨qx,hqx⟩: ∃z,z=qs i:=⟨_,rfl⟩;have hx5:=(hc i hlt).keep hg hbw;have hat:=(hr i hlt).next hbw;rw[<-hx, <-hqx] at hx5 hat;have hxm:x∈t.parts:=by rw[hx]; exact List.getElem_mem _
   have HX5:=Y1 hx5;have HAT:=Y1 hat;have HXW:=Y1 (HX.out.next HK.out.1);have HQP:=Y1 hqP;have HGW:Hid (g < wr.heap.size/\w.heap.size+1 < wr.heap.size):=Y1 ⟨Nat.lt_of_lt_of_le hg hbw.size,Nat.lt_of_lt_of_le hyl HK.out.1.size⟩;have HC:Hid (∀W,Below wr.heap.size wr W->Y9 20 #[.agg (Y8 x qx),.agg #[.string ⟨b.of_.toArray⟩,.string ⟨b.name.toArray⟩,.int .i64 b.sh.kind,.string ⟨b.sh.of_.toArray⟩,.string ⟨b.sh.name.toArray⟩,.slice qb.A b.sh.names.length qb.c,.slice qb.P b.sh.parts.length qb.d]] W (.bool (mB b.of_ b.name x))):=Y1 (fun W h=>HI.out x qx b qb W (HD.out x hxm) (HAT.out.next h));have HTK:Hid (mBs b.of_ b.name (t.parts.take (i+1))=(mBs b.of_ b.name (t.parts.take i)||mB b.of_ b.name x)):=Y1 (by
    rw[List.take_succ_eq_append_getElem hlt, <-hx];cases e:mBs b.of_ b.name (t.parts.take i)||mB b.of_ b.name x with
    | true=>
     rcases Bool.or_eq_true_iff.1 e with h | h
     {obtain ⟨p,hp,h⟩:=Expd.mBs_iff.1 h;exact Expd.mBs_iff.2 ⟨p,List.mem_append_left _ hp,h⟩}
     {exact Expd.mBs_iff.2 ⟨x,by simp,h⟩}
    | false=>
     cases e2:mBs b.of_ b.name (t.parts.take i++ [x]) with
     | false=>rfl
     | true=>
      obtain ⟨p,hp,h⟩:=Expd.mBs_iff.1 e2;rw[Bool.or_eq_false_iff] at e;rcases List.mem_append.1 hp with hp | hp
      {rw[Expd.mBs_iff.2 ⟨p,hp,h⟩] at e; cases e.1}
      · rw[List.mem_singleton.1 hp,e.2] at h; cases h)
   have HIN:Hid (mB b.of_ b.name x=true->mB b.of_ b.name t=true):=Y1 (fun h=>by rw[HE.out,Expd.mBs_iff.2 ⟨x,hxm,h⟩]; rfl);obtain ⟨r,hr'⟩: ∃r,mB b.of_ b.name x=r:=⟨_,rfl⟩;rw[hr'] at HTK HIN HC;rw[hqP] at c4;obtain ⟨z0,z1,z2,z3,z4⟩:=hx5;clear hx hqx hc hr hat hqP hxm hr' hbw hg hyl
   go_wp2_with fail
   refine Z30 (rs:= [0,1,2,3,4,5,6])
    (fun u'=> { tmps:=#[.agg (Y8 t q),.agg #[.string { data:=b.of_.toArray },.string { data:=b.name.toArray },.int .i64 b.sh.kind,.string { data:=b.sh.of_.toArray },.string { data:=b.sh.name.toArray },.slice qb.A b.sh.names.length qb.c,.slice qb.P b.sh.parts.length qb.d],.pointer (some { block:=w.heap.size,off:=0 }),.pointer (some { block:=w.heap.size+1,off:=0 }),u4,.int .i64 ↑i,.int .i64 ↑i,.pointer (some { block:=w.heap.size,off:=4 }),.slice (some { block:=g,off:=off }) t.parts.length q.d,.int .i64 ↑t.parts.length,.bool true,u11,u12,u' 0,u' 1,u' 2,u' 3,u' 4,u' 5,u' 6,undef,undef,undef,undef,undef,undef,undef,undef,undef,undef,undef,undef,undef,undef,undef,undef,undef],defers:= [] })
    (fun j=>([u13,u14,u15,u16,u17,u18,u19]:List Value).getD j undef) (MtI wr (mtT (.pointer (some ⟨w.heap.size,4,none⟩)) (.slice (some ⟨g,off,none⟩) t.parts.length q.d) (.int .i64 (i:Int)) (.pointer (some ⟨g,off+i * 5,none⟩)) (.agg (Y8 x qx)) (.agg #[.string ⟨b.of_.toArray⟩,.string ⟨b.name.toArray⟩,.int .i64 b.sh.kind,.string ⟨b.sh.of_.toArray⟩,.string ⟨b.sh.name.toArray⟩,.slice qb.A b.sh.names.length qb.c,.slice qb.P b.sh.parts.length qb.d]) (.bool r))) (by kernel_rfl) (by kernel_rfl) (by kernel_rfl) MtI.start ?_ ?_
   refine StepsInv.cons _ rfl (fun d u' W K' hI hd hw hK=> ?_) ?_
   {refine Z03 (v:=(.pointer (some ⟨w.heap.size,4,none⟩))) (W':=W) rfl ?_ (hK.out _ _ (hI.step rfl Y2))
    try dsimp only
    go_simp}
   refine StepsInv.cons _ rfl (fun d u' W K' hI hd hw hK=> ?_) ?_
   {have d0:u' 0=(.pointer (some ⟨w.heap.size,4,none⟩)):=hI.vals 0 (hw 0 (by kernel_rfl));obtain ⟨_,⟨c0,c1,c2,c3,c4⟩,_⟩:=HXW.out.next hI.up;simp only[Nat.zero_add] at c0 c1 c2 c3 c4;rw[HQP.out] at c4;refine Z03 (v:=(.slice (some ⟨g,off,none⟩) t.parts.length q.d)) (W':=W) rfl ?_ (hK.out _ _ (hI.step rfl Y2))
    try dsimp only
    go_simp}
   refine StepsInv.cons _ rfl (fun d u' W K' hI hd hw hK=> ?_) ?_
   {refine Z03 (v:=(.int .i64 (i:Int))) (W':=W) rfl ?_ (hK.out _ _ (hI.step rfl Y2))
    try dsimp only
    go_simp}
   refine StepsInv.cons _ rfl (fun d u' W K' hI hd hw hK=> ?_) ?_
   {have d1:u' 1=(.slice (some ⟨g,off,none⟩) t.parts.length q.d):=hI.vals 1 (hw 1 (by kernel_rfl));have d2:u' 2=(.int .i64 (i:Int)):=hI.vals 2 (hw 2 (by kernel_rfl));refine Z03 (v:=(.pointer (some ⟨g,off+i * 5,none⟩))) (W':=W) rfl ?_ (hK.out _ _ (hI.step rfl Y2))
    try dsimp only
    go_simp}
   refine StepsInv.cons _ rfl (fun d u' W K' hI hd hw hK=> ?_) ?_
   {have d3:u' 3=(.pointer (some ⟨g,off+i * 5,none⟩)):=hI.vals 3 (hw 3 (by kernel_rfl));obtain ⟨z0,z1,z2,z3,z4⟩:=HX5.out.keep HGW.out.1 hI.up;refine Z03 (v:=(.agg (Y8 x qx))) (W':=W) rfl ?_ (hK.out _ _ (hI.step rfl Y2))
    try dsimp only
    go_simp}
   refine StepsInv.cons _ rfl (fun d u' W K' hI hd hw hK=> ?_) ?_
   {have hy:=fun k=>hI.up.cell (p:=⟨w.heap.size+1,k,none⟩) HGW.out.2;obtain ⟨y0,y1,y2,y3,y4,y5,y6⟩:=HYW.out;rw[<-hy 0] at y0;rw[<-hy 1] at y1;rw[<-hy 2] at y2;rw[<-hy 3] at y3;rw[<-hy 4] at y4;rw[<-hy 5] at y5;rw[<-hy 6] at y6;clear hy;refine Z03 (v:=(.agg #[.string ⟨b.of_.toArray⟩,.string ⟨b.name.toArray⟩,.int .i64 b.sh.kind,.string ⟨b.sh.of_.toArray⟩,.string ⟨b.sh.name.toArray⟩,.slice qb.A b.sh.names.length qb.c,.slice qb.P b.sh.parts.length qb.d])) (W':=W) rfl ?_ (hK.out _ _ (hI.step rfl Y2))
    try dsimp only
    go_simp}
   refine StepsInv.cons _ rfl (fun d u' W K' hI hd hw hK=> ?_) StepsInv.nil
   {have d4:u' 4=(.agg (Y8 x qx)):=hI.vals 4 (hw 4 (by kernel_rfl));have d5:u' 5=(.agg #[.string ⟨b.of_.toArray⟩,.string ⟨b.name.toArray⟩,.int .i64 b.sh.kind,.string ⟨b.sh.of_.toArray⟩,.string ⟨b.sh.name.toArray⟩,.slice qb.A b.sh.names.length qb.c,.slice qb.P b.sh.parts.length qb.d]):=hI.vals 5 (hw 5 (by kernel_rfl));refine Z3b (f:=20) (args:=#[(.agg (Y8 x qx)),(.agg #[.string ⟨b.of_.toArray⟩,.string ⟨b.name.toArray⟩,.int .i64 b.sh.kind,.string ⟨b.sh.of_.toArray⟩,.string ⟨b.sh.name.toArray⟩,.slice qb.A b.sh.names.length qb.c,.slice qb.P b.sh.parts.length qb.d])]) (W':=W) rfl ?_ ((HC.out W hI.up).mono fun e w' ⟨he,hb⟩=>⟨_,he,hK.out _ _ (hI.step rfl hb)⟩)
    try dsimp only
    go_simp}
   intro dd z' W2 hI hdn
   try dsimp only
   rw[show z' 6= .bool r from hI.vals 6 (hdn 6 (by decide))];have HB2:=Y1 (Z02 HK.out.1 hI.up);clear hI hdn c0 c1 c2 c3 c4 y0 y1 y2 y3 y4 y5 y6 z0 z1 z2 z3 z4;cases r with
   | true=>
    have HTT:=Y1 (HIN.out rfl);clear HIN HTK;go_wp2;refine bodyPost_ret (v:= .bool true) (by simp[results,Tryd.results20,go_sem]) rfl ?_;exact ⟨by rw[HTT.out],Z02 HB.out HB2.out⟩
   | false=>
    have HS:Hid (mBs b.of_ b.name (t.parts.take (i+1))=false):=Y1 (by rw[HTK.out,HK.out.2]; rfl);clear HIN HTK;go_wp2
    go_roundw
    case rel=>exact ⟨i+1,by go_num,by omega,Y1 ⟨HB2.out,HS.out⟩⟩
    case measure=>simp[intOf]; omega}
  {have hi1: ¬(i:Int) < (t.parts.length:Int):=by omega
   obtain rfl:i=t.parts.length:=by omega
   have hf:=HK.out.2;rw[List.take_length] at hf;have HF:Hid (mB b.of_ b.name t=(decide (t.kind=9)&&decide (t.of_=b.of_)&&decide (t.name=b.name))):=Y1 (by rw[HE.out,hf]; rfl);have HBF:=Y1 (Z02 HB.out HK.out.1);clear hf HK HE;by_cases k9:t.kind=9
   {have e9: (t.kind==9)=true:=by rw[k9]; rfl
    by_cases ko:t.of_=b.of_
    {have eo: (t.of_==b.of_)=true:=by rw[ko]; simp
     by_cases kn:t.name=b.name
     {have en: (t.name==b.name)=true:=by rw[kn]; simp
      have HT:Hid (mB b.of_ b.name t=true):=Y1 (by rw[HF.out,decide_eq_true k9,decide_eq_true ko,decide_eq_true kn]; rfl);clear k9 ko kn;go_wp2;go_ret;exact ⟨by rw[HT.out]; rfl,HBF.out⟩}
     {have en: (t.name==b.name)=false:=by simpa using kn
      have HT:Hid (mB b.of_ b.name t=false):=Y1 (by rw[HF.out,decide_eq_true k9,decide_eq_true ko,decide_eq_false kn]; rfl);clear k9 ko kn;go_wp2;go_ret;exact ⟨by rw[HT.out]; rfl,HBF.out⟩}}
    {have eo: (t.of_==b.of_)=false:=by simpa using ko
     have HT:Hid (mB b.of_ b.name t=false):=Y1 (by rw[HF.out,decide_eq_false ko,Bool.and_false]; rfl);clear k9 ko;go_wp2;go_ret;exact ⟨by rw[HT.out]; rfl,HBF.out⟩}}
   {have e9: (t.kind==9)=false:=by simpa using k9
    have HT:Hid (mB b.of_ b.name t=false):=Y1 (by rw[HF.out,decide_eq_false k9]; rfl);clear k9;go_wp2;go_ret;exact ⟨by rw[HT.out]; rfl,HBF.out⟩}}
theorem Z5a (f:Nat):MtOk f:=by
 induction f with
 | zero=>intro t q b qb w h; rw[Z0l] at h; omega
 | succ f hI=>exact fun t q b qb w hd hq=>Z9k hI t q b qb w hd hq
end SubM
end Go.Proofs.YtchklpedlbkgaaaDoor
namespace Go.Proofs.YtchklpedlbkgaaaDoor
open Go.RowKit Shp Sub
namespace SubM
def GetIs (n0:Nat) (o:Option Sh) (w:World) (e:Ending) (w':World):Prop:=
 ∃(t:Sh) (q:Ptr),e= .returned (.tuple #[sv t q,.bool o.isSome])/\Below w.heap.size w w'/\ ∀j,o=some j->t=j/\Kept (fun b=>b < n0\/w.heap.size<=b) w' (j,q)
structure GetI (W0:World) (n0:Nat) (tk:Nat->Value->Prop) (c:Nat) (o:Option Sh) (d:Nat->Bool) (u:Nat->Value) (W:World):Prop where
 vals: ∀j,j < c->d j=true->tk j (u j)
 up:Below W0.heap.size W0 W
 al:d (c+4)=true-> ∃g,u (c+4)= .pointer (some ⟨g,0,none⟩)/\W0.heap.size<=g/\g < W.heap.size/\(∀j,W.frozen? ⟨g,j,none⟩=false)/\ ∀j,j < 5-> ∃v,W.cell? ⟨g,j,none⟩=some v
 ca:d c=true-> ∃(t:Sh) (q:Ptr) (W2:World) (s:Nat),u c= .tuple #[sv t q,.bool o.isSome]/\W0.heap.size<=s/\s<=W2.heap.size/\
  (∀j,o=some j->t=j/\Kept (fun b=>b < n0\/s<=b) W2 (j,q))/\
  (d (c+1)=true->u (c+1)=u c)/\(d (c+2)=true->u (c+2)=sv t q)/\(d (c+3)=true->u (c+3)= .bool o.isSome)/\
  Upd (fun b=>d (c+4)=true/\u (c+4)= .pointer (some ⟨b,0,none⟩)) W2 W/\(∀g,d (c+4)=true->u (c+4)= .pointer (some ⟨g,0,none⟩)->g < s\/W2.heap.size<=g)/\(d (c+5)=true-> ∀g,u (c+4)= .pointer (some ⟨g,0,none⟩)->Sh5 W g 0 t q)/\(d (c+6)=true->u (c+6)= .bool o.isSome)
variable {W0 : World} {n0 : Nat} {tk : Nat -> Value -> Prop} {c : Nat} {o : Option Sh} {d : Nat -> Bool} {u : Nat -> Value} {W W' : World}
section
variable (h : GetI W0 n0 tk c o d u W) {i : Nat}
include h i
theorem GetI.putv {v:Value} (hv:tk i v): ∀j,j < c->also d i j=true->tk j (upd u i v j):=fun j hc hj=>by
 by_cases hij:j=i
 {subst hij; rw[Z06]; exact hv}
 {rw[Z08 d hij] at hj; rw[Z01 u v hij]; exact h.vals j hc hj}
theorem GetI.keepv (hi:c<=i) {v:Value}: ∀j,j < c->also d i j=true->tk j (upd u i v j):=fun j hc hj=>by
 have hij:j≠i:=by omega
 rw[Z08 d hij] at hj; rw[Z01 u v hij]; exact h.vals j hc hj
end
theorem GetI.start {W0:World} {u:Nat->Value}:GetI W0 n0 tk c o (fun _=>false) u W0.drew:=⟨nofun,Y2.drew,nofun,nofun⟩
section
variable (h : GetI W0 n0 tk c o d u W)
include h
theorem GetI.pure {i:Nat} (hi:i < c) {v:Value} (hv:tk i v):GetI W0 n0 tk c o (also d i) (upd u i v) W:=by
 have k: ∀j,c<=j->also d i j=d j/\upd u i v j=u j:=fun j hj=>⟨Z08 d (by omega),Z01 u v (by omega)⟩;refine ⟨h.putv hv,h.up, ?_, ?_⟩
 {rw[(k (c+4) (by omega)).1,(k (c+4) (by omega)).2]; exact h.al}
 {rw[(k c (by omega)).1,(k c (by omega)).2,(k (c+1) (by omega)).1,(k (c+1) (by omega)).2,(k (c+2) (by omega)).1,(k (c+2) (by omega)).2,(k (c+3) (by omega)).1,(k (c+3) (by omega)).2,(k (c+4) (by omega)).1,(k (c+4) (by omega)).2,(k (c+5) (by omega)).1,(k (c+6) (by omega)).1,(k (c+6) (by omega)).2];exact h.ca}
theorem GetI.call (h7:d c=false) (hd: ∀j,j=(c+1)\/j=(c+2)\/j=(c+3)\/j=(c+5)\/j=(c+6)->d j=false) {e:Ending} (hb:GetIs n0 o W e W'): ∃v,e= .returned v/\GetI W0 n0 tk c o (also d c) (upd u c v) W':=by
 obtain ⟨t,q,rfl,hbl,hj⟩:=hb;have k: ∀j,j≠c->also d c j=d j/\ ∀v,upd u c v j=u j:=fun j hj=>⟨Z08 d hj,fun v=>Z01 u v hj⟩;refine ⟨_,rfl,h.keepv (by omega),Z02 h.up hbl, ?_,fun _=>⟨t,q,W',W.heap.size,Z06 _ _ _,h.up.size,hbl.size,hj, ?_, ?_, ?_, ?_, ?_, ?_, ?_⟩⟩
 {rw[(k (c+4) (by omega)).1,(k (c+4) (by omega)).2];intro h11;obtain ⟨g,e,g1,g2,g3,g4⟩:=h.al h11;exact ⟨g,e,g1,Nat.lt_of_lt_of_le g2 hbl.size,fun j=>(hbl.frozen (p:=⟨g,j,none⟩) g2).trans (g3 j),fun j hj=>by
   obtain ⟨v,hv⟩:=g4 j hj;exact ⟨v,(hbl.cell (p:=⟨g,j,none⟩) g2).trans hv⟩⟩}
 {rw[(k (c+1) (by omega)).1,hd (c+1) (by omega)]; nofun}
 {rw[(k (c+2) (by omega)).1,hd (c+2) (by omega)]; nofun}
 {rw[(k (c+3) (by omega)).1,hd (c+3) (by omega)]; nofun}
 {exact Upd.refl _ _}
 {rw[(k (c+4) (by omega)).1,(k (c+4) (by omega)).2];intro g h11 e;obtain ⟨g',e',_,g2,_⟩:=h.al h11;rw[e'] at e;simp only[Value.pointer.injEq,Option.some.injEq,Addr.mk.injEq,and_true] at e;omega}
 {rw[(k (c+5) (by omega)).1,hd (c+5) (by omega)]; nofun}
 {rw[(k (c+6) (by omega)).1,hd (c+6) (by omega)]; nofun}
theorem GetI.read (h7:d c=true) {i:Nat} (hi:i=(c+1)\/i=(c+2)\/i=(c+3)\/i=(c+6)) {v:Value} (hd:d i=false) (hv: ∀t q,u c= .tuple #[sv t q,.bool o.isSome]->
 (i=(c+1)->v=u c)/\(i=(c+2)->v=sv t q)/\(i=(c+3)->v= .bool o.isSome)/\(i=(c+6)->v= .bool o.isSome)):GetI W0 n0 tk c o (also d i) (upd u i v) W:=by
 have k: ∀j,j≠i->also d i j=d j/\upd u i v j=u j:=fun j hj=>⟨Z08 d hj,Z01 u v hj⟩;refine ⟨h.keepv (by omega),h.up, ?_, ?_⟩
 {rw[(k (c+4) (by omega)).1,(k (c+4) (by omega)).2]; exact h.al}
 {rw[(k c (by omega)).1,(k c (by omega)).2,(k (c+4) (by omega)).1,(k (c+4) (by omega)).2,(k (c+5) (by omega)).1];intro _;obtain ⟨t,q,W2,s,e7,s1,s2,hj,e8,e9,e10,hu,hg,h12,h13⟩:=h.ca h7;obtain ⟨v8,v9,v10,v13⟩:=hv t q e7;refine ⟨t,q,W2,s,e7,s1,s2,hj,fun hd=> ?_,fun hd=> ?_,fun hd=> ?_,hu,hg,h12,fun hd=> ?_⟩
  {by_cases e:i=(c+1)
   {rw[<-e,Z06]; exact v8 e}
   {rw[(k (c+1) (Ne.symm e)).1] at hd; rw[(k (c+1) (Ne.symm e)).2]; exact e8 hd}}
  {by_cases e:i=(c+2)
   {rw[<-e,Z06]; exact v9 e}
   {rw[(k (c+2) (Ne.symm e)).1] at hd; rw[(k (c+2) (Ne.symm e)).2]; exact e9 hd}}
  {by_cases e:i=(c+3)
   {rw[<-e,Z06]; exact v10 e}
   {rw[(k (c+3) (Ne.symm e)).1] at hd; rw[(k (c+3) (Ne.symm e)).2]; exact e10 hd}}
  {by_cases e:i=(c+6)
   {rw[<-e,Z06]; exact v13 e}
   {rw[(k (c+6) (Ne.symm e)).1] at hd; rw[(k (c+6) (Ne.symm e)).2]; exact h13 hd}}}
end
theorem GetI.alloc (h:GetI W0 n0 tk c o d u W) (h11:d (c+4)=false) (h12:d (c+5)=false):GetI W0 n0 tk c o (also d (c+4)) (upd u (c+4) (.pointer (some ⟨W.heap.size,0,none⟩))) (W.alloc (.cells Yb 25)):=by
 have hb:=Z00 W (.cells Yb 25);have k: ∀j,j≠(c+4)->also d (c+4) j=d j/\ ∀v,upd u (c+4) v j=u j:=fun j hj=>⟨Z08 d hj,fun v=>Z01 u v hj⟩;refine ⟨h.keepv (by omega),Z02 h.up hb,fun _=>⟨W.heap.size,Z06 _ _ _,h.up.size,by simp,fun j=>by simp[go_sem],fun j hj=> ?_⟩, ?_⟩
 {rcases j with _ | _ | _ | _ | _ | j
  {exact ⟨.int .i64 0,by simp[go_sem]⟩}
  {exact ⟨.string ⟨#[]⟩,by simp[go_sem]⟩}
  {exact ⟨.string ⟨#[]⟩,by simp[go_sem]⟩}
  {exact ⟨.slice none 0 0,by simp[go_sem]⟩}
  {exact ⟨.slice none 0 0,by simp[go_sem]⟩}
  {omega}}
 {rw[(k c (by omega)).1,(k c (by omega)).2,(k (c+1) (by omega)).1,(k (c+1) (by omega)).2,(k (c+2) (by omega)).1,(k (c+2) (by omega)).2,(k (c+3) (by omega)).1,(k (c+3) (by omega)).2,(k (c+5) (by omega)).1,(k (c+6) (by omega)).1,(k (c+6) (by omega)).2,Z0t,Z06,h12];intro h7;obtain ⟨t,q,W2,s,e7,s1,s2,hj,e8,e9,e10,hu,hg,_,h13⟩:=h.ca h7;refine ⟨t,q,W2,s,e7,s1,s2,hj,e8,e9,e10, ?_,fun g _ e=> ?_,nofun,h13⟩
  {exact (hu.mono (fun b _ hb=>by rw[h11] at hb; exact absurd hb.1 (by decide))).trans (Upd.new hb)}
  {simp only[Value.pointer.injEq,Option.some.injEq,Addr.mk.injEq,and_true] at e;have:=hu.size;omega}}
theorem GetI.store (h:GetI W0 n0 tk c o d u W) (h7:d c=true) (h11:d (c+4)=true) {g:Nat} (hg:u (c+4)= .pointer (some ⟨g,0,none⟩)) {t:Sh} {q:Ptr} (ht:u c= .tuple #[sv t q,.bool o.isSome])
 (hsv: ∀t' q',sv t' q'=sv t q->t'.kind=t.kind/\t'.of_=t.of_/\t'.name=t.name/\q'.A=q.A/\t'.names.length=t.names.length/\q'.c=q.c/\q'.P=q.P/\t'.parts.length=t.parts.length/\q'.d=q.d):GetI W0 n0 tk c o (also d (c+5)) (upd u (c+5) undef) (RX.lay W g t q):=by
 have k: ∀j,j≠(c+5)->also d (c+5) j=d j/\ ∀v,upd u (c+5) v j=u j:=fun j hj=>⟨Z08 d hj,fun v=>Z01 u v hj⟩;obtain ⟨g',e',g1,g2,g3,g4⟩:=h.al h11;obtain rfl:g'=g:=by rw[hg] at e'; simp at e'; exact e'.symm
 have hu:=RX.lay_upd W g' t q;refine ⟨h.keepv (by omega),h.up.trans (hu.below h.up.size (fun b hb=>by omega)), ?_, ?_⟩
 {rw[(k (c+4) (by omega)).1,(k (c+4) (by omega)).2];intro _;have hl:=RX.lay_at t q g4;obtain ⟨l0,l1,l2,l3,l4⟩:=hl;simp only[Nat.zero_add] at l0 l1 l2 l3 l4;refine ⟨g',hg,g1,by rw[RX.lay_size]; exact g2,fun j=>(RX.lay_fz W g' t q j).trans (g3 j),fun j hj=> ?_⟩;rcases j with _ | _ | _ | _ | _ | j
  {exact ⟨_,l0⟩}
  {exact ⟨_,l1⟩}
  {exact ⟨_,l2⟩}
  {exact ⟨_,l3⟩}
  {exact ⟨_,l4⟩}
  {omega}}
 {rw[(k c (by omega)).1,(k c (by omega)).2,(k (c+1) (by omega)).1,(k (c+1) (by omega)).2,(k (c+2) (by omega)).1,(k (c+2) (by omega)).2,(k (c+3) (by omega)).1,(k (c+3) (by omega)).2,(k (c+4) (by omega)).1,(k (c+4) (by omega)).2,(k (c+6) (by omega)).1,(k (c+6) (by omega)).2];intro _;obtain ⟨t',q',W2,s,e7,s1,s2,hj,e8,e9,e10,hu2,hgs,_,h13⟩:=h.ca h7;refine ⟨t',q',W2,s,e7,s1,s2,hj,e8,e9,e10,hu2.trans (hu.mono (fun b _ hb=>⟨h11,by rw[hb,hg]⟩)),hgs,fun _ g2 e=> ?_,h13⟩;obtain rfl:g'=g2:=by rw[hg] at e; simpa using e
  have e72:sv t' q'=sv t q:=by
   rw[ht] at e7;simp only[Value.tuple.injEq] at e7;have:=congrArg (fun a:Array Value=>a[0]?) e7;simp at this;simp[sv];exact ⟨this.1.symm,this.2.1.symm,this.2.2.1.symm,⟨this.2.2.2.1.1.symm,this.2.2.2.1.2.1.symm,this.2.2.2.1.2.2.symm⟩,this.2.2.2.2.1.symm,this.2.2.2.2.2.1.symm,this.2.2.2.2.2.2.symm⟩
  obtain ⟨c1,c2,c3,c4,c5,c6,c7,c8,c9⟩:=hsv t' q' e72;obtain ⟨l0,l1,l2,l3,l4⟩:=RX.lay_at t q g4;exact ⟨by rw[c1]; exact l0,by rw[c2]; exact l1,by rw[c3]; exact l2,by rw[c4,c5,c6]; exact l3,by rw[c7,c8,c9]; exact l4⟩}
end SubM
end Go.Proofs.YtchklpedlbkgaaaDoor
