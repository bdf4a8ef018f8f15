/- What the proofs of ExpandDeclares want, part 2. -/
import Derived.Deep.RegionHeld3
import Derived.Test.YtmeiijjpomcgcaaDoorK0n1
set_option linter.unusedVariables false
set_option linter.unusedSimpArgs false
set_option linter.unusedSectionVars false
set_option maxRecDepth 100000
set_option maxHeartbeats 16000000
namespace Go.Proofs.YtmeiijjpomcgcaaDoor
open Go.RowKit Shp Sub
namespace SubM
def rowB (A:Option Addr):Option Nat:=A.map (·.block)
theorem rowB_own (A:Option Addr) (n c:Nat):Value.ownBlock (.slice A n c)=rowB A:=by cases A <;> rfl
section
variable {W : World} {A : Option Addr} {m c B e s : Nat} {xs : List Value} (h : W.ownsRow B e s (.slice A m c) m xs)
include W A m c B e s xs h
theorem Z0a: ∀b,rowB A=some b->B<=b/\b < W.heap.size:=fun b hb=>h.lt b (by rw[rowB_own]; exact hb)
theorem slice_form: (A=none/\m=0/\c=0)\/ ∃g,A=some ⟨g,0,none⟩/\m<=c:=by
 rcases h.2 with ⟨h1,h2⟩ | ⟨g,cap,cur,h1,_,_,h2,_⟩
 {simp only[Value.slice.injEq] at h1; exact Or.inl ⟨h1.1,h2,h1.2.2⟩}
 {simp only[Value.slice.injEq] at h1;obtain ⟨h3,_,rfl⟩:=h1;exact Or.inr ⟨g,h3,h2⟩}
end
theorem Z0t {S:Nat->Prop} {W W':World} {A:Option Addr} {m c B e s n:Nat} {xs:List Value} (h:W.ownsRow B e s (.slice A m c) n xs) (hu:Upd S W W') (hS: ∀b,rowB A=some b-> ¬S b):W'.ownsRow B e s (.slice A m c) n xs:=by
 obtain ⟨h1,h2⟩:=h;refine ⟨h1, ?_⟩;rcases h2 with h2 | ⟨g,cap,cur,hv,hb,hg,hc⟩
 {exact Or.inl h2}
 {refine Or.inr ⟨g,cap,cur,hv,hb, ?_,hc⟩;have hgl:g < W.heap.size:=(Array.getElem?_eq_some_iff.1 hg).1;rw[hu.block g hgl (hS g (by simp only[Value.slice.injEq] at hv; rw[hv.1]; rfl))];exact hg}
theorem Z2u {W:World} {g m c B e s n:Nat} {xs:List Value} (h:W.ownsRow B e s (.slice (some ⟨g,0,none⟩) m c) n xs) {j:Nat} {u:Value} (hu:xs[j]? =some u):W.cell? ⟨g,j,none⟩=some u:=by
 have:=h.cells (g:=g) rfl j u hu
 rwa [Z0d,Nat.zero_add] at this
abbrev El:=Sh×Ptr
def cells5 (x:El):List Value:= [.int .i64 x.1.kind,.string ⟨x.1.of_.toArray⟩,.string ⟨x.1.name.toArray⟩,.slice x.2.A x.1.names.length x.2.c,.slice x.2.P x.1.parts.length x.2.d]
def cellsE (l:List El):List Value:=l.flatMap cells5
def namesE (l:List (List UInt8)):List Value:=l.map fun n=> .string ⟨n.toArray⟩
theorem cellsE_append (l m:List El):cellsE (l++m)=cellsE l++cellsE m:=by simp[cellsE]
theorem cellsE_one (x:El):cellsE [x]=cells5 x:=by simp[cellsE]
theorem cellsE_len (l:List El): (cellsE l).length=l.length * 5:=by
 induction l with
 | nil=>rfl
 | cons a l ih=>rw[show a::l= [a]++l from rfl,cellsE_append,List.length_append,ih,cellsE_one]; simp[cells5]; omega
theorem namesE_len (l:List (List UInt8)): (namesE l).length=l.length:=by simp[namesE]
theorem namesE_append (l m:List (List UInt8)):namesE (l++m)=namesE l++namesE m:=by simp[namesE]
theorem cells5_one (x:El): ∀u∈cells5 x,u.oneCell'=true:=by
 intro u hu;simp only[cells5,List.mem_cons,List.not_mem_nil,or_false] at hu;rcases hu with rfl | rfl | rfl | rfl | rfl <;> rfl
theorem cellsE_at {l:List El} {i c:Nat} (hi:i < l.length) (hc:c < 5): (cellsE l)[i * 5+c]? =(cells5 (l[i]'hi))[c]? :=by
 have h1:l=l.take i++([l[i]'hi]++l.drop (i+1)):=by rw[List.singleton_append,List.getElem_cons_drop,List.take_append_drop]
 have h2: (cellsE (l.take i)).length=i * 5:=by rw[cellsE_len,List.length_take]; omega
 have h3: (cells5 (l[i]'hi)).length=5:=rfl
 conv=>lhs; rw[h1]
 rw[cellsE_append,cellsE_append,cellsE_one,List.getElem?_append_right (by omega),h2,Nat.add_sub_cancel_left,List.getElem?_append_left (by omega)]
def Kept (S:Nat->Prop) (W:World) (x:El):Prop:= ∀W',W.heap.size<=W'.heap.size->(∀b,b < W.heap.size->S b->W'.heap[b]? =W.heap[b]?)->ShAt W' W'.heap.size x.2 x.1
section
variable {S T : Nat -> Prop} {W W' : World} {x : El}
section
variable (h : Kept S W x)
include h
theorem Kept.here:ShAt W W.heap.size x.2 x.1:=h W (Nat.le_refl _) (fun _ _ _=>rfl)
theorem Kept.upd (hu:Upd T W W') (hd: ∀b,b < W.heap.size->S b-> ¬T b):Kept S W' x:=fun W2 h1 h2=>
 h W2 (Nat.le_trans hu.size h1) (fun b hb hs=>(h2 b (Nat.lt_of_lt_of_le hb hu.size) hs).trans (hu.block b hb (hd b hb hs)))
theorem Kept.more (hs: ∀b,b < W.heap.size->S b->T b):Kept T W x:=fun W2 h1 h2=>h W2 h1 (fun b hb hS=>h2 b hb (hs b hb hS))
end
theorem Kept.old {n0:Nat} (h:ShAt W n0 x.2 x.1) (hn:n0<=W.heap.size) (hS: ∀b,b < n0->S b):Kept S W x:=fun W2 h1 h2=>
 h.of (Nat.le_trans hn h1) (fun g k hg=>World.cell?_of_block (w:=W) (h2 g (by omega) (hS g hg)))
end
structure Mk (w0:World) (gm hi:Nat) (k:Int) (o nm:List UInt8) (nl:List (List UInt8)) (l:List El) (AN:Option Addr) (cN:Nat) (AP:Option Addr) (cP:Nat) (W:World):Prop where
 up:Below w0.heap.size w0 W
 lo:w0.heap.size<=gm
 gh:gm < hi
 hw:hi<=W.heap.size
 c0:W.cell? ⟨gm,0,none⟩=some (.int .i64 k)
 c1:W.cell? ⟨gm,1,none⟩=some (.string ⟨o.toArray⟩)
 c2:W.cell? ⟨gm,2,none⟩=some (.string ⟨nm.toArray⟩)
 c3:W.cell? ⟨gm,3,none⟩=some (.slice AN nl.length cN)
 c4:W.cell? ⟨gm,4,none⟩=some (.slice AP l.length cP)
 fz: ∀j,W.frozen? ⟨gm,j,none⟩=false
 rN:W.ownsRow hi 9 1 (.slice AN nl.length cN) nl.length (namesE nl)
 rP:W.ownsRow hi 25 5 (.slice AP l.length cP) l.length (cellsE l)
 ne:rowB AN=none\/rowB AN≠rowB AP
def Free (n0 hi:Nat) (AN AP:Option Addr) (b:Nat):Prop:=b < n0\/(hi<=b/\rowB AN≠some b/\rowB AP≠some b)
section
variable {w0 W W' : World} {gm hi : Nat} {k : Int} {o nm : List UInt8} {nl : List (List UInt8)} {l : List El} {AN AP : Option Addr} {cN cP : Nat}
theorem Mk.upd {S:Nat->Prop} (h:Mk w0 gm hi k o nm nl l AN cN AP cP W) (hu:Upd S W W') (h0: ∀b,b < w0.heap.size-> ¬S b) (h1: ¬S gm) (h2: ∀b,rowB AN=some b-> ¬S b) (h3: ∀b,rowB AP=some b-> ¬S b):
 Mk w0 gm hi k o nm nl l AN cN AP cP W':=by
 have hg:gm < W.heap.size:=Nat.lt_of_lt_of_le h.gh h.hw;refine ⟨h.up.trans (hu.below h.up.size (fun b hb=> ?_)),h.lo,h.gh,Nat.le_trans h.hw hu.size,(hu.cell hg h1).trans h.c0,(hu.cell hg h1).trans h.c1,(hu.cell hg h1).trans h.c2,(hu.cell hg h1).trans h.c3,(hu.cell hg h1).trans h.c4,
  fun j=>(hu.frozen hg h1).trans (h.fz j),Z0t h.rN hu h2,Z0t h.rP hu h3,h.ne⟩
 exact Nat.le_of_not_lt (fun hlt=>h0 b hlt hb)
theorem Mk.new (h:Mk w0 gm hi k o nm nl l AN cN AP cP W) (hb:Below W.heap.size W W'):Mk w0 gm hi k o nm nl l AN cN AP cP W':=
 h.upd (S:=fun _=>False) (Upd.new hb) (fun _ _ h=>h) (fun h=>h) (fun _ _ h=>h) (fun _ _ h=>h)
end
theorem Mk.at_ {w0 W:World} {gm hi n0:Nat} {k:Int} {o nm:List UInt8} {nl:List (List UInt8)} {l:List El} {AN AP:Option Addr} {cN cP:Nat} (h:Mk w0 gm hi k o nm nl l AN cN AP cP W)
 (hk: ∀x∈l,Kept (Free n0 hi AN AP) W x) (ho:o.length<=9223372036854775807) (hnm:nm.length<=9223372036854775807) (hnl: ∀x∈nl,x.length<=9223372036854775807) (hl:nl.length<=1000000) (hm:l.length<=1000000):
 Kept (fun b=>b < n0\/hi<=b) W (⟨k,o,nm,nl,l.map Prod.fst⟩,⟨AN,cN,AP,cP⟩):=by
 intro W' hz hs;have hN:=slice_form h.rN;have hP:=slice_form h.rP;have kept: ∀x∈l,ShAt W' W'.heap.size x.2 x.1:=fun x hx=>hk x hx W' hz (fun b hb hf=>hs b hb (by
  rcases hf with h | h
  {exact Or.inl h}
  · exact Or.inr h.1))
 refine .mk _ _ ((rowB AP).getD 0) 0 (fun i=>(l[i]?.map Prod.snd).getD ⟨none,0,none,0⟩) ⟨ho,hnm,hnl,by show nl.length<=_; omega,by show (l.map Prod.fst).length<=_; rw[List.length_map]; omega, ?_, ?_, ?_, ?_⟩ ?_ ?_ ?_ ?_
 {show nl.length<=cN;rcases hN with ⟨_,h1,h2⟩ | ⟨_,_,h1⟩ <;> omega}
 {show (l.map Prod.fst).length<=cP;rw[List.length_map];rcases hP with ⟨_,h1,h2⟩ | ⟨_,_,h1⟩ <;> omega}
 {intro (e:AN=none);show cN=0;rcases hN with ⟨_,h1,h2⟩ | ⟨g,h1,_⟩
  {exact h2}
  {rw[e] at h1; cases h1}}
 {intro (e:AP=none);show cP=0;rcases hP with ⟨_,h1,h2⟩ | ⟨g,h1,_⟩
  {exact h2}
  {rw[e] at h1; cases h1}}
 {show Strs W' W'.heap.size AN (strs nl);rcases hN with ⟨_,h1,_⟩ | ⟨g,rfl,_⟩
  {exact Or.inl (by unfold strs; simp[h1])}
  {have hg:=Z0a h.rN g rfl;refine Or.inr ⟨g,0,rfl,Nat.lt_of_lt_of_le hg.2 hz,fun i hi=> ?_⟩;have hi':i < nl.length:=by simpa[strs] using hi
   have e1:W'.cell? ⟨g,i,none⟩=W.cell? ⟨g,i,none⟩:=World.cell?_of_block (w:=W) (hs g hg.2 (Or.inr hg.1));rw[Nat.zero_add,e1,Z2u h.rN (u:= .string ⟨(nl[i]'hi').toArray⟩) (by unfold namesE; rw[List.getElem?_map,List.getElem?_eq_getElem hi']; rfl)];simp[strs]}}
 {show (l.map Prod.fst).length=0\/_;rcases hP with ⟨_,h1,_⟩ | ⟨g,rfl,_⟩
  {exact Or.inl (by rw[List.length_map]; exact h1)}
  {exact Or.inr ⟨rfl,Nat.lt_of_lt_of_le (Z0a h.rP g rfl).2 hz⟩}}
 {intro i hi;have hi':i < l.length:=by simpa using hi
  rcases hP with ⟨_,h1,_⟩ | ⟨g,rfl,_⟩
  {omega}
  {have hg:=Z0a h.rP g rfl;have e1: ∀j,W'.cell? ⟨g,j,none⟩=W.cell? ⟨g,j,none⟩:=fun j=>World.cell?_of_block (w:=W) (hs g hg.2 (Or.inr hg.1));have e2: ∀c v,c < 5->(cells5 (l[i]'hi'))[c]? =some v->W'.cell? ⟨g,0+i * 5+c,none⟩=some v:=fun c v hc hv=>by
    rw[Nat.zero_add,e1];exact Z2u h.rP (by rw[cellsE_at hi' hc]; exact hv)
   simp only[List.getElem_map];rw[List.getElem?_eq_getElem hi'];exact ⟨e2 0 _ (by omega) rfl,e2 1 _ (by omega) rfl,e2 2 _ (by omega) rfl,e2 3 _ (by omega) rfl,e2 4 _ (by omega) rfl⟩}}
 {intro i hi;have hi':i < l.length:=by simpa using hi
  simp only[List.getElem_map];rw[List.getElem?_eq_getElem hi'];exact kept _ (List.getElem_mem _)}
end SubM
end Go.Proofs.YtmeiijjpomcgcaaDoor
namespace Go.Proofs.YtmeiijjpomcgcaaDoor
open Go.RowKit
def upd (u:Nat->Value) (i:Nat) (v:Value):Nat->Value:=fun j=>cond (Nat.beq j i) v (u j)
theorem Z06 (u:Nat->Value) (i:Nat) (v:Value):upd u i v i=v:=by simp[upd]
theorem Z02 (u:Nat->Value) {i j:Nat} (v:Value) (h:j≠i):upd u i v j=u j:=by
 have:Nat.beq j i=false:=by cases hb:Nat.beq j i <;> first | rfl | exact absurd (Nat.eq_of_beq_eq_true hb) h
 simp[upd,this]
structure Want where
 ok:Value->World->Prop
 keep: ∀(v:Value) (w w':World),Below w.heap.size w w'->ok v w->ok v w'
theorem Want.mono {T:Want} {v:Value} {w w':World} (hb:Below w.heap.size w w') (h:T.ok v w):T.ok v w':=T.keep v w w' hb h
def Want.val (c:Value):Want:=⟨fun v _=>v=c,fun _ _ _ _ h=>h⟩
def Want.any:Want:=⟨fun _ _=>True,fun _ _ _ _ h=>h⟩
section
variable {P : Program} {ops : Array Oper} {Q : Exit -> Act -> World -> Prop}
def waits (o:Oper) (j:Nat):Bool:=o.after.any fun e=>Region.binds .any e&&e.on==j
def StepAt (P:Program) (ops:Array Oper) (Q:Exit->Act->World->Prop) (A: (Nat->Value)->Act) (T:Nat->Want) (J:World->Prop) (i:Nat):Prop:=
 ∀o,ops[i]? =some o-> ∀(u:Nat->Value) (W:World),J W->(∀j,waits o j=true->(T j).ok (u j) W)->
  wpOp P ops Q i (fun a' w'=> ∃v,a'=A (upd u i v)/\(T i).ok v w'/\J w'/\Below W.heap.size W w') (A u) W
def StepsAt (P:Program) (ops:Array Oper) (Q:Exit->Act->World->Prop) (A: (Nat->Value)->Act) (T:Nat->Want) (J:World->Prop) (rs:List Nat):Prop:=
 ∀i∈rs,StepAt P ops Q A T J i
section
variable {A : (Nat -> Value) -> Act} {T : Nat -> Want} {J : World -> Prop}
include A T J
theorem StepsAt.nil:StepsAt P ops Q A T J []:=fun _ h=>by cases h
theorem StepsAt.cons {i:Nat} {rs:List Nat} (o:Oper) (ho:ops[i]? =some o)
 (h: ∀(u:Nat->Value) (W:World) (K':Act->World->Prop),J W->(∀j,waits o j=true->(T j).ok (u j) W)->
  Shut (∀v w',(T i).ok v w'->J w'->Below W.heap.size W w'->K' (A (upd u i v)) w')->
  if Region.wanted o (yielded ops (A u).tmps)=true then Oper.wp P o (A u) W K' Q else K' ((A u).put o.dst undef) W)
 (hs:StepsAt P ops Q A T J rs):StepsAt P ops Q A T J (i::rs):=fun j hj=>by
 rcases List.mem_cons.1 hj with rfl | hj
 {intro o' ho' u W hJ hd;rw[ho] at ho';obtain rfl:o=o':=Option.some.inj ho';exact wpOp_step ho (fun K' hK=>h u W K' hJ hd (fun v w' h1 h2 h3=>hK _ _ ⟨v,rfl,h1,h2,h3⟩))}
 {exact hs j hj}
end
def lowAfter (ops:Array Oper):Bool:=(List.range ops.size).all fun i=>((ops[i]?).map fun o=>o.after.all fun e=> !Region.binds .any e||decide (e.on < i)).getD true
theorem Z5V (h:lowAfter ops=true) {i:Nat} {o:Oper} (ho:ops[i]? =some o): ∀e∈o.after,Region.binds .any e=true->e.on < i:=by
 intro e he hb;have hi:i < ops.size:=by
  rcases Nat.lt_or_ge i ops.size with h | h
  {exact h}
  {rw[Array.getElem?_eq_none h] at ho; cases ho}
 have h1:=List.all_eq_true.1 h i (List.mem_range.2 hi);rw[ho] at h1;simp only[Option.map_some,Option.getD_some] at h1;have:=Array.all_eq_true_iff_forall_mem.1 h1 e he;rw[hb] at this;simpa using this
theorem Z2j (hl:lowAfter ops=true) (listed:Array Bool) (hr:Region.ready .any ops listed= []) (hsz:listed.size=ops.size):
 ∀n j,j < n->j < ops.size->listed.getD j false=true:=by
 intro n;induction n with
 | zero=>intro j hj; omega
 | succ n ih=>
  intro j hj hjs;by_cases hjn:j < n
  {exact ih j hjn hjs}
  {cases hlj:listed.getD j false with
   | true=>rfl
   | false=>
    have hmem:j∈Region.ready .any ops listed:=by
     refine mem_ready.2 ⟨?_,ops[j]'hjs,by simp[hjs],fun e he hb=> ?_⟩
     {have:j < listed.size:=by omega
      simp[this] at hlj ⊢;exact hlj}
     {have hlt:=Z5V hl (show ops[j]? =some (ops[j]'hjs) by simp[hjs]) e he hb;exact ih e.on (by omega) (by omega)}
    rw[hr] at hmem;cases hmem}
theorem Z5A (l:List Bool): ∀(i:Nat),l[i]? =some false->(l.set i true).count false+1=l.count false:=by
 induction l with
 | nil=>intro i h; simp at h
 | cons b l ih=>
  intro i h;cases i with
  | zero=>
   simp at h;subst h;simp
  | succ i=>
   simp at h;have:=ih i h;cases b <;> simp at this ⊢ <;> omega
theorem Z4Y (l:List Bool) (h:l.count false=0) (j:Nat):l[j]? ≠some false:=by
 intro hj;have:=List.count_pos_iff.2 (List.mem_of_getElem? hj);omega
section
variable {o : Oper} {a : Act}
include o a
theorem Z00 {W W':World} {K':Act->World->Prop} {v:Value} {E:Prop} (hw:Region.wanted o (yielded ops a.tmps)=true)
 (hrun: (execOp a.eval o).run P W= .ok (.value v) W') (hK:K' (a.put o.dst v) W'):
 if Region.wanted o (yielded ops a.tmps)=true then Oper.wp P o a W K' Q else E:=by
 rw[if_pos hw,Oper.wp,hrun,Oper.upon_value];exact hK
theorem Y0 {W:World} {K':Act->World->Prop} {F:Value->Act} {T:Nat->Want} {J:World->Prop} {i:Nat} {E:Prop} {c:Value}
 (hK:Shut (∀v w',(T i).ok v w'->J w'->Below W.heap.size W w'->K' (F v) w')) (hJ:J W) (hT:T i=Want.val c) (hA:a.put o.dst c=F c)
 (hw:Region.wanted o (yielded ops a.tmps)=true) (hr: (execOp a.eval o).run P W= .ok (.value c) W):
 if Region.wanted o (yielded ops a.tmps)=true then Oper.wp P o a W K' Q else E:=
 Z00 (v:=c) (W':=W) hw hr (by rw[hA]; exact hK.out c W (by rw[hT]; rfl) hJ (Below.refl _ _))
theorem Z1n {W W':World} {K':Act->World->Prop} {f:FuncId} {args:Array Value} {E:Prop} (hw:Region.wanted o (yielded ops a.tmps)=true)
 (hrun: (execOp a.eval o).run P W= .ok (.enter f args) W') (hc:Calls P f args W' fun e w'=> ∃v,e= .returned v/\K' (a.put o.dst v) w'):
 if Region.wanted o (yielded ops a.tmps)=true then Oper.wp P o a W K' Q else E:=by
 rw[if_pos hw,Oper.wp,hrun,Oper.upon_enter];refine hc.mono fun e w' h=> ?_;obtain ⟨v,rfl,h⟩:=h;exact h
end
end
end Go.Proofs.YtmeiijjpomcgcaaDoor
namespace Go.Proofs.YtmeiijjpomcgcaaDoor
open Go.RowKit
def also (d:Nat->Bool) (i:Nat):Nat->Bool:=fun j=>cond (Nat.beq j i) true (d j)
section
variable {P : Program} {ops : Array Oper} {Q : Exit -> Act -> World -> Prop}
def StepInv (P:Program) (ops:Array Oper) (Q:Exit->Act->World->Prop) (A: (Nat->Value)->Act) (I: (Nat->Bool)->(Nat->Value)->World->Prop) (i:Nat):Prop:=
 ∀o,ops[i]? =some o-> ∀(d:Nat->Bool) (u:Nat->Value) (W:World),I d u W->d i=false->(∀j,waits o j=true->d j=true)->
  wpOp P ops Q i (fun a' w'=> ∃v,a'=A (upd u i v)/\I (also d i) (upd u i v) w') (A u) W
def StepsInv (P:Program) (ops:Array Oper) (Q:Exit->Act->World->Prop) (A: (Nat->Value)->Act) (I: (Nat->Bool)->(Nat->Value)->World->Prop) (rs:List Nat):Prop:=
 ∀i∈rs,StepInv P ops Q A I i
section
variable {A : (Nat -> Value) -> Act} {I : (Nat -> Bool) -> (Nat -> Value) -> World -> Prop}
include A I
theorem StepsInv.nil:StepsInv P ops Q A I []:=fun _ h=>by cases h
theorem StepsInv.cons {i:Nat} {rs:List Nat} (o:Oper) (ho:ops[i]? =some o)
 (h: ∀(d:Nat->Bool) (u:Nat->Value) (W:World) (K':Act->World->Prop),I d u W->d i=false->(∀j,waits o j=true->d j=true)->
  Shut (∀v w',I (also d i) (upd u i v) w'->K' (A (upd u i v)) w')->
  if Region.wanted o (yielded ops (A u).tmps)=true then Oper.wp P o (A u) W K' Q else K' ((A u).put o.dst undef) W)
 (hs:StepsInv P ops Q A I rs):StepsInv P ops Q A I (i::rs):=fun j hj=>by
 rcases List.mem_cons.1 hj with rfl | hj
 {intro o' ho' d u W hI hd hw;rw[ho] at ho';obtain rfl:o=o':=Option.some.inj ho';exact wpOp_step ho (fun K' hK=>h d u W K' hI hd hw (fun v w' h1=>hK _ _ ⟨v,rfl,h1⟩))}
 {exact hs j hj}
end
theorem Z7F (listed:Array Bool) {i:Nat} (hi:i < listed.size): (fun j=>(listed.setIfInBounds i true).getD j false)=also (fun j=>listed.getD j false) i:=by
 funext j;unfold also;by_cases h:j=i
 {subst h;have:Nat.beq j j=true:=Nat.beq_refl j;rw[this];simp[hi]}
 {have hb:Nat.beq j i=false:=by cases hb:Nat.beq j i <;> first | rfl | exact absurd (Nat.eq_of_beq_eq_true hb) h
  rw[hb];exact getD_set_ne false (Ne.symm h)}
theorem Zco (A: (Nat->Value)->Act) (I: (Nat->Bool)->(Nat->Value)->World->Prop) (hl:lowAfter ops=true)
 (hstep:StepsInv P ops Q A I (List.range ops.size))
 (hdone: ∀d u W,I d u W->(∀j,j < ops.size->d j=true)->Q .normal (A u) W):
 ∀(fuel:Nat) (listed:Array Bool) (u:Nat->Value) (W:World),listed.size=ops.size->listed.toList.count false<=fuel->I (fun j=>listed.getD j false) u W->
  wpAny P .any ops Q fuel listed (A u) W:=by
 intro fuel;induction fuel with
 | zero=>
  intro listed u W hsz hc hI;have hr:Region.ready .any ops listed= []:=by
   refine List.eq_nil_iff_forall_not_mem.2 fun j hj=> ?_;obtain ⟨h1,o,ho,_⟩:=mem_ready.1 hj;have hjs:j < listed.size:=by
    rw[hsz];rcases Nat.lt_or_ge j ops.size with h | h
    {exact h}
    {rw[Array.getElem?_eq_none h] at ho; cases ho}
   refine Z4Y listed.toList (by omega) j ?_;simp[hjs] at h1 ⊢;exact h1
  exact ⟨hr,hdone _ u W hI fun j hj=>Z2j hl listed hr hsz (j+1) j (by omega) hj⟩
 | succ fuel ih=>
  intro listed u W hsz hc hI;refine ⟨fun hr=>hdone _ u W hI fun j hj=>Z2j hl listed hr hsz (j+1) j (by omega) hj,fun i hi=> ?_⟩;obtain ⟨h1,o,ho,hall⟩:=mem_ready.1 hi;have his:i < ops.size:=by
   rcases Nat.lt_or_ge i ops.size with h | h
   {exact h}
   {rw[Array.getElem?_eq_none h] at ho; cases ho}
  have hil:i < listed.size:=by omega
  have hdi:listed.getD i false=false:=by simp[hil] at h1 ⊢; exact h1
  have hdep: ∀j,waits o j=true->listed.getD j false=true:=fun j hj=>by
   obtain ⟨e,he,hb⟩:=Array.any_eq_true'.1 hj;simp only[Bool.and_eq_true,beq_iff_eq] at hb;obtain ⟨hb,rfl⟩:=hb;exact hall e he hb
  refine wpOp_mono (fun a' w' h=> ?_) (hstep i (List.mem_range.2 his) o ho (fun j=>listed.getD j false) u W hI hdi hdep);obtain ⟨v,rfl,hI'⟩:=h;rw[<-Z7F listed hil] at hI';refine ih _ _ _ (by simpa using hsz) ?_ hI';have h2:listed.toList[i]? =some false:=by simp[hil] at h1 ⊢; exact h1
  have:=Z5A listed.toList i h2;rw[Array.toList_setIfInBounds];omega
theorem Z3a {id:Nat} {w:World} {rs:List Nat} (A: (Nat->Value)->Act) (u0:Nat->Value) (I: (Nat->Bool)->(Nat->Value)->World->Prop) (hm:P.follows .mixedOrders=true) (hl:lowAfter ops=true)
 (hrs:List.range ops.size=rs) (hI:I (fun _=>false) u0 w.drew) (hstep:StepsInv P ops Q A I rs)
 (hdone: ∀d u W,I d u W->(∀j,j < ops.size->d j=true)->Q .normal (A u) W):
 (Code.region id ops true).wp P Q (A u0) w:=by
 subst hrs;refine wp_region_any hm (Zco A I hl hstep hdone _ _ _ _ (by simp) ?_ ?_)
 {exact Nat.le_trans List.count_le_length (by simp)}
 {have e: (fun j=>(Array.replicate ops.size false).getD j false)=fun _=>false:=by
   funext j;rcases Nat.lt_or_ge j ops.size with h | h
   {simp[h]}
   {simp[h]}
  rw[e];exact hI}
theorem Z2E {o:Oper} {a:Act} {W W':World} {K':Act->World->Prop} {E:Prop} (hw:Region.wanted o (yielded ops a.tmps)=true)
 (hrun: (execOp a.eval o).run P W= .ok .skip W') (hK:K' (a.put o.dst undef) W'):
 if Region.wanted o (yielded ops a.tmps)=true then Oper.wp P o a W K' Q else E:=by
 rw[if_pos hw,Oper.wp,hrun,Oper.upon_skip];exact hK
end
end Go.Proofs.YtmeiijjpomcgcaaDoor
namespace Go.Proofs.YtmeiijjpomcgcaaDoor
open Go.RowKit
def Shutd (ops:Array Oper) (d:Nat->Bool):Prop:= ∀k o,ops[k]? =some o->d k=true-> ∀m,waits o m=true->d m=true
section
variable {P : Program} {ops : Array Oper} {Q : Exit -> Act -> World -> Prop} {d : Nat -> Bool}
theorem Z5B (i:Nat) {k:Nat} (h:d k=true):also d i k=true:=by
 unfold also;cases Nat.beq k i
 {exact h}
 {rfl}
theorem Shutd.also (h:Shutd ops d) {i:Nat} {o:Oper} (ho:ops[i]? =some o) (hw: ∀j,waits o j=true->d j=true):Shutd ops (also d i):=by
 intro k o2 hk hd m hm;by_cases e:k=i
 {subst e;rw[ho] at hk;obtain rfl:=Option.some.inj hk;exact Z5B _ (hw m hm)}
 {have:Go.Proofs.YtmeiijjpomcgcaaDoor.also d i k=d k:=by
   unfold Go.Proofs.YtmeiijjpomcgcaaDoor.also;have:Nat.beq k i=false:=by cases hb:Nat.beq k i <;> first | rfl | exact absurd (Nat.eq_of_beq_eq_true hb) e
   rw[this]; rfl
  rw[this] at hd;exact Z5B _ (h k o2 hk hd m hm)}
theorem StepsInv.cons2 {A: (Nat->Value)->Act} {I: (Nat->Bool)->(Nat->Value)->World->Prop} {i:Nat} {rs:List Nat} (o:Oper) (ho:ops[i]? =some o)
 (h: ∀(d:Nat->Bool) (u:Nat->Value) (W:World) (K':Act->World->Prop),Shutd ops d->I d u W->d i=false->(∀j,waits o j=true->d j=true)->
  Shut (∀v w',I (also d i) (upd u i v) w'->K' (A (upd u i v)) w')->
  if Region.wanted o (yielded ops (A u).tmps)=true then Oper.wp P o (A u) W K' Q else K' ((A u).put o.dst undef) W)
 (hs:StepsInv P ops Q A (fun d u W=>Shutd ops d/\I d u W) rs):StepsInv P ops Q A (fun d u W=>Shutd ops d/\I d u W) (i::rs):=
 StepsInv.cons o ho (fun d u W K' hI hd hw hK=>h d u W K' hI.1 hI.2 hd hw (fun v w' hv=>hK _ _ ⟨hI.1.also ho hw,hv⟩)) hs
theorem Z1Z {id:Nat} {w:World} {rs:List Nat} (A: (Nat->Value)->Act) (u0:Nat->Value) (I: (Nat->Bool)->(Nat->Value)->World->Prop) (hm:P.follows .mixedOrders=true) (hl:lowAfter ops=true)
 (hrs:List.range ops.size=rs) (hI:I (fun _=>false) u0 w.drew) (hstep:StepsInv P ops Q A (fun d u W=>Shutd ops d/\I d u W) rs)
 (hdone: ∀d u W,I d u W->(∀j,j < ops.size->d j=true)->Q .normal (A u) W):
 (Code.region id ops true).wp P Q (A u0) w:=
 Z3a A u0 (fun d u W=>Shutd ops d/\I d u W) hm hl hrs ⟨fun _ _ _ h=>(by cases h),hI⟩ hstep (fun d u W h=>hdone d u W h.2)
end
end Go.Proofs.YtmeiijjpomcgcaaDoor
namespace Go.Proofs.YtmeiijjpomcgcaaDoor
open Go.RowKit Shp Sub
namespace SubM
theorem Z1o {P:Program} {e:TypeId} {z:Value} {size bytes:Nat} (h: (P.info? e).map (fun i=>(i.zero,i.size,i.bytes))=some (some z,size,bytes)): ∃i,P.info? e=some i/\i.zero=some z/\i.size=size/\i.bytes=bytes:=by
 cases hi:P.info? e with
 | none=>rw[hi] at h; cases h
 | some i=>
  rw[hi] at h;simp only[Option.map_some,Option.some.injEq,Prod.mk.injEq] at h;exact ⟨i,rfl,h.1,h.2.1,h.2.2⟩
theorem ZbZ: (Tryd.prog.info? 25).map (fun i=>(i.zero,i.size,i.bytes))=some (some (.agg #[.int .i64 0,.string ByteArray.empty,.string ByteArray.empty,.slice none 0 0,.slice none 0 0]),5,88):=by kernel_rfl
theorem Z08 (d:Nat->Bool) {i j:Nat} (h:j≠i):also d i j=d j:=by
 unfold also;have:Nat.beq j i=false:=by cases hb:Nat.beq j i <;> first | rfl | exact absurd (Nat.eq_of_beq_eq_true hb) h
 rw[this]; rfl
theorem Z0r (d:Nat->Bool) (i:Nat):also d i i=true:=by unfold also; rw[Nat.beq_refl]; rfl
structure PX where
 W0:World
 gm:Nat
 hi:Nat
 pb:Nat
 AN:Option Addr
 cN:Nat
 AP:Option Addr
 cP:Nat
 nl:List (List UInt8)
 l:List El
 nm:List UInt8
 x:El
namespace PX
variable (X : PX)
def val (j:Nat):Option Value:=match j with
 | 0 | 1 | 2 | 3 | 9 | 10 | 16 | 19=>some (.pointer (some ⟨X.gm,0,none⟩))
 | 4 | 17=>some (.pointer (some ⟨X.gm,3,none⟩))
 | 11 | 20=>some (.pointer (some ⟨X.gm,4,none⟩))
 | 5=>some (.slice X.AN X.nl.length X.cN)
 | 6=>some (.string ⟨X.nm.toArray⟩)
 | 12=>some (.slice X.AP X.l.length X.cP)
 | 13=>some (sv X.x.1 X.x.2)
 | _=>none
def set (b:Nat):Prop:=b=X.gm\/rowB X.AN=some b\/rowB X.AP=some b
structure Good:Prop where
 gh:X.gm < X.hi
 hw:X.hi<=X.pb
 pw:X.pb < X.W0.heap.size
 c3:X.W0.cell? ⟨X.gm,3,none⟩=some (.slice X.AN X.nl.length X.cN)
 c4:X.W0.cell? ⟨X.gm,4,none⟩=some (.slice X.AP X.l.length X.cP)
 fz: ∀j,X.W0.frozen? ⟨X.gm,j,none⟩=false
 rN:X.W0.ownsRow X.hi 9 1 (.slice X.AN X.nl.length X.cN) X.nl.length (namesE X.nl)
 rP:X.W0.ownsRow X.hi 25 5 (.slice X.AP X.l.length X.cP) X.l.length (cellsE X.l)
 ne:rowB X.AN=none\/rowB X.AN≠rowB X.AP
 bn:rowB X.AN≠some X.pb
 bp:rowB X.AP≠some X.pb
 box:Sh5 X.W0 X.pb 0 X.x.1 X.x.2
 ln:X.nl.length<=1000
 ll:X.l.length<=1000
structure PI (d:Nat->Bool) (u:Nat->Value) (W:World):Prop where
 vals: ∀j,d j=true-> ∀v,X.val j=some v->u j=v
 up:Upd X.set X.W0 W
 f7:d 7=true-> ∃z,u 7= .slice (some ⟨z,0,none⟩) 1 1/\X.W0.heap.size<=z/\z < W.heap.size/\W.cell? ⟨z,0,none⟩=some (.string ⟨X.nm.toArray⟩)
 f14:d 14=true-> ∃z,u 14= .slice (some ⟨z,0,none⟩) 1 1/\X.W0.heap.size<=z/\z < W.heap.size/\ ∀(j:Nat) v,(cells5 X.x)[j]? =some v->W.cell? ⟨z,j,none⟩=some v
 n0:d 8=false->W.ownsRow X.hi 9 1 (.slice X.AN X.nl.length X.cN) X.nl.length (namesE X.nl)
 n1:d 8=true-> ∃g c,u 8= .slice (some ⟨g,0,none⟩) (X.nl.length+1) c/\W.ownsRow X.hi 9 1 (.slice (some ⟨g,0,none⟩) (X.nl.length+1) c) (X.nl.length+1) (namesE X.nl++ [.string ⟨X.nm.toArray⟩])/\(rowB X.AN=some g\/X.W0.heap.size<=g)
 p0:d 15=false->W.ownsRow X.hi 25 5 (.slice X.AP X.l.length X.cP) X.l.length (cellsE X.l)
 p1:d 15=true-> ∃g c,u 15= .slice (some ⟨g,0,none⟩) (X.l.length+1) c/\W.ownsRow X.hi 25 5 (.slice (some ⟨g,0,none⟩) (X.l.length+1) c) (X.l.length+1) (cellsE X.l++cells5 X.x)/\(rowB X.AP=some g\/X.W0.heap.size<=g)/\
  ∀g8 n c8,u 8= .slice (some ⟨g8,0,none⟩) n c8->g8≠g
 c3:W.cell? ⟨X.gm,3,none⟩=some (if d 18=true then u 8 else .slice X.AN X.nl.length X.cN)
 c4:W.cell? ⟨X.gm,4,none⟩=some (if d 21=true then u 15 else .slice X.AP X.l.length X.cP)
 cr: ∀j,j < 3->W.cell? ⟨X.gm,j,none⟩=X.W0.cell? ⟨X.gm,j,none⟩
 fz: ∀j,W.frozen? ⟨X.gm,j,none⟩=false
variable {X : PX} {d : Nat -> Bool} {u : Nat -> Value} {W W' : World}
theorem PI.vals' (h:X.PI d u W) {i:Nat} {v:Value} (hv: ∀v',X.val i=some v'->v=v'): ∀j,also d i j=true-> ∀v',X.val j=some v'->upd u i v j=v':=fun j hj v' hv'=>by
 by_cases hij:j=i
 {subst hij; rw[Z06]; exact hv v' hv'}
 {rw[Z08 d hij] at hj; rw[Z02 u v hij]; exact h.vals j hj v' hv'}
theorem Good.start (h:X.Good):X.PI (fun _=>false) u X.W0.drew:=
 ⟨nofun,(Upd.refl _ _).drew,nofun,nofun,fun _=>h.rN,nofun,fun _=>h.rP,nofun,h.c3,h.c4,fun _ _=>rfl,h.fz⟩
theorem PI.pure (h:X.PI d u W) {i:Nat} (hi:i≠7/\i≠8/\i≠14/\i≠15/\i≠18/\i≠21) {v:Value} (hv: ∀v',X.val i=some v'->v=v'):X.PI (also d i) (upd u i v) W:=by
 have k: ∀j,j=7\/j=8\/j=14\/j=15\/j=18\/j=21->also d i j=d j/\upd u i v j=u j:=fun j hj=>⟨Z08 d (by omega),Z02 u v (by omega)⟩;refine ⟨h.vals' hv,h.up, ?_, ?_, ?_, ?_, ?_, ?_, ?_, ?_,h.cr,h.fz⟩
 {rw[(k 7 (by omega)).1,(k 7 (by omega)).2]; exact h.f7}
 {rw[(k 14 (by omega)).1,(k 14 (by omega)).2]; exact h.f14}
 {rw[(k 8 (by omega)).1]; exact h.n0}
 {rw[(k 8 (by omega)).1,(k 8 (by omega)).2]; exact h.n1}
 {rw[(k 15 (by omega)).1]; exact h.p0}
 {rw[(k 15 (by omega)).1,(k 15 (by omega)).2,(k 8 (by omega)).2]; exact h.p1}
 {rw[(k 18 (by omega)).1,(k 8 (by omega)).2]; exact h.c3}
 {rw[(k 21 (by omega)).1,(k 15 (by omega)).2]; exact h.c4}
theorem PI.box (h:X.PI d u W) (hX:X.Good):Sh5 W X.pb 0 X.x.1 X.x.2:=
 hX.box.of (fun k=>h.up.cell hX.pw (fun hs=>by
  rcases hs with hs | hs | hs
  {have:=hX.gh; have:=hX.hw; omega}
  {exact hX.bn hs}
  · exact hX.bp hs))
theorem PI.new (h:X.PI d u W) (hX:X.Good) (hb:Below W.heap.size W W'):X.PI d u W':=by
 have hgm:X.gm < W.heap.size:=by have:=hX.gh; have:=hX.hw; have:=hX.pw; have:=h.up.size; omega
 have hu:Upd (fun _=>False) W W':=Upd.new hb;refine ⟨h.vals,h.up.trans (hu.mono (fun _ _ h=>h.elim)),fun h7=> ?_,fun h14=> ?_,fun h8=>Z0t (h.n0 h8) hu (fun _ _ h=>h),fun h8=> ?_,fun h15=>Z0t (h.p0 h15) hu (fun _ _ h=>h),fun h15=> ?_,
  (hu.cell hgm (fun h=>h)).trans h.c3,(hu.cell hgm (fun h=>h)).trans h.c4,fun j hj=>(hu.cell hgm (fun h=>h)).trans (h.cr j hj),fun j=>(hu.frozen hgm (fun h=>h)).trans (h.fz j)⟩
 {obtain ⟨z,e,z1,z2,z3⟩:=h.f7 h7;exact ⟨z,e,z1,Nat.lt_of_lt_of_le z2 hu.size,(hu.cell z2 (fun h=>h)).trans z3⟩}
 {obtain ⟨z,e,z1,z2,z3⟩:=h.f14 h14;exact ⟨z,e,z1,Nat.lt_of_lt_of_le z2 hu.size,fun j v hv=>(hu.cell z2 (fun h=>h)).trans (z3 j v hv)⟩}
 {obtain ⟨g,c,e,r,n⟩:=h.n1 h8;exact ⟨g,c,e,Z0t r hu (fun _ _ h=>h),n⟩}
 {obtain ⟨g,c,e,r,n⟩:=h.p1 h15;exact ⟨g,c,e,Z0t r hu (fun _ _ h=>h),n⟩}
end PX
end SubM
end Go.Proofs.YtmeiijjpomcgcaaDoor
namespace Go.Proofs.YtmeiijjpomcgcaaDoor
open Go.RowKit Shp Sub
namespace SubM
theorem Z0e {ops:Array Oper} {d:Nat->Bool} (hs:Shutd ops d) {k m:Nat} {o:Oper} (ho:ops[k]? =some o) (hw:waits o m=true) (hm:d m=false):d k=false:=by
 cases h:d k with
 | false=>rfl
 | true=>rw[hs k o ho h m hw] at hm; cases hm
def PutOk (W:World) (gm:Nat) (AN AP:Option Addr) (AN' AP':Option Addr) (W':World):Prop:=
 Upd (fun b=>b=gm\/rowB AN=some b\/rowB AP=some b) W W'/\(∀b,rowB AN'=some b->rowB AN=some b\/W.heap.size<=b)/\(∀b,rowB AP'=some b->rowB AP=some b\/W.heap.size<=b)
end SubM
end Go.Proofs.YtmeiijjpomcgcaaDoor
namespace Go.Proofs.YtmeiijjpomcgcaaDoor
open Go.RowKit Shp Sub
namespace SubM
structure TakesP (n0 N:Nat) (a b:Sh) (fn:Nat) (cs:List Value) (step:Nat->Bool) (K:Bool->Nat->World->Prop):Prop where
 keep: ∀ok k W W',K ok k W->Upd (fun x=>N<=x/\x < N+2) W W'->K ok k W'
 call: ∀k (hk:k < a.parts.length) (hk2:k < b.parts.length) W (x y:Ptr),N+2<=W.heap.size->K true k W->ShAt W n0 x (a.parts[k]'hk)->ShAt W n0 y (b.parts[k]'hk2)->
  Calls Tryd.prog fn (sv (a.parts[k]'hk) x::sv (b.parts[k]'hk2) y:: .bool (decide (k+1=a.parts.length))::cs).toArray W fun e W'=>e= .returned (.bool (step k))/\K (step k) (k+1) W'/\Upd (fun x=>n0<=x/\ ¬(N<=x/\x < N+2)) W W'
structure P2 (n0 N:Nat) (a b:Sh) (pa pb:Ptr) (w:World) (K:Bool->Nat->World->Prop) (k:Nat) (W:World):Prop where
 ba:Box5 W N a pa
 bb:Box5 W (N+1) b pb
 up:Upd (fun x=>n0<=x) w W
 sz:N+2<=W.heap.size
 k:K true k W
section
variable {n0 : Nat} {a b : Sh} {pa pb : Ptr} {w : World} {K : Bool -> Nat -> World -> Prop} {k : Nat} {W W' : World} {fn : Nat} {cs : List Value} {step : Nat -> Bool}
theorem P2.upd (h:P2 n0 w.heap.size a b pa pb w K k W) (hn:n0<=w.heap.size) (hu:Upd (fun x=>n0<=x/\ ¬(w.heap.size<=x/\x < w.heap.size+2)) W W') {k':Nat} (hk:K true k' W'):P2 n0 w.heap.size a b pa pb w K k' W':=
 ⟨Z2t h.ba hu (by omega),Z2t h.bb hu (by omega),h.up.trans (hu.mono (fun x _ hx=>hx.1)),Nat.le_trans h.sz hu.size,hk⟩
theorem P2.new (h:P2 n0 w.heap.size a b pa pb w K k W) (hT:TakesP n0 w.heap.size a b fn cs step K) (hn:n0<=w.heap.size) (hb:Below W.heap.size W W'):P2 n0 w.heap.size a b pa pb w K k W':=
 h.upd hn (Upd.new hb) (hT.keep _ _ _ _ h.k (Upd.new hb))
end
end SubM
end Go.Proofs.YtmeiijjpomcgcaaDoor
namespace Go.Proofs.YtmeiijjpomcgcaaDoor
section
open Go.RowKit
theorem Z0I {P:Program} (w:World) {ops:Array Oper} {rest:List Oper} {o:Oper} {a:Act} {Q:Exit->Act->World->Prop} (hgd:Region.wanted o (yielded ops a.tmps)=true) (s x:Operand) (t:TypeId)
 (ho:o.op= .call { callee:= .builtin .append,args:=#[s,x],argTypes:=#[t,t] })
 (base:Nat) (e:TypeId) (i:TypeInfo) (z:Value) (size bytes:Nat) (ht:P.underlying t=some (.slice e)) (hi:P.info? e=some i) (hz:i.zero=some z)
 (hsize:i.size=size) (hby:i.bytes=bytes) (hzs:z.cells.size=size) (hsz:0 < size)
 (v:Value) (n:Nat) (xs:List Value) (hs:a.eval s=v) (hown:w.ownsRow base e size v n xs)
 (A:Option Addr) (m c:Nat) (news:List Value) (hx:a.eval x= .slice A m c) (hA:A=none->m=0/\c=0) (hl:news.length=m * size)
 (hnews: ∀ad,A=some ad-> ∀j u,news[j]? =some u->w.cell? (ad.add j)=some u) (h1: ∀u∈news,u.oneCell'=true)
 (h63:n+m<=maxLen) (hbytes: (n+m) * bytes<=140737488355328) (hbase:base<=w.heap.size)
 (h: ∀v' w',w'.ownsRow base e size v' (n+m) (xs++news)->Below base w w'->wpList P ops Q rest (a.put o.dst v') w'):wpList P ops Q (o::rest) a w:=by
 refine wpList_step fun K hK=> ?_;rw[if_pos hgd]
 match A,hA,hnews,hx with
 | some ad,_,hnews,hx=>
  exact wp_append_own w s x t ho base e i z size bytes ht hi hz hsize hby hzs hsz v n xs hs hown ad m c news hx hl (hnews ad rfl) h1 h63 hbytes hbase
   fun v' w' h2 h3 _=>hK _ _ (h v' w' h2 (Y2.grown h3 hbase (fun k hk=>(hown.lt k hk).1)))
 | none,hA,_,hx=>
  obtain ⟨rfl,rfl⟩:=hA rfl;obtain rfl:news= []:=List.eq_nil_of_length_eq_zero (by rw[hl,Nat.zero_mul]);have hr:=run_append_owned_none (P:=P) (w:=w) base t o.type e i size ht hi v n xs hown;unfold Oper.wp execOp;simp only[ho,resolve,invoke,builtin,Sem.run_bind,Sem.run_pure,Result.andThen_ok,List.map_toArray,List.map_cons,List.map_nil,hs,hx,hr];exact hK _ _ (h v w (by rw[List.append_nil]; exact hown) Y2)
end
section
open Go.RowKit Shp
structure PaR (W:World) (b:Nat) (ps:List Sh) (qs:Nat->Ptr):Prop where
 lt:b < W.heap.size
 at_: ∀i (h:i < ps.length),Sh5 W b (i * 5) (ps[i]'h) (qs i)
 fz: ∀k,W.frozen? ⟨b,k,none⟩=false
def Z0y (W W':World) (b:Nat):Prop:=(∀k,W'.cell? ⟨b,k,none⟩=W.cell? ⟨b,k,none⟩)/\ ∀k,W'.frozen? ⟨b,k,none⟩=W.frozen? ⟨b,k,none⟩
theorem PaR.of {W W':World} {b:Nat} {ps:List Sh} {qs:Nat->Ptr} (h:PaR W b ps qs) (hs:Z0y W W' b) (hz:W.heap.size<=W'.heap.size):PaR W' b ps qs:=
 ⟨Nat.lt_of_lt_of_le h.lt hz,fun i hi=>(h.at_ i hi).of hs.1,fun k=>(hs.2 k).trans (h.fz k)⟩
theorem TxR.of {W W':World} {b:Nat} {ts:List (List UInt8)} (h:TxR W b ts) (hs:Z0y W W' b) (hz:W.heap.size<=W'.heap.size):TxR W' b ts:=
 ⟨Nat.lt_of_lt_of_le h.lt hz,fun i hi=>(hs.1 i).trans (h.at_ i hi),fun k=>(hs.2 k).trans (h.fz k)⟩
inductive Own (W:World):Ptr->Sh->List Nat->Prop
 | mk (q:Ptr) (t:Sh) (F FN FP:List Nat) (qs:Nat->Ptr) (Fs:Nat->List Nat) (hs:Small t q)
  (hn:t.names.length=0/\FN= []\/ ∃b,q.A=some ⟨b,0,none⟩/\FN= [b]/\TxR W b t.names)
  (hp:t.parts.length=0/\FP= []\/ ∃b,q.P=some ⟨b,0,none⟩/\FP= [b]/\PaR W b t.parts qs)
  (hr: ∀i (h:i < t.parts.length),Own W (qs i) (t.parts[i]'h) (Fs i)) (hF:F=FN++FP++(List.range t.parts.length).flatMap Fs):Own W q t F
section
variable {W : World} {q : Ptr} {t : Sh} {F : List Nat} (h : Own W q t F)
include W q t F h
theorem Own.small:Small t q:=by cases h; assumption
theorem Own.inv: ∃(FN FP:List Nat) (qs:Nat->Ptr) (Fs:Nat->List Nat),
 (t.names.length=0/\FN= []\/ ∃b,q.A=some ⟨b,0,none⟩/\FN= [b]/\TxR W b t.names)/\
 (t.parts.length=0/\FP= []\/ ∃b,q.P=some ⟨b,0,none⟩/\FP= [b]/\PaR W b t.parts qs)/\
 (∀i (h:i < t.parts.length),Own W (qs i) (t.parts[i]'h) (Fs i))/\F=FN++FP++(List.range t.parts.length).flatMap Fs:=by
 cases h with
 | mk _ _ _ FN FP qs Fs hs hn hp hr hF=>exact ⟨FN,FP,qs,Fs,hn,hp,hr,hF⟩
end
theorem Own.of {W W':World} {q:Ptr} {t:Sh} {F:List Nat} (h:Own W q t F) (hc: ∀b∈F,Z0y W W' b) (hz:W.heap.size<=W'.heap.size):Own W' q t F:=by
 induction h with
 | mk q t F FN FP qs Fs hs hn hp hr hF ih=>
  subst hF;refine .mk q t _ FN FP qs Fs hs ?_ ?_ ?_ rfl
  {rcases hn with h | ⟨b,h1,rfl,h3⟩
   {exact Or.inl h}
   {exact Or.inr ⟨b,h1,rfl,h3.of (hc b (by simp)) hz⟩}}
  {rcases hp with h | ⟨b,h1,rfl,h3⟩
   {exact Or.inl h}
   {exact Or.inr ⟨b,h1,rfl,h3.of (hc b (by simp)) hz⟩}}
  {intro i hi;refine ih i hi (fun b hb=>hc b ?_);refine List.mem_append_right _ (List.mem_flatMap.2 ⟨i,List.mem_range.2 hi,hb⟩)}
theorem Own.at_ {W:World} {q:Ptr} {t:Sh} {F:List Nat} {B:Nat} (h:Own W q t F) (hB: ∀b∈F,b < B):ShAt W B q t:=by
 induction h with
 | mk q t F FN FP qs Fs hs hn hp hr hF ih=>
  subst hF;have hS:Strs W B q.A (strs t.names):=by
   rcases hn with ⟨h,_⟩ | ⟨b,h1,rfl,h3⟩
   {exact Or.inl (by rw[Z1w]; exact h)}
   {refine Or.inr ⟨b,0,h1,hB b (by simp),fun i hi=> ?_⟩;rw[Z1w] at hi;rw[Nat.zero_add,h3.at_ i hi];simp[strs]}
  have hrr: ∀i (h:i < t.parts.length),ShAt W B (qs i) (t.parts[i]'h):=fun i hi=>ih i hi (fun b hb=>hB b (List.mem_append_right _ (List.mem_flatMap.2 ⟨i,List.mem_range.2 hi,hb⟩)));rcases hp with ⟨h,_⟩ | ⟨b,h1,rfl,h3⟩
  {exact .mk q t 0 0 qs hs hS (Or.inl h) (fun i hi=>absurd hi (by omega)) hrr}
  {exact .mk q t b 0 qs hs hS (Or.inr ⟨h1,hB b (by simp)⟩) (fun i hi=>by rw[Nat.zero_add]; exact h3.at_ i hi) hrr}
theorem Own.lt {W:World} {q:Ptr} {t:Sh} {F:List Nat} (h:Own W q t F): ∀b∈F,b < W.heap.size:=by
 induction h with
 | mk q t F FN FP qs Fs hs hn hp hr hF ih=>
  subst hF;intro b hb;rcases List.mem_append.1 hb with hb | hb
  {rcases List.mem_append.1 hb with hb | hb
   {rcases hn with ⟨_,rfl⟩ | ⟨c,_,rfl,h3⟩
    {cases hb}
    {rw[List.mem_singleton] at hb; subst hb; exact h3.lt}}
   {rcases hp with ⟨_,rfl⟩ | ⟨c,_,rfl,h3⟩
    {cases hb}
    {rw[List.mem_singleton] at hb; subst hb; exact h3.lt}}}
  {obtain ⟨i,hi,hb⟩:=List.mem_flatMap.1 hb;exact ih i (List.mem_range.1 hi) b hb}
def Node (W:World) (g i:Nat) (t:Sh) (F:List Nat):Prop:= ∃q,Sh5 W g (i * 5) t q/\Own W q t F
structure Nd where
 g:Nat
 i:Nat
 t:Sh
 q:Ptr
def Ready (r:Nat) (T:Sh) (L:List Nd) (D:List Nat) (W:World):Prop:=
 ∀(W':World) (Fs:Nat->List Nat),W.heap.size<=W'.heap.size->
  (∀b∈D,∀k,(∀n∈L,¬(n.g=b/\(k=n.i * 5+3\/k=n.i * 5+4)))->W'.cell? ⟨b,k,none⟩=W.cell? ⟨b,k,none⟩)->
  (∀b∈D,∀k,W'.frozen? ⟨b,k,none⟩=W.frozen? ⟨b,k,none⟩)->
  (∀j (h:j < L.length),Node W' (L[j]'h).g (L[j]'h).i (L[j]'h).t (Fs j))->
  (∀j,j < L.length-> ∀b∈Fs j,b∉D)->((List.range L.length).flatMap Fs).Nodup->
  ∃F,Node W' r 0 T F/\F.Nodup/\ ∀b∈F,b∈D\/ ∃j,j < L.length/\b∈Fs j
theorem Z7I (r:Nat) (T:Sh) (q:Ptr) (D:List Nat) (W:World):Ready r T [⟨r,0,T,q⟩] D W:=by
 intro W' Fs _ _ _ hN _ hnd;refine ⟨Fs 0,hN 0 (by simp),by simpa using hnd,fun b hb=>Or.inr ⟨0,by simp,hb⟩⟩
theorem Z50 {r:Nat} {T:Sh} {D:List Nat} {W:World} (h:Ready r T [] D W): ∃F,Node W r 0 T F/\F.Nodup/\ ∀b∈F,b∈D:=by
 obtain ⟨F,h1,h2,h3⟩:=h W (fun _=> []) (Nat.le_refl _) (fun _ _ _ _=>rfl) (fun _ _ _=>rfl) (fun j hj=>absurd hj (by simp)) (fun j hj=>absurd hj (by simp)) (by simp);refine ⟨F,h1,h2,fun b hb=> ?_⟩;rcases h3 b hb with h | ⟨j,hj,_⟩
 {exact h}
 {exact absurd hj (by simp)}
theorem Ready.of {r:Nat} {T:Sh} {L:List Nd} {D:List Nat} {W W1:World} (h:Ready r T L D W) (hs: ∀b∈D,Z0y W W1 b) (hz:W.heap.size<=W1.heap.size):Ready r T L D W1:=
 fun W' Fs hz' hc hf hN hd hn=>h W' Fs (Nat.le_trans hz hz') (fun b hb k hx=>(hc b hb k hx).trans ((hs b hb).1 k)) (fun b hb k=>(hf b hb k).trans ((hs b hb).2 k)) hN hd hn
def kids (pb:Nat) (ps:List Sh) (qs:Nat->Ptr):List Nd:=ps.mapIdx fun i p=>⟨pb,i,p,qs i⟩
section
variable (pb : Nat) (ps : List Sh) (qs : Nat -> Ptr)
include pb ps qs
theorem Z0M: (kids pb ps qs).length=ps.length:=by simp[kids]
theorem Z1F (i:Nat) (h:i < (kids pb ps qs).length): (kids pb ps qs)[i]'h=⟨pb,i,ps[i]'(by rwa [Z0M] at h),qs i⟩:=by simp[kids]
end
theorem Z6B {pb:Nat} {ps:List Sh} {qs:Nat->Ptr} {n:Nd} (h:n∈kids pb ps qs):n.g=pb:=by
 obtain ⟨i,hi,rfl⟩:=List.getElem_of_mem h;rw[Z1F]
theorem Z5W {n m:Nat} (Fs:Nat->List Nat): (List.range (n+m)).flatMap Fs=(List.range n).flatMap Fs++(List.range m).flatMap (fun i=>Fs (n+i)):=by
 rw[List.range_add,List.flatMap_append,List.flatMap_map]
theorem Ready.step {r:Nat} {T:Sh} {L:List Nd} {a:Nd} {D DN DP:List Nat} {W W1:World} {q1:Ptr} {pb:Nat} {qs:Nat->Ptr} (hR:Ready r T (L++ [a]) D W) (hD: ∀b∈D,b < W.heap.size)
 (hag:a.g∈D) (hLg: ∀n∈L,n.g∈D) (hne: ∀n∈L,n.g=a.g->n.i≠a.i) (hsz:W.heap.size<=W1.heap.size) (ha:Sh5 W1 a.g (a.i * 5) a.t q1) (hs:Small a.t q1)
 (hk: ∀b∈D,∀k,¬(a.g=b/\(k=a.i * 5+3\/k=a.i * 5+4))->W1.cell? ⟨b,k,none⟩=W.cell? ⟨b,k,none⟩) (hf: ∀b∈D,∀k,W1.frozen? ⟨b,k,none⟩=W.frozen? ⟨b,k,none⟩)
 (hn:a.t.names.length=0/\DN= []\/ ∃b,q1.A=some ⟨b,0,none⟩/\DN= [b]/\W.heap.size<=b/\TxR W1 b a.t.names)
 (hp:a.t.parts.length=0/\DP= []\/q1.P=some ⟨pb,0,none⟩/\DP= [pb]/\W.heap.size<=pb/\pb∉DN/\PaR W1 pb a.t.parts qs):
 Ready r T (L++kids pb a.t.parts qs) (D++DN++DP) W1:=by
 intro W' Fs hsz' hcell hfr hN hdis hnd;have hlen: (L++kids pb a.t.parts qs).length=L.length+a.t.parts.length:=by rw[List.length_append,Z0M]
 have hpg: ∀n∈kids pb a.t.parts qs,a.t.parts.length≠0:=fun n hn h0=>by
  have:kids pb a.t.parts qs= []:=List.eq_nil_of_length_eq_zero (by rw[Z0M]; exact h0);rw[this] at hn; cases hn
 have hkid: ∀n∈kids pb a.t.parts qs,n.g=pb/\W.heap.size<=pb/\pb∉DN:=fun n hnm=>by
  rcases hp with ⟨h0,_⟩ | ⟨_,_,h3,h4,_⟩
  {exact absurd h0 (hpg n hnm)}
  {exact ⟨Z6B hnm,h3,h4⟩}
 have hDNb: ∀b∈DN,W.heap.size<=b:=fun b hb=>by
  rcases hn with ⟨_,rfl⟩ | ⟨c,_,rfl,h3,_⟩
  {cases hb}
  {rw[List.mem_singleton] at hb; subst hb; exact h3}
 have hDPb: ∀b∈DP,W.heap.size<=b/\b∉DN:=fun b hb=>by
  rcases hp with ⟨_,rfl⟩ | ⟨_,rfl,h3,h4,_⟩
  {cases hb}
  {rw[List.mem_singleton] at hb; subst hb; exact ⟨h3,h4⟩}
 have hDNn:DN.Nodup:=by
  rcases hn with ⟨_,rfl⟩ | ⟨c,_,rfl,_⟩ <;> simp
 have hDPn:DP.Nodup:=by
  rcases hp with ⟨_,rfl⟩ | ⟨_,rfl,_⟩ <;> simp
 let Fk:Nat->List Nat:=fun i=>Fs (L.length+i)
 let Fa:List Nat:=DN++DP++(List.range a.t.parts.length).flatMap Fk
 let Fs':Nat->List Nat:=fun j=>if j < L.length then Fs j else Fa
 rw[hlen] at hdis hnd;rw[Z5W] at hnd;have hnd':=List.nodup_append.1 hnd;have hdisD: ∀j,j < L.length+a.t.parts.length-> ∀b∈Fs j,b∉D/\b∉DN/\b∉DP:=fun j hj b hb=>by
  have:=hdis j hj b hb;simp only[List.mem_append,not_or] at this;exact ⟨this.1.1,this.1.2,this.2⟩
 -- the place that was copied
 have hkn: ∀i (h:i < a.t.parts.length),Node W' pb i (a.t.parts[i]'h) (Fk i):=fun i hi=>by
  have h1:=hN (L.length+i) (by rw[hlen]; omega);have e: (L++kids pb a.t.parts qs)[L.length+i]'(by rw[hlen]; omega)=⟨pb,i,a.t.parts[i]'hi,qs i⟩:=by
   rw[List.getElem_append_right (by omega)];simp only[Nat.add_sub_cancel_left];exact Z1F _ _ _ _ _
  rw[e] at h1;exact h1
 have hqk: ∃qk:Nat->Ptr,∀i (h:i < a.t.parts.length),Sh5 W' pb (i * 5) (a.t.parts[i]'h) (qk i)/\Own W' (qk i) (a.t.parts[i]'h) (Fk i):=by
  refine ⟨fun i=>if h:i < a.t.parts.length then (hkn i h).choose else ⟨none,0,none,0⟩,fun i h=> ?_⟩;simp only[dif_pos h];exact (hkn i h).choose_spec
 obtain ⟨qk,hqk⟩:=hqk;have hexc: ∀b∈D,∀k,(∀n∈L,¬(n.g=b/\(k=n.i * 5+3\/k=n.i * 5+4)))->W'.cell? ⟨b,k,none⟩=W1.cell? ⟨b,k,none⟩:=fun b hb k hx=>by
  refine hcell b (by simp[hb]) k (fun n hnm=> ?_);rcases List.mem_append.1 hnm with h | h
  {exact hx n h}
  {intro ⟨h1,_⟩;have h2:=hkid n h;have:=hD b hb;omega}
 have hNa:Node W' a.g a.i a.t Fa:=by
  refine ⟨q1, ?_,.mk q1 a.t Fa DN DP qk Fk hs ?_ ?_ (fun i hi=>(hqk i hi).2) rfl⟩
  {have e: ∀c,c < 5->W'.cell? ⟨a.g,a.i * 5+c,none⟩=W1.cell? ⟨a.g,a.i * 5+c,none⟩:=fun c hc=>hexc a.g hag _ (fun n hnm ⟨h1,h2⟩=>by
    have:=hne n hnm h1;omega)
   obtain ⟨h0,h1,h2,h3,h4⟩:=ha;exact ⟨(e 0 (by omega)).trans h0,(e 1 (by omega)).trans h1,(e 2 (by omega)).trans h2,(e 3 (by omega)).trans h3,(e 4 (by omega)).trans h4⟩}
  {rcases hn with h | ⟨b,h1,rfl,h3,h4⟩
   {exact Or.inl h}
   {refine Or.inr ⟨b,h1,rfl,h4.of ⟨fun k=>hcell b (by simp) k (fun n hnm=> ?_),fun k=>hfr b (by simp) k⟩ hsz'⟩;rcases List.mem_append.1 hnm with h | h
    {intro ⟨h5,_⟩;have:=hD _ (hLg n h);omega}
    {intro ⟨h5,_⟩;have h6:=hkid n h;rw[List.mem_singleton] at h6;omega}}}
  {rcases hp with h | ⟨h1,rfl,h3,h4,h5⟩
   {exact Or.inl h}
   {exact Or.inr ⟨pb,h1,rfl,Nat.lt_of_lt_of_le h5.lt hsz',fun i hi=>(hqk i hi).1,fun k=>(hfr pb (by simp) k).trans (h5.fz k)⟩}}
 have hFaD: ∀b∈Fa,b∉D:=fun b hb hbD=>by
  have hlt:=hD b hbD;rcases List.mem_append.1 hb with hb | hb
  {rcases List.mem_append.1 hb with hb | hb
   {have:=hDNb b hb; omega}
   {have:=(hDPb b hb).1; omega}}
  {obtain ⟨i,hi,hb⟩:=List.mem_flatMap.1 hb;exact (hdisD (L.length+i) (by have:=List.mem_range.1 hi; omega) b hb).1 hbD}
 have hFan:Fa.Nodup:=by
  refine List.nodup_append.2 ⟨List.nodup_append.2 ⟨hDNn,hDPn,fun x hx y hy e=>(hDPb y hy).2 (e▸hx)⟩,hnd'.2.1,fun x hx y hy e=> ?_⟩;subst e;obtain ⟨i,hi,hb⟩:=List.mem_flatMap.1 hy;have h1:=hdisD (L.length+i) (by have:=List.mem_range.1 hi; omega) x hb;rcases List.mem_append.1 hx with h | h
  {exact h1.2.1 h}
  {exact h1.2.2 h}
 have hll: (L++ [a]).length=L.length+1:=by simp
 have hFs': (List.range L.length).flatMap Fs'=(List.range L.length).flatMap Fs:=by
  have: ∀(l:List Nat),(∀j∈l,j < L.length)->l.flatMap Fs'=l.flatMap Fs:=by
   intro l;induction l with
   | nil=>intro _; rfl
   | cons j l ih=>
    intro h;rw[List.flatMap_cons,List.flatMap_cons,ih (fun j hj=>h j (by simp[hj]))];simp only[Fs',if_pos (h j (by simp))]
  exact this _ (fun j hj=>List.mem_range.1 hj)
 obtain ⟨F,h1,h2,h3⟩:=hR W' Fs' (Nat.le_trans hsz hsz') (fun b hb k hx=>by
  rw[hexc b hb k (fun n hnm=>hx n (by simp[hnm]))];exact hk b hb k (hx a (by simp)))
  (fun b hb k=>(hfr b (by simp[hb]) k).trans (hf b hb k))
  (fun j hj=>by
   rw[hll] at hj;by_cases hjl:j < L.length
   {have e: (L++ [a])[j]'(by rw[hll]; omega)=L[j]'hjl:=List.getElem_append_left hjl;have h1:=hN j (by rw[hlen]; omega);have e2: (L++kids pb a.t.parts qs)[j]'(by rw[hlen]; omega)=L[j]'hjl:=List.getElem_append_left hjl;rw[e2] at h1;rw[e];simp only[Fs',if_pos hjl];exact h1}
   · have hje:j=L.length:=by omega
     subst hje;have e: (L++ [a])[L.length]'(by rw[hll]; omega)=a:=by simp
     rw[e];simp only[Fs',if_neg hjl];exact hNa)
  (fun j hj b hb=>by
   rw[hll] at hj;by_cases hjl:j < L.length
   {simp only[Fs',if_pos hjl] at hb;exact (hdisD j (by omega) b hb).1}
   · simp only[Fs',if_neg hjl] at hb
     exact hFaD b hb)
  (by
   rw[hll,List.range_succ,List.flatMap_append,hFs'];have e: [L.length].flatMap Fs'=Fa:=by simp[Fs']
   rw[e];refine List.nodup_append.2 ⟨hnd'.1,hFan,fun x hx y hy e=> ?_⟩;subst e;obtain ⟨j,hj,hxj⟩:=List.mem_flatMap.1 hx;have hd:=hdisD j (by have:=List.mem_range.1 hj; omega) x hxj;rcases List.mem_append.1 hy with hy | hy
   {rcases List.mem_append.1 hy with hy | hy
    {exact hd.2.1 hy}
    {exact hd.2.2 hy}}
   · exact hnd'.2.2 x hx x hy rfl)
 refine ⟨F,h1,h2,fun b hb=> ?_⟩;rcases h3 b hb with h | ⟨j,hj,h⟩
 {exact Or.inl (by simp[h])}
 {rw[hll] at hj;by_cases hjl:j < L.length
  {simp only[Fs',if_pos hjl] at h;exact Or.inr ⟨j,by rw[hlen]; omega,h⟩}
  {simp only[Fs',if_neg hjl] at h;rcases List.mem_append.1 h with h | h
   {rcases List.mem_append.1 h with h | h
    {exact Or.inl (by simp[h])}
    {exact Or.inl (by simp[h])}}
   {obtain ⟨i,hi,h⟩:=List.mem_flatMap.1 h;exact Or.inr ⟨L.length+i,by rw[hlen]; have:=List.mem_range.1 hi; omega,h⟩}}}
end
end Go.Proofs.YtmeiijjpomcgcaaDoor
