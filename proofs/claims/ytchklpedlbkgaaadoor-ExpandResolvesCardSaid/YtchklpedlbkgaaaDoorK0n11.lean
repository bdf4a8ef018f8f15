/- What the proofs of ExpandResolves want, part 11. -/
import Derived.Test.YtchklpedlbkgaaaDoorK0n10
set_option linter.unusedVariables false
set_option linter.unusedSimpArgs false
set_option linter.unusedSectionVars false
set_option maxRecDepth 100000
set_option maxHeartbeats 16000000
namespace Sub
section
open Shp
def look:List (List UInt8)->List Sh->List UInt8->Option Sh
 | x::ns,p::ps,n=>if x=n then some p else look ns ps n
 | [],_,_=>none
 | _::_,[],_=>none
def get (t:Sh) (n:List UInt8):Option Sh:=look t.names t.parts n
theorem Z6k {ns:List (List UInt8)} {ps:List Sh} {n:List UInt8} {p:Sh} (h:look ns ps n=some p):n∈ns/\p∈ps:=by
 induction ns generalizing ps with
 | nil=>cases ps <;> simp[look] at h
 | cons x ns ih=>
  cases ps with
  | nil=>simp[look] at h
  | cons q ps=>
   unfold look at h;split at h
   {rename_i e
    cases h;exact ⟨by simp[e],by simp⟩}
   {have:=ih h;exact ⟨by simp[this.1],by simp[this.2]⟩}
structure Rec (t:Sh):Prop where
 k:t.kind=6\/t.kind=7
 b:bare t=true
 l:t.names.length=t.parts.length
 a:areNames t.names=true
theorem Z07 {t p:Sh} {n:List UInt8} (h:get t n=some p):p∈t.parts:=(Z6k h).2
def Narrow (up:Bool) (k:Int):Prop:=(up=true/\k=6)\/(up=false/\k=7)
def Wide (up:Bool) (k:Int):Prop:=(up=true/\k=7)\/(up=false/\k=6)
instance (up:Bool) (k:Int):Decidable (Narrow up k):=by unfold Narrow; infer_instance
instance (up:Bool) (k:Int):Decidable (Wide up k):=by unfold Wide; infer_instance
def V:Nat->Bool->Sh->Sh->Prop
 | 0,_,_,_=>False
 | f+1,up,a,b=>a.kind=b.kind/\
  (Narrow up a.kind-> ∀n q,get b n=some q-> ∃p,get a n=some p/\V f up p q)/\
  (Wide up a.kind-> ∀n p,get a n=some p-> ∃q,get b n=some q/\V f up p q)/\
  (¬(a.kind=6\/a.kind=7)->a.of_=b.of_/\a.name=b.name/\a.parts.length=b.parts.length/\
   ∀i p q,a.parts[i]? =some p->b.parts[i]? =some q->V f (if i+1=a.parts.length then up else !up) p q)
theorem V.refl {f:Nat}: ∀ {up:Bool} {a:Sh},deep a<=f->V f up a a:=by
 induction f with
 | zero=>intro up a h; rw[Z0h] at h; omega
 | succ f ih=>
  intro up a h;have hp: ∀p∈a.parts,deep p<=f:=fun p hp=>by have:=Z0y hp; rw[Z0h] at h; omega
  refine ⟨rfl,fun _ n q hq=>⟨q,hq,ih (hp q (Z07 hq))⟩,fun _ n q hq=>⟨q,hq,ih (hp q (Z07 hq))⟩,fun _=>⟨rfl,rfl,rfl,fun i p q h1 h2=> ?_⟩⟩;rw[h1] at h2;cases h2;exact ih (hp p (List.mem_of_getElem? h1))
theorem V.trans {f:Nat}: ∀ {up:Bool} {a b c:Sh},V f up a b->V f up b c->V f up a c:=by
 induction f with
 | zero=>intro up a b c h; exact h.elim
 | succ f ih=>
  intro up a b c h k;obtain ⟨hk,h1,h2,h3⟩:=h;obtain ⟨kk,k1,k2,k3⟩:=k;rw[<-hk] at k1 k2 k3;refine ⟨hk.trans kk,fun h n r hr=> ?_,fun h n p hp=> ?_,fun h=> ?_⟩
  {obtain ⟨q,hq,hv⟩:=k1 h n r hr;obtain ⟨p,hp,hu⟩:=h1 h n q hq;exact ⟨p,hp,ih hu hv⟩}
  {obtain ⟨q,hq,hv⟩:=h2 h n p hp;obtain ⟨r,hr,hu⟩:=k2 h n q hq;exact ⟨r,hr,ih hv hu⟩}
  {obtain ⟨e1,e2,e3,e4⟩:=h3 h;obtain ⟨g1,g2,g3,g4⟩:=k3 h;refine ⟨e1.trans g1,e2.trans g2,e3.trans g3,fun i p r hp hr=> ?_⟩;have hi:i < a.parts.length:=(List.getElem?_eq_some_iff.1 hp).1;have hib:i < b.parts.length:=by omega
   obtain ⟨q,hq⟩: ∃q,b.parts[i]? =some q:=⟨_,List.getElem?_eq_getElem hib⟩;have:=g4 i q r hq hr;rw[<-e3] at this;exact ih (e4 i p q hp hq) this}
abbrev Cl:=List UInt8×Option Sh×Option Sh
def callsA (a b:Sh):List Cl:=(a.names.zip a.parts).map (fun x=>(x.1,some x.2,get b x.1))
def callsB (a b:Sh):List Cl:=((b.names.zip b.parts).filter (fun x=>(get a x.1).isNone)).map (fun x=>(x.1,none,some x.2))
def calls (a b:Sh):List Cl:=callsA a b++callsB a b
def narrowStep (g:Sh->Sh->Option Sh) (c:Cl):Option Fld:=
 match c with
 | (n,some p,some q)=>(g p q).map (fun x=>(n,x))
 | (_,some _,none)=>none
 | (_,none,_)=>none
def wideStep (g:Sh->Sh->Option Sh) (c:Cl):Option Fld:=
 match c with
 | (n,some p,some q)=>(g p q).map (fun x=>(n,x))
 | (n,some p,none)=>some (n,p)
 | (n,none,some q)=>some (n,q)
 | (_,none,none)=>none
def allOf (s:Cl->Option Fld):List Cl->Option (List Fld)
 | []=>some []
 | c::l=>(s c).bind (fun x=>(allOf s l).map (fun xs=>x::xs))
def placesOf (ga gr:Sh->Sh->Option Sh):List Sh->List Sh->Option (List Sh)
 | [],[]=>some []
 | a::us,b::bs=>(if us.isEmpty then gr a b else ga a b).bind (fun x=>(placesOf ga gr us bs).map (fun xs=>x::xs))
 | [],_::_=>none
 | _::_,[]=>none
def made (k:Int) (l:List Fld):Sh:=⟨k,[],[],l.map Prod.fst,l.map Prod.snd⟩
def bound:Nat->Bool->Sh->Sh->Option Sh
 | 0,_,_,_=>none
 | f+1,up,a,b=>
  if a.kind≠b.kind then none
  else if Narrow up a.kind then some (made a.kind ((calls a b).filterMap (narrowStep (bound f up))))
  else if Wide up a.kind then (allOf (wideStep (bound f up)) (calls a b)).map (made a.kind)
  else if a.of_=b.of_/\a.name=b.name then (placesOf (bound f (!up)) (bound f up) a.parts b.parts).map (fun ps=>⟨a.kind,a.of_,a.name,[],ps⟩)
  else none
def sz:Option Sh->Nat
 | some p=>size p
 | none=>0
end
end Sub
namespace Go.Proofs.YtchklpedlbkgaaaDoor
open Go.RowKit Shp
namespace SubM
abbrev sv (s:Sh) (q:Ptr):Value:= .agg (Y8 s q)
structure Upd (S:Nat->Prop) (a b:World):Prop where
 os:b.os=a.os
 tape:b.tape=a.tape
 output:b.output=a.output
 size:a.heap.size<=b.heap.size
 block: ∀x,x < a.heap.size-> ¬S x->b.heap[x]? =a.heap[x]?
section
variable {S T : Nat -> Prop} {a b c : World} {B n0 : Nat}
theorem Upd.refl (S:Nat->Prop) (a:World):Upd S a a:=⟨rfl,rfl,rfl,Nat.le_refl _,fun _ _ _=>rfl⟩
theorem Upd.trans (h:Upd S a b) (k:Upd S b c):Upd S a c:=
 ⟨k.os.trans h.os,k.tape.trans h.tape,k.output.trans h.output,Nat.le_trans h.size k.size,fun x h1 h2=>(k.block x (Nat.lt_of_lt_of_le h1 h.size) h2).trans (h.block x h1 h2)⟩
theorem Upd.mono (h:Upd S a b) (hs: ∀x,x < a.heap.size->S x->T x):Upd T a b:=⟨h.os,h.tape,h.output,h.size,fun x h1 h2=>h.block x h1 (fun hx=>h2 (hs x h1 hx))⟩
theorem Upd.of_below (h:Below B a b) (hB: ∀x,x < a.heap.size->B<=x->S x):Upd S a b:=
 ⟨h.os,h.tape,h.output,h.size,fun x h1 h2=>h.block x (Nat.lt_of_not_le (fun hx=>h2 (hB x h1 hx)))⟩
theorem Upd.new (h:Below a.heap.size a b):Upd S a b:=Upd.of_below h (fun x h1 h2=>absurd h1 (by omega))
theorem Upd.below (h:Upd S a b) (hB:B<=a.heap.size) (hS: ∀x,S x->B<=x):Below B a b:=⟨h.os,h.tape,h.output,h.size,fun x h1=>h.block x (by omega) (fun hx=>by have:=hS x hx; omega)⟩
theorem Upd.drew (h:Upd S a b):Upd S a b.drew:=⟨h.os,h.tape,h.output,h.size,h.block⟩
theorem Upd.grown (h:Upd S a b) {row:Option Nat} (hg:b.grownBy c row) (hr: ∀k,row=some k->k < a.heap.size->S k):Upd S a c:=
 ⟨hg.os.trans h.os,hg.tape.trans h.tape,hg.output.trans h.output,Nat.le_trans h.size hg.size,fun x h1 h2=>(hg.block x (Nat.lt_of_lt_of_le h1 h.size) (fun e=>h2 (hr x e.symm h1))).trans (h.block x h1 h2)⟩
theorem Upd.set (h:Upd S a b) (p:Addr) (hp:p.block < a.heap.size->S p.block) (v:Value):Upd S a (b.setCell p v):=
 ⟨h.os,h.tape,h.output,by simpa[World.setCell] using h.size,fun x h1 h2=>(Below.heap_setCell _ _ _ _ (fun e=>h2 (by
  have e':x=p.block:=by first | exact e | exact e.symm
  rw[e']; exact hp (e'▸h1)))).trans (h.block x h1 h2)⟩
theorem Upd.cell (h:Upd S a b) {g k:Nat} (hg:g < a.heap.size) (hS: ¬S g):b.cell? ⟨g,k,none⟩=a.cell? ⟨g,k,none⟩:=World.cell?_of_block (w:=a) (h.block g hg hS)
theorem Upd.frozen (h:Upd S a b) {g k:Nat} (hg:g < a.heap.size) (hS: ¬S g):b.frozen? ⟨g,k,none⟩=a.frozen? ⟨g,k,none⟩:=World.frozen?_of_block (w:=a) (h.block g hg hS)
theorem Z2g {g:Nat} {t:Sh} {q:Ptr} (h:Box5 a g t q) (hu:Upd S a b) (hS: ¬S g):Box5 b g t q:=by
 obtain ⟨h0,h1,f0,f1,f2,f3,f4⟩:=h;exact ⟨Nat.lt_of_lt_of_le h0 hu.size,h1.of (fun k=>hu.cell h0 hS),(hu.frozen h0 hS).trans f0,(hu.frozen h0 hS).trans f1,(hu.frozen h0 hS).trans f2,(hu.frozen h0 hS).trans f3,(hu.frozen h0 hS).trans f4⟩
theorem Z4K {t:Sh} {q:Ptr} (h:ShAt a n0 q t) (hn:n0<=a.heap.size) (hu:Upd S a b) (hS: ∀x,x < n0-> ¬S x):ShAt b n0 q t:=
 h.of (Nat.le_refl _) (fun g k hg=>hu.cell (by omega) (hS g hg))
theorem ZbF {g N:Nat} {K:List Ky} {m:Ky->Value} (h:Mp a g N K m) (hu:Upd S a b) (hS: ¬S g):Mp b g N K m:=h.same (hu.block g h.lt hS)
end
def At (W:World) (n0:Nat) (o:Option Sh) (v:Value):Prop:=
 match o with
 | none=>v= .pointer none
 | some p=> ∃g off q,v= .pointer (some ⟨g,off,none⟩)/\g < n0/\Sh5 W g off p q/\ShAt W n0 q p
theorem At.upd {a b:World} {S:Nat->Prop} {n0:Nat} {o:Option Sh} {v:Value} (h:At a n0 o v) (hn:n0<=a.heap.size) (hu:Upd S a b) (hS: ∀x,x < n0-> ¬S x):At b n0 o v:=by
 cases o with
 | none=>exact h
 | some p=>
  obtain ⟨g,off,q,h1,h2,h3,h4⟩:=h;exact ⟨g,off,q,h1,h2,h3.of (fun k=>hu.cell (by omega) (hS g h2)),Z4K h4 hn hu hS⟩
end SubM
end Go.Proofs.YtchklpedlbkgaaaDoor
namespace Go.Proofs.YtchklpedlbkgaaaDoor
open Go.RowKit Shp Sub
namespace SubM
structure Takes (n0 N:Nat) (a b:Sh) (fn:Nat) (cs:List Value) (step:Cl->Bool) (K:Bool->List Cl->World->Prop):Prop where
 keep: ∀ok done W W',K ok done W->Upd (fun x=>N<=x/\x < N+3) W W'->K ok done W'
 call: ∀done c rest W (x y:Value),calls a b=done++c::rest->N+3<=W.heap.size->K true done W->At W n0 c.2.1 x->At W n0 c.2.2 y->
  Calls Tryd.prog fn (.string ⟨c.1.toArray⟩::x::y::cs).toArray W fun e W'=>e= .returned (.bool (step c))/\K (step c) (done++ [c]) W'/\Upd (fun x=>n0<=x/\ ¬(N<=x/\x < N+3)) W W'
def numOf:List (List UInt8)->List UInt8->Nat
 | [],_=>0
 | x::l,n=>if x=n then 0 else numOf l n+1
def place (g off:Nat) (ns:List (List UInt8)) (n:List UInt8):Value:= .pointer (some ⟨g,off+numOf ns n * 5,none⟩)
def Parts (W:World) (n0:Nat) (t:Sh) (q:Ptr) (g off:Nat) (qs:Nat->Ptr):Prop:=
 t.parts.length=0\/(q.P=some ⟨g,off,none⟩/\g < n0/\ ∀i (h:i < t.parts.length),Sh5 W g (off+i * 5) (t.parts[i]'h) (qs i)/\ShAt W n0 (qs i) (t.parts[i]'h))
theorem Parts.upd {a b:World} {S:Nat->Prop} {n0:Nat} {t:Sh} {q:Ptr} {g off:Nat} {qs:Nat->Ptr} (h:Parts a n0 t q g off qs) (hn:n0<=a.heap.size) (hu:Upd S a b) (hS: ∀x,x < n0-> ¬S x):Parts b n0 t q g off qs:=by
 rcases h with h | ⟨hP,hg,hc⟩
 {exact Or.inl h}
 {exact Or.inr ⟨hP,hg,fun i hi=>⟨(hc i hi).1.of (fun k=>hu.cell (by omega) (hS g hg)),Z4K (hc i hi).2 hn hu hS⟩⟩}
structure L1 (N:Nat) (a b:Sh) (pa pb:Ptr) (g off:Nat) (w:World) (k:Nat) (W:World):Prop where
 ba:Box5 W N a pa
 bb:Box5 W (N+1) b pb
 mp: ∃S,Mp W (N+2) k S (place g off b.names)/\ ∀n,n∈S ↔ n∈b.names.take k
 up:Upd (fun x=>N<=x/\x < N+3) w W
structure L2 (n0 N:Nat) (a b:Sh) (pa pb:Ptr) (g off:Nat) (w:World) (K:Bool->List Cl->World->Prop) (gone:List (List UInt8)) (done:List Cl) (W:World):Prop where
 ba:Box5 W N a pa
 bb:Box5 W (N+1) b pb
 mp: ∃S,Mp W (N+2) b.names.length S (place g off b.names)/\ ∀n,n∈S ↔ n∈b.names/\n∉gone
 up:Upd (fun x=>n0<=x) w W
 sz:N+3<=W.heap.size
 k:K true done W
section
variable {n0 : Nat} {a b : Sh} {pa pb : Ptr} {g off : Nat} {w : World} {K : Bool -> List Cl -> World -> Prop} {gone : List (List UInt8)} {done : List Cl} {W W' : World} {fn : Nat} {cs : List Value} {step : Cl -> Bool}
theorem L2.upd (h:L2 n0 w.heap.size a b pa pb g off w K gone done W) (hn:n0<=w.heap.size) (hu:Upd (fun x=>n0<=x/\ ¬(w.heap.size<=x/\x < w.heap.size+3)) W W') {done':List Cl} (hk:K true done' W'):L2 n0 w.heap.size a b pa pb g off w K gone done' W':=by
 obtain ⟨S,hM,hS⟩:=h.mp;exact ⟨Z2g h.ba hu (by omega),Z2g h.bb hu (by omega),⟨S,ZbF hM hu (by omega),hS⟩,h.up.trans (hu.mono (fun x _ hx=>hx.1)),Nat.le_trans h.sz hu.size,hk⟩
theorem L2.drew (h:L2 n0 w.heap.size a b pa pb g off w K gone done W) (hT:Takes n0 w.heap.size a b fn cs step K) (hn:n0<=w.heap.size):L2 n0 w.heap.size a b pa pb g off w K gone done W.drew:=
 h.upd hn (Upd.refl _ W).drew (hT.keep _ _ _ _ h.k (Upd.refl _ W).drew)
end
end SubM
end Go.Proofs.YtchklpedlbkgaaaDoor
namespace Go.Proofs.YtchklpedlbkgaaaDoor
open Go.RowKit Shp Sub
namespace SubM
def rowB (A:Option Addr):Option Nat:=A.map (·.block)
theorem rowB_own (A:Option Addr) (n c:Nat):Value.ownBlock (.slice A n c)=rowB A:=by cases A <;> rfl
section
variable {W : World} {A : Option Addr} {m c B e s : Nat} {xs : List Value} (h : W.ownsRow B e s (.slice A m c) m xs)
include W A m c B e s xs h
theorem Z0c: ∀b,rowB A=some b->B<=b/\b < W.heap.size:=fun b hb=>h.lt b (by rw[rowB_own]; exact hb)
theorem slice_form: (A=none/\m=0/\c=0)\/ ∃g,A=some ⟨g,0,none⟩/\m<=c:=by
 rcases h.2 with ⟨h1,h2⟩ | ⟨g,cap,cur,h1,_,_,h2,_⟩
 {simp only[Value.slice.injEq] at h1; exact Or.inl ⟨h1.1,h2,h1.2.2⟩}
 {simp only[Value.slice.injEq] at h1;obtain ⟨h3,_,rfl⟩:=h1;exact Or.inr ⟨g,h3,h2⟩}
end
theorem Z0m {S:Nat->Prop} {W W':World} {A:Option Addr} {m c B e s n:Nat} {xs:List Value} (h:W.ownsRow B e s (.slice A m c) n xs) (hu:Upd S W W') (hS: ∀b,rowB A=some b-> ¬S b):W'.ownsRow B e s (.slice A m c) n xs:=by
 obtain ⟨h1,h2⟩:=h;refine ⟨h1, ?_⟩;rcases h2 with h2 | ⟨g,cap,cur,hv,hb,hg,hc⟩
 {exact Or.inl h2}
 {refine Or.inr ⟨g,cap,cur,hv,hb, ?_,hc⟩;have hgl:g < W.heap.size:=(Array.getElem?_eq_some_iff.1 hg).1;rw[hu.block g hgl (hS g (by simp only[Value.slice.injEq] at hv; rw[hv.1]; rfl))];exact hg}
theorem Z4e {W:World} {g m c B e s n:Nat} {xs:List Value} (h:W.ownsRow B e s (.slice (some ⟨g,0,none⟩) m c) n xs) {j:Nat} {u:Value} (hu:xs[j]? =some u):W.cell? ⟨g,j,none⟩=some u:=by
 have:=h.cells (g:=g) rfl j u hu
 rwa [Z0o,Nat.zero_add] at this
abbrev El:=Sh×Ptr
def cells5 (x:El):List Value:= [.int .i64 x.1.kind,.string ⟨x.1.of_.toArray⟩,.string ⟨x.1.name.toArray⟩,.slice x.2.A x.1.names.length x.2.c,.slice x.2.P x.1.parts.length x.2.d]
def cellsE (l:List El):List Value:=l.flatMap cells5
def namesE (l:List (List UInt8)):List Value:=l.map fun n=> .string ⟨n.toArray⟩
theorem cellsE_append (l m:List El):cellsE (l++m)=cellsE l++cellsE m:=by simp[cellsE]
theorem cellsE_one (x:El):cellsE [x]=cells5 x:=by simp[cellsE]
theorem cellsE_len (l:List El): (cellsE l).length=l.length * 5:=by
 induction l with
 | nil=>rfl
 | cons a l ih=>rw[show a::l= [a]++l from rfl,cellsE_append,List.length_append,ih,cellsE_one]; simp[cells5]; omega
theorem namesE_len (l:List (List UInt8)): (namesE l).length=l.length:=by simp[namesE]
theorem namesE_append (l m:List (List UInt8)):namesE (l++m)=namesE l++namesE m:=by simp[namesE]
theorem cells5_one (x:El): ∀u∈cells5 x,u.oneCell'=true:=by
 intro u hu;simp only[cells5,List.mem_cons,List.not_mem_nil,or_false] at hu;rcases hu with rfl | rfl | rfl | rfl | rfl <;> rfl
theorem cellsE_at {l:List El} {i c:Nat} (hi:i < l.length) (hc:c < 5): (cellsE l)[i * 5+c]? =(cells5 (l[i]'hi))[c]? :=by
 have h1:l=l.take i++([l[i]'hi]++l.drop (i+1)):=by rw[List.singleton_append,List.getElem_cons_drop,List.take_append_drop]
 have h2: (cellsE (l.take i)).length=i * 5:=by rw[cellsE_len,List.length_take]; omega
 have h3: (cells5 (l[i]'hi)).length=5:=rfl
 conv=>lhs; rw[h1]
 rw[cellsE_append,cellsE_append,cellsE_one,List.getElem?_append_right (by omega),h2,Nat.add_sub_cancel_left,List.getElem?_append_left (by omega)]
def Kept (S:Nat->Prop) (W:World) (x:El):Prop:= ∀W',W.heap.size<=W'.heap.size->(∀b,b < W.heap.size->S b->W'.heap[b]? =W.heap[b]?)->ShAt W' W'.heap.size x.2 x.1
section
variable {S T : Nat -> Prop} {W W' : World} {x : El}
section
variable (h : Kept S W x)
include h
theorem Kept.here:ShAt W W.heap.size x.2 x.1:=h W (Nat.le_refl _) (fun _ _ _=>rfl)
theorem Kept.upd (hu:Upd T W W') (hd: ∀b,b < W.heap.size->S b-> ¬T b):Kept S W' x:=fun W2 h1 h2=>
 h W2 (Nat.le_trans hu.size h1) (fun b hb hs=>(h2 b (Nat.lt_of_lt_of_le hb hu.size) hs).trans (hu.block b hb (hd b hb hs)))
theorem Kept.more (hs: ∀b,b < W.heap.size->S b->T b):Kept T W x:=fun W2 h1 h2=>h W2 h1 (fun b hb hS=>h2 b hb (hs b hb hS))
end
theorem Kept.old {n0:Nat} (h:ShAt W n0 x.2 x.1) (hn:n0<=W.heap.size) (hS: ∀b,b < n0->S b):Kept S W x:=fun W2 h1 h2=>
 h.of (Nat.le_trans hn h1) (fun g k hg=>World.cell?_of_block (w:=W) (h2 g (by omega) (hS g hg)))
end
structure Mk (w0:World) (gm hi:Nat) (k:Int) (o nm:List UInt8) (nl:List (List UInt8)) (l:List El) (AN:Option Addr) (cN:Nat) (AP:Option Addr) (cP:Nat) (W:World):Prop where
 up:Below w0.heap.size w0 W
 lo:w0.heap.size<=gm
 gh:gm < hi
 hw:hi<=W.heap.size
 c0:W.cell? ⟨gm,0,none⟩=some (.int .i64 k)
 c1:W.cell? ⟨gm,1,none⟩=some (.string ⟨o.toArray⟩)
 c2:W.cell? ⟨gm,2,none⟩=some (.string ⟨nm.toArray⟩)
 c3:W.cell? ⟨gm,3,none⟩=some (.slice AN nl.length cN)
 c4:W.cell? ⟨gm,4,none⟩=some (.slice AP l.length cP)
 fz: ∀j,W.frozen? ⟨gm,j,none⟩=false
 rN:W.ownsRow hi 9 1 (.slice AN nl.length cN) nl.length (namesE nl)
 rP:W.ownsRow hi 25 5 (.slice AP l.length cP) l.length (cellsE l)
 ne:rowB AN=none\/rowB AN≠rowB AP
def Free (n0 hi:Nat) (AN AP:Option Addr) (b:Nat):Prop:=b < n0\/(hi<=b/\rowB AN≠some b/\rowB AP≠some b)
section
variable {w0 W W' : World} {gm hi : Nat} {k : Int} {o nm : List UInt8} {nl : List (List UInt8)} {l : List El} {AN AP : Option Addr} {cN cP : Nat}
theorem Mk.upd {S:Nat->Prop} (h:Mk w0 gm hi k o nm nl l AN cN AP cP W) (hu:Upd S W W') (h0: ∀b,b < w0.heap.size-> ¬S b) (h1: ¬S gm) (h2: ∀b,rowB AN=some b-> ¬S b) (h3: ∀b,rowB AP=some b-> ¬S b):
 Mk w0 gm hi k o nm nl l AN cN AP cP W':=by
 have hg:gm < W.heap.size:=Nat.lt_of_lt_of_le h.gh h.hw;refine ⟨h.up.trans (hu.below h.up.size (fun b hb=> ?_)),h.lo,h.gh,Nat.le_trans h.hw hu.size,(hu.cell hg h1).trans h.c0,(hu.cell hg h1).trans h.c1,(hu.cell hg h1).trans h.c2,(hu.cell hg h1).trans h.c3,(hu.cell hg h1).trans h.c4,
  fun j=>(hu.frozen hg h1).trans (h.fz j),Z0m h.rN hu h2,Z0m h.rP hu h3,h.ne⟩
 exact Nat.le_of_not_lt (fun hlt=>h0 b hlt hb)
theorem Mk.new (h:Mk w0 gm hi k o nm nl l AN cN AP cP W) (hb:Below W.heap.size W W'):Mk w0 gm hi k o nm nl l AN cN AP cP W':=
 h.upd (S:=fun _=>False) (Upd.new hb) (fun _ _ h=>h) (fun h=>h) (fun _ _ h=>h) (fun _ _ h=>h)
end
theorem Mk.at_ {w0 W:World} {gm hi n0:Nat} {k:Int} {o nm:List UInt8} {nl:List (List UInt8)} {l:List El} {AN AP:Option Addr} {cN cP:Nat} (h:Mk w0 gm hi k o nm nl l AN cN AP cP W)
 (hk: ∀x∈l,Kept (Free n0 hi AN AP) W x) (ho:o.length<=9223372036854775807) (hnm:nm.length<=9223372036854775807) (hnl: ∀x∈nl,x.length<=9223372036854775807) (hl:nl.length<=1000000) (hm:l.length<=1000000):
 Kept (fun b=>b < n0\/hi<=b) W (⟨k,o,nm,nl,l.map Prod.fst⟩,⟨AN,cN,AP,cP⟩):=by
 intro W' hz hs;have hN:=slice_form h.rN;have hP:=slice_form h.rP;have kept: ∀x∈l,ShAt W' W'.heap.size x.2 x.1:=fun x hx=>hk x hx W' hz (fun b hb hf=>hs b hb (by
  rcases hf with h | h
  {exact Or.inl h}
  · exact Or.inr h.1))
 refine .mk _ _ ((rowB AP).getD 0) 0 (fun i=>(l[i]?.map Prod.snd).getD ⟨none,0,none,0⟩) ⟨ho,hnm,hnl,by show nl.length<=_; omega,by show (l.map Prod.fst).length<=_; rw[List.length_map]; omega, ?_, ?_, ?_, ?_⟩ ?_ ?_ ?_ ?_
 {show nl.length<=cN;rcases hN with ⟨_,h1,h2⟩ | ⟨_,_,h1⟩ <;> omega}
 {show (l.map Prod.fst).length<=cP;rw[List.length_map];rcases hP with ⟨_,h1,h2⟩ | ⟨_,_,h1⟩ <;> omega}
 {intro (e:AN=none);show cN=0;rcases hN with ⟨_,h1,h2⟩ | ⟨g,h1,_⟩
  {exact h2}
  {rw[e] at h1; cases h1}}
 {intro (e:AP=none);show cP=0;rcases hP with ⟨_,h1,h2⟩ | ⟨g,h1,_⟩
  {exact h2}
  {rw[e] at h1; cases h1}}
 {show Strs W' W'.heap.size AN (strs nl);rcases hN with ⟨_,h1,_⟩ | ⟨g,rfl,_⟩
  {exact Or.inl (by unfold strs; simp[h1])}
  {have hg:=Z0c h.rN g rfl;refine Or.inr ⟨g,0,rfl,Nat.lt_of_lt_of_le hg.2 hz,fun i hi=> ?_⟩;have hi':i < nl.length:=by simpa[strs] using hi
   have e1:W'.cell? ⟨g,i,none⟩=W.cell? ⟨g,i,none⟩:=World.cell?_of_block (w:=W) (hs g hg.2 (Or.inr hg.1));rw[Nat.zero_add,e1,Z4e h.rN (u:= .string ⟨(nl[i]'hi').toArray⟩) (by unfold namesE; rw[List.getElem?_map,List.getElem?_eq_getElem hi']; rfl)];simp[strs]}}
 {show (l.map Prod.fst).length=0\/_;rcases hP with ⟨_,h1,_⟩ | ⟨g,rfl,_⟩
  {exact Or.inl (by rw[List.length_map]; exact h1)}
  {exact Or.inr ⟨rfl,Nat.lt_of_lt_of_le (Z0c h.rP g rfl).2 hz⟩}}
 {intro i hi;have hi':i < l.length:=by simpa using hi
  rcases hP with ⟨_,h1,_⟩ | ⟨g,rfl,_⟩
  {omega}
  {have hg:=Z0c h.rP g rfl;have e1: ∀j,W'.cell? ⟨g,j,none⟩=W.cell? ⟨g,j,none⟩:=fun j=>World.cell?_of_block (w:=W) (hs g hg.2 (Or.inr hg.1));have e2: ∀c v,c < 5->(cells5 (l[i]'hi'))[c]? =some v->W'.cell? ⟨g,0+i * 5+c,none⟩=some v:=fun c v hc hv=>by
    rw[Nat.zero_add,e1];exact Z4e h.rP (by rw[cellsE_at hi' hc]; exact hv)
   simp only[List.getElem_map];rw[List.getElem?_eq_getElem hi'];exact ⟨e2 0 _ (by omega) rfl,e2 1 _ (by omega) rfl,e2 2 _ (by omega) rfl,e2 3 _ (by omega) rfl,e2 4 _ (by omega) rfl⟩}}
 {intro i hi;have hi':i < l.length:=by simpa using hi
  simp only[List.getElem_map];rw[List.getElem?_eq_getElem hi'];exact kept _ (List.getElem_mem _)}
end SubM
end Go.Proofs.YtchklpedlbkgaaaDoor
namespace Go.Proofs.YtchklpedlbkgaaaDoor
open Go.RowKit Shp Sub
namespace SubM
theorem Zbm {P:Program} {e:TypeId} {z:Value} {size bytes:Nat} (h: (P.info? e).map (fun i=>(i.zero,i.size,i.bytes))=some (some z,size,bytes)): ∃i,P.info? e=some i/\i.zero=some z/\i.size=size/\i.bytes=bytes:=by
 cases hi:P.info? e with
 | none=>rw[hi] at h; cases h
 | some i=>
  rw[hi] at h;simp only[Option.map_some,Option.some.injEq,Prod.mk.injEq] at h;exact ⟨i,rfl,h.1,h.2.1,h.2.2⟩
theorem Zbn: (Tryd.prog.info? 25).map (fun i=>(i.zero,i.size,i.bytes))=some (some (.agg #[.int .i64 0,.string ByteArray.empty,.string ByteArray.empty,.slice none 0 0,.slice none 0 0]),5,88):=by kernel_rfl
theorem Z1K (d:Nat->Bool) {i j:Nat} (h:j≠i):also d i j=d j:=by
 unfold also;have:Nat.beq j i=false:=by cases hb:Nat.beq j i <;> first | rfl | exact absurd (Nat.eq_of_beq_eq_true hb) h
 rw[this]; rfl
structure PX where
 W0:World
 gm:Nat
 hi:Nat
 pb:Nat
 AN:Option Addr
 cN:Nat
 AP:Option Addr
 cP:Nat
 nl:List (List UInt8)
 l:List El
 nm:List UInt8
 x:El
namespace PX
variable (X : PX)
def val (j:Nat):Option Value:=match j with
 | 0 | 1 | 2 | 3 | 9 | 10 | 16 | 19=>some (.pointer (some ⟨X.gm,0,none⟩))
 | 4 | 17=>some (.pointer (some ⟨X.gm,3,none⟩))
 | 11 | 20=>some (.pointer (some ⟨X.gm,4,none⟩))
 | 5=>some (.slice X.AN X.nl.length X.cN)
 | 6=>some (.string ⟨X.nm.toArray⟩)
 | 12=>some (.slice X.AP X.l.length X.cP)
 | 13=>some (sv X.x.1 X.x.2)
 | _=>none
def set (b:Nat):Prop:=b=X.gm\/rowB X.AN=some b\/rowB X.AP=some b
structure Good:Prop where
 gh:X.gm < X.hi
 hw:X.hi<=X.pb
 pw:X.pb < X.W0.heap.size
 c3:X.W0.cell? ⟨X.gm,3,none⟩=some (.slice X.AN X.nl.length X.cN)
 c4:X.W0.cell? ⟨X.gm,4,none⟩=some (.slice X.AP X.l.length X.cP)
 fz: ∀j,X.W0.frozen? ⟨X.gm,j,none⟩=false
 rN:X.W0.ownsRow X.hi 9 1 (.slice X.AN X.nl.length X.cN) X.nl.length (namesE X.nl)
 rP:X.W0.ownsRow X.hi 25 5 (.slice X.AP X.l.length X.cP) X.l.length (cellsE X.l)
 ne:rowB X.AN=none\/rowB X.AN≠rowB X.AP
 bn:rowB X.AN≠some X.pb
 bp:rowB X.AP≠some X.pb
 box:Sh5 X.W0 X.pb 0 X.x.1 X.x.2
 ln:X.nl.length<=1000
 ll:X.l.length<=1000
structure PI (d:Nat->Bool) (u:Nat->Value) (W:World):Prop where
 vals: ∀j,d j=true-> ∀v,X.val j=some v->u j=v
 up:Upd X.set X.W0 W
 f7:d 7=true-> ∃z,u 7= .slice (some ⟨z,0,none⟩) 1 1/\X.W0.heap.size<=z/\z < W.heap.size/\W.cell? ⟨z,0,none⟩=some (.string ⟨X.nm.toArray⟩)
 f14:d 14=true-> ∃z,u 14= .slice (some ⟨z,0,none⟩) 1 1/\X.W0.heap.size<=z/\z < W.heap.size/\ ∀(j:Nat) v,(cells5 X.x)[j]? =some v->W.cell? ⟨z,j,none⟩=some v
 n0:d 8=false->W.ownsRow X.hi 9 1 (.slice X.AN X.nl.length X.cN) X.nl.length (namesE X.nl)
 n1:d 8=true-> ∃g c,u 8= .slice (some ⟨g,0,none⟩) (X.nl.length+1) c/\W.ownsRow X.hi 9 1 (.slice (some ⟨g,0,none⟩) (X.nl.length+1) c) (X.nl.length+1) (namesE X.nl++ [.string ⟨X.nm.toArray⟩])/\(rowB X.AN=some g\/X.W0.heap.size<=g)
 p0:d 15=false->W.ownsRow X.hi 25 5 (.slice X.AP X.l.length X.cP) X.l.length (cellsE X.l)
 p1:d 15=true-> ∃g c,u 15= .slice (some ⟨g,0,none⟩) (X.l.length+1) c/\W.ownsRow X.hi 25 5 (.slice (some ⟨g,0,none⟩) (X.l.length+1) c) (X.l.length+1) (cellsE X.l++cells5 X.x)/\(rowB X.AP=some g\/X.W0.heap.size<=g)/\
  ∀g8 n c8,u 8= .slice (some ⟨g8,0,none⟩) n c8->g8≠g
 c3:W.cell? ⟨X.gm,3,none⟩=some (if d 18=true then u 8 else .slice X.AN X.nl.length X.cN)
 c4:W.cell? ⟨X.gm,4,none⟩=some (if d 21=true then u 15 else .slice X.AP X.l.length X.cP)
 cr: ∀j,j < 3->W.cell? ⟨X.gm,j,none⟩=X.W0.cell? ⟨X.gm,j,none⟩
 fz: ∀j,W.frozen? ⟨X.gm,j,none⟩=false
variable {X : PX} {d : Nat -> Bool} {u : Nat -> Value} {W W' : World}
theorem PI.vals' (h:X.PI d u W) {i:Nat} {v:Value} (hv: ∀v',X.val i=some v'->v=v'): ∀j,also d i j=true-> ∀v',X.val j=some v'->upd u i v j=v':=fun j hj v' hv'=>by
 by_cases hij:j=i
 {subst hij; rw[Z0g]; exact hv v' hv'}
 {rw[Z1K d hij] at hj; rw[Z01 u v hij]; exact h.vals j hj v' hv'}
theorem Good.start (h:X.Good):X.PI (fun _=>false) u X.W0.drew:=
 ⟨nofun,(Upd.refl _ _).drew,nofun,nofun,fun _=>h.rN,nofun,fun _=>h.rP,nofun,h.c3,h.c4,fun _ _=>rfl,h.fz⟩
theorem PI.pure (h:X.PI d u W) {i:Nat} (hi:i≠7/\i≠8/\i≠14/\i≠15/\i≠18/\i≠21) {v:Value} (hv: ∀v',X.val i=some v'->v=v'):X.PI (also d i) (upd u i v) W:=by
 have k: ∀j,j=7\/j=8\/j=14\/j=15\/j=18\/j=21->also d i j=d j/\upd u i v j=u j:=fun j hj=>⟨Z1K d (by omega),Z01 u v (by omega)⟩;refine ⟨h.vals' hv,h.up, ?_, ?_, ?_, ?_, ?_, ?_, ?_, ?_,h.cr,h.fz⟩
 {rw[(k 7 (by omega)).1,(k 7 (by omega)).2]; exact h.f7}
 {rw[(k 14 (by omega)).1,(k 14 (by omega)).2]; exact h.f14}
 {rw[(k 8 (by omega)).1]; exact h.n0}
 {rw[(k 8 (by omega)).1,(k 8 (by omega)).2]; exact h.n1}
 {rw[(k 15 (by omega)).1]; exact h.p0}
 {rw[(k 15 (by omega)).1,(k 15 (by omega)).2,(k 8 (by omega)).2]; exact h.p1}
 {rw[(k 18 (by omega)).1,(k 8 (by omega)).2]; exact h.c3}
 {rw[(k 21 (by omega)).1,(k 15 (by omega)).2]; exact h.c4}
theorem PI.box (h:X.PI d u W) (hX:X.Good):Sh5 W X.pb 0 X.x.1 X.x.2:=
 hX.box.of (fun k=>h.up.cell hX.pw (fun hs=>by
  rcases hs with hs | hs | hs
  {have:=hX.gh; have:=hX.hw; omega}
  {exact hX.bn hs}
  · exact hX.bp hs))
theorem PI.new (h:X.PI d u W) (hX:X.Good) (hb:Below W.heap.size W W'):X.PI d u W':=by
 have hgm:X.gm < W.heap.size:=by have:=hX.gh; have:=hX.hw; have:=hX.pw; have:=h.up.size; omega
 have hu:Upd (fun _=>False) W W':=Upd.new hb;refine ⟨h.vals,h.up.trans (hu.mono (fun _ _ h=>h.elim)),fun h7=> ?_,fun h14=> ?_,fun h8=>Z0m (h.n0 h8) hu (fun _ _ h=>h),fun h8=> ?_,fun h15=>Z0m (h.p0 h15) hu (fun _ _ h=>h),fun h15=> ?_,
  (hu.cell hgm (fun h=>h)).trans h.c3,(hu.cell hgm (fun h=>h)).trans h.c4,fun j hj=>(hu.cell hgm (fun h=>h)).trans (h.cr j hj),fun j=>(hu.frozen hgm (fun h=>h)).trans (h.fz j)⟩
 {obtain ⟨z,e,z1,z2,z3⟩:=h.f7 h7;exact ⟨z,e,z1,Nat.lt_of_lt_of_le z2 hu.size,(hu.cell z2 (fun h=>h)).trans z3⟩}
 {obtain ⟨z,e,z1,z2,z3⟩:=h.f14 h14;exact ⟨z,e,z1,Nat.lt_of_lt_of_le z2 hu.size,fun j v hv=>(hu.cell z2 (fun h=>h)).trans (z3 j v hv)⟩}
 {obtain ⟨g,c,e,r,n⟩:=h.n1 h8;exact ⟨g,c,e,Z0m r hu (fun _ _ h=>h),n⟩}
 {obtain ⟨g,c,e,r,n⟩:=h.p1 h15;exact ⟨g,c,e,Z0m r hu (fun _ _ h=>h),n⟩}
end PX
end SubM
end Go.Proofs.YtchklpedlbkgaaaDoor
namespace Go.Proofs.YtchklpedlbkgaaaDoor
open Go.RowKit Shp Sub
namespace SubM
def PutOk (W:World) (gm:Nat) (AN AP:Option Addr) (AN' AP':Option Addr) (W':World):Prop:=
 Upd (fun b=>b=gm\/rowB AN=some b\/rowB AP=some b) W W'/\(∀b,rowB AN'=some b->rowB AN=some b\/W.heap.size<=b)/\(∀b,rowB AP'=some b->rowB AP=some b\/W.heap.size<=b)
end SubM
end Go.Proofs.YtchklpedlbkgaaaDoor
namespace Go.Proofs.YtchklpedlbkgaaaDoor
open Go.RowKit Shp Sub
namespace SubM
structure TakesP (n0 N:Nat) (a b:Sh) (fn:Nat) (cs:List Value) (step:Nat->Bool) (K:Bool->Nat->World->Prop):Prop where
 keep: ∀ok k W W',K ok k W->Upd (fun x=>N<=x/\x < N+2) W W'->K ok k W'
 call: ∀k (hk:k < a.parts.length) (hk2:k < b.parts.length) W (x y:Ptr),N+2<=W.heap.size->K true k W->ShAt W n0 x (a.parts[k]'hk)->ShAt W n0 y (b.parts[k]'hk2)->
  Calls Tryd.prog fn (sv (a.parts[k]'hk) x::sv (b.parts[k]'hk2) y:: .bool (decide (k+1=a.parts.length))::cs).toArray W fun e W'=>e= .returned (.bool (step k))/\K (step k) (k+1) W'/\Upd (fun x=>n0<=x/\ ¬(N<=x/\x < N+2)) W W'
structure P2 (n0 N:Nat) (a b:Sh) (pa pb:Ptr) (w:World) (K:Bool->Nat->World->Prop) (k:Nat) (W:World):Prop where
 ba:Box5 W N a pa
 bb:Box5 W (N+1) b pb
 up:Upd (fun x=>n0<=x) w W
 sz:N+2<=W.heap.size
 k:K true k W
section
variable {n0 : Nat} {a b : Sh} {pa pb : Ptr} {w : World} {K : Bool -> Nat -> World -> Prop} {k : Nat} {W W' : World} {fn : Nat} {cs : List Value} {step : Nat -> Bool}
theorem P2.upd (h:P2 n0 w.heap.size a b pa pb w K k W) (hn:n0<=w.heap.size) (hu:Upd (fun x=>n0<=x/\ ¬(w.heap.size<=x/\x < w.heap.size+2)) W W') {k':Nat} (hk:K true k' W'):P2 n0 w.heap.size a b pa pb w K k' W':=
 ⟨Z2g h.ba hu (by omega),Z2g h.bb hu (by omega),h.up.trans (hu.mono (fun x _ hx=>hx.1)),Nat.le_trans h.sz hu.size,hk⟩
theorem P2.new (h:P2 n0 w.heap.size a b pa pb w K k W) (hT:TakesP n0 w.heap.size a b fn cs step K) (hn:n0<=w.heap.size) (hb:Below W.heap.size W W'):P2 n0 w.heap.size a b pa pb w K k W':=
 h.upd hn (Upd.new hb) (hT.keep _ _ _ _ h.k (Upd.new hb))
end
end SubM
end Go.Proofs.YtchklpedlbkgaaaDoor
namespace Sub
section
open Shp Go.Proofs.YtchklpedlbkgaaaDoor
def stepNarrow (g:Sh->Sh->Bool) (c:Cl):Bool:=
 match c with
 | (_,_,none)=>true
 | (_,some p,some q)=>g p q
 | (_,none,some _)=>false
def stepWide (g:Sh->Sh->Bool) (c:Cl):Bool:=
 match c with
 | (_,none,_)=>true
 | (_,some p,some q)=>g p q
 | (_,some _,none)=>false
def placesAll (g:Sh->Sh->Bool):List Sh->List Sh->Bool
 | [],[]=>true
 | a::us,b::vs=>(if us.isEmpty then g a b else g b a)&&placesAll g us vs
 | [],_::_=>false
 | _::_,[]=>false
def bw:Nat->Sh->Sh->Bool
 | 0,_,_=>false
 | f+1,a,b=>
  if a.kind≠b.kind then false
  else if a.kind=6 then (calls a b).all (stepNarrow (bw f))
  else if a.kind=7 then (calls a b).all (stepWide (bw f))
  else decide (a.of_=b.of_/\a.name=b.name)&&placesAll (bw f) a.parts b.parts
def whole (o:Option Sh):Option Sh:=o.bind (fun j=>if check j=0 then some (sorted j) else none)
def J (up:Bool) (a b:Sh):Option Sh:=if check a=0/\check b=0 then whole (bound 40 up a b) else none
def below (a b:Sh):Bool:=decide (check a=0)&&decide (check b=0)&&bw 40 a b
end
end Sub
namespace Go.Proofs.YtchklpedlbkgaaaDoor
open Go.RowKit Shp Sub
namespace SubM
structure Two (f:Nat) (a b:Sh):Prop where
 ra:right a=true
 rb:right b=true
 da:deep a<=f
 db:deep b<=f
 sa:size a<=400
 sb:size b<=400
theorem Two.part {f:Nat} {a b p q:Sh} (h:Two (f+1) a b) (hp:p∈a.parts) (hq:q∈b.parts):Two f p q:=by
 obtain ⟨ra,rb,da,db,sa,sb⟩:=h;have h1:=Z0y hp;have h2:=Z0y hq;have h3:=Z15 hp;have h4:=Z15 hq;rw[Z0h] at da db;rw[size_eq] at sa sb;exact ⟨Z04 ra hp,Z04 rb hq,by omega,by omega,by omega,by omega⟩
theorem Two.swap {f:Nat} {a b:Sh} (h:Two f a b):Two f b a:=⟨h.rb,h.ra,h.db,h.da,h.sb,h.sa⟩
end SubM
end Go.Proofs.YtchklpedlbkgaaaDoor
namespace Go.Proofs.YtchklpedlbkgaaaDoor
open Go.RowKit Shp Sub
namespace SubM
namespace RX
def lay (W:World) (g:Nat) (t:Sh) (q:Ptr):World:=
 ((((W.setCell ⟨g,0,none⟩ (.int .i64 t.kind)).setCell ⟨g,1,none⟩ (.string ⟨t.of_.toArray⟩)).setCell ⟨g,2,none⟩ (.string ⟨t.name.toArray⟩)).setCell ⟨g,3,none⟩ (.slice q.A t.names.length q.c)).setCell ⟨g,4,none⟩ (.slice q.P t.parts.length q.d)
theorem lay_upd (W:World) (g:Nat) (t:Sh) (q:Ptr):Upd (fun b=>b=g) W (lay W g t q):=
 Upd.set (Upd.set (Upd.set (Upd.set (Upd.set (Upd.refl (fun b=>b=g) W) ⟨g,0,none⟩ (fun _=>rfl) _) ⟨g,1,none⟩ (fun _=>rfl) _) ⟨g,2,none⟩ (fun _=>rfl) _) ⟨g,3,none⟩ (fun _=>rfl) _) ⟨g,4,none⟩ (fun _=>rfl) _
theorem soc {W:World} {b x y:Nat} {v:Value} (h:x≠y): (W.setCell ⟨b,x,none⟩ v).cell? ⟨b,y,none⟩=W.cell? ⟨b,y,none⟩:=World.cell?_setCell_other _ _ _ _ (fun e=>by have:=congrArg Addr.off e; simp at this; omega)
theorem lay_at {W:World} {g:Nat} (t:Sh) (q:Ptr) (h: ∀j,j < 5-> ∃v,W.cell? ⟨g,j,none⟩=some v):Sh5 (lay W g t q) g 0 t q:=by
 obtain ⟨v0,h0⟩:=h 0 (by omega);obtain ⟨v1,h1⟩:=h 1 (by omega);obtain ⟨v2,h2⟩:=h 2 (by omega);obtain ⟨v3,h3⟩:=h 3 (by omega);obtain ⟨v4,h4⟩:=h 4 (by omega);unfold lay Sh5;simp only[Nat.zero_add];refine ⟨?_, ?_, ?_, ?_, ?_⟩
 {rw[soc (by omega),soc (by omega),soc (by omega),soc (by omega)]; exact World.cell?_setCell_same _ _ _ h0}
 {rw[soc (by omega),soc (by omega),soc (by omega)]; exact World.cell?_setCell_same _ _ _ (by rw[soc (by omega)]; exact h1)}
 {rw[soc (by omega),soc (by omega)]; exact World.cell?_setCell_same _ _ _ (by rw[soc (by omega),soc (by omega)]; exact h2)}
 {rw[soc (by omega)]; exact World.cell?_setCell_same _ _ _ (by rw[soc (by omega),soc (by omega),soc (by omega)]; exact h3)}
 {exact World.cell?_setCell_same _ _ _ (by rw[soc (by omega),soc (by omega),soc (by omega),soc (by omega)]; exact h4)}
end RX
theorem Kept.move {S S' T:Nat->Prop} {W W':World} {x:El} (h:Kept S W x) (hu:Upd T W W') (hd: ∀b,b < W.heap.size->S b-> ¬T b/\S' b):Kept S' W' x:=fun W2 h1 h2=>
 h W2 (Nat.le_trans hu.size h1) (fun b hb hs=>(h2 b (Nat.lt_of_lt_of_le hb hu.size) (hd b hb hs).2).trans (hu.block b hb (hd b hb hs).1))
structure KNs (w0:World) (n0 gm hi pf:Nat) (fv:Value) (k:Int) (ok:Bool) (L:List Fld) (l:List El) (AN:Option Addr) (cN:Nat) (AP:Option Addr) (cP:Nat) (W:World):Prop where
 mm:Mk w0 gm hi k [] [] (L.map Prod.fst) l AN cN AP cP W
 eq:l.map Prod.fst=L.map Prod.snd
 kp:ok=true-> ∀x∈l,Kept (Free n0 hi AN AP) W x
 fc:W.cell? ⟨pf,0,none⟩=some fv
def KN (w0:World) (n0 gm hi pf:Nat) (fv:Value) (k:Int) (ok:Bool) (L:List Fld) (W:World):Prop:= ∃l AN cN AP cP,KNs w0 n0 gm hi pf fv k ok L l AN cN AP cP W
section
variable {w0 W W' : World} {n0 gm hi pf : Nat} {fv : Value} {k : Int} {ok : Bool} {L : List Fld} {l : List El} {AN AP : Option Addr} {cN cP : Nat}
theorem KNs.len (h:KNs w0 n0 gm hi pf fv k ok L l AN cN AP cP W):l.length=L.length:=by have:=congrArg List.length h.eq; simpa using this
theorem KNs.new (h:KNs w0 n0 gm hi pf fv k ok L l AN cN AP cP W) (hpf:pf < hi) (hb:Below W.heap.size W W'):KNs w0 n0 gm hi pf fv k ok L l AN cN AP cP W':=
 ⟨h.mm.new hb,h.eq,fun ho x hx=>(h.kp ho x hx).upd (T:=fun _=>False) (Upd.new hb) (fun _ _ _ h=>h),(hb.cell (p:=⟨pf,0,none⟩) (Nat.lt_of_lt_of_le hpf h.mm.hw)).trans h.fc⟩
theorem KNs.put (h:KNs w0 n0 gm hi pf fv k ok L l AN cN AP cP W) (hn:n0<=gm) (hpf:pf < hi) (hpg:pf≠gm) {nm:List UInt8} {t:Sh} {q:Ptr} {ok':Bool} (hok:ok'=true->ok=true) (hkp:ok'=true->Kept (Free n0 hi AN AP) W (t,q))
 {AN' AP':Option Addr} {cN' cP':Nat} (hm:Mk w0 gm hi k [] [] (L.map Prod.fst++ [nm]) (l++ [(t,q)]) AN' cN' AP' cP' W') (hp:PutOk W gm AN AP AN' AP' W'):KN w0 n0 gm hi pf fv k ok' (L++ [(nm,t)]) W':=by
 obtain ⟨hu,h1,h2⟩:=hp;have hg:=h.mm.gh;have key: ∀x,Kept (Free n0 hi AN AP) W x->Kept (Free n0 hi AN' AP') W' x:=fun x hx=>hx.move hu (fun b hb hf=>by
  refine ⟨fun ht=> ?_, ?_⟩
  {rcases hf with hf | ⟨hf,f1,f2⟩
   {rcases ht with ht | ht | ht
    {omega}
    {have:=(Z0c h.mm.rN b ht).1; omega}
    {have:=(Z0c h.mm.rP b ht).1; omega}}
   {rcases ht with ht | ht | ht
    {omega}
    {exact f1 ht}
    {exact f2 ht}}}
  · rcases hf with hf | ⟨hf,f1,f2⟩
    {exact Or.inl hf}
    · exact Or.inr ⟨hf,fun e=>(h1 b e).elim f1 (fun h=>by omega),fun e=>(h2 b e).elim f2 (fun h=>by omega)⟩)
 refine ⟨l++ [(t,q)],AN',cN',AP',cP',⟨by rw[List.map_append]; exact hm,by rw[List.map_append,List.map_append,h.eq]; rfl,fun ho x hx=> ?_, ?_⟩⟩
 {rcases List.mem_append.1 hx with hx | hx
  {exact key x (h.kp (hok ho) x hx)}
  {rw[List.mem_singleton.1 hx]; exact key _ (hkp ho)}}
 {refine (hu.cell (Nat.lt_of_lt_of_le hpf h.mm.hw) (fun ht=> ?_)).trans h.fc;rcases ht with ht | ht | ht
  {exact hpg ht}
  {have:=(Z0c h.mm.rN pf ht).1; omega}
  {have:=(Z0c h.mm.rP pf ht).1; omega}}
end
abbrev noneQ12:Ptr:=⟨none,0,none,0⟩
structure St0 (w0:World) (gm pf:Nat) (fv:Value) (k:Int) (W:World):Prop where
 up:Below w0.heap.size w0 W
 lo:w0.heap.size<=gm
 gw:gm < W.heap.size
 c5:Sh5 W gm 0 ⟨k,[],[],[],[]⟩ noneQ12
 fz: ∀j,W.frozen? ⟨gm,j,none⟩=false
 pw:pf < W.heap.size
 fc:W.cell? ⟨pf,0,none⟩=some fv
section
variable {w0 W W' : World} {n0 gm hi pf : Nat} {fv : Value} {k : Int}
theorem St0.fin (h:St0 w0 gm pf fv k W) (S:Nat->Prop):Sh5 W gm 0 (made k []) noneQ12/\Kept S W (made k [],noneQ12):=
 ⟨h.c5,fun W' _ _=> .mk _ _ 0 0 (fun _=>noneQ12) ⟨by simp[made],by simp[made],by simp[made],by simp[made],by simp[made],by simp[made],by simp[made],fun _=>rfl,fun _=>rfl⟩ (Or.inl rfl) (Or.inl rfl) (fun i hi=>by simp[made] at hi) (fun i hi=>by simp[made] at hi)⟩
section
variable {ok : Bool} {L : List Fld} (h : KN w0 n0 gm hi pf fv k ok L W)
include ok L h
theorem KN.fin: ∃q,Sh5 W gm 0 (made k L) q/\(ok=true->(∀x∈L.map Prod.fst,x.length<=1000)->L.length<=1000->Kept (fun b=>b < n0\/hi<=b) W (made k L,q)):=by
 obtain ⟨l,AN,cN,AP,cP,h⟩:=h;have he: (⟨k,[],[],L.map Prod.fst,l.map Prod.fst⟩:Sh)=made k L:=by rw[h.eq]; rfl
 refine ⟨⟨AN,cN,AP,cP⟩, ?_,fun ho hx hl=> ?_⟩
 {have hlen:=h.len;refine ⟨h.mm.c0,h.mm.c1,h.mm.c2,h.mm.c3, ?_⟩;have:=h.mm.c4;simp only[made,List.length_map];rw[hlen] at this;exact this}
 {have hlen:=h.len;have:=h.mm.at_ (n0:=n0) (h.kp ho) (by simp) (by simp) (fun x hm=>by have:=hx x hm; omega) (by rw[List.length_map]; omega) (by omega);rw[he] at this;exact this}
theorem KN.below:Below w0.heap.size w0 W/\gm < W.heap.size/\hi<=W.heap.size:=by
 obtain ⟨l,AN,cN,AP,cP,h⟩:=h;exact ⟨h.mm.up,Nat.lt_of_lt_of_le h.mm.gh h.mm.hw,h.mm.hw⟩
end
end
theorem Two.ln {f:Nat} {a b:Sh} (h:Two f a b) (A:Rec a):a.names.length<=400:=by rw[A.l]; have:=h.sa; have:=Z0F a.parts; rw[size_eq] at *; omega
structure Rc (rc:Nat) (W:World):Prop where
 lt:rc < W.heap.size
 ex: ∀j,j < 5-> ∃v,W.cell? ⟨rc,j,none⟩=some v
 fz: ∀j,W.frozen? ⟨rc,j,none⟩=false
theorem Rc.upd {T:Nat->Prop} {rc:Nat} {W W':World} (h:Rc rc W) (hu:Upd T W W') (hT: ¬T rc):Rc rc W':=
 ⟨Nat.lt_of_lt_of_le h.lt hu.size,fun j hj=>by
  obtain ⟨v,hv⟩:=h.ex j hj;exact ⟨v,(hu.cell h.lt hT).trans hv⟩,fun j=>(hu.frozen h.lt hT).trans (h.fz j)⟩
theorem Zac {W W':World} (h:W'=W.alloc (.cells Yb 25)):Rc W.heap.size W':=by
 subst h;refine ⟨by simp,fun j hj=> ?_,fun j=>by simp[go_sem]⟩;rcases j with _ | _ | _ | _ | _ | j
 {exact ⟨.int .i64 0,by simp[go_sem]⟩}
 {exact ⟨.string ⟨#[]⟩,by simp[go_sem]⟩}
 {exact ⟨.string ⟨#[]⟩,by simp[go_sem]⟩}
 {exact ⟨.slice none 0 0,by simp[go_sem]⟩}
 {exact ⟨.slice none 0 0,by simp[go_sem]⟩}
 {omega}
end SubM
end Go.Proofs.YtchklpedlbkgaaaDoor
namespace Go.Proofs.YtchklpedlbkgaaaDoor
open Go.RowKit Shp Sub
namespace SubM
theorem Z6r {g gm hi b:Nat} (hg:hi<=g) (hh:gm < hi) (hb:rowB (some ⟨g,0,none⟩)=some b) (e:b=gm):False:=by
 have e2:g=b:=by simpa[rowB] using hb
 omega
section
variable {w0 W W1 : World} {gm hi : Nat} {k : Int} {o nm : List UInt8} {nl : List (List UInt8)} {l : List El} {AN AP : Option Addr} {cN cP : Nat}
theorem Mk.ups (h:Mk w0 gm hi k o nm nl l AN cN AP cP W) {b:Nat} (hb:b=gm\/rowB AN=some b\/rowB AP=some b):w0.heap.size<=b:=by
 rcases hb with rfl | hb | hb
 {exact h.lo}
 {have:=(Z0c h.rN b hb).1; have:=h.lo; have:=h.gh; omega}
 {have:=(Z0c h.rP b hb).1; have:=h.lo; have:=h.gh; omega}
theorem soc3 {W:World} {b x y:Nat} {v:Value} (h:x≠y): (W.setCell ⟨b,x,none⟩ v).cell? ⟨b,y,none⟩=W.cell? ⟨b,y,none⟩:=RX.soc h
section
variable (h : Mk w0 gm hi k o nm nl l AN cN AP cP W) {g c : Nat}
include h g c
theorem Mk.putN {n:List UInt8} (hg:W.grownBy W1 (rowB AN)) (hrow:W1.ownsRow hi 9 1 (.slice (some ⟨g,0,none⟩) (nl.length+1) c) (nl.length+1) (namesE nl++ [.string ⟨n.toArray⟩]))
 (hat:rowB AN=some g\/g=W.heap.size):Mk w0 gm hi k o nm (nl++ [n]) l (some ⟨g,0,none⟩) c AP cP (W1.setCell ⟨gm,3,none⟩ (.slice (some ⟨g,0,none⟩) (nl.length+1) c)):=by
 have hgm:gm < W.heap.size:=Nat.lt_of_lt_of_le h.gh h.hw;have hu:Upd (fun b=>rowB AN=some b) W W1:=(Upd.refl _ W).grown hg (fun k h _=>h);have hn: ¬rowB AN=some gm:=fun e=>by have:=(Z0c h.rN _ e).1; have:=h.gh; omega
 have hu2:Upd (fun b=>b=gm) W1 (W1.setCell ⟨gm,3,none⟩ (.slice (some ⟨g,0,none⟩) (nl.length+1) c)):=Upd.set (Upd.refl (fun b=>b=gm) W1) ⟨gm,3,none⟩ (fun _=>rfl) _;have hgh:=h.gh;have hgg:=(Z0c hrow g rfl).1;refine ⟨h.up.trans (((hu.mono (T:=fun b=>b=gm\/rowB AN=some b\/rowB AP=some b) (fun b _ hb=>Or.inr (Or.inl hb))).trans (hu2.mono (fun b _ hb=>Or.inl hb))).below h.up.size (fun b hb=>h.ups hb)),h.lo,h.gh,Nat.le_trans h.hw (Nat.le_trans hu.size hu2.size),
  (soc3 (by omega)).trans ((hu.cell hgm hn).trans h.c0),(soc3 (by omega)).trans ((hu.cell hgm hn).trans h.c1),(soc3 (by omega)).trans ((hu.cell hgm hn).trans h.c2), ?_,(soc3 (by omega)).trans ((hu.cell hgm hn).trans h.c4),fun j=>(World.frozen?_setCell ..).trans ((hu.frozen hgm hn).trans (h.fz j)), ?_, ?_,Or.inr ?_⟩
 {rw[List.length_append]; exact World.cell?_setCell_same _ _ _ ((hu.cell hgm hn).trans h.c3)}
 {rw[List.length_append,namesE_append]; exact Z0m hrow hu2 (fun b hb e=>Z6r hgg hgh hb e)}
 {refine Z0m (Z0m h.rP hu (fun b hb e=> ?_)) hu2 (fun b hb e=> ?_)
  {rcases h.ne with hne | hne
   {rw[hne] at e; cases e}
   {exact hne (e.trans hb.symm)}}
  {have:=(Z0c h.rP b hb).1;have e3:b=gm:=e;omega}}
 {intro e;have e2:rowB AP=some g:=by rw[<-e]; rfl
  rcases hat with h1 | h1
  {rcases h.ne with hne | hne
   {rw[hne] at h1; cases h1}
   {exact hne (h1.trans e2.symm)}}
  {have:=(Z0c h.rP g e2).2; omega}}
theorem Mk.putP {x:El} (hg:W.grownBy W1 (rowB AP)) (hrow:W1.ownsRow hi 25 5 (.slice (some ⟨g,0,none⟩) (l.length+1) c) (l.length+1) (cellsE l++cells5 x))
 (hat:rowB AP=some g\/g=W.heap.size):Mk w0 gm hi k o nm nl (l++ [x]) AN cN (some ⟨g,0,none⟩) c (W1.setCell ⟨gm,4,none⟩ (.slice (some ⟨g,0,none⟩) (l.length+1) c)):=by
 have hgm:gm < W.heap.size:=Nat.lt_of_lt_of_le h.gh h.hw;have hu:Upd (fun b=>rowB AP=some b) W W1:=(Upd.refl _ W).grown hg (fun k h _=>h);have hn: ¬rowB AP=some gm:=fun e=>by have:=(Z0c h.rP _ e).1; have:=h.gh; omega
 have hu2:Upd (fun b=>b=gm) W1 (W1.setCell ⟨gm,4,none⟩ (.slice (some ⟨g,0,none⟩) (l.length+1) c)):=Upd.set (Upd.refl (fun b=>b=gm) W1) ⟨gm,4,none⟩ (fun _=>rfl) _;have hgh:=h.gh;have hgg:=(Z0c hrow g rfl).1;refine ⟨h.up.trans (((hu.mono (T:=fun b=>b=gm\/rowB AN=some b\/rowB AP=some b) (fun b _ hb=>Or.inr (Or.inr hb))).trans (hu2.mono (fun b _ hb=>Or.inl hb))).below h.up.size (fun b hb=>h.ups hb)),h.lo,h.gh,Nat.le_trans h.hw (Nat.le_trans hu.size hu2.size),
  (soc3 (by omega)).trans ((hu.cell hgm hn).trans h.c0),(soc3 (by omega)).trans ((hu.cell hgm hn).trans h.c1),(soc3 (by omega)).trans ((hu.cell hgm hn).trans h.c2),(soc3 (by omega)).trans ((hu.cell hgm hn).trans h.c3), ?_,fun j=>(World.frozen?_setCell ..).trans ((hu.frozen hgm hn).trans (h.fz j)), ?_, ?_, ?_⟩
 {rw[List.length_append]; exact World.cell?_setCell_same _ _ _ ((hu.cell hgm hn).trans h.c4)}
 {refine Z0m (Z0m h.rN hu (fun b hb e=> ?_)) hu2 (fun b hb e=> ?_)
  {rcases h.ne with hne | hne
   {rw[hne] at hb; cases hb}
   {exact hne (hb.trans e.symm)}}
  {have:=(Z0c h.rN b hb).1;have e3:b=gm:=e;omega}}
 {rw[List.length_append,cellsE_append,cellsE_one]; exact Z0m hrow hu2 (fun b hb e=>Z6r hgg hgh hb e)}
 {rcases h.ne with hne | hne
  {exact Or.inl hne}
  {refine Or.inr (fun e=> ?_);have e2:rowB AN=some g:=by rw[e]; rfl
   rcases hat with h1 | h1
   {exact hne (e2.trans h1.symm)}
   {have:=(Z0c h.rN g e2).2; omega}}}
end
end
end SubM
end Go.Proofs.YtchklpedlbkgaaaDoor
namespace Go.Proofs.YtchklpedlbkgaaaDoor
open Go.RowKit Shp Sub
namespace SubM
def PIs (n0:Nat) (o:Option Sh) (w:World) (e:Ending) (w':World):Prop:=
 ∃(t:Sh) (q:Ptr),e= .returned (.tuple #[sv t q,.bool o.isSome])/\Below w.heap.size w w'/\ ∀j,o=some j->t=j/\Kept (fun b=>b < n0\/w.heap.size<=b) w' (j,q)
theorem ZaV {S:Nat->Prop} {W:World} {C n0:Nat} {t:Sh} {q:Ptr} {l:List El} {AP:Option Addr} {cP:Nat} (ht:ShAt W n0 q t) (hn:n0<=W.heap.size) (sO: ∀b,b < n0->S b)
 (rP:W.ownsRow C 25 5 (.slice AP l.length cP) l.length (cellsE l)) (sP: ∀b,rowB AP=some b->S b) (hk: ∀x∈l,Kept S W x) (hm:l.length<=1000000):
 Kept S W (⟨t.kind,t.of_,t.name,t.names,l.map Prod.fst⟩,⟨q.A,q.c,AP,cP⟩):=by
 intro W' hz hs;have hP:=slice_form rP;have kept: ∀x∈l,ShAt W' W'.heap.size x.2 x.1:=fun x hx=>hk x hx W' hz hs;refine .mk _ _ ((rowB AP).getD 0) 0 (fun i=>(l[i]?.map Prod.snd).getD ⟨none,0,none,0⟩) ⟨ht.small.o,ht.small.n,ht.small.ns,ht.small.l,by show (l.map Prod.fst).length<=_; rw[List.length_map]; omega,ht.small.c, ?_,ht.small.A0, ?_⟩ ?_ ?_ ?_ ?_
 {show (l.map Prod.fst).length<=cP;rw[List.length_map];rcases hP with ⟨_,h1,h2⟩ | ⟨_,_,h1⟩ <;> omega}
 {intro (e:AP=none);show cP=0;rcases hP with ⟨_,h1,h2⟩ | ⟨g,h1,_⟩
  {exact h2}
  {rw[e] at h1; cases h1}}
 {have h2:ShAt W' W'.heap.size q t:=ht.of (Nat.le_trans hn hz) (fun g k hg=>World.cell?_of_block (w:=W) (hs g (Nat.lt_of_lt_of_le hg hn) (sO g hg)));exact h2.strs}
 {show (l.map Prod.fst).length=0\/_;rcases hP with ⟨_,h1,_⟩ | ⟨g,rfl,_⟩
  {exact Or.inl (by rw[List.length_map]; exact h1)}
  {exact Or.inr ⟨rfl,Nat.lt_of_lt_of_le (Z0c rP g rfl).2 hz⟩}}
 {intro i hi;have hi':i < l.length:=by simpa using hi
  rcases hP with ⟨_,h1,_⟩ | ⟨g,rfl,_⟩
  {omega}
  {have hg:=Z0c rP g rfl;have e1: ∀j,W'.cell? ⟨g,j,none⟩=W.cell? ⟨g,j,none⟩:=fun j=>World.cell?_of_block (w:=W) (hs g hg.2 (sP g rfl));have e2: ∀c v,c < 5->(cells5 (l[i]'hi'))[c]? =some v->W'.cell? ⟨g,0+i * 5+c,none⟩=some v:=fun c v hc hv=>by
    rw[Nat.zero_add,e1];exact Z4e rP (by rw[cellsE_at hi' hc]; exact hv)
   simp only[List.getElem_map];rw[List.getElem?_eq_getElem hi'];exact ⟨e2 0 _ (by omega) rfl,e2 1 _ (by omega) rfl,e2 2 _ (by omega) rfl,e2 3 _ (by omega) rfl,e2 4 _ (by omega) rfl⟩}}
 {intro i hi;have hi':i < l.length:=by simpa using hi
  simp only[List.getElem_map];rw[List.getElem?_eq_getElem hi'];exact kept _ (List.getElem_mem _)}
structure KPo (w0 w4:World) (n0 gm hi rc:Nat) (t:Sh) (q:Ptr) (ps:List Sh) (l:List El) (AP:Option Addr) (cP:Nat) (W:World):Prop where
 dn:Below w0.heap.size w0 W
 lo:w0.heap.size<=gm
 gh:gm < hi
 hw:hi<=W.heap.size
 c0:W.cell? ⟨gm,0,none⟩=some (.int .i64 t.kind)
 c1:W.cell? ⟨gm,1,none⟩=some (.string ⟨t.of_.toArray⟩)
 c2:W.cell? ⟨gm,2,none⟩=some (.string ⟨t.name.toArray⟩)
 c3:W.cell? ⟨gm,3,none⟩=some (.slice q.A t.names.length q.c)
 c4:W.cell? ⟨gm,4,none⟩=some (.slice AP l.length cP)
 fz: ∀j,W.frozen? ⟨gm,j,none⟩=false
 rP:W.ownsRow hi 25 5 (.slice AP l.length cP) l.length (cellsE l)
 eq:l.map Prod.fst=ps
 kp: ∀x∈l,Kept (fun b=>b < n0\/(hi<=b/\rowB AP≠some b)) W x
 rr:Rc rc W
 up:Upd (fun b=>b=gm\/hi<=b) w4 W
section
variable {w0 w4 W W' : World} {n0 gm hi rc : Nat} {t : Sh} {q : Ptr} {ps : List Sh} {l : List El} {AP : Option Addr} {cP : Nat}
section
variable (h : KPo w0 w4 n0 gm hi rc t q ps l AP cP W)
include h
theorem KPo.len:l.length=ps.length:=by have:=congrArg List.length h.eq; simpa using this
theorem KPo.gw:gm < W.heap.size:=Nat.lt_of_lt_of_le h.gh h.hw
end
theorem KPo.new (h:KPo w0 w4 n0 gm hi rc t q ps l AP cP W) (hb:Below W.heap.size W W'):KPo w0 w4 n0 gm hi rc t q ps l AP cP W':=by
 have hu:Upd (fun _=>False) W W':=Upd.new hb;have c:=fun j=>hu.cell (k:=j) h.gw (fun h=>h);exact ⟨h.dn.trans (hb.mono h.dn.size),h.lo,h.gh,Nat.le_trans h.hw hb.size,(c 0).trans h.c0,(c 1).trans h.c1,(c 2).trans h.c2,(c 3).trans h.c3,(c 4).trans h.c4,fun j=>(hu.frozen h.gw (fun h=>h)).trans (h.fz j),
  Z0m h.rP hu (fun _ _ h=>h),h.eq,fun x hx=>(h.kp x hx).upd hu (fun _ _ _ h=>h),h.rr.upd hu (fun h=>h),h.up.trans (Upd.new hb)⟩
theorem KPo.putP {Wb W1:World} {pb e:Nat} {x:El} (hK:KPo w0 w4 n0 gm hi rc t q ps l AP cP W) (hng:n0<=gm) (hrc:rc < gm) (hx:Kept (fun b=>b < n0\/(pb<=b/\b < e)) W x) (he:e<=W.heap.size) (hpb:hi<=pb)
 (rp: ∀b,rowB AP=some b->b < pb\/e<=b) (hb:Below W.heap.size W Wb) {g c:Nat} (hg:Wb.grownBy W1 (rowB AP)) (hrow:W1.ownsRow hi 25 5 (.slice (some ⟨g,0,none⟩) (l.length+1) c) (l.length+1) (cellsE l++cells5 x))
 (hat:rowB AP=some g\/g=Wb.heap.size):KPo w0 w4 n0 gm hi rc t q (ps++ [x.1]) (l++ [x]) (some ⟨g,0,none⟩) c (W1.setCell ⟨gm,4,none⟩ (.slice (some ⟨g,0,none⟩) (l.length+1) c)):=by
 have hgh:=hK.gh;have hhw:=hK.hw;have hu1:Upd (fun b=>rowB AP=some b) W W1:=(Upd.new (S:=fun b=>rowB AP=some b) hb).grown hg (fun k h _=>h);have hu2:Upd (fun b=>b=gm) W1 (W1.setCell ⟨gm,4,none⟩ (.slice (some ⟨g,0,none⟩) (l.length+1) c)):=Upd.set (Upd.refl (fun b=>b=gm) W1) ⟨gm,4,none⟩ (fun _=>rfl) _;have hu:Upd (fun b=>b=gm\/rowB AP=some b) W (W1.setCell ⟨gm,4,none⟩ (.slice (some ⟨g,0,none⟩) (l.length+1) c)):=(hu1.mono (fun _ _ h=>Or.inr h)).trans (hu2.mono (fun _ _ h=>Or.inl h));have hgw:rowB AP=some g\/W.heap.size<=g:=hat.imp id (fun h=>by have:=hb.size; omega);have hrp:=fun b h=>Z0c hK.rP b h;have hn1: ¬rowB AP=some gm:=fun e=>by have:=(hrp gm e).1; omega
 have hgg:=(Z0c hrow g rfl).1;have cc:=fun j=>hu1.cell (k:=j) hK.gw hn1;refine ⟨hK.dn.trans (hu.below hK.dn.size (fun b hb=> ?_)),hK.lo,hK.gh,Nat.le_trans hK.hw hu.size,(soc3 (by omega)).trans ((cc 0).trans hK.c0),(soc3 (by omega)).trans ((cc 1).trans hK.c1),(soc3 (by omega)).trans ((cc 2).trans hK.c2),(soc3 (by omega)).trans ((cc 3).trans hK.c3), ?_,
  fun j=>(World.frozen?_setCell ..).trans ((hu1.frozen hK.gw hn1).trans (hK.fz j)), ?_,by rw[List.map_append,hK.eq]; rfl,fun y hy=> ?_,hK.rr.upd hu (fun ht=> ?_),hK.up.trans (hu.mono (fun b _ hb=>hb.imp id (fun h=>(hrp b h).1)))⟩
 {have:=hK.lo;rcases hb with hb | hb
  {omega}
  {have:=(hrp b hb).1; omega}}
 {rw[List.length_append]; exact World.cell?_setCell_same _ _ _ ((cc 4).trans hK.c4)}
 {rw[List.length_append,cellsE_append,cellsE_one]; exact Z0m hrow hu2 (fun b hb e=>Z6r hgg hgh hb e)}
 {rcases List.mem_append.1 hy with hy | hy
  {refine (hK.kp y hy).move hu (fun b hb hf=>⟨fun ht=> ?_, ?_⟩)
   {rcases hf with hf | ⟨hf,f2⟩
    {rcases ht with ht | ht
     {omega}
     {have:=(hrp b ht).1; omega}}
    {rcases ht with ht | ht
     {omega}
     {exact f2 ht}}}
   {rcases hf with hf | ⟨hf,f2⟩
    {exact Or.inl hf}
    {refine Or.inr ⟨hf,fun e=> ?_⟩;have e:g=b:=by simpa[rowB] using e
     subst e;exact hgw.elim f2 (fun h=>by omega)}}}
  {rw[List.mem_singleton.1 hy];refine hx.move hu (fun b hb hf=>⟨fun ht=> ?_, ?_⟩)
   {rcases hf with hf | hf
    {rcases ht with ht | ht
     {omega}
     {have:=(hrp b ht).1; omega}}
    {rcases ht with ht | ht
     {omega}
     {have:=rp b ht; omega}}}
   {rcases hf with hf | hf
    {exact Or.inl hf}
    {refine Or.inr ⟨by omega,fun e=> ?_⟩;have e:g=b:=by simpa[rowB] using e
     rcases hgw with h | h
     {have:=rp g h; omega}
     {omega}}}}}
 {rcases ht with ht | ht
  {omega}
  {have:=(hrp rc ht).1; omega}}
theorem KPo.fin (h:KPo w0 w4 n0 gm hi rc t q ps l AP cP W) (ht:ShAt W n0 q t) (hn:n0<=W.heap.size) (h4:ps.length<=1000):
 Sh5 W gm 0 ⟨t.kind,t.of_,t.name,t.names,ps⟩ ⟨q.A,q.c,AP,cP⟩/\Kept (fun b=>b < n0\/hi<=b) W (⟨t.kind,t.of_,t.name,t.names,ps⟩,⟨q.A,q.c,AP,cP⟩):=by
 have hl:=h.len;have hk:=ZaV (S:=fun b=>b < n0\/hi<=b) ht hn (fun b hb=>Or.inl hb) h.rP (fun b hb=>Or.inr (Z0c h.rP b hb).1) (fun x hx=>(h.kp x hx).more (fun b _ hf=>hf.imp id (fun h=>h.1))) (by omega);rw[h.eq] at hk;refine ⟨⟨h.c0,h.c1,h.c2,h.c3, ?_⟩,hk⟩;have:=h.c4;rw[hl] at this;exact this
end
theorem Zbo {o:Option Sh} {r:Sh} {q:Ptr} {n0 hi rc:Nat} {w W:World} (ho:o=some r) (hn:n0<=w.heap.size) (h1:w.heap.size<=rc) (h2:rc < hi) (hb:Below w.heap.size w W) (hk:Kept (fun b=>b < n0\/hi<=b) W (r,q)):
 PIs n0 o w (.returned (.tuple #[sv r q,.bool true])) (RX.lay W rc r q):=by
 have hu:=RX.lay_upd W rc r q;refine ⟨r,q,by rw[ho]; rfl,hb.trans (hu.below hb.size (fun x hx=>by omega)),fun j hj=> ?_⟩;rw[ho] at hj;cases hj;exact ⟨rfl,hk.move hu (fun b _ hf=>⟨fun e=>by have e:b=rc:=e; rcases hf with hf | hf <;> omega,by rcases hf with hf | hf <;> omega⟩)⟩
theorem ZaW {o:Option Sh} {n0 rc:Nat} {w W:World} (ho:o=none) (h1:w.heap.size<=rc) (hb:Below w.heap.size w W):
 PIs n0 o w (.returned (.tuple #[.agg #[.int .i64 0,.string ⟨#[]⟩,.string ⟨#[]⟩,.slice none 0 0,.slice none 0 0],.bool false])) (put5 W rc (.int .i64 0) (.string ⟨#[]⟩) (.string ⟨#[]⟩) (.slice none 0 0) (.slice none 0 0)):=
 ⟨⟨0,[],[],[],[]⟩,⟨none,0,none,0⟩,by rw[ho]; rfl,Z0e hb h1 _ _ _ _ _,fun j hj=>by rw[ho] at hj; cases hj⟩
end SubM
end Go.Proofs.YtchklpedlbkgaaaDoor
namespace Go.Proofs.YtchklpedlbkgaaaDoor
section
open Go.RowKit Shp
open Expd (Bd fill keys find put Z0w)
section
variable {L : List Bd} {o n : List UInt8} {k : Nat} (hk : k < L.length) (h : find (L.drop (k + 1)) o n = none)
include L o n k hk h
theorem Z5e (hn: ¬((L[k]'hk).of_=o/\(L[k]'hk).name=n)):find (L.drop k) o n=none:=by
 rw[List.drop_eq_getElem_cons hk,Expd.find_cons,h];exact if_neg hn
theorem Z5f (hn: (L[k]'hk).of_=o/\(L[k]'hk).name=n):find L o n=some (L[k]'hk).sh:=by
 have h1:find (L.drop k) o n=some (L[k]'hk).sh:=by
  rw[List.drop_eq_getElem_cons hk,Expd.find_cons,h];exact if_pos hn
 have h2:=Expd.find_append (L.take k) (L.drop k) o n;rw[List.take_append_drop,h1] at h2;exact h2
end
end
end Go.Proofs.YtchklpedlbkgaaaDoor
