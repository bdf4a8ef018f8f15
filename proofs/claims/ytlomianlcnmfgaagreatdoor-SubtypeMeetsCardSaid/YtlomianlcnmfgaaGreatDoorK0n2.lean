/- What the proofs of SubtypeJoins, SubtypeMeets want, part 2. -/
import Derived.Deep.RegionHeld3
import Derived.Test.YtlomianlcnmfgaaGreatDoorK0n1
set_option linter.unusedVariables false
set_option linter.unusedSimpArgs false
set_option linter.unusedSectionVars false
set_option maxRecDepth 100000
set_option maxHeartbeats 16000000
namespace Go.Proofs.YtlomianlcnmfgaaGreatDoor
open Go.RowKit Shp
namespace SubM
abbrev sv (s:Sh) (q:Ptr):Value:= .agg (Y8 s q)
structure Upd (S:Nat->Prop) (a b:World):Prop where
 os:b.os=a.os
 tape:b.tape=a.tape
 output:b.output=a.output
 size:a.heap.size<=b.heap.size
 block: ∀x,x < a.heap.size-> ¬S x->b.heap[x]? =a.heap[x]?
section
variable {S T : Nat -> Prop} {a b c : World} {B n0 : Nat}
theorem Upd.refl (S:Nat->Prop) (a:World):Upd S a a:=⟨rfl,rfl,rfl,Nat.le_refl _,fun _ _ _=>rfl⟩
theorem Upd.trans (h:Upd S a b) (k:Upd S b c):Upd S a c:=
 ⟨k.os.trans h.os,k.tape.trans h.tape,k.output.trans h.output,Nat.le_trans h.size k.size,fun x h1 h2=>(k.block x (Nat.lt_of_lt_of_le h1 h.size) h2).trans (h.block x h1 h2)⟩
theorem Upd.mono (h:Upd S a b) (hs: ∀x,x < a.heap.size->S x->T x):Upd T a b:=⟨h.os,h.tape,h.output,h.size,fun x h1 h2=>h.block x h1 (fun hx=>h2 (hs x h1 hx))⟩
theorem Upd.of_below (h:Below B a b) (hB: ∀x,x < a.heap.size->B<=x->S x):Upd S a b:=
 ⟨h.os,h.tape,h.output,h.size,fun x h1 h2=>h.block x (Nat.lt_of_not_le (fun hx=>h2 (hB x h1 hx)))⟩
theorem Upd.new (h:Below a.heap.size a b):Upd S a b:=Upd.of_below h (fun x h1 h2=>absurd h1 (by omega))
theorem Upd.below (h:Upd S a b) (hB:B<=a.heap.size) (hS: ∀x,S x->B<=x):Below B a b:=⟨h.os,h.tape,h.output,h.size,fun x h1=>h.block x (by omega) (fun hx=>by have:=hS x hx; omega)⟩
theorem Upd.drew (h:Upd S a b):Upd S a b.drew:=⟨h.os,h.tape,h.output,h.size,h.block⟩
theorem Upd.grown (h:Upd S a b) {row:Option Nat} (hg:b.grownBy c row) (hr: ∀k,row=some k->k < a.heap.size->S k):Upd S a c:=
 ⟨hg.os.trans h.os,hg.tape.trans h.tape,hg.output.trans h.output,Nat.le_trans h.size hg.size,fun x h1 h2=>(hg.block x (Nat.lt_of_lt_of_le h1 h.size) (fun e=>h2 (hr x e.symm h1))).trans (h.block x h1 h2)⟩
theorem Upd.set (h:Upd S a b) (p:Addr) (hp:p.block < a.heap.size->S p.block) (v:Value):Upd S a (b.setCell p v):=
 ⟨h.os,h.tape,h.output,by simpa[World.setCell] using h.size,fun x h1 h2=>(Below.heap_setCell _ _ _ _ (fun e=>h2 (by
  have e':x=p.block:=by first | exact e | exact e.symm
  rw[e']; exact hp (e'▸h1)))).trans (h.block x h1 h2)⟩
theorem Upd.cell (h:Upd S a b) {g k:Nat} (hg:g < a.heap.size) (hS: ¬S g):b.cell? ⟨g,k,none⟩=a.cell? ⟨g,k,none⟩:=World.cell?_of_block (w:=a) (h.block g hg hS)
theorem Upd.frozen (h:Upd S a b) {g k:Nat} (hg:g < a.heap.size) (hS: ¬S g):b.frozen? ⟨g,k,none⟩=a.frozen? ⟨g,k,none⟩:=World.frozen?_of_block (w:=a) (h.block g hg hS)
theorem Z0e {g:Nat} {t:Sh} {q:Ptr} (h:Box5 a g t q) (hu:Upd S a b) (hS: ¬S g):Box5 b g t q:=by
 obtain ⟨h0,h1,f0,f1,f2,f3,f4⟩:=h;exact ⟨Nat.lt_of_lt_of_le h0 hu.size,h1.of (fun k=>hu.cell h0 hS),(hu.frozen h0 hS).trans f0,(hu.frozen h0 hS).trans f1,(hu.frozen h0 hS).trans f2,(hu.frozen h0 hS).trans f3,(hu.frozen h0 hS).trans f4⟩
theorem Z0a {t:Sh} {q:Ptr} (h:ShAt a n0 q t) (hn:n0<=a.heap.size) (hu:Upd S a b) (hS: ∀x,x < n0-> ¬S x):ShAt b n0 q t:=
 h.of (Nat.le_refl _) (fun g k hg=>hu.cell (by omega) (hS g hg))
theorem ZbL {g N:Nat} {K:List Ky} {m:Ky->Value} (h:Mp a g N K m) (hu:Upd S a b) (hS: ¬S g):Mp b g N K m:=h.same (hu.block g h.lt hS)
end
def At (W:World) (n0:Nat) (o:Option Sh) (v:Value):Prop:=
 match o with
 | none=>v= .pointer none
 | some p=> ∃g off q,v= .pointer (some ⟨g,off,none⟩)/\g < n0/\Sh5 W g off p q/\ShAt W n0 q p
theorem At.upd {a b:World} {S:Nat->Prop} {n0:Nat} {o:Option Sh} {v:Value} (h:At a n0 o v) (hn:n0<=a.heap.size) (hu:Upd S a b) (hS: ∀x,x < n0-> ¬S x):At b n0 o v:=by
 cases o with
 | none=>exact h
 | some p=>
  obtain ⟨g,off,q,h1,h2,h3,h4⟩:=h;exact ⟨g,off,q,h1,h2,h3.of (fun k=>hu.cell (by omega) (hS g h2)),Z0a h4 hn hu hS⟩
end SubM
end Go.Proofs.YtlomianlcnmfgaaGreatDoor
namespace Go.Proofs.YtlomianlcnmfgaaGreatDoor
open Go.RowKit Shp Sub
namespace SubM
structure Takes (n0 N:Nat) (a b:Sh) (fn:Nat) (cs:List Value) (step:Cl->Bool) (K:Bool->List Cl->World->Prop):Prop where
 keep: ∀ok done W W',K ok done W->Upd (fun x=>N<=x/\x < N+3) W W'->K ok done W'
 call: ∀done c rest W (x y:Value),calls a b=done++c::rest->N+3<=W.heap.size->K true done W->At W n0 c.2.1 x->At W n0 c.2.2 y->
  Calls Tryz.prog fn (.string ⟨c.1.toArray⟩::x::y::cs).toArray W fun e W'=>e= .returned (.bool (step c))/\K (step c) (done++ [c]) W'/\Upd (fun x=>n0<=x/\ ¬(N<=x/\x < N+3)) W W'
def numOf:List (List UInt8)->List UInt8->Nat
 | [],_=>0
 | x::l,n=>if x=n then 0 else numOf l n+1
theorem Z6A: ∀ {ns:List (List UInt8)} (hd:ns.Nodup) {k:Nat} (hk:k < ns.length),numOf ns (ns[k]'hk)=k
 | x::l,hd,0,hk=>by simp[numOf]
 | x::l,hd,k+1,hk=>by
  rw[List.nodup_cons] at hd;unfold numOf;rw[if_neg,List.getElem_cons_succ,Z6A hd.2];rw[List.getElem_cons_succ];exact fun e=>hd.1 (by rw[e]; exact List.getElem_mem _)
def place (g off:Nat) (ns:List (List UInt8)) (n:List UInt8):Value:= .pointer (some ⟨g,off+numOf ns n * 5,none⟩)
theorem Z4B {g off:Nat} {ns:List (List UInt8)} (hd:ns.Nodup) {k:Nat} (hk:k < ns.length):place g off ns (ns[k]'hk)= .pointer (some ⟨g,off+k * 5,none⟩):=by
 unfold place;rw[Z6A hd]
def Parts (W:World) (n0:Nat) (t:Sh) (q:Ptr) (g off:Nat) (qs:Nat->Ptr):Prop:=
 t.parts.length=0\/(q.P=some ⟨g,off,none⟩/\g < n0/\ ∀i (h:i < t.parts.length),Sh5 W g (off+i * 5) (t.parts[i]'h) (qs i)/\ShAt W n0 (qs i) (t.parts[i]'h))
theorem Z2K {W:World} {n0:Nat} {t:Sh} {q:Ptr} (h:ShAt W n0 q t): ∃g off qs,Parts W n0 t q g off qs:=by
 rcases h.part with h | ⟨g,off,qs,hP,hg,h5,hr⟩
 {exact ⟨0,0,fun _=>q,Or.inl h⟩}
 {exact ⟨g,off,qs,Or.inr ⟨hP,hg,fun i hi=>⟨h5 i hi,hr i hi⟩⟩⟩}
theorem Parts.upd {a b:World} {S:Nat->Prop} {n0:Nat} {t:Sh} {q:Ptr} {g off:Nat} {qs:Nat->Ptr} (h:Parts a n0 t q g off qs) (hn:n0<=a.heap.size) (hu:Upd S a b) (hS: ∀x,x < n0-> ¬S x):Parts b n0 t q g off qs:=by
 rcases h with h | ⟨hP,hg,hc⟩
 {exact Or.inl h}
 {exact Or.inr ⟨hP,hg,fun i hi=>⟨(hc i hi).1.of (fun k=>hu.cell (by omega) (hS g hg)),Z0a (hc i hi).2 hn hu hS⟩⟩}
theorem Z4C {W:World} {n0:Nat} {t:Sh} {q:Ptr} (h:ShAt W n0 q t) {k:Nat} (hk:k < t.names.length):
 ∃g off,q.A=some ⟨g,off,none⟩/\g < n0/\W.cell? ⟨g,off+k,none⟩=some (.string ⟨(t.names[k]'hk).toArray⟩):=by
 rcases h.strs.cell7 with h0 | ⟨g,off,hA,hg,hc⟩
 {omega}
 {exact ⟨g,off,hA,hg,hc k hk⟩}
structure L1 (N:Nat) (a b:Sh) (pa pb:Ptr) (g off:Nat) (w:World) (k:Nat) (W:World):Prop where
 ba:Box5 W N a pa
 bb:Box5 W (N+1) b pb
 mp: ∃S,Mp W (N+2) k S (place g off b.names)/\ ∀n,n∈S ↔ n∈b.names.take k
 up:Upd (fun x=>N<=x/\x < N+3) w W
theorem L1.put {N:Nat} {a b:Sh} {pa pb:Ptr} {g off:Nat} {w:World} {k:Nat} {W:World} (h:L1 N a b pa pb g off w k W) (hd:b.names.Nodup) (hlt:k < b.names.length) (hk:k<=1000) (hf:Fine (b.names[k]'hlt)):
 ∃W',(Instr.mapUpdate 59 (.map (some (N+2))) (.string ⟨(b.names[k]'hlt).toArray⟩) (.pointer (some ⟨g,off+k * 5,none⟩))).run Tryz.prog W= .ok () W'/\L1 N a b pa pb g off w (k+1) W':=by
 obtain ⟨hB1,hB2,⟨S,hM,hS⟩,hU⟩:=h;have hpl:=Z4B (g:=g) (off:=off) hd hlt;obtain ⟨W',hr,hM',ht⟩:=hM.put hf (by unfold maxLen; omega) (v:= .pointer (some ⟨g,off+k * 5,none⟩)) (z:=_) rfl;have hu2:Upd (fun x=>x=N+2) W W':=(Upd.refl _ W).grown ht.grown (fun k h _=>by cases h; rfl);refine ⟨W',hr,Z0e hB1 hu2 (by omega),Z0e hB2 hu2 (by omega),⟨_,hM'.like (fun x _=> ?_),fun n=> ?_⟩,hU.trans (hu2.mono (fun x _ h=>by omega))⟩
 {by_cases e:x=b.names[k]'hlt
  {rw[if_pos e,e,hpl]}
  {rw[if_neg e]}}
 {rw[List.take_succ_eq_append_getElem hlt,List.mem_append,List.mem_singleton];by_cases e:b.names[k]'hlt∈S
  {rw[if_pos e,hS];refine ⟨Or.inl,fun h=>h.elim id (fun h=>by rw[h]; exact (hS _).1 e)⟩}
  {rw[if_neg e,List.mem_cons,hS];exact ⟨fun h=>h.symm,fun h=>h.symm⟩}}
section
variable {a b : Sh} (A : Rec a)
include a b A
theorem callsA_len: (callsA a b).length=a.names.length:=by unfold callsA; rw[List.length_map,List.length_zip,A.l,Nat.min_self]
theorem callsA_at {k:Nat} (h:k < a.names.length) (h2:k < a.parts.length): (callsA a b)[k]'(by rw[callsA_len A]; exact h)=(a.names[k]'h,some (a.parts[k]'h2),get b (a.names[k]'h)):=by
 unfold callsA; simp
theorem Zai {k:Nat} (h:k < a.names.length) (h2:k < a.parts.length): ∃rest,calls a b=(callsA a b).take k++(a.names[k]'h,some (a.parts[k]'h2),get b (a.names[k]'h))::rest/\(callsA a b).take k++ [(a.names[k]'h,some (a.parts[k]'h2),get b (a.names[k]'h))]=(callsA a b).take (k+1):=by
 have hl:k < (callsA a b).length:=by rw[callsA_len A]; exact h
 have e: (callsA a b).take (k+1)=(callsA a b).take k++ [(a.names[k]'h,some (a.parts[k]'h2),get b (a.names[k]'h))]:=by rw[List.take_succ_eq_append_getElem hl,callsA_at A h h2]
 refine ⟨(callsA a b).drop (k+1)++callsB a b, ?_,e.symm⟩;unfold calls;rw[show (callsA a b).take k++(a.names[k]'h,some (a.parts[k]'h2),get b (a.names[k]'h))::((callsA a b).drop (k+1)++callsB a b)=((callsA a b).take k++ [(a.names[k]'h,some (a.parts[k]'h2),get b (a.names[k]'h))])++((callsA a b).drop (k+1)++callsB a b) from by simp, <-e, <-List.append_assoc,List.take_append_drop]
end
structure L2 (n0 N:Nat) (a b:Sh) (pa pb:Ptr) (g off:Nat) (w:World) (K:Bool->List Cl->World->Prop) (gone:List (List UInt8)) (done:List Cl) (W:World):Prop where
 ba:Box5 W N a pa
 bb:Box5 W (N+1) b pb
 mp: ∃S,Mp W (N+2) b.names.length S (place g off b.names)/\ ∀n,n∈S ↔ n∈b.names/\n∉gone
 up:Upd (fun x=>n0<=x) w W
 sz:N+3<=W.heap.size
 k:K true done W
section
variable {n0 : Nat} {a b : Sh} {pa pb : Ptr} {g off : Nat} {w : World} {K : Bool -> List Cl -> World -> Prop} {gone : List (List UInt8)} {done : List Cl} {W W' : World} {fn : Nat} {cs : List Value} {step : Cl -> Bool}
theorem L2.upd (h:L2 n0 w.heap.size a b pa pb g off w K gone done W) (hn:n0<=w.heap.size) (hu:Upd (fun x=>n0<=x/\ ¬(w.heap.size<=x/\x < w.heap.size+3)) W W') {done':List Cl} (hk:K true done' W'):L2 n0 w.heap.size a b pa pb g off w K gone done' W':=by
 obtain ⟨S,hM,hS⟩:=h.mp;exact ⟨Z0e h.ba hu (by omega),Z0e h.bb hu (by omega),⟨S,ZbL hM hu (by omega),hS⟩,h.up.trans (hu.mono (fun x _ hx=>hx.1)),Nat.le_trans h.sz hu.size,hk⟩
theorem L2.drew (h:L2 n0 w.heap.size a b pa pb g off w K gone done W) (hT:Takes n0 w.heap.size a b fn cs step K) (hn:n0<=w.heap.size):L2 n0 w.heap.size a b pa pb g off w K gone done W.drew:=
 h.upd hn (Upd.refl _ W).drew (hT.keep _ _ _ _ h.k (Upd.refl _ W).drew)
theorem L2.del (h:L2 n0 w.heap.size a b pa pb g off w K gone done W) (hT:Takes n0 w.heap.size a b fn cs step K) (hn:n0<=w.heap.size) {n:List UInt8} (hf:Fine n) (ty:TypeId):
 ∃W',(Builtin.delete_ #[59,9] ty #[.map (some (w.heap.size+2)),(.string ⟨n.toArray⟩)]).run Tryz.prog W= .ok (.tuple #[]) W'/\L2 n0 w.heap.size a b pa pb g off w K (gone++ [n]) done W':=by
 obtain ⟨S,hM,hS⟩:=h.mp;obtain ⟨W',hr,hM',ht⟩:=hM.del hf ty;have hu:Upd (fun x=>x=w.heap.size+2) W W':=(Upd.refl _ W).grown ht.grown (fun k h _=>by cases h; rfl);refine ⟨W',hr,Z0e h.ba hu (by omega),Z0e h.bb hu (by omega),⟨_,hM',fun x=> ?_⟩,h.up.trans (hu.mono (fun x _ hx=>by omega)),Nat.le_trans h.sz hu.size,hT.keep _ _ _ _ h.k (hu.mono (fun x _ hx=>by omega))⟩;rw[List.mem_filter,hS,List.mem_append,List.mem_singleton];simp;exact ⟨fun ⟨⟨h1,h2⟩,h3⟩=>⟨h1,h2,h3⟩,fun ⟨h1,h2,h3⟩=>⟨⟨h1,h2⟩,h3⟩⟩
end
def callsBk (a b:Sh) (i:Nat):List Cl:=(((b.names.zip b.parts).take i).filter (fun x=>(get a x.1).isNone)).map (fun x=>(x.1,none,some x.2))
theorem Z4o (a b:Sh) (B:Rec b):callsBk a b b.names.length=callsB a b:=by
 unfold callsBk callsB;rw[List.take_of_length_le (by rw[List.length_zip]; omega)]
theorem Z6B {b:Sh} {i:Nat} (h:i < b.names.length) (h2:i < b.parts.length): (b.names.zip b.parts).take (i+1)=(b.names.zip b.parts).take i++ [(b.names[i]'h,b.parts[i]'h2)]:=by
 rw[List.take_succ_eq_append_getElem (by rw[List.length_zip]; omega),List.getElem_zip]
section
variable {a b : Sh} {i : Nat} (h : i < b.names.length) (h2 : i < b.parts.length)
include a b i h h2
theorem Z7H (hn: (get a (b.names[i]'h)).isNone=false):callsBk a b (i+1)=callsBk a b i:=by
 unfold callsBk;rw[Z6B h h2,List.filter_append];simp[hn]
theorem Z7I (hn: (get a (b.names[i]'h)).isNone=true):callsBk a b (i+1)=callsBk a b i++ [(b.names[i]'h,none,some (b.parts[i]'h2))]:=by
 unfold callsBk;rw[Z6B h h2,List.filter_append,List.map_append];simp[hn]
end
theorem Z96 (a b:Sh) (B:Rec b) (i:Nat): ∃rest,calls a b=callsA a b++callsBk a b i++rest:=by
 refine ⟨(((b.names.zip b.parts).drop i).filter (fun x=>(get a x.1).isNone)).map (fun x=>(x.1,none,some x.2)), ?_⟩;unfold calls callsB callsBk;rw[List.append_assoc, <-List.map_append, <-List.filter_append,List.take_append_drop]
theorem Zbs {W:World} {n0 g off:Nat} {b:Sh} {pb:Ptr} {qs:Nat->Ptr} (B:Rec b) (hP:Parts W n0 b pb g off qs) {n:List UInt8} {x:Bool} (hx:x=true ↔ n∈b.names):At W n0 (get b n) (if x=true then place g off b.names n else .pointer none):=by
 by_cases e:n∈b.names
 {obtain ⟨i,hi,rfl⟩:=List.getElem_of_mem e;have hi2:i < b.parts.length:=by rw[<-B.l]; exact hi
  rw[if_pos (hx.2 e),Z4B B.nodup hi];have hg:get b (b.names[i]'hi)=some (b.parts[i]'hi2):=Z5e B.nodup hi hi2;rw[hg];rcases hP with h | ⟨_,hlt,hc⟩
  {omega}
  {exact ⟨g,off+i * 5,qs i,rfl,hlt,(hc i hi2).1,(hc i hi2).2⟩}}
 {rw[if_neg (fun h=>e (hx.1 h)),B.get_none.2 e];rfl}
theorem Z1J (a b:Sh) (pa pb:Ptr) (n0:Nat) (w:World) (A:Rec a) (B:Rec b) (ha:ShAt w n0 pa a) (hb:ShAt w n0 pb b) (hn:n0<=w.heap.size) (la:a.names.length<=1000) (lb:b.names.length<=1000)
 (fn:Nat) (hen: ∀args W,(callFunc fn args).run Tryz.prog W= .ok (.enter fn args) W) (cs:List Value) (step:Cl->Bool) (K:Bool->List Cl->World->Prop)
 (hT:Takes n0 w.heap.size a b fn cs step K) (h0:K true [] w):
 Calls Tryz.prog 51 #[sv a pa,sv b pb,.func (.func fn) #[] cs.toArray] w fun e w'=>e= .returned (.bool ((calls a b).all step))/\
  (∃D,K ((calls a b).all step) D w'/\((calls a b).all step=true->D=calls a b))/\Upd (fun x=>n0<=x) w w':=by
 obtain ⟨Aa,ca,Pa,da⟩:=pa;obtain ⟨Ab,cb,Pb,db⟩:=pb;have hb1:=Z01 w (.cells #[.int .i64 a.kind,.string ⟨a.of_.toArray⟩,.string ⟨a.name.toArray⟩,.slice Aa a.names.length ca,.slice Pa a.parts.length da] 25);obtain ⟨w1,hw1⟩: ∃w1,w1=w.alloc (.cells #[.int .i64 a.kind,.string ⟨a.of_.toArray⟩,.string ⟨a.name.toArray⟩,.slice Aa a.names.length ca,.slice Pa a.parts.length da] 25):=⟨_,rfl⟩;have hb2:=Z01 w1 (.cells #[.int .i64 b.kind,.string ⟨b.of_.toArray⟩,.string ⟨b.name.toArray⟩,.slice Ab b.names.length cb,.slice Pb b.parts.length db] 25);obtain ⟨w2,hw2⟩: ∃w2,w2=w1.alloc (.cells #[.int .i64 b.kind,.string ⟨b.of_.toArray⟩,.string ⟨b.name.toArray⟩,.slice Ab b.names.length cb,.slice Pb b.parts.length db] 25):=⟨_,rfl⟩;have hs1:w1.heap.size=w.heap.size+1:=by rw[hw1]; simp
 have hs2:w2.heap.size=w.heap.size+2:=by rw[hw2]; simp[hs1]
 have hb3:=Z01 w2 (.map #[] 0);obtain ⟨w3,hw3⟩: ∃w3,w3=w2.alloc (.map #[] 0):=⟨_,rfl⟩;have hs3:w3.heap.size=w.heap.size+3:=by rw[hw3]; simp[hs2]
 rw[<-hw1] at hb1;rw[<-hw2] at hb2;rw[<-hw3] at hb3;have hB1:Box5 w1 w.heap.size a ⟨Aa,ca,Pa,da⟩:=by rw[hw1]; exact Z05 w a ⟨Aa,ca,Pa,da⟩
 have hB2:Box5 w2 w1.heap.size b ⟨Ab,cb,Pb,db⟩:=by rw[hw2]; exact Z05 w1 b ⟨Ab,cb,Pb,db⟩
 have hBA:=(hB1.next hb2).next hb3;have hBB:=hB2.next hb3;rw[hs1] at hBB;have hM: ∀m,Mp w3 (w.heap.size+2) 0 [] m:=fun m=>by
  have:=Mp.made w2 m;rw[<-hw3,hs2] at this;exact this
 have hU:Upd (fun x=>w.heap.size<=x/\x < w.heap.size+3) w w3:=Upd.new (Z00 hb1 (Z00 hb2 hb3));have HB1:=Y1 hBA;have HB2:=Y1 hBB;have HM:=Y1 hM;have HU:=Y1 hU;have HA:=Y1 A;have HBB:=Y1 B;have HSA:=Y1 ha;have HSB:=Y1 hb;have HN:=Y1 hn;have HLA:=Y1 la;have HLB:=Y1 lb;have HT:=Y1 hT;have HK:=Y1 h0;have HS:=Y1 hs3;obtain ⟨_,⟨a0,a1,a2,a3,a4⟩,_⟩:=hBA;obtain ⟨_,⟨b0,b1,b2,b3,b4⟩,_⟩:=hBB;simp only[Nat.zero_add] at a0 a1 a2 a3 a4 b0 b1 b2 b3 b4;have hw1':=hw1.symm;have hw2':=hw2.symm;have hw3':=hw3.symm;clear hw1 hw2 hw3 hb1 hb2 hb3 hB1 hB2 hM hU A B ha hb hn la lb hT h0;unfold sv
 try dsimp only
 have hmm:= @run_makeMap Tryz.prog;go_enter Tryz.func51,Tryz.ntmps51
 go_wp2_with fail
 obtain ⟨g,off,qs,hP⟩:=Z2K HSB.out;have HP:=Y1 hP;clear hP
 go_loopw [20] (fun ii wr=> ∃k:Nat,k<=b.names.length/\ii= .int .i64 (k:Int)/\Hid (L1 w.heap.size a b ⟨Aa,ca,Pa,da⟩ ⟨Ab,cb,Pb,db⟩ g off w k wr)) (fun i _=>b.names.length - (intOf i).toNat)
 case atStart=>exact ⟨0,Nat.zero_le _,rfl,Y1 ⟨HB1.out,HB2.out,⟨[],HM.out _,by simp⟩,HU.out⟩⟩
 case round=>
  obtain ⟨k,hk,rfl,HR⟩:=hrel;have hlb:=HLB.out;clear b0 b1 b2 b3 b4 a0 a1 a2 a3 a4;by_cases hlt:k < b.names.length
  {have hi1: (k:Int) < (b.names.length:Int):=by omega
   have hi2: (k:Int) < (b.parts.length:Int):=by rw[<-HBB.out.l]; omega
   have hn0:=HN.out;have hsb:=Z0a HSB.out hn0 HR.out.up (fun x hx hs=>by omega);have hpp:=HP.out.upd hn0 HR.out.up (fun x hx hs=>by omega);obtain ⟨gA,oA,rfl,hgA,hcA⟩:=Z4C hsb hlt;rcases hpp with h | ⟨rfl,hgP,_⟩
   {have:=HBB.out.l; omega}
   obtain ⟨W',hr,hL⟩:=HR.out.put HBB.out.nodup hlt (by omega) (HSB.out.small.ns _ (List.getElem_mem _));obtain ⟨nm,hnm⟩: ∃nm,nm=b.names[k]'hlt:=⟨_,rfl⟩;rw[<-hnm] at hcA hr;have HL:=Y1 hL;obtain ⟨_,⟨b0,b1,b2,b3,b4⟩,_⟩:=HR.out.bb;simp only[Nat.zero_add] at b0 b1 b2 b3 b4;clear hL HR hsb hnm hgA hgP hn0;go_wp2
   go_roundw
   case rel=>exact ⟨k+1,by omega,by go_num,HL⟩
   case measure=>simp[intOf]; omega}
  {obtain rfl:k=b.names.length:=by omega
   have hi1: ¬(b.names.length:Int) < (b.names.length:Int):=by omega
   have hL:L2 n0 w.heap.size a b ⟨Aa,ca,Pa,da⟩ ⟨Ab,cb,Pb,db⟩ g off w K (a.names.take 0) ((callsA a b).take 0) wr:=by
    obtain ⟨S,hM,hS⟩:=HR.out.mp;refine ⟨HR.out.ba,HR.out.bb,⟨S,hM,fun n=> ?_⟩,HR.out.up.mono (fun x _ hx=>by have:=HN.out; omega), ?_,HT.out.keep _ _ _ _ HK.out HR.out.up⟩
    {rw[hS,List.take_length]; simp}
    {have:=hM.lt; omega}
   have HL:=Y1 hL;obtain ⟨_,⟨a0,a1,a2,a3,a4⟩,_⟩:=HR.out.ba;simp only[Nat.zero_add] at a0 a1 a2 a3 a4;clear hL HR hlt hk
   go_wp2_with fail
   go_loopw [35] (fun ii wr=> ∃k:Nat,k<=a.names.length/\ii= .int .i64 (k:Int)/\Hid (((callsA a b).take k).all step=true)/\Hid (L2 n0 w.heap.size a b ⟨Aa,ca,Pa,da⟩ ⟨Ab,cb,Pb,db⟩ g off w K (a.names.take k) ((callsA a b).take k) wr)) (fun i _=>a.names.length - (intOf i).toNat)
   case atStart=>exact ⟨0,Nat.zero_le _,rfl,Y1 (by simp),HL⟩
   case round=>
    obtain ⟨k,hk,rfl,HST,HL2⟩:=hrel;clear a0 a1 a2 a3 a4 HL;have hla:=HLA.out;by_cases hlt:k < a.names.length
    {have hi3: (k:Int) < (a.names.length:Int):=by omega
     have hi4: (k:Int) < (a.parts.length:Int):=by rw[<-HA.out.l]; omega
     have hk2:k < a.parts.length:=by omega
     have hn0:=HN.out;have hsa:=Z0a HSA.out hn0 HL2.out.up (fun x hx hs=>by omega);obtain ⟨gq,oq,rs,hpa⟩:=Z2K hsa;have hpb:=HP.out.upd hn0 HL2.out.up (fun x hx hs=>by omega);obtain ⟨gA,oA,rfl,hgA,hcA⟩:=Z4C hsa hlt;rcases hpa with h | ⟨rfl,hgP,h5⟩
     {omega}
     obtain ⟨S,hM,hS⟩:=HL2.out.mp;have hfine:Fine (a.names[k]'hlt):=HSA.out.small.ns _ (List.getElem_mem _);have hlook:=(show Mp wr.drew _ _ _ _ from hM.same rfl).look hfine;have hmem: (decide (a.names[k]'hlt∈S))=true ↔ (a.names[k]'hlt)∈b.names:=by
      rw[decide_eq_true_eq,hS];refine ⟨fun h=>h.1,fun h=>⟨h,fun hm=> ?_⟩⟩;obtain ⟨i,hi,e⟩:=List.getElem_of_mem hm;rw[List.getElem_take] at e;rw[List.length_take] at hi;have:=(List.getElem_inj HA.out.nodup).1 e;omega
     have hat:=Zbs HBB.out hpb hmem;obtain ⟨rest,hcut,hnext⟩:=Zai (b:=b) HA.out hlt hk2;obtain ⟨nm,hnm⟩: ∃nm,nm=a.names[k]'hlt:=⟨_,rfl⟩;obtain ⟨xa,hxa⟩: ∃xa,xa=a.parts[k]'hk2:=⟨_,rfl⟩;have hax:At wr n0 (some xa) (.pointer (some ⟨gq,oq+k * 5,none⟩)):=⟨gq,oq+k * 5,rs k,rfl,hgP,by rw[hxa]; exact (h5 k hk2).1,by rw[hxa]; exact (h5 k hk2).2⟩;rw[<-hnm] at hcA hlook hmem hat hcut hnext hfine;rw[<-hxa] at hcut hnext;obtain ⟨y,hy⟩: ∃y,y=(if nm∈S then place g off b.names nm else .pointer none):=⟨_,rfl⟩;rw[<-hy] at hlook;have hat':At wr n0 (get b nm) y:=by
      rw[hy];by_cases e:nm∈S
      {simpa[e] using hat}
      {simpa[e] using hat}
     have hL3:=HL2.out.drew HT.out hn0;have hcall:=HT.out.call _ _ _ wr.drew _ _ hcut hL3.sz hL3.k (At.upd hax (by have:=HL2.out.up.size; omega) (Upd.refl (fun _=>False) wr).drew (fun _ _ h=>h)) (At.upd hat' (by have:=HL2.out.up.size; omega) (Upd.refl (fun _=>False) wr).drew (fun _ _ h=>h));have HCALL:=Y1 hcall;have HFI:=Y1 hfine;have HNX:=Y1 hnext;have HL3:=Y1 hL3;have HCUT:=Y1 hcut;obtain ⟨_,⟨a0,a1,a2,a3,a4⟩,_⟩:=HL2.out.ba;simp only[Nat.zero_add] at a0 a1 a2 a3 a4;have HNM:=Y1 hnm;clear hcall hfine hnext hL3 hcut hsa hpb hM hS hmem hat hat' hax hnm hxa hy h5 hgA hgP HL2
     go_wp2_with fail
     go_still_tail 9,(by kernel_rfl)
     change wpList _ _ _ _ _ wr.drew
     go_wp2_with fail
     refine HCALL.out.mono ?_;rintro e W2 ⟨rfl,hk2',hu2⟩;have HK2:=Y1 hk2';have HU2:=Y1 hu2;clear hk2' hu2 HCALL a0 a1 a2 a3 a4;cases hst:step (nm,some xa,get b nm) with
     | false=>
      have HALL:Hid ((calls a b).all step=false):=Y1 (by rw[HCUT.out,List.all_append,List.all_cons,hst]; simp);rw[hst] at HK2;clear hst;go_wp2;go_ret;rw[HALL.out];exact ⟨rfl,⟨_,HK2.out,nofun⟩,HL3.out.up.trans (HU2.out.mono (fun x _ h=>h.1))⟩
     | true=>
      rw[hst] at HK2;have HL4:=Y1 (HL3.out.upd HN.out HU2.out HK2.out);have HST2:Hid (((callsA a b).take (k+1)).all step=true):=Y1 (by rw[<-HNX.out,List.all_append,HST.out]; simp[hst]);rw[HNX.out] at HL4;clear hst HK2 HU2 HCUT;obtain ⟨W5,hr,hL5⟩:=HL4.out.del HT.out HN.out HFI.out 0;have HL5:=Y1 hL5;clear hL5;go_wp2
      go_roundw
      case rel=>exact ⟨k+1,by omega,by go_num,HST2,by rw[show a.names.take (k+1)=a.names.take k++ [nm] from by rw[List.take_succ_eq_append_getElem hlt,HNM.out]]; exact HL5⟩
      case measure=>simp[intOf]; omega}
    {obtain rfl:k=a.names.length:=by omega
     have hi3: ¬(a.names.length:Int) < (a.names.length:Int):=by omega
     have e0: (callsA a b).take a.names.length=callsA a b++callsBk a b 0:=by
      rw[<-callsA_len (b:=b) HA.out,List.take_length]; simp[callsBk]
     have hst0:=HST.out;have hl0:=HL2.out;rw[e0] at hst0 hl0;rw[List.take_length] at hl0;have HST0:=Y1 hst0;have HL0:=Y1 hl0;obtain ⟨_,⟨b0,b1,b2,b3,b4⟩,_⟩:=HL2.out.bb;simp only[Nat.zero_add] at b0 b1 b2 b3 b4;clear hst0 hl0 HST HL2 hlt hk e0
     go_wp2_with fail
     go_loopw [57] (fun ii wr=> ∃k:Nat,k<=b.names.length/\ii= .int .i64 (k:Int)/\Hid ((callsA a b++callsBk a b k).all step=true)/\Hid (L2 n0 w.heap.size a b ⟨Aa,ca,Pa,da⟩ ⟨Ab,cb,Pb,db⟩ g off w K a.names (callsA a b++callsBk a b k) wr)) (fun i _=>b.names.length - (intOf i).toNat)
     case atStart=>exact ⟨0,Nat.zero_le _,rfl,HST0,HL0⟩
     case round=>
      obtain ⟨k,hk,rfl,HST,HL2⟩:=hrel;clear b0 b1 b2 b3 b4 HL0 HST0;by_cases hlt:k < b.names.length
      {have hi5: (k:Int) < (b.names.length:Int):=by omega
       have hk2:k < b.parts.length:=by rw[<-HBB.out.l]; exact hlt
       have hn0:=HN.out;have hsb:=Z0a HSB.out hn0 HL2.out.up (fun x hx hs=>by omega);have hpb:=HP.out.upd hn0 HL2.out.up (fun x hx hs=>by omega);obtain ⟨gA,oA,rfl,hgA,hcA⟩:=Z4C hsb hlt;obtain ⟨S,hM,hS⟩:=HL2.out.mp;have hfine:Fine (b.names[k]'hlt):=HSB.out.small.ns _ (List.getElem_mem _);have hlook:=hM.look2 hfine;have hmem:b.names[k]'hlt∈S ↔ get a (b.names[k]'hlt)=none:=by
        rw[hS,HA.out.get_none];exact ⟨fun h=>h.2,fun h=>⟨List.getElem_mem _,h⟩⟩
       obtain ⟨rest,hcut⟩:=Z96 a b HBB.out (k+1);by_cases hin:b.names[k]'hlt∈S
       {have hnone:=hmem.1 hin;have hnew:=Z7I hlt hk2 (by rw[hnone]; rfl);rw[hnew] at hcut;rw[if_pos hin,decide_eq_true hin,Z4B HBB.out.nodup hlt] at hlook;obtain ⟨nm,hnm⟩: ∃nm,nm=b.names[k]'hlt:=⟨_,rfl⟩;obtain ⟨xb,hxb⟩: ∃xb,xb=b.parts[k]'hk2:=⟨_,rfl⟩;have hat:At wr n0 (some xb) (.pointer (some ⟨g,off+k * 5,none⟩)):=by
         rcases hpb with h | ⟨_,hgP,h5⟩
         {omega}
         {exact ⟨g,off+k * 5,qs k,rfl,hgP,by rw[hxb]; exact (h5 k hk2).1,by rw[hxb]; exact (h5 k hk2).2⟩}
        rw[<-hnm] at hcA hlook hnew hcut;rw[<-hxb] at hnew hcut;have hL3:=HL2.out;have hcut':calls a b=(callsA a b++callsBk a b k)++(nm,none,some xb)::rest:=by rw[hcut]; simp
        have hcall:=HT.out.call _ _ _ wr (.pointer none) _ hcut' hL3.sz hL3.k rfl hat;have HCALL:=Y1 hcall;have HNX:=Y1 hnew;have HL3:=Y1 hL3;have HCUT:=Y1 hcut';clear hcall hnew hL3 hcut hcut' hsb hpb hM hS hmem hat hnm hxb hgA HL2 hin hnone hfine
        go_wp2_with fail
        refine HCALL.out.mono ?_;rintro e W2 ⟨rfl,hk2',hu2⟩;have HK2:=Y1 hk2';have HU2:=Y1 hu2;clear hk2' hu2 HCALL;cases hst:step (nm,none,some xb) with
        | false=>
         have HALL:Hid ((calls a b).all step=false):=Y1 (by rw[HCUT.out,List.all_append,List.all_cons,hst]; simp);rw[hst] at HK2;clear hst;go_wp2;go_ret;rw[HALL.out];exact ⟨rfl,⟨_,HK2.out,nofun⟩,HL3.out.up.trans (HU2.out.mono (fun x _ h=>h.1))⟩
        | true=>
         rw[hst] at HK2;have hl4:=HL3.out.upd HN.out HU2.out HK2.out;rw[List.append_assoc, <-HNX.out] at hl4;have HL4:=Y1 hl4;have HST2:Hid ((callsA a b++callsBk a b (k+1)).all step=true):=Y1 (by rw[HNX.out, <-List.append_assoc,List.all_append,HST.out]; simp[hst]);clear hst HK2 HU2 HCUT hl4;go_wp2
         go_roundw
         case rel=>exact ⟨k+1,by omega,by go_num,HST2,HL4⟩
         case measure=>simp[intOf]; omega}
       {have hold:=Z7H (a:=a) hlt hk2 (by
         cases hg:get a (b.names[k]'hlt) with
         | none=>exact absurd (hmem.2 hg) hin
         | some _=>rfl)
        rw[if_neg hin,decide_eq_false hin] at hlook;obtain ⟨nm,hnm⟩: ∃nm,nm=b.names[k]'hlt:=⟨_,rfl⟩;rw[<-hnm] at hcA hlook;have HL3:Hid (L2 n0 w.heap.size a b ⟨Aa,ca,Pa,da⟩ ⟨some ⟨gA,oA,none⟩,cb,Pb,db⟩ g off w K a.names (callsA a b++callsBk a b (k+1)) wr):=Y1 (by rw[hold]; exact HL2.out);have HST2:Hid ((callsA a b++callsBk a b (k+1)).all step=true):=Y1 (by rw[hold]; exact HST.out);clear hold hsb hpb hM hS hmem hnm hgA HL2 hin hcut hfine;go_wp2
        go_roundw
        case rel=>exact ⟨k+1,by omega,by go_num,HST2,HL3⟩
        case measure=>simp[intOf]; omega}}
      {obtain rfl:k=b.names.length:=by omega
       have hi5: ¬(b.names.length:Int) < (b.names.length:Int):=by omega
       have hall: (calls a b).all step=true:=by
        have:=HST.out;rw[Z4o a b HBB.out] at this;exact this
       have hl:=HL2.out;rw[Z4o a b HBB.out] at hl;have HALL:=Y1 hall;have HL:=Y1 hl;clear hall hl HL2 HST;go_wp2;go_ret;rw[HALL.out];exact ⟨rfl,⟨_,HL.out.k,fun _=>rfl⟩,HL.out.up⟩}}}
end SubM
end Go.Proofs.YtlomianlcnmfgaaGreatDoor
namespace Go.Proofs.YtlomianlcnmfgaaGreatDoor
open Go.RowKit Shp Sub
namespace SubM
def rowB (A:Option Addr):Option Nat:=A.map (·.block)
theorem rowB_own (A:Option Addr) (n c:Nat):Value.ownBlock (.slice A n c)=rowB A:=by cases A <;> rfl
section
variable {W : World} {A : Option Addr} {m c B e s : Nat} {xs : List Value} (h : W.ownsRow B e s (.slice A m c) m xs)
include W A m c B e s xs h
theorem Z08: ∀b,rowB A=some b->B<=b/\b < W.heap.size:=fun b hb=>h.lt b (by rw[rowB_own]; exact hb)
theorem slice_form: (A=none/\m=0/\c=0)\/ ∃g,A=some ⟨g,0,none⟩/\m<=c:=by
 rcases h.2 with ⟨h1,h2⟩ | ⟨g,cap,cur,h1,_,_,h2,_⟩
 {simp only[Value.slice.injEq] at h1; exact Or.inl ⟨h1.1,h2,h1.2.2⟩}
 {simp only[Value.slice.injEq] at h1;obtain ⟨h3,_,rfl⟩:=h1;exact Or.inr ⟨g,h3,h2⟩}
end
theorem Z0g {S:Nat->Prop} {W W':World} {A:Option Addr} {m c B e s n:Nat} {xs:List Value} (h:W.ownsRow B e s (.slice A m c) n xs) (hu:Upd S W W') (hS: ∀b,rowB A=some b-> ¬S b):W'.ownsRow B e s (.slice A m c) n xs:=by
 obtain ⟨h1,h2⟩:=h;refine ⟨h1, ?_⟩;rcases h2 with h2 | ⟨g,cap,cur,hv,hb,hg,hc⟩
 {exact Or.inl h2}
 {refine Or.inr ⟨g,cap,cur,hv,hb, ?_,hc⟩;have hgl:g < W.heap.size:=(Array.getElem?_eq_some_iff.1 hg).1;rw[hu.block g hgl (hS g (by simp only[Value.slice.injEq] at hv; rw[hv.1]; rfl))];exact hg}
theorem Z6I {W:World} {g m c B e s n:Nat} {xs:List Value} (h:W.ownsRow B e s (.slice (some ⟨g,0,none⟩) m c) n xs) {j:Nat} {u:Value} (hu:xs[j]? =some u):W.cell? ⟨g,j,none⟩=some u:=by
 have:=h.cells (g:=g) rfl j u hu
 rwa [Z0f,Nat.zero_add] at this
abbrev El:=Sh×Ptr
def cells5 (x:El):List Value:= [.int .i64 x.1.kind,.string ⟨x.1.of_.toArray⟩,.string ⟨x.1.name.toArray⟩,.slice x.2.A x.1.names.length x.2.c,.slice x.2.P x.1.parts.length x.2.d]
def cellsE (l:List El):List Value:=l.flatMap cells5
def namesE (l:List (List UInt8)):List Value:=l.map fun n=> .string ⟨n.toArray⟩
theorem cellsE_append (l m:List El):cellsE (l++m)=cellsE l++cellsE m:=by simp[cellsE]
theorem cellsE_one (x:El):cellsE [x]=cells5 x:=by simp[cellsE]
theorem cellsE_len (l:List El): (cellsE l).length=l.length * 5:=by
 induction l with
 | nil=>rfl
 | cons a l ih=>rw[show a::l= [a]++l from rfl,cellsE_append,List.length_append,ih,cellsE_one]; simp[cells5]; omega
theorem namesE_len (l:List (List UInt8)): (namesE l).length=l.length:=by simp[namesE]
theorem namesE_append (l m:List (List UInt8)):namesE (l++m)=namesE l++namesE m:=by simp[namesE]
theorem cells5_one (x:El): ∀u∈cells5 x,u.oneCell'=true:=by
 intro u hu;simp only[cells5,List.mem_cons,List.not_mem_nil,or_false] at hu;rcases hu with rfl | rfl | rfl | rfl | rfl <;> rfl
theorem cellsE_at {l:List El} {i c:Nat} (hi:i < l.length) (hc:c < 5): (cellsE l)[i * 5+c]? =(cells5 (l[i]'hi))[c]? :=by
 have h1:l=l.take i++([l[i]'hi]++l.drop (i+1)):=by rw[List.singleton_append,List.getElem_cons_drop,List.take_append_drop]
 have h2: (cellsE (l.take i)).length=i * 5:=by rw[cellsE_len,List.length_take]; omega
 have h3: (cells5 (l[i]'hi)).length=5:=rfl
 conv=>lhs; rw[h1]
 rw[cellsE_append,cellsE_append,cellsE_one,List.getElem?_append_right (by omega),h2,Nat.add_sub_cancel_left,List.getElem?_append_left (by omega)]
def Kept (S:Nat->Prop) (W:World) (x:El):Prop:= ∀W',W.heap.size<=W'.heap.size->(∀b,b < W.heap.size->S b->W'.heap[b]? =W.heap[b]?)->ShAt W' W'.heap.size x.2 x.1
section
variable {S T : Nat -> Prop} {W W' : World} {x : El}
section
variable (h : Kept S W x)
include h
theorem Kept.here:ShAt W W.heap.size x.2 x.1:=h W (Nat.le_refl _) (fun _ _ _=>rfl)
theorem Kept.upd (hu:Upd T W W') (hd: ∀b,b < W.heap.size->S b-> ¬T b):Kept S W' x:=fun W2 h1 h2=>
 h W2 (Nat.le_trans hu.size h1) (fun b hb hs=>(h2 b (Nat.lt_of_lt_of_le hb hu.size) hs).trans (hu.block b hb (hd b hb hs)))
theorem Kept.more (hs: ∀b,b < W.heap.size->S b->T b):Kept T W x:=fun W2 h1 h2=>h W2 h1 (fun b hb hS=>h2 b hb (hs b hb hS))
end
theorem Kept.old {n0:Nat} (h:ShAt W n0 x.2 x.1) (hn:n0<=W.heap.size) (hS: ∀b,b < n0->S b):Kept S W x:=fun W2 h1 h2=>
 h.of (Nat.le_trans hn h1) (fun g k hg=>World.cell?_of_block (w:=W) (h2 g (by omega) (hS g hg)))
end
structure Mk (w0:World) (gm hi:Nat) (k:Int) (o nm:List UInt8) (nl:List (List UInt8)) (l:List El) (AN:Option Addr) (cN:Nat) (AP:Option Addr) (cP:Nat) (W:World):Prop where
 up:Below w0.heap.size w0 W
 lo:w0.heap.size<=gm
 gh:gm < hi
 hw:hi<=W.heap.size
 c0:W.cell? ⟨gm,0,none⟩=some (.int .i64 k)
 c1:W.cell? ⟨gm,1,none⟩=some (.string ⟨o.toArray⟩)
 c2:W.cell? ⟨gm,2,none⟩=some (.string ⟨nm.toArray⟩)
 c3:W.cell? ⟨gm,3,none⟩=some (.slice AN nl.length cN)
 c4:W.cell? ⟨gm,4,none⟩=some (.slice AP l.length cP)
 fz: ∀j,W.frozen? ⟨gm,j,none⟩=false
 rN:W.ownsRow hi 9 1 (.slice AN nl.length cN) nl.length (namesE nl)
 rP:W.ownsRow hi 25 5 (.slice AP l.length cP) l.length (cellsE l)
 ne:rowB AN=none\/rowB AN≠rowB AP
def Free (n0 hi:Nat) (AN AP:Option Addr) (b:Nat):Prop:=b < n0\/(hi<=b/\rowB AN≠some b/\rowB AP≠some b)
section
variable {w0 W W' : World} {gm hi : Nat} {k : Int} {o nm : List UInt8} {nl : List (List UInt8)} {l : List El} {AN AP : Option Addr} {cN cP : Nat}
theorem Mk.upd {S:Nat->Prop} (h:Mk w0 gm hi k o nm nl l AN cN AP cP W) (hu:Upd S W W') (h0: ∀b,b < w0.heap.size-> ¬S b) (h1: ¬S gm) (h2: ∀b,rowB AN=some b-> ¬S b) (h3: ∀b,rowB AP=some b-> ¬S b):
 Mk w0 gm hi k o nm nl l AN cN AP cP W':=by
 have hg:gm < W.heap.size:=Nat.lt_of_lt_of_le h.gh h.hw;refine ⟨h.up.trans (hu.below h.up.size (fun b hb=> ?_)),h.lo,h.gh,Nat.le_trans h.hw hu.size,(hu.cell hg h1).trans h.c0,(hu.cell hg h1).trans h.c1,(hu.cell hg h1).trans h.c2,(hu.cell hg h1).trans h.c3,(hu.cell hg h1).trans h.c4,
  fun j=>(hu.frozen hg h1).trans (h.fz j),Z0g h.rN hu h2,Z0g h.rP hu h3,h.ne⟩
 exact Nat.le_of_not_lt (fun hlt=>h0 b hlt hb)
theorem Mk.new (h:Mk w0 gm hi k o nm nl l AN cN AP cP W) (hb:Below W.heap.size W W'):Mk w0 gm hi k o nm nl l AN cN AP cP W':=
 h.upd (S:=fun _=>False) (Upd.new hb) (fun _ _ h=>h) (fun h=>h) (fun _ _ h=>h) (fun _ _ h=>h)
end
theorem Mk.at_ {w0 W:World} {gm hi n0:Nat} {k:Int} {o nm:List UInt8} {nl:List (List UInt8)} {l:List El} {AN AP:Option Addr} {cN cP:Nat} (h:Mk w0 gm hi k o nm nl l AN cN AP cP W)
 (hk: ∀x∈l,Kept (Free n0 hi AN AP) W x) (ho:o.length<=9223372036854775807) (hnm:nm.length<=9223372036854775807) (hnl: ∀x∈nl,x.length<=9223372036854775807) (hl:nl.length<=1000000) (hm:l.length<=1000000):
 Kept (fun b=>b < n0\/hi<=b) W (⟨k,o,nm,nl,l.map Prod.fst⟩,⟨AN,cN,AP,cP⟩):=by
 intro W' hz hs;have hN:=slice_form h.rN;have hP:=slice_form h.rP;have kept: ∀x∈l,ShAt W' W'.heap.size x.2 x.1:=fun x hx=>hk x hx W' hz (fun b hb hf=>hs b hb (by
  rcases hf with h | h
  {exact Or.inl h}
  · exact Or.inr h.1))
 refine .mk _ _ ((rowB AP).getD 0) 0 (fun i=>(l[i]?.map Prod.snd).getD ⟨none,0,none,0⟩) ⟨ho,hnm,hnl,by show nl.length<=_; omega,by show (l.map Prod.fst).length<=_; rw[List.length_map]; omega, ?_, ?_, ?_, ?_⟩ ?_ ?_ ?_ ?_
 {show nl.length<=cN;rcases hN with ⟨_,h1,h2⟩ | ⟨_,_,h1⟩ <;> omega}
 {show (l.map Prod.fst).length<=cP;rw[List.length_map];rcases hP with ⟨_,h1,h2⟩ | ⟨_,_,h1⟩ <;> omega}
 {intro (e:AN=none);show cN=0;rcases hN with ⟨_,h1,h2⟩ | ⟨g,h1,_⟩
  {exact h2}
  {rw[e] at h1; cases h1}}
 {intro (e:AP=none);show cP=0;rcases hP with ⟨_,h1,h2⟩ | ⟨g,h1,_⟩
  {exact h2}
  {rw[e] at h1; cases h1}}
 {show Strs W' W'.heap.size AN (strs nl);rcases hN with ⟨_,h1,_⟩ | ⟨g,rfl,_⟩
  {exact Or.inl (by unfold strs; simp[h1])}
  {have hg:=Z08 h.rN g rfl;refine Or.inr ⟨g,0,rfl,Nat.lt_of_lt_of_le hg.2 hz,fun i hi=> ?_⟩;have hi':i < nl.length:=by simpa[strs] using hi
   have e1:W'.cell? ⟨g,i,none⟩=W.cell? ⟨g,i,none⟩:=World.cell?_of_block (w:=W) (hs g hg.2 (Or.inr hg.1));rw[Nat.zero_add,e1,Z6I h.rN (u:= .string ⟨(nl[i]'hi').toArray⟩) (by unfold namesE; rw[List.getElem?_map,List.getElem?_eq_getElem hi']; rfl)];simp[strs]}}
 {show (l.map Prod.fst).length=0\/_;rcases hP with ⟨_,h1,_⟩ | ⟨g,rfl,_⟩
  {exact Or.inl (by rw[List.length_map]; exact h1)}
  {exact Or.inr ⟨rfl,Nat.lt_of_lt_of_le (Z08 h.rP g rfl).2 hz⟩}}
 {intro i hi;have hi':i < l.length:=by simpa using hi
  rcases hP with ⟨_,h1,_⟩ | ⟨g,rfl,_⟩
  {omega}
  {have hg:=Z08 h.rP g rfl;have e1: ∀j,W'.cell? ⟨g,j,none⟩=W.cell? ⟨g,j,none⟩:=fun j=>World.cell?_of_block (w:=W) (hs g hg.2 (Or.inr hg.1));have e2: ∀c v,c < 5->(cells5 (l[i]'hi'))[c]? =some v->W'.cell? ⟨g,0+i * 5+c,none⟩=some v:=fun c v hc hv=>by
    rw[Nat.zero_add,e1];exact Z6I h.rP (by rw[cellsE_at hi' hc]; exact hv)
   simp only[List.getElem_map];rw[List.getElem?_eq_getElem hi'];exact ⟨e2 0 _ (by omega) rfl,e2 1 _ (by omega) rfl,e2 2 _ (by omega) rfl,e2 3 _ (by omega) rfl,e2 4 _ (by omega) rfl⟩}}
 {intro i hi;have hi':i < l.length:=by simpa using hi
  simp only[List.getElem_map];rw[List.getElem?_eq_getElem hi'];exact kept _ (List.getElem_mem _)}
end SubM
end Go.Proofs.YtlomianlcnmfgaaGreatDoor
namespace Go.Proofs.YtlomianlcnmfgaaGreatDoor
open Go.RowKit
def upd (u:Nat->Value) (i:Nat) (v:Value):Nat->Value:=fun j=>cond (Nat.beq j i) v (u j)
theorem Z0h (u:Nat->Value) (i:Nat) (v:Value):upd u i v i=v:=by simp[upd]
theorem Z04 (u:Nat->Value) {i j:Nat} (v:Value) (h:j≠i):upd u i v j=u j:=by
 have:Nat.beq j i=false:=by cases hb:Nat.beq j i <;> first | rfl | exact absurd (Nat.eq_of_beq_eq_true hb) h
 simp[upd,this]
structure Want where
 ok:Value->World->Prop
 keep: ∀(v:Value) (w w':World),Below w.heap.size w w'->ok v w->ok v w'
theorem Want.mono {T:Want} {v:Value} {w w':World} (hb:Below w.heap.size w w') (h:T.ok v w):T.ok v w':=T.keep v w w' hb h
def Want.val (c:Value):Want:=⟨fun v _=>v=c,fun _ _ _ _ h=>h⟩
def Want.any:Want:=⟨fun _ _=>True,fun _ _ _ _ h=>h⟩
section
variable {P : Program} {ops : Array Oper} {Q : Exit -> Act -> World -> Prop}
def waits (o:Oper) (j:Nat):Bool:=o.after.any fun e=>Region.binds .any e&&e.on==j
def StepAt (P:Program) (ops:Array Oper) (Q:Exit->Act->World->Prop) (A: (Nat->Value)->Act) (T:Nat->Want) (J:World->Prop) (i:Nat):Prop:=
 ∀o,ops[i]? =some o-> ∀(u:Nat->Value) (W:World),J W->(∀j,waits o j=true->(T j).ok (u j) W)->
  wpOp P ops Q i (fun a' w'=> ∃v,a'=A (upd u i v)/\(T i).ok v w'/\J w'/\Below W.heap.size W w') (A u) W
def StepsAt (P:Program) (ops:Array Oper) (Q:Exit->Act->World->Prop) (A: (Nat->Value)->Act) (T:Nat->Want) (J:World->Prop) (rs:List Nat):Prop:=
 ∀i∈rs,StepAt P ops Q A T J i
section
variable {A : (Nat -> Value) -> Act} {T : Nat -> Want} {J : World -> Prop}
include A T J
theorem StepsAt.nil:StepsAt P ops Q A T J []:=fun _ h=>by cases h
theorem StepsAt.cons {i:Nat} {rs:List Nat} (o:Oper) (ho:ops[i]? =some o)
 (h: ∀(u:Nat->Value) (W:World) (K':Act->World->Prop),J W->(∀j,waits o j=true->(T j).ok (u j) W)->
  Shut (∀v w',(T i).ok v w'->J w'->Below W.heap.size W w'->K' (A (upd u i v)) w')->
  if Region.wanted o (yielded ops (A u).tmps)=true then Oper.wp P o (A u) W K' Q else K' ((A u).put o.dst undef) W)
 (hs:StepsAt P ops Q A T J rs):StepsAt P ops Q A T J (i::rs):=fun j hj=>by
 rcases List.mem_cons.1 hj with rfl | hj
 {intro o' ho' u W hJ hd;rw[ho] at ho';obtain rfl:o=o':=Option.some.inj ho';exact wpOp_step ho (fun K' hK=>h u W K' hJ hd (fun v w' h1 h2 h3=>hK _ _ ⟨v,rfl,h1,h2,h3⟩))}
 {exact hs j hj}
end
def lowAfter (ops:Array Oper):Bool:=(List.range ops.size).all fun i=>((ops[i]?).map fun o=>o.after.all fun e=> !Region.binds .any e||decide (e.on < i)).getD true
theorem Z5J (h:lowAfter ops=true) {i:Nat} {o:Oper} (ho:ops[i]? =some o): ∀e∈o.after,Region.binds .any e=true->e.on < i:=by
 intro e he hb;have hi:i < ops.size:=by
  rcases Nat.lt_or_ge i ops.size with h | h
  {exact h}
  {rw[Array.getElem?_eq_none h] at ho; cases ho}
 have h1:=List.all_eq_true.1 h i (List.mem_range.2 hi);rw[ho] at h1;simp only[Option.map_some,Option.getD_some] at h1;have:=Array.all_eq_true_iff_forall_mem.1 h1 e he;rw[hb] at this;simpa using this
theorem Z2o (hl:lowAfter ops=true) (listed:Array Bool) (hr:Region.ready .any ops listed= []) (hsz:listed.size=ops.size):
 ∀n j,j < n->j < ops.size->listed.getD j false=true:=by
 intro n;induction n with
 | zero=>intro j hj; omega
 | succ n ih=>
  intro j hj hjs;by_cases hjn:j < n
  {exact ih j hjn hjs}
  {cases hlj:listed.getD j false with
   | true=>rfl
   | false=>
    have hmem:j∈Region.ready .any ops listed:=by
     refine mem_ready.2 ⟨?_,ops[j]'hjs,by simp[hjs],fun e he hb=> ?_⟩
     {have:j < listed.size:=by omega
      simp[this] at hlj ⊢;exact hlj}
     {have hlt:=Z5J hl (show ops[j]? =some (ops[j]'hjs) by simp[hjs]) e he hb;exact ih e.on (by omega) (by omega)}
    rw[hr] at hmem;cases hmem}
theorem Z5l (l:List Bool): ∀(i:Nat),l[i]? =some false->(l.set i true).count false+1=l.count false:=by
 induction l with
 | nil=>intro i h; simp at h
 | cons b l ih=>
  intro i h;cases i with
  | zero=>
   simp at h;subst h;simp
  | succ i=>
   simp at h;have:=ih i h;cases b <;> simp at this ⊢ <;> omega
theorem Z4P (l:List Bool) (h:l.count false=0) (j:Nat):l[j]? ≠some false:=by
 intro hj;have:=List.count_pos_iff.2 (List.mem_of_getElem? hj);omega
theorem Z9S (A: (Nat->Value)->Act) (T:Nat->Want) (J:World->Prop) (hl:lowAfter ops=true)
 (hstep:StepsAt P ops Q A T J (List.range ops.size))
 (hdone: ∀u W,J W->(∀j,j < ops.size->(T j).ok (u j) W)->Q .normal (A u) W):
 ∀(fuel:Nat) (listed:Array Bool) (u:Nat->Value) (W:World),listed.size=ops.size->listed.toList.count false<=fuel->J W->
  (∀j,listed.getD j false=true->(T j).ok (u j) W)->wpAny P .any ops Q fuel listed (A u) W:=by
 intro fuel;induction fuel with
 | zero=>
  intro listed u W hsz hc hJ hd;have hr:Region.ready .any ops listed= []:=by
   refine List.eq_nil_iff_forall_not_mem.2 fun j hj=> ?_;obtain ⟨h1,o,ho,_⟩:=mem_ready.1 hj;have hjs:j < listed.size:=by
    rw[hsz];rcases Nat.lt_or_ge j ops.size with h | h
    {exact h}
    {rw[Array.getElem?_eq_none h] at ho; cases ho}
   refine Z4P listed.toList (by omega) j ?_;simp[hjs] at h1 ⊢;exact h1
  exact ⟨hr,hdone u W hJ fun j hj=>hd j (Z2o hl listed hr hsz (j+1) j (by omega) hj)⟩
 | succ fuel ih=>
  intro listed u W hsz hc hJ hd;refine ⟨fun hr=>hdone u W hJ fun j hj=>hd j (Z2o hl listed hr hsz (j+1) j (by omega) hj),fun i hi=> ?_⟩;obtain ⟨h1,o,ho,hall⟩:=mem_ready.1 hi;have his:i < ops.size:=by
   rcases Nat.lt_or_ge i ops.size with h | h
   {exact h}
   {rw[Array.getElem?_eq_none h] at ho; cases ho}
  have hil:i < listed.size:=by omega
  have hdep: ∀j,waits o j=true->(T j).ok (u j) W:=fun j hj=>by
   obtain ⟨e,he,hb⟩:=Array.any_eq_true'.1 hj;simp only[Bool.and_eq_true,beq_iff_eq] at hb;obtain ⟨hb,rfl⟩:=hb;exact hd e.on (hall e he hb)
  refine wpOp_mono (fun a' w' h=> ?_) (hstep i (List.mem_range.2 his) o ho u W hJ hdep);obtain ⟨v,rfl,hok,hJ',hb⟩:=h;refine ih _ _ _ (by simpa using hsz) ?_ hJ' fun j hj=> ?_
  {have h2:listed.toList[i]? =some false:=by simp[hil] at h1 ⊢; exact h1
   have:=Z5l listed.toList i h2;rw[Array.toList_setIfInBounds];omega}
  {by_cases hji:j=i
   {subst hji;rw[Z0h];exact hok}
   {rw[Z04 u v hji];refine Want.mono hb (hd j ?_);rw[getD_set_ne false (Ne.symm hji)] at hj;exact hj}}
theorem Z5m {id:Nat} {w:World} {rs:List Nat} (A: (Nat->Value)->Act) (u0:Nat->Value) (T:Nat->Want) (J:World->Prop) (hm:P.follows .mixedOrders=true) (hl:lowAfter ops=true)
 (hrs:List.range ops.size=rs) (hJ:J w.drew) (hstep:StepsAt P ops Q A T J rs)
 (hdone: ∀u W,J W->(∀j,j < ops.size->(T j).ok (u j) W)->Q .normal (A u) W):
 (Code.region id ops true).wp P Q (A u0) w:=by
 subst hrs;refine wp_region_any hm (Z9S A T J hl hstep hdone _ _ _ _ (by simp) ?_ hJ fun j hj=> ?_)
 {exact Nat.le_trans List.count_le_length (by simp)}
 {exfalso;rcases Nat.lt_or_ge j ops.size with h | h
  {simp[h] at hj}
  {simp[h] at hj}}
section
variable {o : Oper} {a : Act}
include o a
theorem Z02 {W W':World} {K':Act->World->Prop} {v:Value} {E:Prop} (hw:Region.wanted o (yielded ops a.tmps)=true)
 (hrun: (execOp a.eval o).run P W= .ok (.value v) W') (hK:K' (a.put o.dst v) W'):
 if Region.wanted o (yielded ops a.tmps)=true then Oper.wp P o a W K' Q else E:=by
 rw[if_pos hw,Oper.wp,hrun,Oper.upon_value];exact hK
theorem Y0 {W:World} {K':Act->World->Prop} {F:Value->Act} {T:Nat->Want} {J:World->Prop} {i:Nat} {E:Prop} {c:Value}
 (hK:Shut (∀v w',(T i).ok v w'->J w'->Below W.heap.size W w'->K' (F v) w')) (hJ:J W) (hT:T i=Want.val c) (hA:a.put o.dst c=F c)
 (hw:Region.wanted o (yielded ops a.tmps)=true) (hr: (execOp a.eval o).run P W= .ok (.value c) W):
 if Region.wanted o (yielded ops a.tmps)=true then Oper.wp P o a W K' Q else E:=
 Z02 (v:=c) (W':=W) hw hr (by rw[hA]; exact hK.out c W (by rw[hT]; rfl) hJ (Below.refl _ _))
theorem Z0F {W W':World} {K':Act->World->Prop} {f:FuncId} {args:Array Value} {E:Prop} (hw:Region.wanted o (yielded ops a.tmps)=true)
 (hrun: (execOp a.eval o).run P W= .ok (.enter f args) W') (hc:Calls P f args W' fun e w'=> ∃v,e= .returned v/\K' (a.put o.dst v) w'):
 if Region.wanted o (yielded ops a.tmps)=true then Oper.wp P o a W K' Q else E:=by
 rw[if_pos hw,Oper.wp,hrun,Oper.upon_enter];refine hc.mono fun e w' h=> ?_;obtain ⟨v,rfl,h⟩:=h;exact h
end
end
end Go.Proofs.YtlomianlcnmfgaaGreatDoor
namespace Go.Proofs.YtlomianlcnmfgaaGreatDoor
open Go.RowKit
def also (d:Nat->Bool) (i:Nat):Nat->Bool:=fun j=>cond (Nat.beq j i) true (d j)
section
variable {P : Program} {ops : Array Oper} {Q : Exit -> Act -> World -> Prop}
def StepInv (P:Program) (ops:Array Oper) (Q:Exit->Act->World->Prop) (A: (Nat->Value)->Act) (I: (Nat->Bool)->(Nat->Value)->World->Prop) (i:Nat):Prop:=
 ∀o,ops[i]? =some o-> ∀(d:Nat->Bool) (u:Nat->Value) (W:World),I d u W->d i=false->(∀j,waits o j=true->d j=true)->
  wpOp P ops Q i (fun a' w'=> ∃v,a'=A (upd u i v)/\I (also d i) (upd u i v) w') (A u) W
def StepsInv (P:Program) (ops:Array Oper) (Q:Exit->Act->World->Prop) (A: (Nat->Value)->Act) (I: (Nat->Bool)->(Nat->Value)->World->Prop) (rs:List Nat):Prop:=
 ∀i∈rs,StepInv P ops Q A I i
section
variable {A : (Nat -> Value) -> Act} {I : (Nat -> Bool) -> (Nat -> Value) -> World -> Prop}
include A I
theorem StepsInv.nil:StepsInv P ops Q A I []:=fun _ h=>by cases h
theorem StepsInv.cons {i:Nat} {rs:List Nat} (o:Oper) (ho:ops[i]? =some o)
 (h: ∀(d:Nat->Bool) (u:Nat->Value) (W:World) (K':Act->World->Prop),I d u W->d i=false->(∀j,waits o j=true->d j=true)->
  Shut (∀v w',I (also d i) (upd u i v) w'->K' (A (upd u i v)) w')->
  if Region.wanted o (yielded ops (A u).tmps)=true then Oper.wp P o (A u) W K' Q else K' ((A u).put o.dst undef) W)
 (hs:StepsInv P ops Q A I rs):StepsInv P ops Q A I (i::rs):=fun j hj=>by
 rcases List.mem_cons.1 hj with rfl | hj
 {intro o' ho' d u W hI hd hw;rw[ho] at ho';obtain rfl:o=o':=Option.some.inj ho';exact wpOp_step ho (fun K' hK=>h d u W K' hI hd hw (fun v w' h1=>hK _ _ ⟨v,rfl,h1⟩))}
 {exact hs j hj}
end
theorem Z7X (listed:Array Bool) {i:Nat} (hi:i < listed.size): (fun j=>(listed.setIfInBounds i true).getD j false)=also (fun j=>listed.getD j false) i:=by
 funext j;unfold also;by_cases h:j=i
 {subst h;have:Nat.beq j j=true:=Nat.beq_refl j;rw[this];simp[hi]}
 {have hb:Nat.beq j i=false:=by cases hb:Nat.beq j i <;> first | rfl | exact absurd (Nat.eq_of_beq_eq_true hb) h
  rw[hb];exact getD_set_ne false (Ne.symm h)}
theorem ZbM (A: (Nat->Value)->Act) (I: (Nat->Bool)->(Nat->Value)->World->Prop) (hl:lowAfter ops=true)
 (hstep:StepsInv P ops Q A I (List.range ops.size))
 (hdone: ∀d u W,I d u W->(∀j,j < ops.size->d j=true)->Q .normal (A u) W):
 ∀(fuel:Nat) (listed:Array Bool) (u:Nat->Value) (W:World),listed.size=ops.size->listed.toList.count false<=fuel->I (fun j=>listed.getD j false) u W->
  wpAny P .any ops Q fuel listed (A u) W:=by
 intro fuel;induction fuel with
 | zero=>
  intro listed u W hsz hc hI;have hr:Region.ready .any ops listed= []:=by
   refine List.eq_nil_iff_forall_not_mem.2 fun j hj=> ?_;obtain ⟨h1,o,ho,_⟩:=mem_ready.1 hj;have hjs:j < listed.size:=by
    rw[hsz];rcases Nat.lt_or_ge j ops.size with h | h
    {exact h}
    {rw[Array.getElem?_eq_none h] at ho; cases ho}
   refine Z4P listed.toList (by omega) j ?_;simp[hjs] at h1 ⊢;exact h1
  exact ⟨hr,hdone _ u W hI fun j hj=>Z2o hl listed hr hsz (j+1) j (by omega) hj⟩
 | succ fuel ih=>
  intro listed u W hsz hc hI;refine ⟨fun hr=>hdone _ u W hI fun j hj=>Z2o hl listed hr hsz (j+1) j (by omega) hj,fun i hi=> ?_⟩;obtain ⟨h1,o,ho,hall⟩:=mem_ready.1 hi;have his:i < ops.size:=by
   rcases Nat.lt_or_ge i ops.size with h | h
   {exact h}
   {rw[Array.getElem?_eq_none h] at ho; cases ho}
  have hil:i < listed.size:=by omega
  have hdi:listed.getD i false=false:=by simp[hil] at h1 ⊢; exact h1
  have hdep: ∀j,waits o j=true->listed.getD j false=true:=fun j hj=>by
   obtain ⟨e,he,hb⟩:=Array.any_eq_true'.1 hj;simp only[Bool.and_eq_true,beq_iff_eq] at hb;obtain ⟨hb,rfl⟩:=hb;exact hall e he hb
  refine wpOp_mono (fun a' w' h=> ?_) (hstep i (List.mem_range.2 his) o ho (fun j=>listed.getD j false) u W hI hdi hdep);obtain ⟨v,rfl,hI'⟩:=h;rw[<-Z7X listed hil] at hI';refine ih _ _ _ (by simpa using hsz) ?_ hI';have h2:listed.toList[i]? =some false:=by simp[hil] at h1 ⊢; exact h1
  have:=Z5l listed.toList i h2;rw[Array.toList_setIfInBounds];omega
theorem Z21 {id:Nat} {w:World} {rs:List Nat} (A: (Nat->Value)->Act) (u0:Nat->Value) (I: (Nat->Bool)->(Nat->Value)->World->Prop) (hm:P.follows .mixedOrders=true) (hl:lowAfter ops=true)
 (hrs:List.range ops.size=rs) (hI:I (fun _=>false) u0 w.drew) (hstep:StepsInv P ops Q A I rs)
 (hdone: ∀d u W,I d u W->(∀j,j < ops.size->d j=true)->Q .normal (A u) W):
 (Code.region id ops true).wp P Q (A u0) w:=by
 subst hrs;refine wp_region_any hm (ZbM A I hl hstep hdone _ _ _ _ (by simp) ?_ ?_)
 {exact Nat.le_trans List.count_le_length (by simp)}
 {have e: (fun j=>(Array.replicate ops.size false).getD j false)=fun _=>false:=by
   funext j;rcases Nat.lt_or_ge j ops.size with h | h
   {simp[h]}
   {simp[h]}
  rw[e];exact hI}
theorem Z0q {o:Oper} {a:Act} {W W':World} {K':Act->World->Prop} {E:Prop} (hw:Region.wanted o (yielded ops a.tmps)=true)
 (hrun: (execOp a.eval o).run P W= .ok .skip W') (hK:K' (a.put o.dst undef) W'):
 if Region.wanted o (yielded ops a.tmps)=true then Oper.wp P o a W K' Q else E:=by
 rw[if_pos hw,Oper.wp,hrun,Oper.upon_skip];exact hK
end
end Go.Proofs.YtlomianlcnmfgaaGreatDoor
namespace Go.Proofs.YtlomianlcnmfgaaGreatDoor
open Go.RowKit
def Shutd (ops:Array Oper) (d:Nat->Bool):Prop:= ∀k o,ops[k]? =some o->d k=true-> ∀m,waits o m=true->d m=true
section
variable {P : Program} {ops : Array Oper} {Q : Exit -> Act -> World -> Prop} {d : Nat -> Bool}
theorem Z5C (i:Nat) {k:Nat} (h:d k=true):also d i k=true:=by
 unfold also;cases Nat.beq k i
 {exact h}
 {rfl}
theorem Shutd.also (h:Shutd ops d) {i:Nat} {o:Oper} (ho:ops[i]? =some o) (hw: ∀j,waits o j=true->d j=true):Shutd ops (also d i):=by
 intro k o2 hk hd m hm;by_cases e:k=i
 {subst e;rw[ho] at hk;obtain rfl:=Option.some.inj hk;exact Z5C _ (hw m hm)}
 {have:Go.Proofs.YtlomianlcnmfgaaGreatDoor.also d i k=d k:=by
   unfold Go.Proofs.YtlomianlcnmfgaaGreatDoor.also;have:Nat.beq k i=false:=by cases hb:Nat.beq k i <;> first | rfl | exact absurd (Nat.eq_of_beq_eq_true hb) e
   rw[this]; rfl
  rw[this] at hd;exact Z5C _ (h k o2 hk hd m hm)}
theorem StepsInv.cons2 {A: (Nat->Value)->Act} {I: (Nat->Bool)->(Nat->Value)->World->Prop} {i:Nat} {rs:List Nat} (o:Oper) (ho:ops[i]? =some o)
 (h: ∀(d:Nat->Bool) (u:Nat->Value) (W:World) (K':Act->World->Prop),Shutd ops d->I d u W->d i=false->(∀j,waits o j=true->d j=true)->
  Shut (∀v w',I (also d i) (upd u i v) w'->K' (A (upd u i v)) w')->
  if Region.wanted o (yielded ops (A u).tmps)=true then Oper.wp P o (A u) W K' Q else K' ((A u).put o.dst undef) W)
 (hs:StepsInv P ops Q A (fun d u W=>Shutd ops d/\I d u W) rs):StepsInv P ops Q A (fun d u W=>Shutd ops d/\I d u W) (i::rs):=
 StepsInv.cons o ho (fun d u W K' hI hd hw hK=>h d u W K' hI.1 hI.2 hd hw (fun v w' hv=>hK _ _ ⟨hI.1.also ho hw,hv⟩)) hs
theorem Z1u {id:Nat} {w:World} {rs:List Nat} (A: (Nat->Value)->Act) (u0:Nat->Value) (I: (Nat->Bool)->(Nat->Value)->World->Prop) (hm:P.follows .mixedOrders=true) (hl:lowAfter ops=true)
 (hrs:List.range ops.size=rs) (hI:I (fun _=>false) u0 w.drew) (hstep:StepsInv P ops Q A (fun d u W=>Shutd ops d/\I d u W) rs)
 (hdone: ∀d u W,I d u W->(∀j,j < ops.size->d j=true)->Q .normal (A u) W):
 (Code.region id ops true).wp P Q (A u0) w:=
 Z21 A u0 (fun d u W=>Shutd ops d/\I d u W) hm hl hrs ⟨fun _ _ _ h=>(by cases h),hI⟩ hstep (fun d u W h=>hdone d u W h.2)
end
end Go.Proofs.YtlomianlcnmfgaaGreatDoor
