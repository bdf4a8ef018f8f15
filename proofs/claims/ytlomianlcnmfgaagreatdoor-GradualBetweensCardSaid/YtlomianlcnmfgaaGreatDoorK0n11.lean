/- What the proofs of GradualBetweens want, part 11. -/
import Derived.Test.YtlomianlcnmfgaaGreatDoorK0n10
set_option linter.unusedVariables false
set_option linter.unusedSimpArgs false
set_option linter.unusedSectionVars false
set_option maxRecDepth 100000
set_option maxHeartbeats 16000000
namespace Go.Proofs.YtlomianlcnmfgaaGreatDoor
open Go.RowKit Shp Sub
namespace SubM
namespace RX
def lay (W:World) (g:Nat) (t:Sh) (q:Ptr):World:=
 ((((W.setCell ⟨g,0,none⟩ (.int .i64 t.kind)).setCell ⟨g,1,none⟩ (.string ⟨t.of_.toArray⟩)).setCell ⟨g,2,none⟩ (.string ⟨t.name.toArray⟩)).setCell ⟨g,3,none⟩ (.slice q.A t.names.length q.c)).setCell ⟨g,4,none⟩ (.slice q.P t.parts.length q.d)
section
variable (W : World) (g : Nat) (t : Sh) (q : Ptr)
include W g t q
theorem lay_upd:Upd (fun b=>b=g) W (lay W g t q):=
 Upd.set (Upd.set (Upd.set (Upd.set (Upd.set (Upd.refl (fun b=>b=g) W) ⟨g,0,none⟩ (fun _=>rfl) _) ⟨g,1,none⟩ (fun _=>rfl) _) ⟨g,2,none⟩ (fun _=>rfl) _) ⟨g,3,none⟩ (fun _=>rfl) _) ⟨g,4,none⟩ (fun _=>rfl) _
theorem lay_size: (lay W g t q).heap.size=W.heap.size:=by simp[lay,World.setCell]
theorem lay_fz (j:Nat): (lay W g t q).frozen? ⟨g,j,none⟩=W.frozen? ⟨g,j,none⟩:=by
 unfold lay; rw[World.frozen?_setCell,World.frozen?_setCell,World.frozen?_setCell,World.frozen?_setCell,World.frozen?_setCell]
end
theorem soc {W:World} {b x y:Nat} {v:Value} (h:x≠y): (W.setCell ⟨b,x,none⟩ v).cell? ⟨b,y,none⟩=W.cell? ⟨b,y,none⟩:=World.cell?_setCell_other _ _ _ _ (fun e=>by have:=congrArg Addr.off e; simp at this; omega)
theorem lay_at {W:World} {g:Nat} (t:Sh) (q:Ptr) (h: ∀j,j < 5-> ∃v,W.cell? ⟨g,j,none⟩=some v):Sh5 (lay W g t q) g 0 t q:=by
 obtain ⟨v0,h0⟩:=h 0 (by omega);obtain ⟨v1,h1⟩:=h 1 (by omega);obtain ⟨v2,h2⟩:=h 2 (by omega);obtain ⟨v3,h3⟩:=h 3 (by omega);obtain ⟨v4,h4⟩:=h 4 (by omega);unfold lay Sh5;simp only[Nat.zero_add];refine ⟨?_, ?_, ?_, ?_, ?_⟩
 {rw[soc (by omega),soc (by omega),soc (by omega),soc (by omega)]; exact World.cell?_setCell_same _ _ _ h0}
 {rw[soc (by omega),soc (by omega),soc (by omega)]; exact World.cell?_setCell_same _ _ _ (by rw[soc (by omega)]; exact h1)}
 {rw[soc (by omega),soc (by omega)]; exact World.cell?_setCell_same _ _ _ (by rw[soc (by omega),soc (by omega)]; exact h2)}
 {rw[soc (by omega)]; exact World.cell?_setCell_same _ _ _ (by rw[soc (by omega),soc (by omega),soc (by omega)]; exact h3)}
 {exact World.cell?_setCell_same _ _ _ (by rw[soc (by omega),soc (by omega),soc (by omega),soc (by omega)]; exact h4)}
end RX
theorem ZbN {t' t:Sh} {q' q:Ptr} (h:sv t' q'=sv t q):t'.kind=t.kind/\t'.of_=t.of_/\t'.name=t.name/\q'.A=q.A/\t'.names.length=t.names.length/\q'.c=q.c/\q'.P=q.P/\t'.parts.length=t.parts.length/\q'.d=q.d:=by
 simp[sv] at h;exact ⟨h.1,h.2.1,h.2.2.1,h.2.2.2.1.1,h.2.2.2.1.2.1,h.2.2.2.1.2.2,h.2.2.2.2.1,h.2.2.2.2.2.1,h.2.2.2.2.2.2⟩
theorem Kept.move {S S' T:Nat->Prop} {W W':World} {x:El} (h:Kept S W x) (hu:Upd T W W') (hd: ∀b,b < W.heap.size->S b-> ¬T b/\S' b):Kept S' W' x:=fun W2 h1 h2=>
 h W2 (Nat.le_trans hu.size h1) (fun b hb hs=>(h2 b (Nat.lt_of_lt_of_le hb hu.size) (hd b hb hs).2).trans (hu.block b hb (hd b hb hs).1))
structure KNs (w0:World) (n0 gm hi pf:Nat) (fv:Value) (k:Int) (ok:Bool) (L:List Fld) (l:List El) (AN:Option Addr) (cN:Nat) (AP:Option Addr) (cP:Nat) (W:World):Prop where
 mm:Mk w0 gm hi k [] [] (L.map Prod.fst) l AN cN AP cP W
 eq:l.map Prod.fst=L.map Prod.snd
 kp:ok=true-> ∀x∈l,Kept (Free n0 hi AN AP) W x
 fc:W.cell? ⟨pf,0,none⟩=some fv
def KN (w0:World) (n0 gm hi pf:Nat) (fv:Value) (k:Int) (ok:Bool) (L:List Fld) (W:World):Prop:= ∃l AN cN AP cP,KNs w0 n0 gm hi pf fv k ok L l AN cN AP cP W
section
variable {w0 W W' : World} {n0 gm hi pf : Nat} {fv : Value} {k : Int} {ok : Bool} {L : List Fld} {l : List El} {AN AP : Option Addr} {cN cP : Nat}
theorem KNs.len (h:KNs w0 n0 gm hi pf fv k ok L l AN cN AP cP W):l.length=L.length:=by have:=congrArg List.length h.eq; simpa using this
theorem KNs.new (h:KNs w0 n0 gm hi pf fv k ok L l AN cN AP cP W) (hpf:pf < hi) (hb:Below W.heap.size W W'):KNs w0 n0 gm hi pf fv k ok L l AN cN AP cP W':=
 ⟨h.mm.new hb,h.eq,fun ho x hx=>(h.kp ho x hx).upd (T:=fun _=>False) (Upd.new hb) (fun _ _ _ h=>h),(hb.cell (p:=⟨pf,0,none⟩) (Nat.lt_of_lt_of_le hpf h.mm.hw)).trans h.fc⟩
theorem KNs.mid {T:Nat->Prop} (h:KNs w0 n0 gm hi pf fv k ok L l AN cN AP cP W) (hu:Upd T W W') (hT: ∀b,T b->gm < b/\pf < b/\b < hi) (hn:n0<=gm) (hpf:pf < hi):KNs w0 n0 gm hi pf fv k ok L l AN cN AP cP W':=by
 have hg:=h.mm.gh;refine ⟨h.mm.upd hu (fun b hb ht=> ?_) (fun ht=> ?_) (fun b hb ht=> ?_) (fun b hb ht=> ?_),h.eq,fun ho x hx=>(h.kp ho x hx).upd hu (fun b hb hf ht=> ?_),(hu.cell (Nat.lt_of_lt_of_le hpf h.mm.hw) (fun ht=> ?_)).trans h.fc⟩
 {have:=(hT b ht).1; have:=h.mm.lo; omega}
 {have:=(hT gm ht).1; omega}
 {have:=(hT b ht).2.2; have:=(Z08 h.mm.rN b hb).1; omega}
 {have:=(hT b ht).2.2; have:=(Z08 h.mm.rP b hb).1; omega}
 {have:=hT b ht;rcases hf with hf | hf
  {omega}
  {have:=hf.1; omega}}
 {have:=(hT pf ht).2.1; omega}
theorem KN.mid {T:Nat->Prop} (h:KN w0 n0 gm hi pf fv k ok L W) (hu:Upd T W W') (hT: ∀b,T b->gm < b/\pf < b/\b < hi) (hn:n0<=gm) (hpf:pf < hi):KN w0 n0 gm hi pf fv k ok L W':=by
 obtain ⟨l,AN,cN,AP,cP,h⟩:=h;exact ⟨l,AN,cN,AP,cP,h.mid hu hT hn hpf⟩
theorem KNs.put (h:KNs w0 n0 gm hi pf fv k ok L l AN cN AP cP W) (hn:n0<=gm) (hpf:pf < hi) (hpg:pf≠gm) {nm:List UInt8} {t:Sh} {q:Ptr} {ok':Bool} (hok:ok'=true->ok=true) (hkp:ok'=true->Kept (Free n0 hi AN AP) W (t,q))
 {AN' AP':Option Addr} {cN' cP':Nat} (hm:Mk w0 gm hi k [] [] (L.map Prod.fst++ [nm]) (l++ [(t,q)]) AN' cN' AP' cP' W') (hp:PutOk W gm AN AP AN' AP' W'):KN w0 n0 gm hi pf fv k ok' (L++ [(nm,t)]) W':=by
 obtain ⟨hu,h1,h2⟩:=hp;have hg:=h.mm.gh;have key: ∀x,Kept (Free n0 hi AN AP) W x->Kept (Free n0 hi AN' AP') W' x:=fun x hx=>hx.move hu (fun b hb hf=>by
  refine ⟨fun ht=> ?_, ?_⟩
  {rcases hf with hf | ⟨hf,f1,f2⟩
   {rcases ht with ht | ht | ht
    {omega}
    {have:=(Z08 h.mm.rN b ht).1; omega}
    {have:=(Z08 h.mm.rP b ht).1; omega}}
   {rcases ht with ht | ht | ht
    {omega}
    {exact f1 ht}
    {exact f2 ht}}}
  · rcases hf with hf | ⟨hf,f1,f2⟩
    {exact Or.inl hf}
    · exact Or.inr ⟨hf,fun e=>(h1 b e).elim f1 (fun h=>by omega),fun e=>(h2 b e).elim f2 (fun h=>by omega)⟩)
 refine ⟨l++ [(t,q)],AN',cN',AP',cP',⟨by rw[List.map_append]; exact hm,by rw[List.map_append,List.map_append,h.eq]; rfl,fun ho x hx=> ?_, ?_⟩⟩
 {rcases List.mem_append.1 hx with hx | hx
  {exact key x (h.kp (hok ho) x hx)}
  {rw[List.mem_singleton.1 hx]; exact key _ (hkp ho)}}
 {refine (hu.cell (Nat.lt_of_lt_of_le hpf h.mm.hw) (fun ht=> ?_)).trans h.fc;rcases ht with ht | ht | ht
  {exact hpg ht}
  {have:=(Z08 h.mm.rN pf ht).1; omega}
  {have:=(Z08 h.mm.rP pf ht).1; omega}}
end
abbrev noneQ12:Ptr:=⟨none,0,none,0⟩
structure St0 (w0:World) (gm pf:Nat) (fv:Value) (k:Int) (W:World):Prop where
 up:Below w0.heap.size w0 W
 lo:w0.heap.size<=gm
 gw:gm < W.heap.size
 c5:Sh5 W gm 0 ⟨k,[],[],[],[]⟩ noneQ12
 fz: ∀j,W.frozen? ⟨gm,j,none⟩=false
 pw:pf < W.heap.size
 fc:W.cell? ⟨pf,0,none⟩=some fv
section
variable {w0 W W' : World} {n0 gm hi pf : Nat} {fv : Value} {k : Int}
theorem St0.mid {T:Nat->Prop} (h:St0 w0 gm pf fv k W) (hu:Upd T W W') (hT: ∀b,T b->gm < b/\pf < b):St0 w0 gm pf fv k W':=by
 have h1: ¬T gm:=fun ht=>by have:=(hT gm ht).1; omega
 have h2: ¬T pf:=fun ht=>by have:=(hT pf ht).2; omega
 exact ⟨h.up.trans (hu.below h.up.size (fun b hb=>by have:=(hT b hb).1; have:=h.lo; omega)),h.lo,Nat.lt_of_lt_of_le h.gw hu.size,h.c5.of (fun k=>hu.cell h.gw h1),fun j=>(hu.frozen h.gw h1).trans (h.fz j),Nat.lt_of_lt_of_le h.pw hu.size,(hu.cell h.pw h2).trans h.fc⟩
theorem St0.kn (h:St0 w0 gm pf fv k W) (hg:gm < hi) (hw:hi<=W.heap.size) (ok:Bool):KN w0 n0 gm hi pf fv k ok [] W:=by
 obtain ⟨c0,c1,c2,c3,c4⟩:=h.c5;simp only[Nat.zero_add] at c0 c1 c2 c3 c4;exact ⟨[],none,0,none,0,⟨⟨h.up,h.lo,hg,hw,c0,c1,c2,c3,c4,h.fz,World.ownsRow_nil _ _ _ _,World.ownsRow_nil _ _ _ _,Or.inl rfl⟩,rfl,fun _ x hx=>absurd hx (by simp),h.fc⟩⟩
theorem St0.fin (h:St0 w0 gm pf fv k W) (S:Nat->Prop):Sh5 W gm 0 (made k []) noneQ12/\Kept S W (made k [],noneQ12):=
 ⟨h.c5,fun W' _ _=> .mk _ _ 0 0 (fun _=>noneQ12) ⟨by simp[made],by simp[made],by simp[made],by simp[made],by simp[made],by simp[made],by simp[made],fun _=>rfl,fun _=>rfl⟩ (Or.inl rfl) (Or.inl rfl) (fun i hi=>by simp[made] at hi) (fun i hi=>by simp[made] at hi)⟩
section
variable {ok : Bool} {L : List Fld} (h : KN w0 n0 gm hi pf fv k ok L W)
include ok L h
theorem KN.fin: ∃q,Sh5 W gm 0 (made k L) q/\(ok=true->(∀x∈L.map Prod.fst,x.length<=1000)->L.length<=1000->Kept (fun b=>b < n0\/hi<=b) W (made k L,q)):=by
 obtain ⟨l,AN,cN,AP,cP,h⟩:=h;have he: (⟨k,[],[],L.map Prod.fst,l.map Prod.fst⟩:Sh)=made k L:=by rw[h.eq]; rfl
 refine ⟨⟨AN,cN,AP,cP⟩, ?_,fun ho hx hl=> ?_⟩
 {have hlen:=h.len;refine ⟨h.mm.c0,h.mm.c1,h.mm.c2,h.mm.c3, ?_⟩;have:=h.mm.c4;simp only[made,List.length_map];rw[hlen] at this;exact this}
 {have hlen:=h.len;have:=h.mm.at_ (n0:=n0) (h.kp ho) (by simp) (by simp) (fun x hm=>by have:=hx x hm; omega) (by rw[List.length_map]; omega) (by omega);rw[he] at this;exact this}
theorem KN.below:Below w0.heap.size w0 W/\gm < W.heap.size/\hi<=W.heap.size:=by
 obtain ⟨l,AN,cN,AP,cP,h⟩:=h;exact ⟨h.mm.up,Nat.lt_of_lt_of_le h.mm.gh h.mm.hw,h.mm.hw⟩
end
end
theorem Zaz {a b:Sh} (A:Rec a) (B:Rec b): (calls a b).length<=a.names.length+b.names.length:=by
 unfold calls;rw[List.length_append,Z2v A];have: (callsB a b).length<=b.names.length:=by
  unfold callsB;rw[List.length_map];exact Nat.le_trans (List.length_filter_le _ _) (by rw[List.length_zip]; omega)
 omega
theorem Two.ln {f:Nat} {a b:Sh} (h:Two f a b) (A:Rec a):a.names.length<=400:=by rw[A.l]; have:=h.sa; have:=Z0L a.parts; rw[size_eq] at *; omega
theorem Z6J {n:List UInt8} (h:Lex.isName n=true):n.length<=1000:=by have:=Z1l h; omega
structure Rc (rc:Nat) (W:World):Prop where
 lt:rc < W.heap.size
 ex: ∀j,j < 5-> ∃v,W.cell? ⟨rc,j,none⟩=some v
 fz: ∀j,W.frozen? ⟨rc,j,none⟩=false
theorem Rc.upd {T:Nat->Prop} {rc:Nat} {W W':World} (h:Rc rc W) (hu:Upd T W W') (hT: ¬T rc):Rc rc W':=
 ⟨Nat.lt_of_lt_of_le h.lt hu.size,fun j hj=>by
  obtain ⟨v,hv⟩:=h.ex j hj;exact ⟨v,(hu.cell h.lt hT).trans hv⟩,fun j=>(hu.frozen h.lt hT).trans (h.fz j)⟩
theorem Z0I {W W':World} (h:W'=W.alloc (.cells Yb 25)):Rc W.heap.size W':=by
 subst h;refine ⟨by simp,fun j hj=> ?_,fun j=>by simp[go_sem]⟩;rcases j with _ | _ | _ | _ | _ | j
 {exact ⟨.int .i64 0,by simp[go_sem]⟩}
 {exact ⟨.string ⟨#[]⟩,by simp[go_sem]⟩}
 {exact ⟨.string ⟨#[]⟩,by simp[go_sem]⟩}
 {exact ⟨.slice none 0 0,by simp[go_sem]⟩}
 {exact ⟨.slice none 0 0,by simp[go_sem]⟩}
 {omega}
end SubM
end Go.Proofs.YtlomianlcnmfgaaGreatDoor
namespace Go.Proofs.YtlomianlcnmfgaaGreatDoor
open Go.RowKit Shp Sub
namespace SubM
def Z0A:List Value:= [.int .i64 0,.string ⟨#[]⟩,.string ⟨#[]⟩,.slice none 0 0,.slice none 0 0]
theorem Z9n: ∀u∈Z0A,u.oneCell'=true:=by
 intro u hu;simp only[Z0A,List.mem_cons,List.not_mem_nil,or_false] at hu;rcases hu with rfl | rfl | rfl | rfl | rfl <;> rfl
def layO (W:World) (g i:Nat) (x:El):World:=(((((W).setCell ⟨g,i+0,none⟩ (.int .i64 x.1.kind)).setCell ⟨g,i+1,none⟩ (.string ⟨x.1.of_.toArray⟩)).setCell ⟨g,i+2,none⟩ (.string ⟨x.1.name.toArray⟩)).setCell ⟨g,i+3,none⟩ (.slice x.2.A x.1.names.length x.2.c)).setCell ⟨g,i+4,none⟩ (.slice x.2.P x.1.parts.length x.2.d)
theorem Z3C {a b c:World} {r:Option Nat} (h:a.grownBy b r) (k:b.grownBy c r):a.grownBy c r:=
 ⟨k.os.trans h.os,k.tape.trans h.tape,k.output.trans h.output,Nat.le_trans h.size k.size,fun j hj hr=>(k.block j (Nat.lt_of_lt_of_le hj h.size) hr).trans (h.block j hj hr)⟩
theorem Z8f {W:World} (x:El) {g cp n B:Nat} {ys:List Value} (hn:ys.length=n * 5) (h:W.ownsRow B 25 5 (.slice (some ⟨g,0,none⟩) (n+1) cp) (n+1) (ys++Z0A)):
 (layO W g (n * 5) x).ownsRow B 25 5 (.slice (some ⟨g,0,none⟩) (n+1) cp) (n+1) (ys++cells5 x)/\W.grownBy (layO W g (n * 5) x) (some g):=by
 obtain ⟨h0,g0⟩:=World.ownsRow.stored h (n * 5+0) (.int .i64 x.1.kind);obtain ⟨h1,g1⟩:=World.ownsRow.stored h0 (n * 5+1) (.string ⟨x.1.of_.toArray⟩);obtain ⟨h2,g2⟩:=World.ownsRow.stored h1 (n * 5+2) (.string ⟨x.1.name.toArray⟩);obtain ⟨h3,g3⟩:=World.ownsRow.stored h2 (n * 5+3) (.slice x.2.A x.1.names.length x.2.c);obtain ⟨h4,g4⟩:=World.ownsRow.stored h3 (n * 5+4) (.slice x.2.P x.1.parts.length x.2.d);refine ⟨?_,(Z3C (Z3C (Z3C (Z3C g0 g1) g2) g3) g4)⟩;have hs: ∀(zs:List Value) (k:Nat) (v:Value),(ys++zs).set (n * 5+k) v=ys++zs.set k v:=fun zs k v=>by rw[<-hn,List.set_append_right _ _ (by omega),Nat.add_sub_cancel_left]
 rw[hs,hs,hs,hs,hs] at h4;exact h4
theorem Z2L {W:World} {g cp n B:Nat} {ys:List Value} (hn:ys.length=n * 5) (h:W.ownsRow B 25 5 (.slice (some ⟨g,0,none⟩) (n+1) cp) (n+1) (ys++Z0A)) (k:Nat) (hk:k < 5): ∃v,W.cell? ⟨g,n * 5+k,none⟩=some v/\W.frozen? ⟨g,n * 5+k,none⟩=false:=by
 have h1:=h.cellAt (n * 5+k) (by rw[Nat.add_mul]; omega);rw[List.getElem?_append_right (by omega),hn,Nat.add_sub_cancel_left] at h1;have h2:k < Z0A.length:=hk;rw[List.getElem?_eq_getElem h2] at h1;exact ⟨_,h1,h.frozenAt _⟩
structure QX where
 W0:World
 gm:Nat
 hi:Nat
 gp:Nat
 AP:Option Addr
 cP:Nat
 l:List El
 x:El
namespace QX
variable (X : QX)
def val (j:Nat):Option Value:=match j with
 | 0 | 8=>some (.pointer (some ⟨X.gm,4,none⟩))
 | 1=>some (.slice X.AP X.l.length X.cP)
 | 2=>some (sv X.x.1 X.x.2)
 | 3=>some (.int .i64 (X.l.length:Int))
 | _=>none
def set (b:Nat):Prop:=b=X.gm\/rowB X.AP=some b
structure Good:Prop where
 gh:X.gm < X.hi
 hw:X.hi<=X.gp
 pw:X.gp < X.W0.heap.size
 c4:X.W0.cell? ⟨X.gm,4,none⟩=some (.slice X.AP X.l.length X.cP)
 fz: ∀j,X.W0.frozen? ⟨X.gm,j,none⟩=false
 rP:X.W0.ownsRow X.hi 25 5 (.slice X.AP X.l.length X.cP) X.l.length (cellsE X.l)
 bp:rowB X.AP≠some X.gp
 box:Sh5 X.W0 X.gp 0 X.x.1 X.x.2
 ll:X.l.length<=1000
structure QI (d:Nat->Bool) (u:Nat->Value) (W:World):Prop where
 vals: ∀j,d j=true-> ∀v,X.val j=some v->u j=v
 up:Upd X.set X.W0 W
 f4:d 4=true->d 5=false-> ∃z,u 4= .slice (some ⟨z,0,none⟩) 1 1/\X.W0.heap.size<=z/\z < W.heap.size/\ ∀(j:Nat) v,Z0A[j]? =some v->W.cell? ⟨z,j,none⟩=some v
 p0:d 5=false->W.ownsRow X.hi 25 5 (.slice X.AP X.l.length X.cP) X.l.length (cellsE X.l)
 p1:d 5=true-> ∃g c,u 5= .slice (some ⟨g,0,none⟩) (X.l.length+1) c/\W.ownsRow X.hi 25 5 (.slice (some ⟨g,0,none⟩) (X.l.length+1) c) (X.l.length+1) (cellsE X.l++if d 7=true then cells5 X.x else Z0A)/\(rowB X.AP=some g\/X.W0.heap.size<=g)/\
  (d 6=true->u 6= .pointer (some ⟨g,X.l.length * 5,none⟩))
 c4:W.cell? ⟨X.gm,4,none⟩=some (if d 9=true then u 5 else .slice X.AP X.l.length X.cP)
 cr: ∀j,j < 4->W.cell? ⟨X.gm,j,none⟩=X.W0.cell? ⟨X.gm,j,none⟩
 fz: ∀j,W.frozen? ⟨X.gm,j,none⟩=false
variable {X : QX} {d : Nat -> Bool} {u : Nat -> Value} {W W' : World}
theorem QI.vals' (h:X.QI d u W) {i:Nat} {v:Value} (hv: ∀v',X.val i=some v'->v=v'): ∀j,also d i j=true-> ∀v',X.val j=some v'->upd u i v j=v':=fun j hj v' hv'=>by
 by_cases hij:j=i
 {subst hij; rw[Z0h]; exact hv v' hv'}
 {rw[Z0k d hij] at hj; rw[Z04 u v hij]; exact h.vals j hj v' hv'}
theorem Good.start (h:X.Good):X.QI (fun _=>false) u X.W0.drew:=
 ⟨nofun,(Upd.refl _ _).drew,nofun,fun _=>h.rP,nofun,h.c4,fun _ _=>rfl,h.fz⟩
theorem QI.pure (h:X.QI d u W) {i:Nat} (hi:i≠4/\i≠5/\i≠6/\i≠7/\i≠9) {v:Value} (hv: ∀v',X.val i=some v'->v=v'):X.QI (also d i) (upd u i v) W:=by
 have k: ∀j,j=4\/j=5\/j=6\/j=7\/j=9->also d i j=d j/\upd u i v j=u j:=fun j hj=>⟨Z0k d (by omega),Z04 u v (by omega)⟩;refine ⟨h.vals' hv,h.up, ?_, ?_, ?_, ?_,h.cr,h.fz⟩
 {rw[(k 4 (by omega)).1,(k 4 (by omega)).2,(k 5 (by omega)).1]; exact h.f4}
 {rw[(k 5 (by omega)).1]; exact h.p0}
 {rw[(k 5 (by omega)).1,(k 5 (by omega)).2,(k 7 (by omega)).1,(k 6 (by omega)).1,(k 6 (by omega)).2]; exact h.p1}
 {rw[(k 9 (by omega)).1,(k 5 (by omega)).2]; exact h.c4}
theorem QI.box (h:X.QI d u W) (hX:X.Good):Sh5 W X.gp 0 X.x.1 X.x.2:=
 hX.box.of (fun k=>h.up.cell hX.pw (fun hs=>by
  rcases hs with hs | hs
  {have:=hX.gh; have:=hX.hw; omega}
  · exact hX.bp hs))
theorem QI.gmw (h:X.QI d u W) (hX:X.Good):X.gm < W.heap.size:=by have:=hX.gh; have:=hX.hw; have:=hX.pw; have:=h.up.size; omega
theorem not_gm (hX:X.Good) {W':World} {g n c e s m:Nat} {xs:List Value} (r:W'.ownsRow X.hi e s (.slice (some ⟨g,0,none⟩) n c) m xs):g≠X.gm:=by
 have h1:=(r.lt g rfl).1;have:=hX.gh;omega
section
variable (h : X.QI d u W) (hX : X.Good)
include h hX
theorem QI.s4:X.QI (also d 4) (upd u 4 (.slice (some ⟨W.heap.size,0,none⟩) 1 1)) (W.alloc (.cells Yb 25)):=by
 have hb:=Z01 W (.cells Yb 25);have hu:Upd (fun _=>False) W (W.alloc (.cells Yb 25)):=Upd.new hb;have k: ∀j,j≠4->also d 4 j=d j/\ ∀v,upd u 4 v j=u j:=fun j hj=>⟨Z0k d hj,fun v=>Z04 u v hj⟩;have hs:=h.up.size;have hgm:=h.gmw hX;refine ⟨h.vals' (fun v' h=>by cases h),h.up.trans (hu.mono (fun _ _ h=>h.elim)),fun _ _=>⟨W.heap.size,Z0h _ _ _,hs,by simp, ?_⟩, ?_, ?_, ?_,fun j hj=>(hu.cell hgm (fun h=>h)).trans (h.cr j hj),fun j=>(hu.frozen hgm (fun h=>h)).trans (h.fz j)⟩
 {intro j v hv;rcases j with _ | _ | _ | _ | _ | j
  {simp[Z0A] at hv; subst hv; simp[go_sem]}
  {simp[Z0A] at hv; subst hv; simp[go_sem]}
  {simp[Z0A] at hv; subst hv; simp[go_sem]}
  {simp[Z0A] at hv; subst hv; simp[go_sem]}
  {simp[Z0A] at hv; subst hv; simp[go_sem]}
  {simp[Z0A] at hv}}
 {rw[(k 5 (by omega)).1]; exact fun h5=>Z0g (h.p0 h5) hu (fun _ _ h=>h)}
 {rw[(k 5 (by omega)).1,(k 5 (by omega)).2,(k 7 (by omega)).1,(k 6 (by omega)).1,(k 6 (by omega)).2];intro h5;obtain ⟨g,c,e,r,n,m⟩:=h.p1 h5;exact ⟨g,c,e,Z0g r hu (fun _ _ h=>h),n,m⟩}
 {rw[(k 9 (by omega)).1,(k 5 (by omega)).2]; exact (hu.cell hgm (fun h=>h)).trans h.c4}
theorem QI.s6 (h5:d 5=true) {v:Value} (hv: ∀g c,u 5= .slice (some ⟨g,0,none⟩) (X.l.length+1) c->v= .pointer (some ⟨g,X.l.length * 5,none⟩)):X.QI (also d 6) (upd u 6 v) W:=by
 have k: ∀j,j≠6->also d 6 j=d j/\ ∀v,upd u 6 v j=u j:=fun j hj=>⟨Z0k d hj,fun v=>Z04 u v hj⟩;refine ⟨h.vals' (fun v' h=>by cases h),h.up, ?_, ?_, ?_, ?_,h.cr,h.fz⟩
 {rw[(k 5 (by omega)).1,h5]; nofun}
 {rw[(k 5 (by omega)).1]; exact h.p0}
 {rw[(k 5 (by omega)).1,(k 5 (by omega)).2,(k 7 (by omega)).1,Z0h];intro h5;obtain ⟨g,c,e,r,n,m⟩:=h.p1 h5;exact ⟨g,c,e,r,n,fun _=>hv g c e⟩}
 {rw[(k 9 (by omega)).1,(k 5 (by omega)).2]; exact h.c4}
theorem QI.s7 (h5:d 5=true) (h7:d 7=false) {g c:Nat} (e5:u 5= .slice (some ⟨g,0,none⟩) (X.l.length+1) c):X.QI (also d 7) (upd u 7 undef) (layO W g (X.l.length * 5) X.x):=by
 have k: ∀j,j≠7->also d 7 j=d j/\ ∀v,upd u 7 v j=u j:=fun j hj=>⟨Z0k d hj,fun v=>Z04 u v hj⟩;obtain ⟨g',c',e,r,n,m⟩:=h.p1 h5;have ee:=e.symm.trans e5;simp only[Value.slice.injEq,Option.some.injEq,Addr.mk.injEq,and_true] at ee;obtain ⟨rfl,_,rfl⟩:=ee;rw[h7] at r;simp only[Bool.false_eq_true,if_false] at r;obtain ⟨r',hg⟩:=Z8f X.x (cellsE_len X.l) r;have hu:Upd (fun b=>b=g') W (layO W g' (X.l.length * 5) X.x):=(Upd.refl _ W).grown hg (fun k h _=>by cases h; rfl);have hgm:=h.gmw hX;have hne: ¬X.gm=g':=fun e=>not_gm hX r e.symm;have hs:=h.up.size;have hz: ∀z,X.W0.heap.size<=z->z=g'->X.W0.heap.size<=g':=fun z h1 h2=>by omega
 refine ⟨h.vals' (fun v' h=>by cases h), ?_, ?_, ?_, ?_, ?_,fun j hj=>(hu.cell hgm hne).trans (h.cr j hj),fun j=>(hu.frozen hgm hne).trans (h.fz j)⟩
 {refine ⟨hu.os.trans h.up.os,hu.tape.trans h.up.tape,hu.output.trans h.up.output,Nat.le_trans h.up.size hu.size,fun x h1 h2=>(hu.block x (by omega) (fun e=> ?_)).trans (h.up.block x h1 h2)⟩;have e:x=g':=e;rcases n with n | n
  {exact h2 (Or.inr (by rw[e]; exact n))}
  {omega}}
 {rw[(k 5 (by omega)).1,h5]; nofun}
 {rw[(k 5 (by omega)).1,h5]; nofun}
 {rw[(k 5 (by omega)).2,(k 6 (by omega)).1,(k 6 (by omega)).2,Z0o];exact fun _=>⟨g',c',e,by simpa using r',n,m⟩}
 {rw[(k 9 (by omega)).1,(k 5 (by omega)).2]; exact (hu.cell hgm hne).trans h.c4}
theorem QI.s9 (h5:d 5=true) (h9:d 9=false):X.QI (also d 9) (upd u 9 undef) (W.setCell ⟨X.gm,4,none⟩ (u 5)):=by
 have k: ∀j,j≠9->also d 9 j=d j/\ ∀v,upd u 9 v j=u j:=fun j hj=>⟨Z0k d hj,fun v=>Z04 u v hj⟩;have hgm:=h.gmw hX;obtain ⟨g,c,e,r,n,m⟩:=h.p1 h5;have hu:Upd (fun b=>b=X.gm) W (W.setCell ⟨X.gm,4,none⟩ (u 5)):=Upd.set (Upd.refl (fun b=>b=X.gm) W) ⟨X.gm,4,none⟩ (fun _=>rfl) _;refine ⟨h.vals' (fun v' h=>by cases h),h.up.trans (hu.mono (fun b _ hb=>Or.inl hb)), ?_, ?_, ?_, ?_,fun j hj=>(World.cell?_setCell_other _ _ _ _ (fun e=>by have:=congrArg Addr.off e; simp at this; omega)).trans (h.cr j hj),fun j=>(World.frozen?_setCell ..).trans (h.fz j)⟩
 {rw[(k 5 (by omega)).1,h5]; nofun}
 {rw[(k 5 (by omega)).1,h5]; nofun}
 {rw[(k 5 (by omega)).2,(k 7 (by omega)).1,(k 6 (by omega)).1,(k 6 (by omega)).2];exact fun _=>⟨g,c,e,Z0g r hu (fun b hb e2=>not_gm hX r (Eq.trans (show g=b by simpa[rowB] using hb) e2)),n,m⟩}
 {rw[Z0o,if_pos rfl,(k 5 (by omega)).2];exact World.cell?_setCell_same _ _ _ h.c4}
end
end QX
end SubM
end Go.Proofs.YtlomianlcnmfgaaGreatDoor
namespace Go.Proofs.YtlomianlcnmfgaaGreatDoor
open Go.RowKit Shp Sub
namespace SubM
structure KPs (w0:World) (n0 gm hi p1 p2:Nat) (f1 f2:Value) (k:Int) (o nm:List UInt8) (ok:Bool) (ps:List Sh) (l:List El) (AP:Option Addr) (cP:Nat) (W:World):Prop where
 mm:Mk w0 gm hi k o nm [] l none 0 AP cP W
 eq:l.map Prod.fst=ps
 kp:ok=true-> ∀x∈l,Kept (Free n0 hi none AP) W x
 fa:W.cell? ⟨p1,0,none⟩=some f1
 fr:W.cell? ⟨p2,0,none⟩=some f2
def KP (w0:World) (n0 gm hi p1 p2:Nat) (f1 f2:Value) (k:Int) (o nm:List UInt8) (ok:Bool) (ps:List Sh) (W:World):Prop:= ∃l AP cP,KPs w0 n0 gm hi p1 p2 f1 f2 k o nm ok ps l AP cP W
section
variable {w0 W W' : World} {n0 gm hi p1 p2 : Nat} {f1 f2 : Value} {k : Int} {o nm : List UInt8} {ok : Bool} {ps : List Sh} {l : List El} {AP : Option Addr} {cP : Nat}
theorem KPs.len (h:KPs w0 n0 gm hi p1 p2 f1 f2 k o nm ok ps l AP cP W):l.length=ps.length:=by have:=congrArg List.length h.eq; simpa using this
theorem KPs.new (h:KPs w0 n0 gm hi p1 p2 f1 f2 k o nm ok ps l AP cP W) (h1:p1 < hi) (h2:p2 < hi) (hb:Below W.heap.size W W'):KPs w0 n0 gm hi p1 p2 f1 f2 k o nm ok ps l AP cP W':=
 ⟨h.mm.new hb,h.eq,fun ho x hx=>(h.kp ho x hx).upd (T:=fun _=>False) (Upd.new hb) (fun _ _ _ h=>h),(hb.cell (p:=⟨p1,0,none⟩) (Nat.lt_of_lt_of_le h1 h.mm.hw)).trans h.fa,(hb.cell (p:=⟨p2,0,none⟩) (Nat.lt_of_lt_of_le h2 h.mm.hw)).trans h.fr⟩
theorem KPs.mid {T:Nat->Prop} (h:KPs w0 n0 gm hi p1 p2 f1 f2 k o nm ok ps l AP cP W) (hu:Upd T W W') (hT: ∀b,T b->gm < b/\p1 < b/\p2 < b/\b < hi) (hn:n0<=gm) (h1:p1 < hi) (h2:p2 < hi):KPs w0 n0 gm hi p1 p2 f1 f2 k o nm ok ps l AP cP W':=by
 have hg:=h.mm.gh;refine ⟨h.mm.upd hu (fun b hb ht=> ?_) (fun ht=> ?_) (fun b hb ht=> ?_) (fun b hb ht=> ?_),h.eq,fun ho x hx=>(h.kp ho x hx).upd hu (fun b hb hf ht=> ?_),(hu.cell (Nat.lt_of_lt_of_le h1 h.mm.hw) (fun ht=> ?_)).trans h.fa,(hu.cell (Nat.lt_of_lt_of_le h2 h.mm.hw) (fun ht=> ?_)).trans h.fr⟩
 {have:=(hT b ht).1; have:=h.mm.lo; omega}
 {have:=(hT gm ht).1; omega}
 {cases hb}
 {have:=(hT b ht).2.2.2; have:=(Z08 h.mm.rP b hb).1; omega}
 {have:=hT b ht;rcases hf with hf | hf
  {omega}
  {have:=hf.1; omega}}
 {have:=(hT p1 ht).2.1; omega}
 {have:=(hT p2 ht).2.2.1; omega}
theorem KPs.put (h:KPs w0 n0 gm hi p1 p2 f1 f2 k o nm ok ps l AP cP W) (hn:n0<=gm) (h1:p1 < hi) (h2:p2 < hi) (g1:p1≠gm) (g2:p2≠gm) {t:Sh} {q:Ptr} {ok':Bool} (hok:ok'=true->ok=true) (hkp:ok'=true->Kept (Free n0 hi none AP) W (t,q))
 {AP':Option Addr} {cP':Nat} (hm:Mk w0 gm hi k o nm [] (l++ [(t,q)]) none 0 AP' cP' W') (hu:Upd (fun b=>b=gm\/rowB AP=some b) W W') (hr: ∀b,rowB AP'=some b->rowB AP=some b\/W.heap.size<=b):
 KP w0 n0 gm hi p1 p2 f1 f2 k o nm ok' (ps++ [t]) W':=by
 have hg:=h.mm.gh;have key: ∀x,Kept (Free n0 hi none AP) W x->Kept (Free n0 hi none AP') W' x:=fun x hx=>hx.move hu (fun b hb hf=>by
  refine ⟨fun ht=> ?_, ?_⟩
  {rcases hf with hf | ⟨hf,_,f2⟩
   {rcases ht with ht | ht
    {omega}
    {have:=(Z08 h.mm.rP b ht).1; omega}}
   {rcases ht with ht | ht
    {omega}
    {exact f2 ht}}}
  · rcases hf with hf | ⟨hf,_,f2⟩
    {exact Or.inl hf}
    · exact Or.inr ⟨hf,nofun,fun e=>(hr b e).elim f2 (fun h=>by omega)⟩)
 refine ⟨l++ [(t,q)],AP',cP',hm,by rw[List.map_append,h.eq]; rfl,fun ho x hx=> ?_, ?_, ?_⟩
 {rcases List.mem_append.1 hx with hx | hx
  {exact key x (h.kp (hok ho) x hx)}
  {rw[List.mem_singleton.1 hx]; exact key _ (hkp ho)}}
 {refine (hu.cell (Nat.lt_of_lt_of_le h1 h.mm.hw) (fun ht=> ?_)).trans h.fa;rcases ht with ht | ht
  {exact g1 ht}
  {have:=(Z08 h.mm.rP p1 ht).1; omega}}
 {refine (hu.cell (Nat.lt_of_lt_of_le h2 h.mm.hw) (fun ht=> ?_)).trans h.fr;rcases ht with ht | ht
  {exact g2 ht}
  {have:=(Z08 h.mm.rP p2 ht).1; omega}}
end
section
variable {n0 gm p1 p2 : Nat}
structure St0p (w0:World) (gm p1 p2:Nat) (f1 f2:Value) (k:Int) (o nm:List UInt8) (W:World):Prop where
 up:Below w0.heap.size w0 W
 lo:w0.heap.size<=gm
 gw:gm < W.heap.size
 c5:Sh5 W gm 0 ⟨k,o,nm,[],[]⟩ noneQ12
 fz: ∀j,W.frozen? ⟨gm,j,none⟩=false
 pw:p1 < W.heap.size
 qw:p2 < W.heap.size
 fa:W.cell? ⟨p1,0,none⟩=some f1
 fr:W.cell? ⟨p2,0,none⟩=some f2
theorem St0p.mid {T:Nat->Prop} {w0 W W':World} {f1 f2:Value} {k:Int} {o nm:List UInt8} (h:St0p w0 gm p1 p2 f1 f2 k o nm W) (hu:Upd T W W') (hT: ∀b,T b->gm < b/\p1 < b/\p2 < b):St0p w0 gm p1 p2 f1 f2 k o nm W':=by
 have h1: ¬T gm:=fun ht=>by have:=(hT gm ht).1; omega
 have h2: ¬T p1:=fun ht=>by have:=(hT p1 ht).2.1; omega
 have h3: ¬T p2:=fun ht=>by have:=(hT p2 ht).2.2; omega
 exact ⟨h.up.trans (hu.below h.up.size (fun b hb=>by have:=(hT b hb).1; have:=h.lo; omega)),h.lo,Nat.lt_of_lt_of_le h.gw hu.size,h.c5.of (fun k=>hu.cell h.gw h1),fun j=>(hu.frozen h.gw h1).trans (h.fz j),Nat.lt_of_lt_of_le h.pw hu.size,Nat.lt_of_lt_of_le h.qw hu.size,(hu.cell h.pw h2).trans h.fa,(hu.cell h.qw h3).trans h.fr⟩
section
variable {w0 W : World} {hi : Nat} {f1 f2 : Value} {k : Int} {o nm : List UInt8}
include w0 W hi f1 f2 k o nm
theorem St0p.kp (h:St0p w0 gm p1 p2 f1 f2 k o nm W) (hg:gm < hi) (hw:hi<=W.heap.size) (ok:Bool):KP w0 n0 gm hi p1 p2 f1 f2 k o nm ok [] W:=by
 obtain ⟨c0,c1,c2,c3,c4⟩:=h.c5;simp only[Nat.zero_add] at c0 c1 c2 c3 c4;exact ⟨[],none,0,⟨h.up,h.lo,hg,hw,c0,c1,c2,c3,c4,h.fz,World.ownsRow_nil _ _ _ _,World.ownsRow_nil _ _ _ _,Or.inl rfl⟩,rfl,fun _ x hx=>absurd hx (by simp),h.fa,h.fr⟩
theorem KP.fin {ok:Bool} {ps:List Sh} (h:KP w0 n0 gm hi p1 p2 f1 f2 k o nm ok ps W): ∃q,Sh5 W gm 0 ⟨k,o,nm,[],ps⟩ q/\
 (ok=true->o.length<=9223372036854775807->nm.length<=9223372036854775807->ps.length<=1000->Kept (fun b=>b < n0\/hi<=b) W (⟨k,o,nm,[],ps⟩,q)):=by
 obtain ⟨l,AP,cP,h⟩:=h;have hlen:=h.len;refine ⟨⟨none,0,AP,cP⟩,⟨h.mm.c0,h.mm.c1,h.mm.c2,h.mm.c3, ?_⟩,fun ho h1 h2 hl=> ?_⟩
 {have:=h.mm.c4;rw[hlen] at this;exact this}
 {have:=h.mm.at_ (n0:=n0) (h.kp ho) h1 h2 (by simp) (by simp) (by omega);rw[h.eq] at this;exact this}
theorem KP.below {ok:Bool} {ps:List Sh} (h:KP w0 n0 gm hi p1 p2 f1 f2 k o nm ok ps W):Below w0.heap.size w0 W:=by
 obtain ⟨l,AP,cP,h⟩:=h;exact h.mm.up
end
end
end SubM
end Go.Proofs.YtlomianlcnmfgaaGreatDoor
namespace Go.Proofs.YtlomianlcnmfgaaGreatDoor
open Go.RowKit Shp Sub
namespace SubM
theorem Z48 {t:Sh} {q q':Ptr} (h:sv t q=sv t q'):q=q':=by
 obtain ⟨_,_,_,h1,_,h2,h3,_,h4⟩:=ZbN h;cases q; cases q';simp only at h1 h2 h3 h4;subst h1 h2 h3 h4;rfl
def NIs (r:Sh) (n0:Nat) (W:World) (e:Ending) (W':World):Prop:=
 ∃qr,e= .returned (sv r qr)/\Below W.heap.size W W'/\Kept (fun b=>b < n0\/W.heap.size<=b) W' (r,qr)
structure GX where
 W0:World
 gm:Nat
 hi:Nat
 AN:Option Addr
 cN:Nat
 AP:Option Addr
 cP:Nat
 nl:List (List UInt8)
 l:List El
 nm:List UInt8
 xv:Value
 gb:Nat
 ob:Nat
 q:Sh
 qy:Ptr
 r:Sh
 n0:Nat
namespace GX
variable (X : GX)
def val (j:Nat):Option Value:=match j with
 | 0 | 14=>some (.pointer (some ⟨X.gm,3,none⟩))
 | 5 | 16=>some (.pointer (some ⟨X.gm,4,none⟩))
 | 1=>some (.slice X.AN X.nl.length X.cN)
 | 2=>some (.string ⟨X.nm.toArray⟩)
 | 6=>some (.slice X.AP X.l.length X.cP)
 | 7=>some X.xv
 | 8 | 9=>some (.pointer (some ⟨X.gb,X.ob,none⟩))
 | 10=>some (sv X.q X.qy)
 | _=>none
def set (b:Nat):Prop:=b=X.gm\/rowB X.AN=some b\/rowB X.AP=some b
structure Good:Prop where
 ng:X.n0<=X.gm
 gh:X.gm < X.hi
 hw:X.hi<=X.W0.heap.size
 c3:X.W0.cell? ⟨X.gm,3,none⟩=some (.slice X.AN X.nl.length X.cN)
 c4:X.W0.cell? ⟨X.gm,4,none⟩=some (.slice X.AP X.l.length X.cP)
 fz: ∀j,X.W0.frozen? ⟨X.gm,j,none⟩=false
 rN:X.W0.ownsRow X.hi 9 1 (.slice X.AN X.nl.length X.cN) X.nl.length (namesE X.nl)
 rP:X.W0.ownsRow X.hi 25 5 (.slice X.AP X.l.length X.cP) X.l.length (cellsE X.l)
 ne:rowB X.AN=none\/rowB X.AN≠rowB X.AP
 gbn:X.gb < X.n0
 box:Sh5 X.W0 X.gb X.ob X.q X.qy
 ln:X.nl.length<=1000
 ll:X.l.length<=1000
 ok: ∀W,Upd X.set X.W0 W->Calls Tryz.prog 53 #[X.xv,sv X.q X.qy] W (NIs X.r X.n0 W)
structure GI (d:Nat->Bool) (u:Nat->Value) (W:World):Prop where
 vals: ∀j,d j=true-> ∀v,X.val j=some v->u j=v
 up:Upd X.set X.W0 W
 f3:d 3=true->d 4=false-> ∃z,u 3= .slice (some ⟨z,0,none⟩) 1 1/\X.W0.heap.size<=z/\z < W.heap.size/\W.cell? ⟨z,0,none⟩=some (.string ⟨X.nm.toArray⟩)
 n0:d 4=false->W.ownsRow X.hi 9 1 (.slice X.AN X.nl.length X.cN) X.nl.length (namesE X.nl)
 n1:d 4=true-> ∃g c,u 4= .slice (some ⟨g,0,none⟩) (X.nl.length+1) c/\W.ownsRow X.hi 9 1 (.slice (some ⟨g,0,none⟩) (X.nl.length+1) c) (X.nl.length+1) (namesE X.nl++ [.string ⟨X.nm.toArray⟩])/\(rowB X.AN=some g\/X.W0.heap.size<=g)
 ca:d 11=true-> ∃qr s e,u 11=sv X.r qr/\X.W0.heap.size<=s/\s<=e/\e<=W.heap.size/\Kept (fun b=>b < X.n0\/(s<=b/\b < e)) W (X.r,qr)/\(∀g n c,u 4= .slice (some ⟨g,0,none⟩) n c->g < s)/\
  (d 12=true->d 13=false-> ∃z,u 12= .slice (some ⟨z,0,none⟩) 1 1/\e<=z/\z < W.heap.size/\ ∀(j:Nat) v,(cells5 (X.r,qr))[j]? =some v->W.cell? ⟨z,j,none⟩=some v)/\
  (d 13=true-> ∃g c,u 13= .slice (some ⟨g,0,none⟩) (X.l.length+1) c/\W.ownsRow X.hi 25 5 (.slice (some ⟨g,0,none⟩) (X.l.length+1) c) (X.l.length+1) (cellsE X.l++cells5 (X.r,qr))/\(rowB X.AP=some g\/e<=g))
 p0:d 13=false->W.ownsRow X.hi 25 5 (.slice X.AP X.l.length X.cP) X.l.length (cellsE X.l)
 c3:W.cell? ⟨X.gm,3,none⟩=some (if d 15=true then u 4 else .slice X.AN X.nl.length X.cN)
 c4:W.cell? ⟨X.gm,4,none⟩=some (if d 17=true then u 13 else .slice X.AP X.l.length X.cP)
 cr: ∀j,j < 3->W.cell? ⟨X.gm,j,none⟩=X.W0.cell? ⟨X.gm,j,none⟩
 fz: ∀j,W.frozen? ⟨X.gm,j,none⟩=false
variable {X : GX} {d : Nat -> Bool} {u : Nat -> Value} {W W' : World}
theorem GI.vals' (h:X.GI d u W) {i:Nat} {v:Value} (hv: ∀v',X.val i=some v'->v=v'): ∀j,also d i j=true-> ∀v',X.val j=some v'->upd u i v j=v':=fun j hj v' hv'=>by
 by_cases hij:j=i
 {subst hij; rw[Z0h]; exact hv v' hv'}
 {rw[Z0k d hij] at hj; rw[Z04 u v hij]; exact h.vals j hj v' hv'}
theorem Good.start (h:X.Good):X.GI (fun _=>false) u X.W0.drew:=
 ⟨nofun,(Upd.refl _ _).drew,nofun,fun _=>h.rN,nofun,nofun,fun _=>h.rP,h.c3,h.c4,fun _ _=>rfl,h.fz⟩
theorem GI.pure (h:X.GI d u W) {i:Nat} (hi:i≠3/\i≠4/\i≠11/\i≠12/\i≠13/\i≠15/\i≠17) {v:Value} (hv: ∀v',X.val i=some v'->v=v'):X.GI (also d i) (upd u i v) W:=by
 have k: ∀j,j=3\/j=4\/j=11\/j=12\/j=13\/j=15\/j=17->also d i j=d j/\upd u i v j=u j:=fun j hj=>⟨Z0k d (by omega),Z04 u v (by omega)⟩;refine ⟨h.vals' hv,h.up, ?_, ?_, ?_, ?_, ?_, ?_, ?_,h.cr,h.fz⟩
 {rw[(k 3 (by omega)).1,(k 3 (by omega)).2,(k 4 (by omega)).1]; exact h.f3}
 {rw[(k 4 (by omega)).1]; exact h.n0}
 {rw[(k 4 (by omega)).1,(k 4 (by omega)).2]; exact h.n1}
 {rw[(k 11 (by omega)).1,(k 11 (by omega)).2,(k 4 (by omega)).2,(k 12 (by omega)).1,(k 12 (by omega)).2,(k 13 (by omega)).1,(k 13 (by omega)).2]; exact h.ca}
 {rw[(k 13 (by omega)).1]; exact h.p0}
 {rw[(k 15 (by omega)).1,(k 4 (by omega)).2]; exact h.c3}
 {rw[(k 17 (by omega)).1,(k 13 (by omega)).2]; exact h.c4}
theorem Good.set_lt (h:X.Good) {b:Nat} (hb:X.set b):X.gm<=b/\b < X.W0.heap.size:=by
 have h1:=h.gh;have h2:=h.hw;rcases hb with rfl | hb | hb
 {omega}
 {have:=Z08 h.rN b hb; omega}
 {have:=Z08 h.rP b hb; omega}
theorem GI.box (h:X.GI d u W) (hX:X.Good):Sh5 W X.gb X.ob X.q X.qy:=
 hX.box.of (fun k=>h.up.cell (by have:=hX.gbn; have:=hX.ng; have:=hX.gh; have:=hX.hw; omega) (fun hs=>by have:=(hX.set_lt hs).1; have:=hX.gbn; have:=hX.ng; omega))
theorem GI.gmw (h:X.GI d u W) (hX:X.Good):X.gm < W.heap.size:=by have:=hX.gh; have:=hX.hw; have:=h.up.size; omega
theorem kept_set (hX:X.Good) {S:Nat->Prop} (hu:Upd S W W') (hS: ∀b,S b->X.set b) {s e:Nat} {x:El} (hs:X.W0.heap.size<=s) (hk:Kept (fun b=>b < X.n0\/(s<=b/\b < e)) W x):Kept (fun b=>b < X.n0\/(s<=b/\b < e)) W' x:=
 hk.upd hu (fun b hb hb2 hb3=>by
  have:=hX.set_lt (hS b hb3);have:=hX.ng;rcases hb2 with h | h <;> omega)
theorem GI.new (h:X.GI d u W) (hX:X.Good) (hb:Below W.heap.size W W'):X.GI d u W':=by
 have hgm:=h.gmw hX;have hu:Upd (fun _=>False) W W':=Upd.new hb;refine ⟨h.vals,h.up.trans (hu.mono (fun _ _ h=>h.elim)),fun h3 h4=> ?_,fun h4=>Z0g (h.n0 h4) hu (fun _ _ h=>h),fun h4=> ?_,fun h11=> ?_,fun h13=>Z0g (h.p0 h13) hu (fun _ _ h=>h),
  (hu.cell hgm (fun h=>h)).trans h.c3,(hu.cell hgm (fun h=>h)).trans h.c4,fun j hj=>(hu.cell hgm (fun h=>h)).trans (h.cr j hj),fun j=>(hu.frozen hgm (fun h=>h)).trans (h.fz j)⟩
 {obtain ⟨z,e,z1,z2,z3⟩:=h.f3 h3 h4;exact ⟨z,e,z1,Nat.lt_of_lt_of_le z2 hu.size,(hu.cell z2 (fun h=>h)).trans z3⟩}
 {obtain ⟨g,c,e,r,n⟩:=h.n1 h4;exact ⟨g,c,e,Z0g r hu (fun _ _ h=>h),n⟩}
 {obtain ⟨qr,s,e,e11,s1,s2,s3,hk,hg,h12,h13⟩:=h.ca h11;refine ⟨qr,s,e,e11,s1,s2,Nat.le_trans s3 hu.size,hk.upd hu (fun _ _ _ h=>h),hg,fun a b=> ?_,fun a=> ?_⟩
  {obtain ⟨z,e,z1,z2,z3⟩:=h12 a b;exact ⟨z,e,z1,Nat.lt_of_lt_of_le z2 hu.size,fun j v hv=>(hu.cell z2 (fun h=>h)).trans (z3 j v hv)⟩}
  {obtain ⟨g,c,e,r,n⟩:=h13 a;exact ⟨g,c,e,Z0g r hu (fun _ _ h=>h),n⟩}}
section
variable (h : X.GI d u W) (hX : X.Good)
include h hX
theorem GI.s3:X.GI (also d 3) (upd u 3 (.slice (some ⟨W.heap.size,0,none⟩) 1 1)) (W.alloc (.cells #[.string ⟨X.nm.toArray⟩] 9)):=by
 have hn:=h.new hX (Z01 W (.cells #[.string ⟨X.nm.toArray⟩] 9));have k: ∀j,j≠3->also d 3 j=d j/\ ∀v,upd u 3 v j=u j:=fun j hj=>⟨Z0k d hj,fun v=>Z04 u v hj⟩;have hs:=h.up.size;refine ⟨hn.vals' (fun v' h=>by cases h),hn.up,fun _ _=>⟨W.heap.size,Z0h _ _ _,hs,by simp,by simp[go_sem]⟩, ?_, ?_, ?_, ?_, ?_, ?_,hn.cr,hn.fz⟩
 {rw[(k 4 (by omega)).1]; exact hn.n0}
 {rw[(k 4 (by omega)).1,(k 4 (by omega)).2]; exact hn.n1}
 {rw[(k 11 (by omega)).1,(k 11 (by omega)).2,(k 4 (by omega)).2,(k 12 (by omega)).1,(k 12 (by omega)).2,(k 13 (by omega)).1,(k 13 (by omega)).2]; exact hn.ca}
 {rw[(k 13 (by omega)).1]; exact hn.p0}
 {rw[(k 15 (by omega)).1,(k 4 (by omega)).2]; exact hn.c3}
 {rw[(k 17 (by omega)).1,(k 13 (by omega)).2]; exact hn.c4}
theorem GI.s4 (h11:d 11=false) (h13:d 13=false) (h15:d 15=false) (h17:d 17=false) {g c:Nat} (hown:W'.ownsRow X.hi 9 1 (.slice (some ⟨g,0,none⟩) (X.nl.length+1) c) (X.nl.length+1) (namesE X.nl++ [.string ⟨X.nm.toArray⟩]))
 (hg:W.grownBy W' (rowB X.AN)) (hat:rowB X.AN=some g\/g=W.heap.size):X.GI (also d 4) (upd u 4 (.slice (some ⟨g,0,none⟩) (X.nl.length+1) c)) W':=by
 have k: ∀j,j≠4->also d 4 j=d j/\ ∀v,upd u 4 v j=u j:=fun j hj=>⟨Z0k d hj,fun v=>Z04 u v hj⟩;have hu:Upd (fun b=>rowB X.AN=some b) W W':=(Upd.refl _ W).grown hg (fun k h _=>h);have hgm:=h.gmw hX;have hgN: ¬rowB X.AN=some X.gm:=fun e=>by have:=(Z08 hX.rN _ e).1; have:=hX.gh; omega
 have hs:=h.up.size;refine ⟨h.vals' (fun v' h=>by cases h),h.up.trans (hu.mono (fun b _ hb=>Or.inr (Or.inl hb))), ?_, ?_, ?_, ?_, ?_, ?_, ?_,fun j hj=>(hu.cell hgm hgN).trans (h.cr j hj),fun j=>(hu.frozen hgm hgN).trans (h.fz j)⟩
 {rw[Z0o]; nofun}
 {rw[Z0o]; nofun}
 {exact fun _=>⟨g,c,Z0h _ _ _,hown,hat.imp id (fun e=>by omega)⟩}
 {rw[(k 11 (by omega)).1,h11]; nofun}
 {exact fun _=>Z0g (h.p0 h13) hu (fun b hb e=>by
   rcases hX.ne with hne | hne
   {rw[hne] at e; cases e}
   · exact hne (e.trans hb.symm))}
 {rw[(k 15 (by omega)).1,h15];have:=h.c3;rw[h15] at this;exact (hu.cell hgm hgN).trans this}
 {rw[(k 17 (by omega)).1,h17];have:=h.c4;rw[h17] at this;exact (hu.cell hgm hgN).trans this}
theorem GI.s11 (h4:d 4=true) (h12:d 12=false) (h13:d 13=false) (h17:d 17=false) {e:Ending} (hb:NIs X.r X.n0 W e W'): ∃v,e= .returned v/\X.GI (also d 11) (upd u 11 v) W':=by
 obtain ⟨qr,rfl,hbl,hkp⟩:=hb;have k: ∀j,j≠11->also d 11 j=d j/\ ∀v,upd u 11 v j=u j:=fun j hj=>⟨Z0k d hj,fun v=>Z04 u v hj⟩;have hn:=h.new hX hbl;have hs:=h.up.size;refine ⟨_,rfl,hn.vals' (fun v' h=>by cases h),hn.up, ?_, ?_, ?_,fun _=>⟨qr,W.heap.size,W'.heap.size,Z0h _ _ _,hs,hbl.size,Nat.le_refl _,hkp.more (fun b hb hS=>hS.imp id (fun h=>⟨h,hb⟩)), ?_, ?_, ?_⟩, ?_, ?_, ?_,hn.cr,hn.fz⟩
 {rw[(k 3 (by omega)).1,(k 3 (by omega)).2,(k 4 (by omega)).1]; exact hn.f3}
 {rw[(k 4 (by omega)).1]; exact hn.n0}
 {rw[(k 4 (by omega)).1,(k 4 (by omega)).2]; exact hn.n1}
 {rw[(k 4 (by omega)).2];intro g n c e;obtain ⟨g',c',e',r,_⟩:=h.n1 h4;rw[e'] at e;simp only[Value.slice.injEq,Option.some.injEq,Addr.mk.injEq,and_true] at e;have:=(Z08 r g' rfl).2;omega}
 {rw[(k 12 (by omega)).1,h12]; nofun}
 {rw[(k 13 (by omega)).1,h13]; nofun}
 {rw[(k 13 (by omega)).1]; exact hn.p0}
 {rw[(k 15 (by omega)).1,(k 4 (by omega)).2]; exact hn.c3}
 {rw[(k 17 (by omega)).1,(k 13 (by omega)).2]; exact hn.c4}
theorem GI.s12 (h11:d 11=true) {qr:Ptr} (e11:u 11=sv X.r qr):X.GI (also d 12) (upd u 12 (.slice (some ⟨W.heap.size,0,none⟩) 1 1)) (W.alloc (.cells #[.int .i64 X.r.kind,.string ⟨X.r.of_.toArray⟩,.string ⟨X.r.name.toArray⟩,.slice qr.A X.r.names.length qr.c,.slice qr.P X.r.parts.length qr.d] 25)):=by
 have hn:=h.new hX (Z01 W (.cells #[.int .i64 X.r.kind,.string ⟨X.r.of_.toArray⟩,.string ⟨X.r.name.toArray⟩,.slice qr.A X.r.names.length qr.c,.slice qr.P X.r.parts.length qr.d] 25));have k: ∀j,j≠12->also d 12 j=d j/\ ∀v,upd u 12 v j=u j:=fun j hj=>⟨Z0k d hj,fun v=>Z04 u v hj⟩;refine ⟨hn.vals' (fun v' h=>by cases h),hn.up, ?_, ?_, ?_, ?_, ?_, ?_, ?_,hn.cr,hn.fz⟩
 {rw[(k 3 (by omega)).1,(k 3 (by omega)).2,(k 4 (by omega)).1]; exact hn.f3}
 {rw[(k 4 (by omega)).1]; exact hn.n0}
 {rw[(k 4 (by omega)).1,(k 4 (by omega)).2]; exact hn.n1}
 {rw[(k 11 (by omega)).1,(k 11 (by omega)).2,(k 4 (by omega)).2,(k 13 (by omega)).1,(k 13 (by omega)).2];intro h11;obtain ⟨qr',s,e,y11,s1,s2,s3,hk,hg,h12,h13⟩:=h.ca h11;obtain rfl:=Z48 (y11.symm.trans e11);have hu:Upd (fun _=>False) W (W.alloc (.cells #[.int .i64 X.r.kind,.string ⟨X.r.of_.toArray⟩,.string ⟨X.r.name.toArray⟩,.slice qr'.A X.r.names.length qr'.c,.slice qr'.P X.r.parts.length qr'.d] 25)):=Upd.new (Z01 _ _);refine ⟨qr',s,e,e11,s1,s2,Nat.le_trans s3 hu.size,hk.upd hu (fun _ _ _ h=>h),hg,fun _ _=>⟨W.heap.size,Z0h _ _ _,s3,by simp, ?_⟩,fun a=>by
   obtain ⟨g,c,e,r,n⟩:=h13 a;exact ⟨g,c,e,Z0g r hu (fun _ _ h=>h),n⟩⟩
  intro j v hv;rcases j with _ | _ | _ | _ | _ | j
  {simp[cells5] at hv; subst hv; simp[go_sem]}
  {simp[cells5] at hv; subst hv; simp[go_sem]}
  {simp[cells5] at hv; subst hv; simp[go_sem]}
  {simp[cells5] at hv; subst hv; simp[go_sem]}
  {simp[cells5] at hv; subst hv; simp[go_sem]}
  {simp[cells5] at hv}}
 {rw[(k 13 (by omega)).1]; exact hn.p0}
 {rw[(k 15 (by omega)).1,(k 4 (by omega)).2]; exact hn.c3}
 {rw[(k 17 (by omega)).1,(k 13 (by omega)).2]; exact hn.c4}
theorem GI.s13 (h4:d 4=true) (h12:d 12=true) (h13:d 13=false) (h15:d 15=false) (h17:d 17=false) {qr:Ptr} (e11:u 11=sv X.r qr) {g c:Nat} (hown:W'.ownsRow X.hi 25 5 (.slice (some ⟨g,0,none⟩) (X.l.length+1) c) (X.l.length+1) (cellsE X.l++cells5 (X.r,qr)))
 (hg:W.grownBy W' (rowB X.AP)) (hat:rowB X.AP=some g\/g=W.heap.size):X.GI (also d 13) (upd u 13 (.slice (some ⟨g,0,none⟩) (X.l.length+1) c)) W':=by
 have k: ∀j,j≠13->also d 13 j=d j/\ ∀v,upd u 13 v j=u j:=fun j hj=>⟨Z0k d hj,fun v=>Z04 u v hj⟩;have hu:Upd (fun b=>rowB X.AP=some b) W W':=(Upd.refl _ W).grown hg (fun k h _=>h);have hgm:=h.gmw hX;have hgN: ¬rowB X.AP=some X.gm:=fun e=>by have:=(Z08 hX.rP _ e).1; have:=hX.gh; omega
 have hnz: ∀z,X.W0.heap.size<=z-> ¬rowB X.AP=some z:=fun z hz e=>by have:=(Z08 hX.rP _ e).2; omega
 obtain ⟨g8,c8,e8,r8,n8⟩:=h.n1 h4;have hg8: ¬rowB X.AP=some g8:=fun e=>by
  rcases n8 with n8 | n8
  {rcases hX.ne with hne | hne
   {rw[hne] at n8; cases n8}
   {exact hne (n8.trans e.symm)}}
  {exact hnz g8 n8 e}
 refine ⟨h.vals' (fun v' h=>by cases h),h.up.trans (hu.mono (fun b _ hb=>Or.inr (Or.inr hb))), ?_, ?_, ?_, ?_, ?_, ?_, ?_,fun j hj=>(hu.cell hgm hgN).trans (h.cr j hj),fun j=>(hu.frozen hgm hgN).trans (h.fz j)⟩
 {rw[(k 4 (by omega)).1,h4]; nofun}
 {rw[(k 4 (by omega)).1,h4]; nofun}
 {rw[(k 4 (by omega)).2];exact fun _=>⟨g8,c8,e8,Z0g r8 hu (fun b hb=>by cases hb; exact hg8),n8⟩}
 {rw[(k 11 (by omega)).1,(k 11 (by omega)).2,(k 4 (by omega)).2,Z0o,Z0h];intro h11;obtain ⟨qr',s,e,y11,s1,s2,s3,hk,hgs,_,_⟩:=h.ca h11;obtain rfl:=Z48 (y11.symm.trans e11);refine ⟨qr',s,e,e11,s1,s2,Nat.le_trans s3 hu.size,kept_set hX hu (fun b hb=>Or.inr (Or.inr hb)) s1 hk,hgs,nofun,fun _=>⟨g,c,rfl,hown,hat.imp id (fun e=>by omega)⟩⟩}
 {rw[Z0o]; nofun}
 {rw[(k 15 (by omega)).1,h15];have:=h.c3;rw[h15] at this;exact (hu.cell hgm hgN).trans this}
 {rw[(k 17 (by omega)).1,h17];have:=h.c4;rw[h17] at this;exact (hu.cell hgm hgN).trans this}
end
theorem not_gm (hX:X.Good) {W':World} {g n c e s m:Nat} {xs:List Value} (r:W'.ownsRow X.hi e s (.slice (some ⟨g,0,none⟩) n c) m xs) {b:Nat} (hb:rowB (some ⟨g,0,none⟩)=some b) (he:b=X.gm):False:=by
 have e1:g=b:=by simpa[rowB] using hb
 have h1:=(r.lt g rfl).1;have:=hX.gh;omega
theorem GI.sto (h:X.GI d u W) (hX:X.Good) (h4:d 4=true) (h13:d 13=true) (i f:Nat) (hi:i=15/\f=3\/i=17/\f=4) (hd:d i=false):X.GI (also d i) (upd u i undef) (W.setCell ⟨X.gm,f,none⟩ (if i=15 then u 4 else u 13)):=by
 have k: ∀j,j≠i->also d i j=d j/\ ∀v,upd u i v j=u j:=fun j hj=>⟨Z0k d hj,fun v=>Z04 u v hj⟩;have hgm:=h.gmw hX;obtain ⟨g8,c8,e8,r8,n8⟩:=h.n1 h4;have hu:Upd (fun b=>b=X.gm) W (W.setCell ⟨X.gm,f,none⟩ (if i=15 then u 4 else u 13)):=Upd.set (Upd.refl (fun b=>b=X.gm) W) ⟨X.gm,f,none⟩ (fun _=>rfl) _;have far: ∀j,j≠f->(W.setCell ⟨X.gm,f,none⟩ (if i=15 then u 4 else u 13)).cell? ⟨X.gm,j,none⟩=W.cell? ⟨X.gm,j,none⟩:=fun j hj=>World.cell?_setCell_other _ _ _ _ (fun e=>by have:=congrArg Addr.off e; simp at this; omega);refine ⟨h.vals' (fun v' h=>by rcases hi with ⟨rfl,_⟩ | ⟨rfl,_⟩ <;> cases h),h.up.trans (hu.mono (fun b _ hb=>Or.inl hb)), ?_, ?_, ?_, ?_, ?_, ?_, ?_,fun j hj=>(far j (by omega)).trans (h.cr j hj),fun j=>(World.frozen?_setCell ..).trans (h.fz j)⟩
 {rw[(k 4 (by omega)).1,h4]; nofun}
 {rw[(k 4 (by omega)).1,h4]; nofun}
 {rw[(k 4 (by omega)).2];exact fun _=>⟨g8,c8,e8,Z0g r8 hu (fun b hb e=>not_gm hX r8 hb e),n8⟩}
 {rw[(k 11 (by omega)).1,(k 11 (by omega)).2,(k 4 (by omega)).2,(k 13 (by omega)).1,(k 13 (by omega)).2];intro h11;obtain ⟨qr,s,e,e11,s1,s2,s3,hk,hgs,_,hp⟩:=h.ca h11;obtain ⟨g,c,e13,r13,n13⟩:=hp h13;refine ⟨qr,s,e,e11,s1,s2,Nat.le_trans s3 hu.size,kept_set hX hu (fun b hb=>Or.inl hb) s1 hk,hgs,fun _ hf=>absurd (h13.symm.trans hf) (by decide),fun _=>⟨g,c,e13,Z0g r13 hu (fun b hb e=>not_gm hX r13 hb e),n13⟩⟩}
 {rw[(k 13 (by omega)).1,h13]; nofun}
 {rw[(k 4 (by omega)).2];rcases hi with ⟨rfl,rfl⟩ | ⟨rfl,rfl⟩
  {rw[Z0o,if_pos rfl,if_pos rfl];exact World.cell?_setCell_same _ _ _ h.c3}
  {rw[(k 15 (by omega)).1];exact (far 3 (by omega)).trans h.c3}}
 {rw[(k 13 (by omega)).2];rcases hi with ⟨rfl,rfl⟩ | ⟨rfl,rfl⟩
  {rw[(k 17 (by omega)).1];exact (far 4 (by omega)).trans h.c4}
  {rw[Z0o,if_pos rfl,if_neg (by omega)];exact World.cell?_setCell_same _ _ _ h.c4}}
end GX
end SubM
end Go.Proofs.YtlomianlcnmfgaaGreatDoor
