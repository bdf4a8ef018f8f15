/- What the proofs of ExpandDeclares want, part 6. -/
import Derived.Lib.SmallJoins
import Derived.Test.YtmeiijjpomcgcaaDoorK0n5
set_option linter.unusedVariables false
set_option linter.unusedSimpArgs false
set_option linter.unusedSectionVars false
set_option maxRecDepth 100000
set_option maxHeartbeats 16000000
namespace Go.Proofs.YtmeiijjpomcgcaaDoor
section
open Go.RowKit Shp
structure UpF (F:List Nat) (w w':World):Prop where
 os:w'.os=w.os
 tape:w'.tape=w.tape
 output:w'.output=w.output
 size:w.heap.size<=w'.heap.size
 block: ∀k,k < w.heap.size->k∉F->w'.heap[k]? =w.heap[k]?
theorem UpF.refl (F:List Nat) (w:World):UpF F w w:=⟨rfl,rfl,rfl,Nat.le_refl _,fun _ _ _=>rfl⟩
theorem UpF.below {F:List Nat} {a b c:World} (h:UpF F a b) (k:Below b.heap.size b c):UpF F a c:=
 ⟨k.os.trans h.os,k.tape.trans h.tape,k.output.trans h.output,Nat.le_trans h.size k.size,fun x h1 h2=>(k.block x (Nat.lt_of_lt_of_le h1 h.size)).trans (h.block x h1 h2)⟩
theorem UpF.next {F G:List Nat} {a b c:World} (h:UpF F a b) (k:UpF G b c) (hs: ∀x∈G,x∈F):UpF F a c:=
 ⟨k.os.trans h.os,k.tape.trans h.tape,k.output.trans h.output,Nat.le_trans h.size k.size,fun x h1 h2=>(k.block x (Nat.lt_of_lt_of_le h1 h.size) (fun e=>h2 (hs x e))).trans (h.block x h1 h2)⟩
theorem UpF.same {F:List Nat} {w w':World} (h:UpF F w w') {b:Nat} (h1:b < w.heap.size) (h2:b∉F):Z0y w w' b:=
 ⟨fun k=>World.cell?_of_block (w:=w) (h.block b h1 h2),fun k=>World.frozen?_of_block (w:=w) (h.block b h1 h2)⟩
theorem Up2.upF {bn bp:Nat} {w w':World} (h:Up2 bn bp w w') {F:List Nat} (h1:bn∈F) (h2:bp∈F):UpF F w w':=
 ⟨h.os,h.tape,h.output,h.size,fun k hk hn=>h.block k hk (fun e=>hn (e▸h1)) (fun e=>hn (e▸h2))⟩
theorem Z0K {W W':World} {q:Ptr} {t:Sh} {F:List Nat} (h:Own W q t F) (hb:Below W.heap.size W W'):Own W' q t F:=
 h.of (fun b hm=>⟨fun k=>hb.cell (p:=⟨b,k,none⟩) (h.lt b hm),fun k=>hb.frozen (p:=⟨b,k,none⟩) (h.lt b hm)⟩) hb.size
theorem Z2T (t:Sh): (sorted t).kind=t.kind/\(sorted t).of_=t.of_/\(sorted t).name=t.name:=by
 rw[Z0c]; split <;> exact ⟨rfl,rfl,rfl⟩
theorem Z4o {t:Sh} (h:t.names= []\/t.names.length=t.parts.length): (sorted t).names.length=t.names.length/\(sorted t).parts.length=t.parts.length:=by
 rw[Z0c];split
 {rename_i h0
  simp[h0]}
 {rename_i h0
  rcases h with h | h
  {exact absurd h h0}
  {have:=(Z0x (t.names.zip (t.parts.map sorted))).length_eq;rw[List.length_zip,List.length_map] at this;simp only[List.length_map,this];omega}}
theorem Z1P {t:Sh} (h:right t=true):t.names= []\/t.names.length=t.parts.length/\t.names.Nodup:=by
 have hf:=Z0b h;unfold fits at hf;split at hf
 {simp only[Bool.and_eq_true,decide_eq_true_eq] at hf;exact Or.inl (List.eq_nil_of_length_eq_zero hf.1.2)}
 {split at hf
  {cases hf}
  {split at hf
   {simp only[Bool.and_eq_true,decide_eq_true_eq] at hf;refine Or.inr ⟨hf.2, ?_⟩;have:=hf.1;simp only[areNames,Bool.and_eq_true,Z5u] at this;exact this.2}
   {split at hf
    {cases hf}
    {rename_i h0
     exact Or.inl (List.eq_nil_of_length_eq_zero (by omega))}}}}
theorem Z58 {W:World} {b o:Nat} {t:Sh} {q:Ptr} (hr:right t=true) (h:Sh5 W b o t q):Sh5 W b o (sorted t) q:=by
 obtain ⟨k1,k2,k3⟩:=Z2T t;obtain ⟨l1,l2⟩:=Z4o (t:=t) ((Z1P hr).imp id And.left);unfold Sh5 at *;rw[k1,k2,k3,l1,l2];exact h
theorem Z6H {Fs:Nat->List Nat}: ∀n,((List.range n).flatMap Fs).Nodup->(∀j,j < n->(Fs j).Nodup)/\ ∀i j,i < j->j < n-> ∀b∈Fs i,b∉Fs j
 | 0,_=>⟨fun j hj=>absurd hj (by omega),fun i j _ hj=>absurd hj (by omega)⟩
 | n+1,h=>by
  rw[List.range_succ,List.flatMap_append,List.nodup_append] at h;obtain ⟨h1,h2,h3⟩:=h;obtain ⟨k1,k2⟩:=Z6H n h1;have e: [n].flatMap Fs=Fs n:=by simp
  rw[e] at h2 h3;refine ⟨fun j hj=> ?_,fun i j hij hj b hb hb2=> ?_⟩
  {rcases Nat.lt_or_eq_of_le (Nat.le_of_lt_succ hj) with h | rfl
   {exact k1 j h}
   {exact h2}}
  {rcases Nat.lt_or_eq_of_le (Nat.le_of_lt_succ hj) with h | rfl
   {exact k2 i j hij h b hb hb2}
   {exact h3 b (List.mem_flatMap.2 ⟨i,List.mem_range.2 hij,hb⟩) b hb2 rfl}}
theorem Z2U {FN FP:List Nat} {n:Nat} {Fs:Nat->List Nat} (h: (FN++FP++(List.range n).flatMap Fs).Nodup):
 (∀b∈FN,b∉FP)/\(∀b∈FN,∀j,j < n->b∉Fs j)/\(∀b∈FP,∀j,j < n->b∉Fs j)/\(∀j,j < n->(Fs j).Nodup)/\ ∀i j,i < n->j < n->i≠j-> ∀b∈Fs i,b∉Fs j:=by
 rw[List.nodup_append] at h;obtain ⟨h1,h2,h3⟩:=h;rw[List.nodup_append] at h1;have hm: ∀j,j < n-> ∀b∈Fs j,b∈(List.range n).flatMap Fs:=fun j hj b hb=>List.mem_flatMap.2 ⟨j,List.mem_range.2 hj,hb⟩;obtain ⟨h4,h5⟩:=Z6H n h2;refine ⟨fun b hb hb2=>h1.2.2 b hb b hb2 rfl,fun b hb j hj hb2=>h3 b (List.mem_append_left _ hb) b (hm j hj b hb2) rfl,fun b hb j hj hb2=>h3 b (List.mem_append_right _ hb) b (hm j hj b hb2) rfl,h4,fun i j hi hj hne b hb hb2=> ?_⟩;rcases Nat.lt_or_gt_of_ne hne with h | h
 {exact h5 i j h hj b hb hb2}
 {exact h5 j i h hi b hb2 hb}
end
section
open Shp
theorem Z0f {t:Sh} (h:check t=0):size t<=400/\deep t<=40/\right t=true:=by
 unfold check at h;by_cases h4:400 < size t
 {rw[if_pos h4] at h; omega}
 {rw[if_neg h4] at h;by_cases h40:40 < deep t
  {rw[if_pos h40] at h; omega}
  {rw[if_neg h40] at h;cases hr:right t with
   | false=>rw[hr] at h; simp at h
   | true=>exact ⟨by omega,by omega,rfl⟩}}
theorem Z59 {l m:List Sh} (h:l.Perm m):sizes l=sizes m:=by
 induction h with
 | nil=>rfl
 | cons x _ ih=>simp[sizes,ih]
 | swap x y l=>simp[sizes]; omega
 | trans _ _ ih1 ih2=>exact ih1.trans ih2
theorem Zaq {f:Sh->Sh} {l:List Sh} (h: ∀p∈l,size (f p)=size p):sizes (l.map f)=sizes l:=by
 induction l with
 | nil=>rfl
 | cons a l ih=>simp[sizes,h a (by simp),ih (fun p hp=>h p (by simp[hp]))]
structure Like (f:Sh->Sh) (t u:Sh):Prop where
 k:u.kind=t.kind
 o:u.of_=t.of_
 n:u.name=t.name
 ns:u.names.Perm t.names
 ps:u.parts.Perm (t.parts.map f)
theorem Like.size {f:Sh->Sh} {t u:Sh} (h:Like f t u) (hp: ∀p∈t.parts,size (f p)=size p):size u=size t:=by
 rw[size_eq,size_eq,Z59 h.ps,Zaq hp]
end
end Go.Proofs.YtmeiijjpomcgcaaDoor
namespace Sub
section
open Shp Go.Proofs.YtmeiijjpomcgcaaDoor
def stepNarrow (g:Sh->Sh->Bool) (c:Cl):Bool:=
 match c with
 | (_,_,none)=>true
 | (_,some p,some q)=>g p q
 | (_,none,some _)=>false
def stepWide (g:Sh->Sh->Bool) (c:Cl):Bool:=
 match c with
 | (_,none,_)=>true
 | (_,some p,some q)=>g p q
 | (_,some _,none)=>false
def placesAll (g:Sh->Sh->Bool):List Sh->List Sh->Bool
 | [],[]=>true
 | a::us,b::vs=>(if us.isEmpty then g a b else g b a)&&placesAll g us vs
 | [],_::_=>false
 | _::_,[]=>false
def bw:Nat->Sh->Sh->Bool
 | 0,_,_=>false
 | f+1,a,b=>
  if a.kind≠b.kind then false
  else if a.kind=6 then (calls a b).all (stepNarrow (bw f))
  else if a.kind=7 then (calls a b).all (stepWide (bw f))
  else decide (a.of_=b.of_/\a.name=b.name)&&placesAll (bw f) a.parts b.parts
def whole (o:Option Sh):Option Sh:=o.bind (fun j=>if check j=0 then some (sorted j) else none)
def J (up:Bool) (a b:Sh):Option Sh:=if check a=0/\check b=0 then whole (bound 40 up a b) else none
def below (a b:Sh):Bool:=decide (check a=0)&&decide (check b=0)&&bw 40 a b
end
end Sub
namespace Go.Proofs.YtmeiijjpomcgcaaDoor
open Go.RowKit Shp Sub
namespace SubM
structure Two (f:Nat) (a b:Sh):Prop where
 ra:right a=true
 rb:right b=true
 da:deep a<=f
 db:deep b<=f
 sa:size a<=400
 sb:size b<=400
theorem Two.part {f:Nat} {a b p q:Sh} (h:Two (f+1) a b) (hp:p∈a.parts) (hq:q∈b.parts):Two f p q:=by
 obtain ⟨ra,rb,da,db,sa,sb⟩:=h;have h1:=Z0z hp;have h2:=Z0z hq;have h3:=Z1h hp;have h4:=Z1h hq;rw[Z0l] at da db;rw[size_eq] at sa sb;exact ⟨Z05 ra hp,Z05 rb hq,by omega,by omega,by omega,by omega⟩
theorem Two.swap {f:Nat} {a b:Sh} (h:Two f a b):Two f b a:=⟨h.rb,h.ra,h.db,h.da,h.sb,h.sa⟩
end SubM
end Go.Proofs.YtmeiijjpomcgcaaDoor
namespace Go.Proofs.YtmeiijjpomcgcaaDoor
open Go.RowKit Shp Sub
namespace SubM
namespace RX
def lay (W:World) (g:Nat) (t:Sh) (q:Ptr):World:=
 ((((W.setCell ⟨g,0,none⟩ (.int .i64 t.kind)).setCell ⟨g,1,none⟩ (.string ⟨t.of_.toArray⟩)).setCell ⟨g,2,none⟩ (.string ⟨t.name.toArray⟩)).setCell ⟨g,3,none⟩ (.slice q.A t.names.length q.c)).setCell ⟨g,4,none⟩ (.slice q.P t.parts.length q.d)
section
variable (W : World) (g : Nat) (t : Sh) (q : Ptr)
include W g t q
theorem lay_upd:Upd (fun b=>b=g) W (lay W g t q):=
 Upd.set (Upd.set (Upd.set (Upd.set (Upd.set (Upd.refl (fun b=>b=g) W) ⟨g,0,none⟩ (fun _=>rfl) _) ⟨g,1,none⟩ (fun _=>rfl) _) ⟨g,2,none⟩ (fun _=>rfl) _) ⟨g,3,none⟩ (fun _=>rfl) _) ⟨g,4,none⟩ (fun _=>rfl) _
theorem lay_size: (lay W g t q).heap.size=W.heap.size:=by simp[lay,World.setCell]
theorem lay_fz (j:Nat): (lay W g t q).frozen? ⟨g,j,none⟩=W.frozen? ⟨g,j,none⟩:=by
 unfold lay; rw[World.frozen?_setCell,World.frozen?_setCell,World.frozen?_setCell,World.frozen?_setCell,World.frozen?_setCell]
end
theorem soc {W:World} {b x y:Nat} {v:Value} (h:x≠y): (W.setCell ⟨b,x,none⟩ v).cell? ⟨b,y,none⟩=W.cell? ⟨b,y,none⟩:=World.cell?_setCell_other _ _ _ _ (fun e=>by have:=congrArg Addr.off e; simp at this; omega)
theorem lay_at {W:World} {g:Nat} (t:Sh) (q:Ptr) (h: ∀j,j < 5-> ∃v,W.cell? ⟨g,j,none⟩=some v):Sh5 (lay W g t q) g 0 t q:=by
 obtain ⟨v0,h0⟩:=h 0 (by omega);obtain ⟨v1,h1⟩:=h 1 (by omega);obtain ⟨v2,h2⟩:=h 2 (by omega);obtain ⟨v3,h3⟩:=h 3 (by omega);obtain ⟨v4,h4⟩:=h 4 (by omega);unfold lay Sh5;simp only[Nat.zero_add];refine ⟨?_, ?_, ?_, ?_, ?_⟩
 {rw[soc (by omega),soc (by omega),soc (by omega),soc (by omega)]; exact World.cell?_setCell_same _ _ _ h0}
 {rw[soc (by omega),soc (by omega),soc (by omega)]; exact World.cell?_setCell_same _ _ _ (by rw[soc (by omega)]; exact h1)}
 {rw[soc (by omega),soc (by omega)]; exact World.cell?_setCell_same _ _ _ (by rw[soc (by omega),soc (by omega)]; exact h2)}
 {rw[soc (by omega)]; exact World.cell?_setCell_same _ _ _ (by rw[soc (by omega),soc (by omega),soc (by omega)]; exact h3)}
 {exact World.cell?_setCell_same _ _ _ (by rw[soc (by omega),soc (by omega),soc (by omega),soc (by omega)]; exact h4)}
end RX
theorem Z6M {t' t:Sh} {q' q:Ptr} (h:sv t' q'=sv t q):t'.kind=t.kind/\t'.of_=t.of_/\t'.name=t.name/\q'.A=q.A/\t'.names.length=t.names.length/\q'.c=q.c/\q'.P=q.P/\t'.parts.length=t.parts.length/\q'.d=q.d:=by
 simp[sv] at h;exact ⟨h.1,h.2.1,h.2.2.1,h.2.2.2.1.1,h.2.2.2.1.2.1,h.2.2.2.1.2.2,h.2.2.2.2.1,h.2.2.2.2.2.1,h.2.2.2.2.2.2⟩
theorem Kept.move {S S' T:Nat->Prop} {W W':World} {x:El} (h:Kept S W x) (hu:Upd T W W') (hd: ∀b,b < W.heap.size->S b-> ¬T b/\S' b):Kept S' W' x:=fun W2 h1 h2=>
 h W2 (Nat.le_trans hu.size h1) (fun b hb hs=>(h2 b (Nat.lt_of_lt_of_le hb hu.size) (hd b hb hs).2).trans (hu.block b hb (hd b hb hs).1))
structure KNs (w0:World) (n0 gm hi pf:Nat) (fv:Value) (k:Int) (ok:Bool) (L:List Fld) (l:List El) (AN:Option Addr) (cN:Nat) (AP:Option Addr) (cP:Nat) (W:World):Prop where
 mm:Mk w0 gm hi k [] [] (L.map Prod.fst) l AN cN AP cP W
 eq:l.map Prod.fst=L.map Prod.snd
 kp:ok=true-> ∀x∈l,Kept (Free n0 hi AN AP) W x
 fc:W.cell? ⟨pf,0,none⟩=some fv
def KN (w0:World) (n0 gm hi pf:Nat) (fv:Value) (k:Int) (ok:Bool) (L:List Fld) (W:World):Prop:= ∃l AN cN AP cP,KNs w0 n0 gm hi pf fv k ok L l AN cN AP cP W
section
variable {w0 W W' : World} {n0 gm hi pf : Nat} {fv : Value} {k : Int} {ok : Bool} {L : List Fld} {l : List El} {AN AP : Option Addr} {cN cP : Nat}
theorem KNs.len (h:KNs w0 n0 gm hi pf fv k ok L l AN cN AP cP W):l.length=L.length:=by have:=congrArg List.length h.eq; simpa using this
theorem KNs.new (h:KNs w0 n0 gm hi pf fv k ok L l AN cN AP cP W) (hpf:pf < hi) (hb:Below W.heap.size W W'):KNs w0 n0 gm hi pf fv k ok L l AN cN AP cP W':=
 ⟨h.mm.new hb,h.eq,fun ho x hx=>(h.kp ho x hx).upd (T:=fun _=>False) (Upd.new hb) (fun _ _ _ h=>h),(hb.cell (p:=⟨pf,0,none⟩) (Nat.lt_of_lt_of_le hpf h.mm.hw)).trans h.fc⟩
theorem KNs.put (h:KNs w0 n0 gm hi pf fv k ok L l AN cN AP cP W) (hn:n0<=gm) (hpf:pf < hi) (hpg:pf≠gm) {nm:List UInt8} {t:Sh} {q:Ptr} {ok':Bool} (hok:ok'=true->ok=true) (hkp:ok'=true->Kept (Free n0 hi AN AP) W (t,q))
 {AN' AP':Option Addr} {cN' cP':Nat} (hm:Mk w0 gm hi k [] [] (L.map Prod.fst++ [nm]) (l++ [(t,q)]) AN' cN' AP' cP' W') (hp:PutOk W gm AN AP AN' AP' W'):KN w0 n0 gm hi pf fv k ok' (L++ [(nm,t)]) W':=by
 obtain ⟨hu,h1,h2⟩:=hp;have hg:=h.mm.gh;have key: ∀x,Kept (Free n0 hi AN AP) W x->Kept (Free n0 hi AN' AP') W' x:=fun x hx=>hx.move hu (fun b hb hf=>by
  refine ⟨fun ht=> ?_, ?_⟩
  {rcases hf with hf | ⟨hf,f1,f2⟩
   {rcases ht with ht | ht | ht
    {omega}
    {have:=(Z0a h.mm.rN b ht).1; omega}
    {have:=(Z0a h.mm.rP b ht).1; omega}}
   {rcases ht with ht | ht | ht
    {omega}
    {exact f1 ht}
    {exact f2 ht}}}
  · rcases hf with hf | ⟨hf,f1,f2⟩
    {exact Or.inl hf}
    · exact Or.inr ⟨hf,fun e=>(h1 b e).elim f1 (fun h=>by omega),fun e=>(h2 b e).elim f2 (fun h=>by omega)⟩)
 refine ⟨l++ [(t,q)],AN',cN',AP',cP',⟨by rw[List.map_append]; exact hm,by rw[List.map_append,List.map_append,h.eq]; rfl,fun ho x hx=> ?_, ?_⟩⟩
 {rcases List.mem_append.1 hx with hx | hx
  {exact key x (h.kp (hok ho) x hx)}
  {rw[List.mem_singleton.1 hx]; exact key _ (hkp ho)}}
 {refine (hu.cell (Nat.lt_of_lt_of_le hpf h.mm.hw) (fun ht=> ?_)).trans h.fc;rcases ht with ht | ht | ht
  {exact hpg ht}
  {have:=(Z0a h.mm.rN pf ht).1; omega}
  {have:=(Z0a h.mm.rP pf ht).1; omega}}
end
abbrev noneQ12:Ptr:=⟨none,0,none,0⟩
structure St0 (w0:World) (gm pf:Nat) (fv:Value) (k:Int) (W:World):Prop where
 up:Below w0.heap.size w0 W
 lo:w0.heap.size<=gm
 gw:gm < W.heap.size
 c5:Sh5 W gm 0 ⟨k,[],[],[],[]⟩ noneQ12
 fz: ∀j,W.frozen? ⟨gm,j,none⟩=false
 pw:pf < W.heap.size
 fc:W.cell? ⟨pf,0,none⟩=some fv
section
variable {w0 W W' : World} {n0 gm hi pf : Nat} {fv : Value} {k : Int}
theorem St0.fin (h:St0 w0 gm pf fv k W) (S:Nat->Prop):Sh5 W gm 0 (made k []) noneQ12/\Kept S W (made k [],noneQ12):=
 ⟨h.c5,fun W' _ _=> .mk _ _ 0 0 (fun _=>noneQ12) ⟨by simp[made],by simp[made],by simp[made],by simp[made],by simp[made],by simp[made],by simp[made],fun _=>rfl,fun _=>rfl⟩ (Or.inl rfl) (Or.inl rfl) (fun i hi=>by simp[made] at hi) (fun i hi=>by simp[made] at hi)⟩
section
variable {ok : Bool} {L : List Fld} (h : KN w0 n0 gm hi pf fv k ok L W)
include ok L h
theorem KN.fin: ∃q,Sh5 W gm 0 (made k L) q/\(ok=true->(∀x∈L.map Prod.fst,x.length<=1000)->L.length<=1000->Kept (fun b=>b < n0\/hi<=b) W (made k L,q)):=by
 obtain ⟨l,AN,cN,AP,cP,h⟩:=h;have he: (⟨k,[],[],L.map Prod.fst,l.map Prod.fst⟩:Sh)=made k L:=by rw[h.eq]; rfl
 refine ⟨⟨AN,cN,AP,cP⟩, ?_,fun ho hx hl=> ?_⟩
 {have hlen:=h.len;refine ⟨h.mm.c0,h.mm.c1,h.mm.c2,h.mm.c3, ?_⟩;have:=h.mm.c4;simp only[made,List.length_map];rw[hlen] at this;exact this}
 {have hlen:=h.len;have:=h.mm.at_ (n0:=n0) (h.kp ho) (by simp) (by simp) (fun x hm=>by have:=hx x hm; omega) (by rw[List.length_map]; omega) (by omega);rw[he] at this;exact this}
theorem KN.below:Below w0.heap.size w0 W/\gm < W.heap.size/\hi<=W.heap.size:=by
 obtain ⟨l,AN,cN,AP,cP,h⟩:=h;exact ⟨h.mm.up,Nat.lt_of_lt_of_le h.mm.gh h.mm.hw,h.mm.hw⟩
end
end
theorem Two.ln {f:Nat} {a b:Sh} (h:Two f a b) (A:Rec a):a.names.length<=400:=by rw[A.l]; have:=h.sa; have:=Z0F a.parts; rw[size_eq] at *; omega
structure Rc (rc:Nat) (W:World):Prop where
 lt:rc < W.heap.size
 ex: ∀j,j < 5-> ∃v,W.cell? ⟨rc,j,none⟩=some v
 fz: ∀j,W.frozen? ⟨rc,j,none⟩=false
theorem Rc.upd {T:Nat->Prop} {rc:Nat} {W W':World} (h:Rc rc W) (hu:Upd T W W') (hT: ¬T rc):Rc rc W':=
 ⟨Nat.lt_of_lt_of_le h.lt hu.size,fun j hj=>by
  obtain ⟨v,hv⟩:=h.ex j hj;exact ⟨v,(hu.cell h.lt hT).trans hv⟩,fun j=>(hu.frozen h.lt hT).trans (h.fz j)⟩
theorem Zaw {W W':World} (h:W'=W.alloc (.cells Yb 25)):Rc W.heap.size W':=by
 subst h;refine ⟨by simp,fun j hj=> ?_,fun j=>by simp[go_sem]⟩;rcases j with _ | _ | _ | _ | _ | j
 {exact ⟨.int .i64 0,by simp[go_sem]⟩}
 {exact ⟨.string ⟨#[]⟩,by simp[go_sem]⟩}
 {exact ⟨.string ⟨#[]⟩,by simp[go_sem]⟩}
 {exact ⟨.slice none 0 0,by simp[go_sem]⟩}
 {exact ⟨.slice none 0 0,by simp[go_sem]⟩}
 {omega}
end SubM
end Go.Proofs.YtmeiijjpomcgcaaDoor
namespace Go.Proofs.YtmeiijjpomcgcaaDoor
open Go.RowKit
section
variable {P : Program} {ops : Array Oper} {Q : Exit -> Act -> World -> Prop}
theorem Z2X {d:Nat->Bool} {i j:Nat} (h:j≠i):also d i j=d j:=by
 unfold also;have:Nat.beq j i=false:=by cases hb:Nat.beq j i <;> first | rfl | exact absurd (Nat.eq_of_beq_eq_true hb) h
 rw[this]; rfl
end
end Go.Proofs.YtmeiijjpomcgcaaDoor
namespace Go.Proofs.YtmeiijjpomcgcaaDoor
open Go.RowKit Shp Sub
namespace SubM
def GetIs (n0:Nat) (o:Option Sh) (w:World) (e:Ending) (w':World):Prop:=
 ∃(t:Sh) (q:Ptr),e= .returned (.tuple #[sv t q,.bool o.isSome])/\Below w.heap.size w w'/\ ∀j,o=some j->t=j/\Kept (fun b=>b < n0\/w.heap.size<=b) w' (j,q)
structure GetI (W0:World) (n0:Nat) (tk:Nat->Value->Prop) (c:Nat) (o:Option Sh) (d:Nat->Bool) (u:Nat->Value) (W:World):Prop where
 vals: ∀j,j < c->d j=true->tk j (u j)
 up:Below W0.heap.size W0 W
 al:d (c+4)=true-> ∃g,u (c+4)= .pointer (some ⟨g,0,none⟩)/\W0.heap.size<=g/\g < W.heap.size/\(∀j,W.frozen? ⟨g,j,none⟩=false)/\ ∀j,j < 5-> ∃v,W.cell? ⟨g,j,none⟩=some v
 ca:d c=true-> ∃(t:Sh) (q:Ptr) (W2:World) (s:Nat),u c= .tuple #[sv t q,.bool o.isSome]/\W0.heap.size<=s/\s<=W2.heap.size/\
  (∀j,o=some j->t=j/\Kept (fun b=>b < n0\/s<=b) W2 (j,q))/\
  (d (c+1)=true->u (c+1)=u c)/\(d (c+2)=true->u (c+2)=sv t q)/\(d (c+3)=true->u (c+3)= .bool o.isSome)/\
  Upd (fun b=>d (c+4)=true/\u (c+4)= .pointer (some ⟨b,0,none⟩)) W2 W/\(∀g,d (c+4)=true->u (c+4)= .pointer (some ⟨g,0,none⟩)->g < s\/W2.heap.size<=g)/\(d (c+5)=true-> ∀g,u (c+4)= .pointer (some ⟨g,0,none⟩)->Sh5 W g 0 t q)/\(d (c+6)=true->u (c+6)= .bool o.isSome)
variable {W0 : World} {n0 : Nat} {tk : Nat -> Value -> Prop} {c : Nat} {o : Option Sh} {d : Nat -> Bool} {u : Nat -> Value} {W W' : World}
section
variable (h : GetI W0 n0 tk c o d u W) {i : Nat}
include h i
theorem GetI.putv {v:Value} (hv:tk i v): ∀j,j < c->also d i j=true->tk j (upd u i v j):=fun j hc hj=>by
 by_cases hij:j=i
 {subst hij; rw[Z06]; exact hv}
 {rw[Z08 d hij] at hj; rw[Z02 u v hij]; exact h.vals j hc hj}
theorem GetI.keepv (hi:c<=i) {v:Value}: ∀j,j < c->also d i j=true->tk j (upd u i v j):=fun j hc hj=>by
 have hij:j≠i:=by omega
 rw[Z08 d hij] at hj; rw[Z02 u v hij]; exact h.vals j hc hj
end
theorem GetI.start {W0:World} {u:Nat->Value}:GetI W0 n0 tk c o (fun _=>false) u W0.drew:=⟨nofun,Y2.drew,nofun,nofun⟩
section
variable (h : GetI W0 n0 tk c o d u W)
include h
theorem GetI.pure {i:Nat} (hi:i < c) {v:Value} (hv:tk i v):GetI W0 n0 tk c o (also d i) (upd u i v) W:=by
 have k: ∀j,c<=j->also d i j=d j/\upd u i v j=u j:=fun j hj=>⟨Z08 d (by omega),Z02 u v (by omega)⟩;refine ⟨h.putv hv,h.up, ?_, ?_⟩
 {rw[(k (c+4) (by omega)).1,(k (c+4) (by omega)).2]; exact h.al}
 {rw[(k c (by omega)).1,(k c (by omega)).2,(k (c+1) (by omega)).1,(k (c+1) (by omega)).2,(k (c+2) (by omega)).1,(k (c+2) (by omega)).2,(k (c+3) (by omega)).1,(k (c+3) (by omega)).2,(k (c+4) (by omega)).1,(k (c+4) (by omega)).2,(k (c+5) (by omega)).1,(k (c+6) (by omega)).1,(k (c+6) (by omega)).2];exact h.ca}
theorem GetI.call (h7:d c=false) (hd: ∀j,j=(c+1)\/j=(c+2)\/j=(c+3)\/j=(c+5)\/j=(c+6)->d j=false) {e:Ending} (hb:GetIs n0 o W e W'): ∃v,e= .returned v/\GetI W0 n0 tk c o (also d c) (upd u c v) W':=by
 obtain ⟨t,q,rfl,hbl,hj⟩:=hb;have k: ∀j,j≠c->also d c j=d j/\ ∀v,upd u c v j=u j:=fun j hj=>⟨Z08 d hj,fun v=>Z02 u v hj⟩;refine ⟨_,rfl,h.keepv (by omega),Z03 h.up hbl, ?_,fun _=>⟨t,q,W',W.heap.size,Z06 _ _ _,h.up.size,hbl.size,hj, ?_, ?_, ?_, ?_, ?_, ?_, ?_⟩⟩
 {rw[(k (c+4) (by omega)).1,(k (c+4) (by omega)).2];intro h11;obtain ⟨g,e,g1,g2,g3,g4⟩:=h.al h11;exact ⟨g,e,g1,Nat.lt_of_lt_of_le g2 hbl.size,fun j=>(hbl.frozen (p:=⟨g,j,none⟩) g2).trans (g3 j),fun j hj=>by
   obtain ⟨v,hv⟩:=g4 j hj;exact ⟨v,(hbl.cell (p:=⟨g,j,none⟩) g2).trans hv⟩⟩}
 {rw[(k (c+1) (by omega)).1,hd (c+1) (by omega)]; nofun}
 {rw[(k (c+2) (by omega)).1,hd (c+2) (by omega)]; nofun}
 {rw[(k (c+3) (by omega)).1,hd (c+3) (by omega)]; nofun}
 {exact Upd.refl _ _}
 {rw[(k (c+4) (by omega)).1,(k (c+4) (by omega)).2];intro g h11 e;obtain ⟨g',e',_,g2,_⟩:=h.al h11;rw[e'] at e;simp only[Value.pointer.injEq,Option.some.injEq,Addr.mk.injEq,and_true] at e;omega}
 {rw[(k (c+5) (by omega)).1,hd (c+5) (by omega)]; nofun}
 {rw[(k (c+6) (by omega)).1,hd (c+6) (by omega)]; nofun}
theorem GetI.read (h7:d c=true) {i:Nat} (hi:i=(c+1)\/i=(c+2)\/i=(c+3)\/i=(c+6)) {v:Value} (hd:d i=false) (hv: ∀t q,u c= .tuple #[sv t q,.bool o.isSome]->
 (i=(c+1)->v=u c)/\(i=(c+2)->v=sv t q)/\(i=(c+3)->v= .bool o.isSome)/\(i=(c+6)->v= .bool o.isSome)):GetI W0 n0 tk c o (also d i) (upd u i v) W:=by
 have k: ∀j,j≠i->also d i j=d j/\upd u i v j=u j:=fun j hj=>⟨Z08 d hj,Z02 u v hj⟩;refine ⟨h.keepv (by omega),h.up, ?_, ?_⟩
 {rw[(k (c+4) (by omega)).1,(k (c+4) (by omega)).2]; exact h.al}
 {rw[(k c (by omega)).1,(k c (by omega)).2,(k (c+4) (by omega)).1,(k (c+4) (by omega)).2,(k (c+5) (by omega)).1];intro _;obtain ⟨t,q,W2,s,e7,s1,s2,hj,e8,e9,e10,hu,hg,h12,h13⟩:=h.ca h7;obtain ⟨v8,v9,v10,v13⟩:=hv t q e7;refine ⟨t,q,W2,s,e7,s1,s2,hj,fun hd=> ?_,fun hd=> ?_,fun hd=> ?_,hu,hg,h12,fun hd=> ?_⟩
  {by_cases e:i=(c+1)
   {rw[<-e,Z06]; exact v8 e}
   {rw[(k (c+1) (Ne.symm e)).1] at hd; rw[(k (c+1) (Ne.symm e)).2]; exact e8 hd}}
  {by_cases e:i=(c+2)
   {rw[<-e,Z06]; exact v9 e}
   {rw[(k (c+2) (Ne.symm e)).1] at hd; rw[(k (c+2) (Ne.symm e)).2]; exact e9 hd}}
  {by_cases e:i=(c+3)
   {rw[<-e,Z06]; exact v10 e}
   {rw[(k (c+3) (Ne.symm e)).1] at hd; rw[(k (c+3) (Ne.symm e)).2]; exact e10 hd}}
  {by_cases e:i=(c+6)
   {rw[<-e,Z06]; exact v13 e}
   {rw[(k (c+6) (Ne.symm e)).1] at hd; rw[(k (c+6) (Ne.symm e)).2]; exact h13 hd}}}
end
theorem GetI.alloc (h:GetI W0 n0 tk c o d u W) (h11:d (c+4)=false) (h12:d (c+5)=false):GetI W0 n0 tk c o (also d (c+4)) (upd u (c+4) (.pointer (some ⟨W.heap.size,0,none⟩))) (W.alloc (.cells Yb 25)):=by
 have hb:=Z01 W (.cells Yb 25);have k: ∀j,j≠(c+4)->also d (c+4) j=d j/\ ∀v,upd u (c+4) v j=u j:=fun j hj=>⟨Z08 d hj,fun v=>Z02 u v hj⟩;refine ⟨h.keepv (by omega),Z03 h.up hb,fun _=>⟨W.heap.size,Z06 _ _ _,h.up.size,by simp,fun j=>by simp[go_sem],fun j hj=> ?_⟩, ?_⟩
 {rcases j with _ | _ | _ | _ | _ | j
  {exact ⟨.int .i64 0,by simp[go_sem]⟩}
  {exact ⟨.string ⟨#[]⟩,by simp[go_sem]⟩}
  {exact ⟨.string ⟨#[]⟩,by simp[go_sem]⟩}
  {exact ⟨.slice none 0 0,by simp[go_sem]⟩}
  {exact ⟨.slice none 0 0,by simp[go_sem]⟩}
  {omega}}
 {rw[(k c (by omega)).1,(k c (by omega)).2,(k (c+1) (by omega)).1,(k (c+1) (by omega)).2,(k (c+2) (by omega)).1,(k (c+2) (by omega)).2,(k (c+3) (by omega)).1,(k (c+3) (by omega)).2,(k (c+5) (by omega)).1,(k (c+6) (by omega)).1,(k (c+6) (by omega)).2,Z0r,Z06,h12];intro h7;obtain ⟨t,q,W2,s,e7,s1,s2,hj,e8,e9,e10,hu,hg,_,h13⟩:=h.ca h7;refine ⟨t,q,W2,s,e7,s1,s2,hj,e8,e9,e10, ?_,fun g _ e=> ?_,nofun,h13⟩
  {exact (hu.mono (fun b _ hb=>by rw[h11] at hb; exact absurd hb.1 (by decide))).trans (Upd.new hb)}
  {simp only[Value.pointer.injEq,Option.some.injEq,Addr.mk.injEq,and_true] at e;have:=hu.size;omega}}
theorem GetI.store (h:GetI W0 n0 tk c o d u W) (h7:d c=true) (h11:d (c+4)=true) {g:Nat} (hg:u (c+4)= .pointer (some ⟨g,0,none⟩)) {t:Sh} {q:Ptr} (ht:u c= .tuple #[sv t q,.bool o.isSome])
 (hsv: ∀t' q',sv t' q'=sv t q->t'.kind=t.kind/\t'.of_=t.of_/\t'.name=t.name/\q'.A=q.A/\t'.names.length=t.names.length/\q'.c=q.c/\q'.P=q.P/\t'.parts.length=t.parts.length/\q'.d=q.d):GetI W0 n0 tk c o (also d (c+5)) (upd u (c+5) undef) (RX.lay W g t q):=by
 have k: ∀j,j≠(c+5)->also d (c+5) j=d j/\ ∀v,upd u (c+5) v j=u j:=fun j hj=>⟨Z08 d hj,fun v=>Z02 u v hj⟩;obtain ⟨g',e',g1,g2,g3,g4⟩:=h.al h11;obtain rfl:g'=g:=by rw[hg] at e'; simp at e'; exact e'.symm
 have hu:=RX.lay_upd W g' t q;refine ⟨h.keepv (by omega),h.up.trans (hu.below h.up.size (fun b hb=>by omega)), ?_, ?_⟩
 {rw[(k (c+4) (by omega)).1,(k (c+4) (by omega)).2];intro _;have hl:=RX.lay_at t q g4;obtain ⟨l0,l1,l2,l3,l4⟩:=hl;simp only[Nat.zero_add] at l0 l1 l2 l3 l4;refine ⟨g',hg,g1,by rw[RX.lay_size]; exact g2,fun j=>(RX.lay_fz W g' t q j).trans (g3 j),fun j hj=> ?_⟩;rcases j with _ | _ | _ | _ | _ | j
  {exact ⟨_,l0⟩}
  {exact ⟨_,l1⟩}
  {exact ⟨_,l2⟩}
  {exact ⟨_,l3⟩}
  {exact ⟨_,l4⟩}
  {omega}}
 {rw[(k c (by omega)).1,(k c (by omega)).2,(k (c+1) (by omega)).1,(k (c+1) (by omega)).2,(k (c+2) (by omega)).1,(k (c+2) (by omega)).2,(k (c+3) (by omega)).1,(k (c+3) (by omega)).2,(k (c+4) (by omega)).1,(k (c+4) (by omega)).2,(k (c+6) (by omega)).1,(k (c+6) (by omega)).2];intro _;obtain ⟨t',q',W2,s,e7,s1,s2,hj,e8,e9,e10,hu2,hgs,_,h13⟩:=h.ca h7;refine ⟨t',q',W2,s,e7,s1,s2,hj,e8,e9,e10,hu2.trans (hu.mono (fun b _ hb=>⟨h11,by rw[hb,hg]⟩)),hgs,fun _ g2 e=> ?_,h13⟩;obtain rfl:g'=g2:=by rw[hg] at e; simpa using e
  have e72:sv t' q'=sv t q:=by
   rw[ht] at e7;simp only[Value.tuple.injEq] at e7;have:=congrArg (fun a:Array Value=>a[0]?) e7;simp at this;simp[sv];exact ⟨this.1.symm,this.2.1.symm,this.2.2.1.symm,⟨this.2.2.2.1.1.symm,this.2.2.2.1.2.1.symm,this.2.2.2.1.2.2.symm⟩,this.2.2.2.2.1.symm,this.2.2.2.2.2.1.symm,this.2.2.2.2.2.2.symm⟩
  obtain ⟨c1,c2,c3,c4,c5,c6,c7,c8,c9⟩:=hsv t' q' e72;obtain ⟨l0,l1,l2,l3,l4⟩:=RX.lay_at t q g4;exact ⟨by rw[c1]; exact l0,by rw[c2]; exact l1,by rw[c3]; exact l2,by rw[c4,c5,c6]; exact l3,by rw[c7,c8,c9]; exact l4⟩}
end SubM
end Go.Proofs.YtmeiijjpomcgcaaDoor
namespace Go.Proofs.YtmeiijjpomcgcaaDoor
namespace Expd
open Shp
structure Bd where
 of_:List UInt8
 name:List UInt8
 sh:Sh
def find:List Bd->List UInt8->List UInt8->Option Sh
 | [],_,_=>none
 | b::l,o,n=>match find l o n with
  | some s=>some s
  | none=>if b.of_=o/\b.name=n then some b.sh else none
abbrev Look:=List UInt8->List UInt8->Option Sh
mutual
def put (f:Look):Sh->Option Sh
 | ⟨k,o,n,ns,ps⟩=>if k=9 then f o n else match puts f ps with
  | none=>none
  | some qs=>some ⟨k,o,n,ns,qs⟩
def puts (f:Look):List Sh->Option (List Sh)
 | []=>some []
 | p::ps=>match put f p with
  | none=>none
  | some q=>match puts f ps with
   | none=>none
   | some qs=>some (q::qs)
end
mutual
def fill (f:Look):Sh->Sh
 | ⟨k,o,n,ns,ps⟩=>if k=9 then (f o n).getD ⟨k,o,n,ns,ps⟩ else ⟨k,o,n,ns,fills f ps⟩
def fills (f:Look):List Sh->List Sh
 | []=> []
 | p::ps=>fill f p::fills f ps
end
mutual
def keys:Sh->List (List UInt8×List UInt8)
 | ⟨k,o,n,_,ps⟩=>if k=9 then [(o,n)] else keyss ps
def keyss:List Sh->List (List UInt8×List UInt8)
 | []=> []
 | p::ps=>keys p++keyss ps
end
theorem Zax (f:Look) (l:List Sh):fills f l=l.map (fill f):=by
 induction l with
 | nil=>rfl
 | cons a l ih=>simp[fills,ih]
theorem Z9b (l:List Sh):keyss l=l.flatMap keys:=by
 induction l with
 | nil=>rfl
 | cons a l ih=>simp[keyss,ih]
theorem put_eq (f:Look) (t:Sh):put f t=if t.kind=9 then f t.of_ t.name else match puts f t.parts with
 | none=>none
 | some qs=>some ⟨t.kind,t.of_,t.name,t.names,qs⟩:=by cases t; rfl
theorem Z8q (f:Look) (t:Sh):fill f t=if t.kind=9 then (f t.of_ t.name).getD t else ⟨t.kind,t.of_,t.name,t.names,t.parts.map (fill f)⟩:=by
 cases t; rw[<-Zax]; rfl
theorem Z5q (t:Sh):keys t=if t.kind=9 then [(t.of_,t.name)] else t.parts.flatMap keys:=by
 cases t; rw[<-Z9b]; rfl
theorem fill_name {f:Look} {t:Sh} (h:t.kind=9):fill f t=(f t.of_ t.name).getD t:=by rw[Z8q,if_pos h]
theorem fill_node {f:Look} {t:Sh} (h: ¬t.kind=9):fill f t=⟨t.kind,t.of_,t.name,t.names,t.parts.map (fill f)⟩:=by rw[Z8q,if_neg h]
theorem keys_name {t:Sh} (h:t.kind=9):keys t= [(t.of_,t.name)]:=by rw[Z5q,if_pos h]
theorem keys_node {t:Sh} (h: ¬t.kind=9):keys t=t.parts.flatMap keys:=by rw[Z5q,if_neg h]
theorem Z42 {t p:Sh} (h: ¬t.kind=9) (hp:p∈t.parts) {k:List UInt8×List UInt8} (hk:k∈keys p):k∈keys t:=by
 rw[keys_node h]; exact List.mem_flatMap.2 ⟨p,hp,hk⟩
section
variable {f : Look}
include f
theorem puts_some {l:List Sh} (h: ∀p∈l,put f p=some (fill f p)):puts f l=some (l.map (fill f)):=by
 induction l with
 | nil=>rfl
 | cons a l ih=>
  unfold puts;rw[h a (by simp),ih (fun p hp=>h p (by simp[hp]))];rfl
theorem puts_none {l:List Sh} {p:Sh} (hp:p∈l) (h:put f p=none):puts f l=none:=by
 induction l with
 | nil=>cases hp
 | cons a l ih=>
  unfold puts;rcases List.mem_cons.1 hp with rfl | hp
  {rw[h]}
  {rw[ih hp];cases put f a <;> rfl}
theorem put_some (t:Sh): (∀k∈keys t,(f k.1 k.2).isSome=true)->put f t=some (fill f t):=by
 induction t using Sh.ind with
 | h t ih=>
  intro h;by_cases hk:t.kind=9
  {rw[put_eq,if_pos hk,fill_name hk];have:=h (t.of_,t.name) (by rw[keys_name hk]; simp);cases e:f t.of_ t.name with
   | none=>rw[e] at this; cases this
   | some s=>rfl}
  {rw[put_eq,if_neg hk,fill_node hk,puts_some (fun p hp=>ih p hp (fun k hkk=>h k (Z42 hk hp hkk)))]}
theorem put_none (t:Sh) {k:List UInt8×List UInt8}:k∈keys t->f k.1 k.2=none->put f t=none:=by
 induction t using Sh.ind with
 | h t ih=>
  intro hm hn;by_cases hk:t.kind=9
  {rw[keys_name hk,List.mem_singleton] at hm;rw[put_eq,if_pos hk];rw[hm] at hn; exact hn}
  {rw[keys_node hk] at hm;obtain ⟨p,hp,hm⟩:=List.mem_flatMap.1 hm;rw[put_eq,if_neg hk,puts_none hp (ih p hp hm hn)]}
end
theorem Z6N (f:Look) (t:Sh): (∀k∈keys t,(f k.1 k.2).isSome=true)\/ ∃k∈keys t,f k.1 k.2=none:=by
 by_cases h: ∀k∈keys t,(f k.1 k.2).isSome=true
 {exact Or.inl h}
 {refine Or.inr ?_;simp only[Classical.not_forall] at h;obtain ⟨k,hk,h⟩:=h;refine ⟨k,hk, ?_⟩;cases e:f k.1 k.2 with
  | none=>rfl
  | some s=>rw[e] at h; exact absurd rfl h}
theorem Zay (f:Look) (t:Sh):put f t=none\/(∀k∈keys t,(f k.1 k.2).isSome=true)/\put f t=some (fill f t):=by
 rcases Z6N f t with h | ⟨k,h1,h2⟩
 {exact Or.inr ⟨h,put_some t h⟩}
 {exact Or.inl (put_none t h1 h2)}
theorem put_got {f:Look} {t u:Sh} (h:put f t=some u): (∀k∈keys t,(f k.1 k.2).isSome=true)/\u=fill f t:=by
 rcases Zay f t with h1 | ⟨h1,h2⟩
 {rw[h1] at h; cases h}
 {rw[h2] at h; exact ⟨h1,(Option.some.inj h).symm⟩}
def Z0L:Sh:=⟨0,[],[],[],[]⟩
def resolve (env:List Bd) (t:Sh):Sh×Int:=
 if check t≠0 then (Z0L,check t) else match put (find env) t with
  | none=>(Z0L,110)
  | some u=>if check u≠0 then (Z0L,check u) else (sorted u,0)
section
variable {env : List Bd}
include env
theorem resolve_bad {t:Sh} (h:check t≠0):resolve env t=(Z0L,check t):=by unfold resolve; rw[if_pos h]
theorem resolve_name {t:Sh} (h:check t=0) (h1:put (find env) t=none):resolve env t=(Z0L,110):=by unfold resolve; rw[if_neg (by simpa using h),h1]
theorem resolve_great {t u:Sh} (h:check t=0) (h1:put (find env) t=some u) (h2:check u≠0):resolve env t=(Z0L,check u):=by
 unfold resolve; rw[if_neg (by simpa using h),h1]; simp only; rw[if_pos h2]
theorem resolve_ok {t u:Sh} (h:check t=0) (h1:put (find env) t=some u) (h2:check u=0):resolve env t=(sorted u,0):=by
 unfold resolve; rw[if_neg (by simpa using h),h1]; simp only; rw[if_neg (by simpa using h2)]
end
theorem put_like {f g:Look} (t:Sh): (∀k∈keys t,f k.1 k.2=g k.1 k.2)->put f t=put g t:=by
 intro h;rcases Z6N f t with h1 | ⟨k,h1,h2⟩
 {rw[put_some t h1,put_some t (fun k hk=>by rw[<-h k hk]; exact h1 k hk)];congr 1;clear h1;induction t using Sh.ind with
  | h t ih=>
   by_cases hk:t.kind=9
   {rw[fill_name hk,fill_name hk,h (t.of_,t.name) (by rw[keys_name hk]; simp)]}
   {rw[fill_node hk,fill_node hk];congr 1;exact List.map_congr_left (fun p hp=>ih p hp (fun k hkk=>h k (Z42 hk hp hkk)))}}
 {rw[put_none t h1 h2,put_none t h1 (by rw[<-h k h1]; exact h2)]}
theorem find_append (l m:List Bd) (o n:List UInt8):find (l++m) o n=match find m o n with | some s=>some s | none=>find l o n:=by
 induction l with
 | nil=>cases h:find m o n <;> simp[find,h]
 | cons b l ih=>
  simp only[List.cons_append,find];rw[ih];cases h:find m o n <;> simp[find]
theorem find_cons (b:Bd) (m:List Bd) (o n:List UInt8):find (b::m) o n=match find m o n with | some s=>some s | none=>if b.of_=o/\b.name=n then some b.sh else none:=rfl
theorem name_bare {t:Sh} (h:right t=true) (hk:t.kind=9):t.names= []/\t.parts= []:=by
 have:=Z0b h;rw[Z29 (Or.inl hk)] at this;simp only[Bool.and_eq_true,decide_eq_true_eq] at this;exact ⟨List.eq_nil_of_length_eq_zero this.1.2,List.eq_nil_of_length_eq_zero this.2⟩
structure It where
 kind:Int
 name:List UInt8
 sh:Sh
def opq (o n:List UInt8):Sh:=⟨10,o,n,[],[]⟩
def bindOf (o:List UInt8) (i:It):Option Bd:=if i.kind=1 then some ⟨o,i.name,i.sh⟩ else if i.kind=2 then some ⟨o,i.name,opq o i.name⟩ else none
def types (o:List UInt8) (l:List It):List Bd:=l.filterMap (bindOf o)
def declare (env:List Bd) (self:List UInt8) (kind:Int) (name:List UInt8) (t:Sh):List Bd×Int:=
 if kind≠1/\kind≠2 then (env,0)
 else if (resolve env t).2≠0 then ([],(resolve env t).2)
 else (env++ [⟨[],name,if kind=2 then opq self name else (resolve env t).1⟩],0)
end Expd
end Go.Proofs.YtmeiijjpomcgcaaDoor
namespace Go.Proofs.YtmeiijjpomcgcaaDoor
section
open Go.RowKit Shp
open Expd (Bd It)
theorem Z1t (s:ByteArray):s.data.toList.length=s.size:=by rw[<-Lib.size_eq]
def BdAt (w:World) (B g o:Nat) (b:Bd) (q:Ptr):Prop:=
 w.cell? ⟨g,o,none⟩=some (.string ⟨b.of_.toArray⟩)/\w.cell? ⟨g,o+1,none⟩=some (.string ⟨b.name.toArray⟩)/\Sh5 w g (o+2) b.sh q/\ShAt w B q b.sh/\b.of_.length<=9223372036854775807/\b.name.length<=9223372036854775807
theorem BdAt.of {w w':World} {B B' g o:Nat} {b:Bd} {q:Ptr} (h:BdAt w B g o b q) (hB:B<=B') (hg:g < B) (hc: ∀g k,g < B->w'.cell? ⟨g,k,none⟩=w.cell? ⟨g,k,none⟩):BdAt w' B' g o b q:=
 ⟨(hc _ _ hg).trans h.1,(hc _ _ hg).trans h.2.1,h.2.2.1.of (fun k=>hc g k hg),h.2.2.2.1.of hB hc,h.2.2.2.2⟩
def BdsAt (w:World) (B:Nat) (A:Option Addr) (l:List Bd):Prop:=
 l.length=0\/ ∃(g off:Nat) (qs:Nat->Ptr),A=some ⟨g,off,none⟩/\g < B/\ ∀i (h:i < l.length),BdAt w B g (off+i * 7) (l[i]'h) (qs i)
theorem BdsAt.of {w w':World} {B B':Nat} {A:Option Addr} {l:List Bd} (h:BdsAt w B A l) (hB:B<=B') (hc: ∀g k,g < B->w'.cell? ⟨g,k,none⟩=w.cell? ⟨g,k,none⟩):BdsAt w' B' A l:=by
 rcases h with h | ⟨g,off,qs,h1,h2,h3⟩
 {exact Or.inl h}
 {exact Or.inr ⟨g,off,qs,h1,Nat.lt_of_lt_of_le h2 hB,fun i hi=>(h3 i hi).of hB h2 hc⟩}
theorem BdsAt.keep {w w':World} {B B':Nat} {A:Option Addr} {l:List Bd} (h:BdsAt w B A l) (hb:Below B' w w') (hB:B<=B'):BdsAt w' B A l:=
 h.of (Nat.le_refl _) (fun g k hg=>hb.cell (p:=⟨g,k,none⟩) (Nat.lt_of_lt_of_le hg hB))
theorem BdsAt.next {w w':World} {A:Option Addr} {l:List Bd} (h:BdsAt w w.heap.size A l) (hb:Below w.heap.size w w'):BdsAt w' w'.heap.size A l:=
 h.of hb.size (fun g k hg=>hb.cell (p:=⟨g,k,none⟩) hg)
section
variable {H : Type} {enc : TypeId × Value -> H} {W : World} {base : Nat} {held : Bool}
theorem Z3A {fuel:Nat} {cs:List Value} {x:DataW H×List MemPlace} (h:DataW.trod enc Tryd.prog W base (fun _=>true) held fuel 54 cs=some x):
 ∃(b:Bd) (q:Ptr),cs= [(.string ⟨b.of_.toArray⟩),.string ⟨b.name.toArray⟩,.int .i64 b.sh.kind,.string ⟨b.sh.of_.toArray⟩,.string ⟨b.sh.name.toArray⟩,.slice q.A b.sh.names.length q.c,.slice q.P b.sh.parts.length q.d]/\ShAt W W.heap.size q b.sh/\b.of_.length<=9223372036854775807/\b.name.length<=9223372036854775807:=by
 obtain ⟨xs,n,hn,_,hlen,hxl,hf⟩:=DataW.trod_struct Tryd.underlying54 h;have hC:Tryd.prog.cellsOf 54=7:=by kernel_rfl
 have c0:Tryd.prog.cellsOf 9=1:=by kernel_rfl
 have c1:Tryd.prog.cellsOf 9=1:=by kernel_rfl
 have c2:Tryd.prog.cellsOf 25=5:=by kernel_rfl
 rw[hC] at hlen
 match cs,hlen with
 | [a0,a1,a2,a3,a4,a5,a6],_=>
  have f0:=hf 0 _ rfl;have f1:=hf 1 _ rfl;have f2:=hf 2 _ rfl;have hz:xs.length=3:=hxl;change DataW.trod enc _ W base _ held n 9 (([a0,a1,a2,a3,a4,a5,a6].drop 0).take (Tryd.prog.cellsOf 9))=_ at f0;change DataW.trod enc _ W base _ held n 9 (([a0,a1,a2,a3,a4,a5,a6].drop 1).take (Tryd.prog.cellsOf 9))=_ at f1;change DataW.trod enc _ W base _ held n 25 (([a0,a1,a2,a3,a4,a5,a6].drop 2).take (Tryd.prog.cellsOf 25))=_ at f2;rw[c0,List.getElem?_eq_getElem (by omega)] at f0;rw[c1,List.getElem?_eq_getElem (by omega)] at f1;rw[c2,List.getElem?_eq_getElem (by omega)] at f2;obtain ⟨b0,hb0,_,hm0⟩:=DataW.trod_string Tryd.underlying9 f0;obtain ⟨b1,hb1,_,hm1⟩:=DataW.trod_string Tryd.underlying9 f1;obtain ⟨t,q,hb2,hat⟩:=Z2e _ f2;simp at hb0 hb1 hb2;obtain ⟨h2,h3,h4,h5,h6⟩:=hb2;subst hb0 hb1 h2 h3 h4 h5 h6;exact ⟨⟨b0.data.toList,b1.data.toList,t⟩,q,rfl,hat,by unfold maxLen at hm0; rw[Z1t]; exact hm0,by unfold maxLen at hm1; rw[Z1t]; exact hm1⟩
end
def ItAt (w:World) (B g o:Nat) (b:It) (q:Ptr):Prop:=
 w.cell? ⟨g,o,none⟩=some (.int .i64 b.kind)/\w.cell? ⟨g,o+1,none⟩=some (.string ⟨b.name.toArray⟩)/\Sh5 w g (o+2) b.sh q/\ShAt w B q b.sh/\True/\b.name.length<=9223372036854775807
theorem ItAt.of {w w':World} {B B' g o:Nat} {b:It} {q:Ptr} (h:ItAt w B g o b q) (hB:B<=B') (hg:g < B) (hc: ∀g k,g < B->w'.cell? ⟨g,k,none⟩=w.cell? ⟨g,k,none⟩):ItAt w' B' g o b q:=
 ⟨(hc _ _ hg).trans h.1,(hc _ _ hg).trans h.2.1,h.2.2.1.of (fun k=>hc g k hg),h.2.2.2.1.of hB hc,h.2.2.2.2⟩
def ItsAt (w:World) (B:Nat) (A:Option Addr) (l:List It):Prop:=
 l.length=0\/ ∃(g off:Nat) (qs:Nat->Ptr),A=some ⟨g,off,none⟩/\g < B/\ ∀i (h:i < l.length),ItAt w B g (off+i * 7) (l[i]'h) (qs i)
theorem ItsAt.of {w w':World} {B B':Nat} {A:Option Addr} {l:List It} (h:ItsAt w B A l) (hB:B<=B') (hc: ∀g k,g < B->w'.cell? ⟨g,k,none⟩=w.cell? ⟨g,k,none⟩):ItsAt w' B' A l:=by
 rcases h with h | ⟨g,off,qs,h1,h2,h3⟩
 {exact Or.inl h}
 {exact Or.inr ⟨g,off,qs,h1,Nat.lt_of_lt_of_le h2 hB,fun i hi=>(h3 i hi).of hB h2 hc⟩}
theorem ItsAt.keep {w w':World} {B B':Nat} {A:Option Addr} {l:List It} (h:ItsAt w B A l) (hb:Below B' w w') (hB:B<=B'):ItsAt w' B A l:=
 h.of (Nat.le_refl _) (fun g k hg=>hb.cell (p:=⟨g,k,none⟩) (Nat.lt_of_lt_of_le hg hB))
theorem ItsAt.next {w w':World} {A:Option Addr} {l:List It} (h:ItsAt w w.heap.size A l) (hb:Below w.heap.size w w'):ItsAt w' w'.heap.size A l:=
 h.of hb.size (fun g k hg=>hb.cell (p:=⟨g,k,none⟩) hg)
end
end Go.Proofs.YtmeiijjpomcgcaaDoor
namespace Go.Proofs.YtmeiijjpomcgcaaDoor
open Go.RowKit Shp
open Expd (Bd It)
section
variable {H : Type} {enc : TypeId × Value -> H} {W : World} {base : Nat} {held : Bool}
theorem Z9f {fuel:Nat} {cs:List Value} {x:DataW H×List MemPlace} (h:DataW.trod enc Tryd.prog W base (fun _=>true) held fuel 26 cs=some x):
 ∃(A:Option Addr) (l:List Bd) (c:Nat),cs= [.slice A l.length c]/\BdsAt W W.heap.size A l/\l.length<=9223372036854775807/\l.length<=c/\(A=none->c=0):=by
 rcases Go.Deep.open_slice Tryd.underlying26 h with ⟨hcs,_⟩ | ⟨a,len,cap,m,n,D,Pl,hcs,hb,hl,hm,hmm,hx,hi⟩
 {exact ⟨none,[],0,hcs,Or.inl rfl,Nat.zero_le _,Nat.zero_le _,fun _=>rfl⟩}
 {have hC:Tryd.prog.cellsOf 54=7:=by kernel_rfl
  unfold maxLen at hm;have hmc:m=cap:=by simpa using hmm
  subst hmc;have hv: ∀i,∃u:Bd×Ptr,i < m->W.cell? (a.add (i * 7+0))=some (.string ⟨u.1.of_.toArray⟩)/\W.cell? (a.add (i * 7+1))=some (.string ⟨u.1.name.toArray⟩)/\W.cell? (a.add (i * 7+2))=some (.int .i64 u.1.sh.kind)/\W.cell? (a.add (i * 7+3))=some (.string ⟨u.1.sh.of_.toArray⟩)/\W.cell? (a.add (i * 7+4))=some (.string ⟨u.1.sh.name.toArray⟩)/\
   W.cell? (a.add (i * 7+5))=some (.slice u.2.A u.1.sh.names.length u.2.c)/\W.cell? (a.add (i * 7+6))=some (.slice u.2.P u.1.sh.parts.length u.2.d)/\ShAt W W.heap.size u.2 u.1.sh/\u.1.of_.length<=9223372036854775807/\u.1.name.length<=9223372036854775807:=by
   intro i;by_cases him:i < m
   {obtain ⟨cs',hc,ht⟩:=hi i him;rw[hC] at hc;obtain ⟨u,q,rfl,hat⟩:=Z3A ht;obtain ⟨_,hcl,hat'⟩:=World.cells?_some hc;refine ⟨(u,q),fun _=>⟨?_, ?_, ?_, ?_, ?_, ?_, ?_,hat⟩⟩
    {rw[<-Go.Deep.add_add]; exact hat' 0 (by omega)}
    {rw[<-Go.Deep.add_add]; exact hat' 1 (by omega)}
    {rw[<-Go.Deep.add_add]; exact hat' 2 (by omega)}
    {rw[<-Go.Deep.add_add]; exact hat' 3 (by omega)}
    {rw[<-Go.Deep.add_add]; exact hat' 4 (by omega)}
    {rw[<-Go.Deep.add_add]; exact hat' 5 (by omega)}
    {rw[<-Go.Deep.add_add]; exact hat' 6 (by omega)}}
   {exact ⟨(⟨[],[],⟨0,[],[],[],[]⟩⟩,⟨none,0,none,0⟩),fun h=>absurd h him⟩}
  let f:=fun i=>(hv i).choose
  have hf2: ∀i,i < m->W.cell? (a.add (i * 7+0))=some (.string ⟨(f i).1.of_.toArray⟩)/\W.cell? (a.add (i * 7+1))=some (.string ⟨(f i).1.name.toArray⟩)/\W.cell? (a.add (i * 7+2))=some (.int .i64 (f i).1.sh.kind)/\W.cell? (a.add (i * 7+3))=some (.string ⟨(f i).1.sh.of_.toArray⟩)/\W.cell? (a.add (i * 7+4))=some (.string ⟨(f i).1.sh.name.toArray⟩)/\
   W.cell? (a.add (i * 7+5))=some (.slice (f i).2.A (f i).1.sh.names.length (f i).2.c)/\W.cell? (a.add (i * 7+6))=some (.slice (f i).2.P (f i).1.sh.parts.length (f i).2.d)/\ShAt W W.heap.size (f i).2 (f i).1.sh/\(f i).1.of_.length<=9223372036854775807/\(f i).1.name.length<=9223372036854775807:=fun i=>(hv i).choose_spec
  have hln: ((List.range len).map fun i=>(f i).1).length=len:=by simp
  refine ⟨some a,(List.range len).map fun i=>(f i).1,m,by rw[hln]; exact hcs, ?_,by rw[hln]; omega,by rw[hln]; exact hl,nofun⟩;by_cases h0:len=0
  {exact Or.inl (by simp[h0])}
  {obtain ⟨b,off,spot⟩:=a;have h1:=(hf2 0 (by omega)).1;have hspot:spot=none:=by simpa[Addr.add] using World.cell?_spot h1
   subst hspot;have hplain: ∀k,(⟨b,off,none⟩:Addr).add k=⟨b,off+k,none⟩:=fun k=>Z0d b off k;refine Or.inr ⟨b,off,fun i=>(f i).2,rfl, ?_,fun i hi'=> ?_⟩
   {rw[hplain] at h1;rcases Nat.lt_or_ge b W.heap.size with h' | h'
    {exact h'}
    {simp[World.cell?,Array.getElem?_eq_none h'] at h1}}
   {have hin:i < len:=by simpa using hi'
    obtain ⟨g0,g1,g2,g3,g4,g5,g6,g7⟩:=hf2 i (by omega);rw[hplain] at g0 g1 g2 g3 g4 g5 g6;simp only[List.getElem_map,List.getElem_range];exact ⟨g0,by rw[<-g1]; congr 2,⟨by rw[<-g2]; congr 2,by rw[<-g3]; congr 2,by rw[<-g4]; congr 2,by rw[<-g5]; congr 2,by rw[<-g6]; congr 2⟩,g7⟩}}}
theorem Z9g {A:Option Addr} {n c:Nat} {d:DataW H} {p:List MemPlace} (h:DataW.Trod enc Tryd.prog W base (fun _=>true) held 26 (.slice A n c) d p):
 ∃l:List Bd,n=l.length/\BdsAt W W.heap.size A l/\l.length<=9223372036854775807/\l.length<=c/\(A=none->c=0):=by
 obtain ⟨fuel,hf⟩:=h;obtain ⟨A',l,c',hcs,h1,h2,h3,h4⟩:=Z9f hf;simp[Value.cells] at hcs;obtain ⟨rfl,rfl,rfl⟩:=hcs;exact ⟨l,rfl,h1,h2,h3,h4⟩
end
end Go.Proofs.YtmeiijjpomcgcaaDoor
