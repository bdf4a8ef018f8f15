/- What the proofs of GradualBetweens want, part 5. -/
import Derived.Test.YtlomianlcnmfgaaGreatDoorK0n4
set_option linter.unusedVariables false
set_option linter.unusedSimpArgs false
set_option linter.unusedSectionVars false
set_option maxRecDepth 100000
set_option maxHeartbeats 16000000
namespace Go.Proofs.YtlomianlcnmfgaaGreatDoor
section
open Go.RowKit Shp Go.Sort
theorem Z7v (t:Sh) (q:Ptr) (w:World) (h0:t.names.length=0):
 Y9 82 #[.iface 70 (.agg (Y8 t q))] w (.tuple #[]):=by
 have H:Srt t.names.length w.heap.size (.agg (Y8 t q)) ltEl (fun d w1=>d.size=t.names.length/\Below w.heap.size w w1):= {
  less:=fun d w1 i j h hi0 hi=>absurd hi (by omega)
  swap:=fun d w1 i j h hi0 hi=>absurd hi (by omega)
  size:=fun d w1 h=>h.1
  big:=by omega
  base:=fun d w1 h=>h.2.size
  keep:=fun d w1 w2 h hb=>⟨h.1,h.2.trans hb⟩
  mL:=fmL t q
  mS:=fmS t q }
 exact (Z4U H Za4 (fmN t q) (fun d w1 h=>(Z5r t q w1).mono fun e w2 ⟨he,hb⟩=>⟨he,h.1,Z00 h.2 hb⟩) #[] w ⟨by rw[h0]; rfl,Below.refl _ _⟩).mono fun e w' ⟨he,d',_,_,h⟩=>⟨he,h.2⟩
def els (t:Sh) (qs:Nat->Ptr) (Fs:Nat->List Nat):Array El:=((List.range t.names.length).map fun i=>(⟨t.names.getD i [],t.parts.getD i ⟨0,[],[],[],[]⟩,qs i,Fs i⟩:El)).toArray
section
variable (t : Sh) (qs : Nat -> Ptr) (Fs : Nat -> List Nat)
include t qs Fs
theorem Z3x: (els t qs Fs).size=t.names.length:=by simp[els]
theorem Z6h (i:Nat) (h:i < t.names.length) (h2:i < t.parts.length): (els t qs Fs)[i]! =⟨t.names[i],t.parts[i],qs i,Fs i⟩:=by
 rw[getElem!_pos (els t qs Fs) i (by rw[Z3x]; exact h)];simp[els,h,h2]
end
theorem Z8M (t:Sh) (q:Ptr) (qs:Nat->Ptr) (Fs:Nat->List Nat) (bn bp:Nat) (w:World) (hA:q.A=some ⟨bn,0,none⟩) (hP:q.P=some ⟨bp,0,none⟩) (hl:t.names.length=t.parts.length) (hN:t.names.length < 400000)
    (ht:TxR w bn t.names) (hp:PaR w bp t.parts qs) (hne:bn≠bp):
    Calls Tryz.prog 82 #[.iface 70 (.agg #[.int .i64 t.kind,.string ⟨t.of_.toArray⟩,.string ⟨t.name.toArray⟩,.slice q.A t.names.length q.c,.slice q.P t.parts.length q.d])] w fun e w'=>e= .returned (.tuple #[])/\
      ∃d',PermIn 0 t.names.length (els t qs Fs) d'/\SortedIn ltEl 0 t.names.length d'/\FSt w bn bp t.names.length d' w':=by
  have hlen:=Z5r t q;have mN:=fmN t q;rw[hA,hP] at hlen mN ⊢;have H:=Z8L w bn bp t.names.length t.kind t.of_ t.name q.c t.parts.length q.d hN (by omega) (by omega);refine Z4U H Za4 mN (fun d w1 h=>(hlen w1).mono fun e w2 ⟨he,hb⟩=>⟨he,h.keep (hb.mono h.up.size)⟩) (els t qs Fs) w ?_;exact ⟨Z3x t qs Fs,fun i hi=>by rw[Z6h t qs Fs i hi (by omega)]; exact ht.at_ i hi,fun i hi=>by rw[Z6h t qs Fs i hi (by omega)]; exact hp.at_ i (by omega),ht.fz,hp.fz,ht.lt,hp.lt,hne,Up2.refl _ _ _⟩
theorem Z8N {N:Nat} {d d':Array El} (h:PermIn 0 N d d') (hN:d.size=N):d'.toList.Perm d.toList:=by
 obtain ⟨h1,_,h3⟩:=h;have e:d.extract 0 N=d:=by rw[<-hN]; exact Array.extract_size
 have e':d'.extract 0 N=d':=by rw[<-hN, <-h1]; exact Array.extract_size
 rwa [e,e'] at h3
theorem Z6i {N:Nat} {d:Array El} (h:SortedIn ltEl 0 N d) (hN:d.size=N): (d.toList.map fun x=>(x.n,x.t)).Pairwise (fun a b:Fld=>a.1<=b.1):=by
 rw[List.pairwise_map,List.pairwise_iff_getElem];intro i j hi hj hij;have:=h i j (Nat.zero_le _) hij (by simpa[hN] using hj);simp only[ltEl,decide_eq_false_iff_not,List.not_lt] at this;rw[getElem!_pos d i (by simpa using hi),getElem!_pos d j (by simpa using hj)] at this;simpa using this
theorem Z8O {t t':Sh} {q:Ptr} (h:Small t q) (ho:t'.of_=t.of_) (hn:t'.name=t.name) (hns:t'.names.Perm t.names) (hp:t'.parts.length=t.parts.length):Small t' q:=by
 have hl:=hns.length_eq;obtain ⟨h1,h2,h3,h4,h5,h6,h7,h8,h9⟩:=h;exact ⟨by rw[ho]; exact h1,by rw[hn]; exact h2,fun x hx=>h3 x (hns.mem_iff.1 hx),by rw[hl]; exact h4,by rw[hp]; exact h5,by rw[hl]; exact h6,by rw[hp]; exact h7,h8,h9⟩
theorem Zb8 {w0 W:World} {t:Sh} {q:Ptr} {bn bp N:Nat} {qs:Nat->Ptr} {Fs:Nat->List Nat} {d:Array El} (hA:q.A=some ⟨bn,0,none⟩) (hP:q.P=some ⟨bp,0,none⟩) (hs:Small t q)
 (hN:t.names.length=N) (hN2:t.parts.length=N) (hf:FSt w0 bn bp N d W) (hp:d.toList.Perm (els t qs Fs).toList) (hr: ∀i (h:i < t.parts.length),Own W (qs i) (t.parts[i]'h) (Fs i)):
 Own W q ⟨t.kind,t.of_,t.name,d.toList.map El.n,d.toList.map El.t⟩ ([bn]++ [bp]++d.toList.flatMap El.F)/\([bn]++ [bp]++d.toList.flatMap El.F).Perm ([bn]++ [bp]++(List.range t.parts.length).flatMap Fs):=by
 have hsz:=hf.size;have hall: ∀x∈d.toList,Own W x.q x.t x.F:=fun x hx=>by
  have hx2:=hp.mem_iff.1 hx;obtain ⟨i,hi,rfl⟩:=List.getElem_of_mem hx2;have hi2:i < t.names.length:=by simpa[els] using hi
  have:=Z6h t qs Fs i hi2 (by omega);rw[getElem!_pos (els t qs Fs) i (by rw[Z3x]; exact hi2)] at this;rw[Array.getElem_toList,this];exact hr i (by omega)
 have hen: ((els t qs Fs).toList.map El.n)=t.names:=by
  apply List.ext_getElem
  {simp[els]}
  {intro i h1 h2;simp[els,h2]}
 have heF: (els t qs Fs).toList.flatMap El.F=(List.range t.parts.length).flatMap Fs:=by
  rw[hN2, <-hN];simp[els,List.flatMap_map]
 have hget: ∀i (h:i < d.toList.length),d[i]! =d.toList[i]'h:=fun i h=>by
  rw[getElem!_pos d i (by simpa using h)];simp
 refine ⟨.mk q _ _ [bn] [bp] (fun i=>(d[i]!).q) (fun i=>(d[i]!).F) (Z8O hs rfl rfl ((hp.map El.n).trans (by rw[hen])) (by simp; omega)) ?_ ?_ ?_ ?_, ?_⟩
 {refine Or.inr ⟨bn,hA,rfl,Nat.lt_of_lt_of_le hf.ln hf.up.size,fun i hi=> ?_,hf.fn⟩;have hi2:i < d.toList.length:=by simpa using hi
  rw[hf.tx i (by simpa[hsz] using hi2),hget i hi2];simp}
 {refine Or.inr ⟨bp,hP,rfl,Nat.lt_of_lt_of_le hf.lp hf.up.size,fun i hi=> ?_,hf.fp⟩;have hi2:i < d.toList.length:=by simpa using hi
  have:=hf.pa i (by simpa[hsz] using hi2);rw[hget i hi2] at this;simpa[hget i hi2] using this}
 {intro i hi;have hi2:i < d.toList.length:=by simpa using hi
  have:=hall _ (List.getElem_mem hi2);simpa[hget i hi2] using this}
 {congr 1;show d.toList.flatMap El.F=(List.range (d.toList.map El.t).length).flatMap (fun i=>(d[i]!).F);rw[List.length_map];have:d.toList=(List.range d.toList.length).map (fun i=>d[i]!):=by
   apply List.ext_getElem
   {simp}
   {intro i h1 h2;simp[hget i h1]}
  conv=>lhs; rw[this]
  rw[List.flatMap_map]}
 {rw[<-heF];exact List.Perm.append_left _ (List.Perm.flatMap_right El.F hp)}
end
section
open Go.RowKit Shp
structure UpF (F:List Nat) (w w':World):Prop where
 os:w'.os=w.os
 tape:w'.tape=w.tape
 output:w'.output=w.output
 size:w.heap.size<=w'.heap.size
 block: ∀k,k < w.heap.size->k∉F->w'.heap[k]? =w.heap[k]?
theorem UpF.refl (F:List Nat) (w:World):UpF F w w:=⟨rfl,rfl,rfl,Nat.le_refl _,fun _ _ _=>rfl⟩
theorem UpF.below {F:List Nat} {a b c:World} (h:UpF F a b) (k:Below b.heap.size b c):UpF F a c:=
 ⟨k.os.trans h.os,k.tape.trans h.tape,k.output.trans h.output,Nat.le_trans h.size k.size,fun x h1 h2=>(k.block x (Nat.lt_of_lt_of_le h1 h.size)).trans (h.block x h1 h2)⟩
theorem UpF.next {F G:List Nat} {a b c:World} (h:UpF F a b) (k:UpF G b c) (hs: ∀x∈G,x∈F):UpF F a c:=
 ⟨k.os.trans h.os,k.tape.trans h.tape,k.output.trans h.output,Nat.le_trans h.size k.size,fun x h1 h2=>(k.block x (Nat.lt_of_lt_of_le h1 h.size) (fun e=>h2 (hs x e))).trans (h.block x h1 h2)⟩
theorem UpF.same {F:List Nat} {w w':World} (h:UpF F w w') {b:Nat} (h1:b < w.heap.size) (h2:b∉F):Z0G w w' b:=
 ⟨fun k=>World.cell?_of_block (w:=w) (h.block b h1 h2),fun k=>World.frozen?_of_block (w:=w) (h.block b h1 h2)⟩
theorem Up2.upF {bn bp:Nat} {w w':World} (h:Up2 bn bp w w') {F:List Nat} (h1:bn∈F) (h2:bp∈F):UpF F w w':=
 ⟨h.os,h.tape,h.output,h.size,fun k hk hn=>h.block k hk (fun e=>hn (e▸h1)) (fun e=>hn (e▸h2))⟩
theorem Z0P {W W':World} {q:Ptr} {t:Sh} {F:List Nat} (h:Own W q t F) (hb:Below W.heap.size W W'):Own W' q t F:=
 h.of (fun b hm=>⟨fun k=>hb.cell (p:=⟨b,k,none⟩) (h.lt b hm),fun k=>hb.frozen (p:=⟨b,k,none⟩) (h.lt b hm)⟩) hb.size
theorem Z2Y (t:Sh): (sorted t).kind=t.kind/\(sorted t).of_=t.of_/\(sorted t).name=t.name:=by
 rw[Z0n]; split <;> exact ⟨rfl,rfl,rfl⟩
theorem Z4j {t:Sh} (h:t.names= []\/t.names.length=t.parts.length): (sorted t).names.length=t.names.length/\(sorted t).parts.length=t.parts.length:=by
 rw[Z0n];split
 {rename_i h0
  simp[h0]}
 {rename_i h0
  rcases h with h | h
  {exact absurd h h0}
  {have:=(Z0N (t.names.zip (t.parts.map sorted))).length_eq;rw[List.length_zip,List.length_map] at this;simp only[List.length_map,this];omega}}
theorem Z1X {t:Sh} (h:right t=true):t.names= []\/t.names.length=t.parts.length/\t.names.Nodup:=by
 have hf:=Z0b h;unfold fits at hf;split at hf
 {simp only[Bool.and_eq_true,decide_eq_true_eq] at hf;exact Or.inl (List.eq_nil_of_length_eq_zero hf.1.2)}
 {split at hf
  {cases hf}
  {split at hf
   {simp only[Bool.and_eq_true,decide_eq_true_eq] at hf;refine Or.inr ⟨hf.2, ?_⟩;have:=hf.1;simp only[areNames,Bool.and_eq_true,Z5j] at this;exact this.2}
   {split at hf
    {cases hf}
    {rename_i h0
     exact Or.inl (List.eq_nil_of_length_eq_zero (by omega))}}}}
theorem Z4V {W:World} {b o:Nat} {t:Sh} {q:Ptr} (hr:right t=true) (h:Sh5 W b o t q):Sh5 W b o (sorted t) q:=by
 obtain ⟨k1,k2,k3⟩:=Z2Y t;obtain ⟨l1,l2⟩:=Z4j (t:=t) ((Z1X hr).imp id And.left);unfold Sh5 at *;rw[k1,k2,k3,l1,l2];exact h
theorem Z6j {Fs:Nat->List Nat}: ∀n,((List.range n).flatMap Fs).Nodup->(∀j,j < n->(Fs j).Nodup)/\ ∀i j,i < j->j < n-> ∀b∈Fs i,b∉Fs j
 | 0,_=>⟨fun j hj=>absurd hj (by omega),fun i j _ hj=>absurd hj (by omega)⟩
 | n+1,h=>by
  rw[List.range_succ,List.flatMap_append,List.nodup_append] at h;obtain ⟨h1,h2,h3⟩:=h;obtain ⟨k1,k2⟩:=Z6j n h1;have e: [n].flatMap Fs=Fs n:=by simp
  rw[e] at h2 h3;refine ⟨fun j hj=> ?_,fun i j hij hj b hb hb2=> ?_⟩
  {rcases Nat.lt_or_eq_of_le (Nat.le_of_lt_succ hj) with h | rfl
   {exact k1 j h}
   {exact h2}}
  {rcases Nat.lt_or_eq_of_le (Nat.le_of_lt_succ hj) with h | rfl
   {exact k2 i j hij h b hb hb2}
   {exact h3 b (List.mem_flatMap.2 ⟨i,List.mem_range.2 hij,hb⟩) b hb2 rfl}}
theorem Z2Z {FN FP:List Nat} {n:Nat} {Fs:Nat->List Nat} (h: (FN++FP++(List.range n).flatMap Fs).Nodup):
 (∀b∈FN,b∉FP)/\(∀b∈FN,∀j,j < n->b∉Fs j)/\(∀b∈FP,∀j,j < n->b∉Fs j)/\(∀j,j < n->(Fs j).Nodup)/\ ∀i j,i < n->j < n->i≠j-> ∀b∈Fs i,b∉Fs j:=by
 rw[List.nodup_append] at h;obtain ⟨h1,h2,h3⟩:=h;rw[List.nodup_append] at h1;have hm: ∀j,j < n-> ∀b∈Fs j,b∈(List.range n).flatMap Fs:=fun j hj b hb=>List.mem_flatMap.2 ⟨j,List.mem_range.2 hj,hb⟩;obtain ⟨h4,h5⟩:=Z6j n h2;refine ⟨fun b hb hb2=>h1.2.2 b hb b hb2 rfl,fun b hb j hj hb2=>h3 b (List.mem_append_left _ hb) b (hm j hj b hb2) rfl,fun b hb j hj hb2=>h3 b (List.mem_append_right _ hb) b (hm j hj b hb2) rfl,h4,fun i j hi hj hne b hb hb2=> ?_⟩;rcases Nat.lt_or_gt_of_ne hne with h | h
 {exact h5 i j h hj b hb hb2}
 {exact h5 j i h hi b hb2 hb}
end
section
open Shp
theorem Z07 {t:Sh} (h:check t=0):size t<=400/\deep t<=40/\right t=true:=by
 unfold check at h;by_cases h4:400 < size t
 {rw[if_pos h4] at h; omega}
 {rw[if_neg h4] at h;by_cases h40:40 < deep t
  {rw[if_pos h40] at h; omega}
  {rw[if_neg h40] at h;cases hr:right t with
   | false=>rw[hr] at h; simp at h
   | true=>exact ⟨by omega,by omega,rfl⟩}}
theorem Z8P {l m:List Sh} (h:l.Perm m):sizes l=sizes m:=by
 induction h with
 | nil=>rfl
 | cons x _ ih=>simp[sizes,ih]
 | swap x y l=>simp[sizes]; omega
 | trans _ _ ih1 ih2=>exact ih1.trans ih2
theorem Z8Q {l m:List Sh} (h:l.Perm m):deeps l=deeps m:=by
 induction h with
 | nil=>rfl
 | cons x _ ih=>simp[deeps,ih]
 | swap x y l=>simp[deeps]; omega
 | trans _ _ ih1 ih2=>exact ih1.trans ih2
theorem Za6 {f:Sh->Sh} {l:List Sh} (h: ∀p∈l,size (f p)=size p):sizes (l.map f)=sizes l:=by
 induction l with
 | nil=>rfl
 | cons a l ih=>simp[sizes,h a (by simp),ih (fun p hp=>h p (by simp[hp]))]
theorem Za7 {f:Sh->Sh} {l:List Sh} (h: ∀p∈l,deep (f p)=deep p):deeps (l.map f)=deeps l:=by
 induction l with
 | nil=>rfl
 | cons a l ih=>simp[deeps,h a (by simp),ih (fun p hp=>h p (by simp[hp]))]
structure Like (f:Sh->Sh) (t u:Sh):Prop where
 k:u.kind=t.kind
 o:u.of_=t.of_
 n:u.name=t.name
 ns:u.names.Perm t.names
 ps:u.parts.Perm (t.parts.map f)
theorem Like.size {f:Sh->Sh} {t u:Sh} (h:Like f t u) (hp: ∀p∈t.parts,size (f p)=size p):size u=size t:=by
 rw[size_eq,size_eq,Z8P h.ps,Za6 hp]
theorem Like.deep {f:Sh->Sh} {t u:Sh} (h:Like f t u) (hp: ∀p∈t.parts,deep (f p)=deep p):deep u=deep t:=by
 rw[Z0j,Z0j,Z8Q h.ps,Za7 hp]
theorem Z4g {t:Sh} (h:right t=true) (h0:t.names≠ []):t.names.length=t.parts.length/\t.names.Nodup:=(Z1X h).resolve_left h0
theorem Z1H {t:Sh} (h:right t=true):Like sorted t (sorted t):=by
 obtain ⟨h1,h2,h3⟩:=Z2Y t;refine ⟨h1,h2,h3, ?_, ?_⟩
 {rw[Z0n];split
  {rename_i h0; rw[h0]}
  {rename_i h0
   have:=(Z0N (t.names.zip (t.parts.map sorted))).map Prod.fst
   rwa [List.map_fst_zip (by rw[List.length_map,(Z4g h h0).1]; exact Nat.le_refl _)] at this}}
 {rw[Z0n];split
  {exact List.Perm.refl _}
  {rename_i h0
   have:=(Z0N (t.names.zip (t.parts.map sorted))).map Prod.snd
   rwa [List.map_snd_zip (by rw[List.length_map,(Z4g h h0).1]; exact Nat.le_refl _)] at this}}
theorem Z31 (t:Sh):right t=true->size (sorted t)=size t:=by
 induction t using Sh.ind with
 | h t ih=>exact fun h=>(Z1H h).size fun p hp=>ih p hp (Z03 h hp)
theorem Z32 (t:Sh):right t=true->deep (sorted t)=deep t:=by
 induction t using Sh.ind with
 | h t ih=>exact fun h=>(Z1H h).deep fun p hp=>ih p hp (Z03 h hp)
end
end Go.Proofs.YtlomianlcnmfgaaGreatDoor
namespace Sub
section
open Shp Go.Proofs.YtlomianlcnmfgaaGreatDoor
def stepNarrow (g:Sh->Sh->Bool) (c:Cl):Bool:=
 match c with
 | (_,_,none)=>true
 | (_,some p,some q)=>g p q
 | (_,none,some _)=>false
def stepWide (g:Sh->Sh->Bool) (c:Cl):Bool:=
 match c with
 | (_,none,_)=>true
 | (_,some p,some q)=>g p q
 | (_,some _,none)=>false
def placesAll (g:Sh->Sh->Bool):List Sh->List Sh->Bool
 | [],[]=>true
 | a::us,b::vs=>(if us.isEmpty then g a b else g b a)&&placesAll g us vs
 | [],_::_=>false
 | _::_,[]=>false
def bw:Nat->Sh->Sh->Bool
 | 0,_,_=>false
 | f+1,a,b=>
  if a.kind≠b.kind then false
  else if a.kind=6 then (calls a b).all (stepNarrow (bw f))
  else if a.kind=7 then (calls a b).all (stepWide (bw f))
  else decide (a.of_=b.of_/\a.name=b.name)&&placesAll (bw f) a.parts b.parts
theorem Z2l {g:Sh->Sh->Bool} {us vs:List Sh}:placesAll g us vs=true ↔
 us.length=vs.length/\ ∀(i:Nat) (p q:Sh),us[i]? =some p->vs[i]? =some q->(if i+1=us.length then g p q else g q p)=true:=by
 induction us generalizing vs with
 | nil=>cases vs <;> simp[placesAll]
 | cons a us ih=>
  cases vs with
  | nil=>simp[placesAll]
  | cons b vs=>
   unfold placesAll;rw[Bool.and_eq_true,ih];constructor
   {rintro ⟨h1,h2,h3⟩;refine ⟨by simp[h2],fun i p q hp hq=> ?_⟩;cases i with
    | zero=>
     simp only[List.getElem?_cons_zero,Option.some.injEq] at hp hq;subst hp hq;by_cases e:us.isEmpty=true
     {rw[if_pos e] at h1; rw[if_pos (by have:=(Z1i us).1 e; rw[List.length_cons]; omega)]; exact h1}
     {rw[if_neg e] at h1; rw[if_neg (fun h=>e ((Z1i us).2 (by rw[List.length_cons] at h; omega)))]; exact h1}
    | succ i=>
     have:=h3 i p q (by simpa using hp) (by simpa using hq);rw[<-this]; simp}
   {rintro ⟨h1,h2⟩;refine ⟨?_,by simpa using h1,fun i p q hp hq=> ?_⟩
    {have:=h2 0 a b (by simp) (by simp);by_cases e:us.isEmpty=true
     {rw[if_pos e]; rw[if_pos (by have:=(Z1i us).1 e; rw[List.length_cons]; omega)] at this; exact this}
     {rw[if_neg e]; rw[if_neg (fun h=>e ((Z1i us).2 (by rw[List.length_cons] at h; omega)))] at this; exact this}}
    {have:=h2 (i+1) p q (by simpa using hp) (by simpa using hq);rw[<-this]; simp}}
def whole (o:Option Sh):Option Sh:=o.bind (fun j=>if check j=0 then some (sorted j) else none)
def J (up:Bool) (a b:Sh):Option Sh:=if check a=0/\check b=0 then whole (bound 40 up a b) else none
def below (a b:Sh):Bool:=decide (check a=0)&&decide (check b=0)&&bw 40 a b
section
variable {a b : Sh} (ra : right a = true) (rb : right b = true) (h : sorted a = sorted b)
include a b ra rb h
theorem Z8R:check a=check b:=by
 have h1:size a=size b:=by rw[<-Z31 a ra,h,Z31 b rb]
 have h2:deep a=deep b:=by rw[<-Z32 a ra,h,Z32 b rb]
 unfold check;rw[h1,h2,ra,rb]
theorem Z2p:whole (some a)=whole (some b):=by
 unfold whole;simp only[Option.bind_some,Z8R ra rb h,h]
end
end
end Sub
namespace Grd
section
open Shp Sub Go.Proofs.YtlomianlcnmfgaaGreatDoor
def R (w:Bool):Nat->Bool->Sh->Sh->Prop
 | 0,_,_,_=>False
 | f+1,up,a,b=>a.kind=4\/b.kind=4\/(a.kind=b.kind/\
  (a.kind=6\/a.kind=7->(∀n p q,get a n=some p->get b n=some q->R w f up p q)/\
   (∀n p,get a n=some p->get b n=none->w=true/\Narrow up a.kind)/\
   (∀n q,get a n=none->get b n=some q->w=true/\Wide up a.kind))/\
  (¬(a.kind=6\/a.kind=7)->a.of_=b.of_/\a.name=b.name/\a.parts.length=b.parts.length/\
   ∀i p q,a.parts[i]? =some p->b.parts[i]? =some q->R w f (if i+1=a.parts.length then up else !up) p q))
section
variable {w : Bool} {f : Nat}
include w f
theorem R.flip: ∀ {up:Bool} {a b:Sh},R w f up a b->R w f (!up) b a:=by
 induction f with
 | zero=>intro up a b h; exact h.elim
 | succ f ih=>
  intro up a b h;rcases h with h | h | ⟨hk,h1,h2⟩
  {exact Or.inr (Or.inl h)}
  {exact Or.inl h}
  refine Or.inr (Or.inr ⟨hk.symm,fun h=> ?_,fun h=> ?_⟩)
  {rw[<-hk] at h ⊢;obtain ⟨g1,g2,g3⟩:=h1 h;refine ⟨fun n q p hq hp=>ih (g1 n p q hp hq),fun n q hq hp=> ?_,fun n p hq hp=> ?_⟩
   {rw[Z2T]; exact g3 n q hp hq}
   {rw[Z3Y]; exact g2 n p hp hq}}
  {rw[<-hk] at h;obtain ⟨e1,e2,e3,e4⟩:=h2 h;refine ⟨e1.symm,e2.symm,e3.symm,fun i p q hp hq=> ?_⟩;have:=ih (e4 i q p hq hp);rw[<-e3];by_cases e:i+1=a.parts.length
   {rw[if_pos e] at this ⊢; exact this}
   {rw[if_neg e] at this ⊢; exact this}}
theorem R.flip_iff {up:Bool} {a b:Sh}:R w f up a b ↔ R w f (!up) b a:=⟨R.flip,fun h=>by have:=h.flip; rwa [Bool.not_not] at this⟩
theorem R.refl: ∀ {up:Bool} {a:Sh},deep a<=f->R w f up a a:=by
 induction f with
 | zero=>intro up a h; rw[Z0j] at h; omega
 | succ f ih=>
  intro up a h;have hp: ∀p∈a.parts,deep p<=f:=fun p hp=>by have:=Z0v hp; rw[Z0j] at h; omega
  refine Or.inr (Or.inr ⟨rfl,fun _=>⟨fun n p q h1 h2=> ?_,fun n p h1 h2=> ?_,fun n p h1 h2=> ?_⟩,fun _=>⟨rfl,rfl,rfl,fun i p q h1 h2=> ?_⟩⟩)
  {rw[h1] at h2; cases h2; exact ih (hp p (Z06 h1))}
  {rw[h1] at h2; cases h2}
  {rw[h1] at h2; cases h2}
  {rw[h1] at h2; cases h2;exact ih (hp p (List.mem_of_getElem? h1))}
end
theorem R.any {f:Nat}: ∀ {up up':Bool} {a b:Sh},R false f up a b->R false f up' a b:=by
 induction f with
 | zero=>intro up up' a b h; exact h.elim
 | succ f ih=>
  intro up up' a b h;rcases h with h | h | ⟨hk,h1,h2⟩
  {exact Or.inl h}
  {exact Or.inr (Or.inl h)}
  refine Or.inr (Or.inr ⟨hk,fun h=> ?_,fun h=> ?_⟩)
  {obtain ⟨g1,g2,g3⟩:=h1 h;exact ⟨fun n p q hp hq=>ih (g1 n p q hp hq),fun n p hp hq=>absurd (g2 n p hp hq).1 (by simp),fun n q hp hq=>absurd (g3 n q hp hq).1 (by simp)⟩}
  {obtain ⟨e1,e2,e3,e4⟩:=h2 h;exact ⟨e1,e2,e3,fun i p q hp hq=>ih (e4 i p q hp hq)⟩}
theorem R.symm {f:Nat} {up up':Bool} {a b:Sh} (h:R false f up a b):R false f up' b a:=h.flip.any
theorem R.same {w:Bool} {f:Nat}: ∀ {up:Bool} {c a b:Sh},V f true c a->V f false c a->R w f up a b->R w f up c b:=by
 induction f with
 | zero=>intro up c a b h; exact h.elim
 | succ f ih=>
  intro up c a b h g k;obtain ⟨hk,h1,h2,h3⟩:=h;obtain ⟨_,i1,i2,i3⟩:=g;rcases k with k | k | ⟨kk,k1,k2⟩
  {exact Or.inl (hk.trans k)}
  {exact Or.inr (Or.inl k)}
  refine Or.inr (Or.inr ⟨hk.trans kk,fun h=> ?_,fun h=> ?_⟩)
  {obtain ⟨g1,g2,g3⟩:=k1 (hk▸h);rw[<-hk] at g2 g3;have hG: ∀n,(∀p,get c n=some p-> ∃q,get a n=some q/\V f true p q/\V f false p q)/\(∀q,get a n=some q-> ∃p,get c n=some p/\V f true p q/\V f false p q):=fun n=>by
    rcases Z1e h true with hw | hw
    {have hv:Wide false c.kind:=by rw[show false= !true from rfl,Z3Y]; exact hw
     refine ⟨fun p hp=> ?_,fun q hq=> ?_⟩
     {obtain ⟨q,hq,v⟩:=i2 hv n p hp;obtain ⟨p',hp',v'⟩:=h1 hw n q hq;rw[hp] at hp'; cases hp';exact ⟨q,hq,v',v⟩}
     {obtain ⟨p,hp,v'⟩:=h1 hw n q hq;obtain ⟨q',hq',v⟩:=i2 hv n p hp;rw[hq] at hq'; cases hq';exact ⟨p,hp,v',v⟩}}
    {have hv:Narrow false c.kind:=by rw[show false= !true from rfl,Z2T]; exact hw
     refine ⟨fun p hp=> ?_,fun q hq=> ?_⟩
     {obtain ⟨q,hq,v⟩:=h2 hw n p hp;obtain ⟨p',hp',v'⟩:=i1 hv n q hq;rw[hp] at hp'; cases hp';exact ⟨q,hq,v,v'⟩}
     {obtain ⟨p,hp,v'⟩:=i1 hv n q hq;obtain ⟨q',hq',v⟩:=h2 hw n p hp;rw[hq] at hq'; cases hq';exact ⟨p,hp,v,v'⟩}}
   refine ⟨fun n p q hp hq=> ?_,fun n p hp hq=> ?_,fun n q hp hq=> ?_⟩
   {obtain ⟨r,hr,v,v'⟩:=(hG n).1 p hp;exact ih v v' (g1 n r q hr hq)}
   {obtain ⟨r,hr,_⟩:=(hG n).1 p hp;exact g2 n r hr hq}
   {cases ha:get a n with
    | none=>exact g3 n q ha hq
    | some r=>
     obtain ⟨p',hp',_⟩:=(hG n).2 r ha;rw[hp] at hp'; cases hp'}}
  {obtain ⟨e1,e2,e3,e4⟩:=h3 h;obtain ⟨_,_,_,d4⟩:=i3 h;obtain ⟨f1,f2,f3,f4⟩:=k2 (hk▸h);refine ⟨e1.trans f1,e2.trans f2,e3.trans f3,fun i p q hp hq=> ?_⟩;have hi:i < c.parts.length:=(List.getElem?_eq_some_iff.1 hp).1;have hia:i < a.parts.length:=by omega
   have h5:=e4 i p _ hp (List.getElem?_eq_getElem hia);have h7:=d4 i p _ hp (List.getElem?_eq_getElem hia);have h6:=f4 i _ q (List.getElem?_eq_getElem hia) hq;rw[<-e3] at h6;by_cases e:i+1=c.parts.length
   {rw[if_pos e] at h5 h7; exact ih h5 h7 h6}
   {rw[if_neg e] at h5 h7; exact ih h7 h5 h6}}
mutual
def known (s:Sh):Bool:=match s with | ⟨k,_,_,_,ps⟩=>decide (k≠4)&&knowns ps
def knowns:List Sh->Bool
 | []=>true
 | p::ps=>known p&&knowns ps
end
theorem known_eq (s:Sh):known s=(decide (s.kind≠4)&&knowns s.parts):=by obtain ⟨k,o,n,ns,ps⟩:=s; rw[known]
theorem knowns_mem {l:List Sh} {p:Sh} (h:knowns l=true) (hp:p∈l):known p=true:=by
 induction l with
 | nil=>cases hp
 | cons a l ih=>
  rw[knowns,Bool.and_eq_true] at h;rcases List.mem_cons.1 hp with rfl | hp
  {exact h.1}
  {exact ih h.2 hp}
def al (w:Bool) (k:Int) (first:Bool):Bool:=if first=true then k==(if w=true then 6 else 0) else k==(if w=true then 7 else 0)
theorem ZbI {w:Bool} {k:Int} (h:k=6\/k=7): (al w k true=true ↔ w=true/\Narrow true k)/\(al w k false=true ↔ w=true/\Wide true k):=by
 unfold al Narrow Wide;cases w <;> rcases h with rfl | rfl <;> simp
def hstep (h:Bool->Bool) (g:Sh->Sh->Bool) (c:Cl):Bool:=
 match c with
 | (_,some p,some q)=>g p q
 | (_,some _,none)=>h true
 | (_,none,_)=>h false
def hold (w:Bool):Nat->Sh->Sh->Bool
 | 0,_,_=>false
 | f+1,a,b=>
  if a.kind=4\/b.kind=4 then true
  else if a.kind≠b.kind then false
  else if a.kind=6\/a.kind=7 then (calls a b).all (hstep (al w a.kind) (hold w f))
  else decide (a.of_=b.of_/\a.name=b.name)&&placesAll (hold w f) a.parts b.parts
theorem Z0t {w:Bool} {f:Nat}: ∀ {a b:Sh},right a=true->right b=true->(hold w f a b=true ↔ R w f true a b):=by
 induction f with
 | zero=>intro a b _ _; unfold hold R; simp
 | succ f ih=>
  intro a b ra rb;unfold hold R;by_cases h4:a.kind=4\/b.kind=4
  {rw[if_pos h4];exact ⟨fun _=>h4.elim Or.inl (fun h=>Or.inr (Or.inl h)),fun _=>rfl⟩}
  rw[if_neg h4];have h4a:a.kind≠4:=fun h=>h4 (Or.inl h);have h4b:b.kind≠4:=fun h=>h4 (Or.inr h);by_cases hk:a.kind=b.kind
  {rw[if_neg (fun h=>h hk)];by_cases h6:a.kind=6\/a.kind=7
   {have A:=Z0p (Z0b ra) h6;have B:=Z0p (Z0b rb) (hk▸h6);obtain ⟨a1,a2⟩:=ZbI (w:=w) h6;rw[if_pos h6,List.all_eq_true];constructor
    {intro h;refine Or.inr (Or.inr ⟨hk,fun _=>⟨fun n p q hp hq=> ?_,fun n p hp hq=> ?_,fun n q hp hq=> ?_⟩,fun h=>absurd h6 h⟩)
     {have:=h (n,get a n,get b n) ((Z0l A B).2 ⟨rfl,rfl,Or.inl (Z0C hp)⟩);rw[hp,hq] at this;exact (ih (Z03 ra (Z06 hp)) (Z03 rb (Z06 hq))).1 this}
     {have:=h (n,get a n,get b n) ((Z0l A B).2 ⟨rfl,rfl,Or.inl (Z0C hp)⟩);rw[hp,hq] at this;exact a1.1 this}
     {have:=h (n,get a n,get b n) ((Z0l A B).2 ⟨rfl,rfl,Or.inr (Z0C hq)⟩);rw[hp,hq] at this;exact a2.1 this}}
    {intro h;rcases h with h | h | ⟨_,h,_⟩
     {exact absurd h h4a}
     {exact absurd h h4b}
     obtain ⟨g1,g2,g3⟩:=h h6;rintro ⟨n,x,y⟩ hc;obtain ⟨rfl,rfl,hn⟩:=(Z0l A B).1 hc;cases hp:get a n with
     | none=>
      cases hq:get b n with
      | none=>
       rcases hn with hn | hn
       {exact absurd hn (A.get_none.1 hp)}
       {exact absurd hn (B.get_none.1 hq)}
      | some q=>exact a2.2 (g3 n q hp hq)
     | some p=>
      cases hq:get b n with
      | none=>exact a1.2 (g2 n p hp hq)
      | some q=>exact (ih (Z03 ra (Z06 hp)) (Z03 rb (Z06 hq))).2 (g1 n p q hp hq)}}
   {rw[if_neg h6,Bool.and_eq_true,decide_eq_true_eq,Z2l];constructor
    {rintro ⟨⟨h1,h2⟩,h3,h4⟩;refine Or.inr (Or.inr ⟨hk,fun h=>absurd h h6,fun _=>⟨h1,h2,h3,fun i p q hp hq=> ?_⟩⟩);have:=h4 i p q hp hq;have rp:=Z03 ra (List.mem_of_getElem? hp);have rq:=Z03 rb (List.mem_of_getElem? hq);by_cases e:i+1=a.parts.length
     {rw[if_pos e] at this ⊢; exact (ih rp rq).1 this}
     {rw[if_neg e] at this ⊢; exact ((ih rq rp).1 this).flip}}
    {intro h;rcases h with h | h | ⟨_,_,h⟩
     {exact absurd h h4a}
     {exact absurd h h4b}
     obtain ⟨h1,h2,h3,h4⟩:=h h6;refine ⟨⟨h1,h2⟩,h3,fun i p q hp hq=> ?_⟩;have:=h4 i p q hp hq;have rp:=Z03 ra (List.mem_of_getElem? hp);have rq:=Z03 rb (List.mem_of_getElem? hq);by_cases e:i+1=a.parts.length
     {rw[if_pos e] at this ⊢; exact (ih rp rq).2 this}
     {rw[if_neg e] at this ⊢; exact (ih rq rp).2 (R.flip_iff.2 this)}}}}
  {rw[if_pos hk];constructor
   {intro h; cases h}
   {intro h;rcases h with h | h | ⟨h,_⟩
    {exact absurd h h4a}
    {exact absurd h h4b}
    {exact absurd h hk}}}
def nstep (g:Sh->Sh->Sh) (c:Cl):Option Fld:=
 match c with
 | (n,some p,some q)=>some (n,g p q)
 | (n,none,some q)=>some (n,q)
 | (_,_,none)=>none
def named:Nat->Sh->Sh->Sh
 | 0,s,_=>s
 | f+1,s,t=>
  if s.kind=4\/t.kind=4 then s
  else if s.kind=6\/s.kind=7 then ⟨s.kind,s.of_,s.name,((calls s t).filterMap (nstep (named f))).map Prod.fst,((calls s t).filterMap (nstep (named f))).map Prod.snd⟩
  else ⟨s.kind,s.of_,s.name,[],List.zipWith (named f) s.parts t.parts⟩
section
variable {g : Sh -> Sh -> Sh}
include g
theorem nstep_fst {c:Cl} {x:Fld} (h:nstep g c=some x):x.1=c.1:=by
 unfold nstep at h;split at h
 {cases h; rfl}
 {cases h; rfl}
 {cases h}
theorem Z5u {a b:Sh} (A:Rec a) (B:Rec b) {n:List UInt8} {x:Sh}:
 (n,x)∈(calls a b).filterMap (nstep g) ↔ ∃q,get b n=some q/\((∃p,get a n=some p/\x=g p q)\/(get a n=none/\x=q)):=by
 rw[List.mem_filterMap];constructor
 {rintro ⟨⟨m,u,v⟩,hm,h⟩;obtain ⟨hu,hv,_⟩:=(Z0l A B).1 hm;unfold nstep at h;split at h
  {rename_i e
   simp only[Prod.mk.injEq] at e;obtain ⟨rfl,rfl,rfl⟩:=e;cases h;exact ⟨_,hv.symm,Or.inl ⟨_,hu.symm,rfl⟩⟩}
  {rename_i e
   simp only[Prod.mk.injEq] at e;obtain ⟨rfl,rfl,rfl⟩:=e;cases h;exact ⟨_,hv.symm,Or.inr ⟨hu.symm,rfl⟩⟩}
  {cases h}}
 {rintro ⟨q,hq,⟨p,hp,rfl⟩ | ⟨hp,rfl⟩⟩
  {exact ⟨(n,some p,some q),(Z0l A B).2 ⟨hp.symm,hq.symm,Or.inr (Z0C hq)⟩,rfl⟩}
  {exact ⟨(n,none,some x),(Z0l A B).2 ⟨hp.symm,hq.symm,Or.inr (Z0C hq)⟩,rfl⟩}}
theorem Z6n {l:List Cl} (h: ∀c∈l,∀x,nstep g c=some x->size x.2<=wt c):sizes ((l.filterMap (nstep g)).map Prod.snd)<=(l.map wt).sum:=by
 induction l with
 | nil=>simp[sizes]
 | cons c l ih=>
  have h1:=ih (fun c hc=>h c (by simp[hc]));cases e:nstep g c with
  | none=>rw[List.filterMap_cons_none e,List.map_cons,List.sum_cons]; omega
  | some x=>
   have:=h c (by simp) x e;rw[List.filterMap_cons_some e,List.map_cons,List.map_cons,List.sum_cons];simp only[sizes];omega
theorem Z8U {us vs:List Sh} (h: ∀(i:Nat) (p q:Sh),us[i]? =some p->vs[i]? =some q->size (g p q)<=size p+size q):sizes (List.zipWith g us vs)<=sizes us+sizes vs:=by
 induction us generalizing vs with
 | nil=>simp[sizes]
 | cons a us ih=>
  cases vs with
  | nil=>simp[sizes]
  | cons b vs=>
   have h1:=ih (vs:=vs) (fun i p q hp hq=>h (i+1) p q (by simpa using hp) (by simpa using hq));have h2:=h 0 a b (by simp) (by simp);rw[List.zipWith_cons_cons];simp only[sizes];omega
end
structure Nis (f:Nat) (up:Bool) (s t j:Sh):Prop where
 r:right j=true
 z:size j<=size s+size t
 d:deep j<=max (deep s) (deep t)
 v:V f up s j
 l:R false f up j t
theorem Z2J {f:Nat}: ∀ {up:Bool} {s t:Sh},right s=true->right t=true->deep s<=f->deep t<=f->R true f up s t->Nis f up s t (named f s t):=by
 induction f with
 | zero=>intro up s t _ _ _ _ h; exact h.elim
 | succ f ih=>
  intro up s t rs rt ds dt h;have pa: ∀p∈s.parts,right p=true/\deep p<=f/\deep p+1<=deep s:=fun p hp=>⟨Z03 rs hp,by have:=Z0v hp; rw[Z0j] at ds; omega,by have:=Z0v hp; rw[Z0j s]; omega⟩;have pb: ∀p∈t.parts,right p=true/\deep p<=f/\deep p+1<=deep t:=fun p hp=>⟨Z03 rt hp,by have:=Z0v hp; rw[Z0j] at dt; omega,by have:=Z0v hp; rw[Z0j t]; omega⟩;have hdm:1<=deep s:=by rw[Z0j]; omega
  unfold named;by_cases h4:s.kind=4\/t.kind=4
  {rw[if_pos h4];exact ⟨rs,by omega,by omega,V.refl ds,h4.elim Or.inl (fun h=>Or.inr (Or.inl h))⟩}
  rw[if_neg h4];have h4a:s.kind≠4:=fun h=>h4 (Or.inl h);have h4b:t.kind≠4:=fun h=>h4 (Or.inr h);rcases h with h | h | ⟨hk,h1,h2⟩
  {exact absurd h h4a}
  {exact absurd h h4b}
  by_cases h6:s.kind=6\/s.kind=7
  {rw[if_pos h6];have A:=Z0p (Z0b rs) h6;have B:=Z0p (Z0b rt) (hk▸h6);obtain ⟨g1,g2,g3⟩:=h1 h6;have hof:s.of_= []/\s.name= []:=(Z0Q s).1 A.b;obtain ⟨L,hL⟩: ∃L,L=(calls s t).filterMap (nstep (named f)):=⟨_,rfl⟩;have hm: ∀n x,(n,x)∈L ↔ ∃q,get t n=some q/\((∃p,get s n=some p/\x=named f p q)\/(get s n=none/\x=q)):=fun n x=>by rw[hL]; exact Z5u A B
   have hsub: (L.map Prod.fst).Sublist ((calls s t).map Prod.fst):=by rw[hL]; exact Z1o (fun c x h=>nstep_fst h) _
   have hd: (L.map Prod.fst).Nodup:=hsub.nodup (Z10 A B);have hR:=Z3u (k:=s.kind) h6 hd (fun n hn=>Z2n A B (hsub.subset hn));rw[<-hL,hof.1,hof.2];change Nis (f+1) up s t (made s.kind L);have hI: ∀n p q,get s n=some p->get t n=some q->Nis f up p q (named f p q):=fun n p q hp hq=>ih (pa p (Z06 hp)).1 (pb q (Z06 hq)).1 (pa p (Z06 hp)).2.1 (pb q (Z06 hq)).2.1 (g1 n p q hp hq);have hG: ∀n x,get (made s.kind L) n=some x ↔ _:=fun n x=>(Z1b hd).trans (hm n x);have hP: ∀y∈L.map Prod.snd,∃n,(n,y)∈L:=fun y hy=>by
    obtain ⟨⟨n,y⟩,h,rfl⟩:=List.mem_map.1 hy;exact ⟨n,h⟩
   refine ⟨Z1k hR.fits (fun y hy=> ?_), ?_, ?_,⟨rfl,fun hw n x hx=> ?_,fun hw n p hp=> ?_,fun h=>absurd h6 h⟩,Or.inr (Or.inr ⟨hk,fun _=>⟨fun n x q hx hq=> ?_,fun n x hx hq=> ?_,fun n q hx hq=> ?_⟩,fun h=>absurd h6 h⟩)⟩
   {obtain ⟨n,h⟩:=hP y hy;obtain ⟨q,hq,⟨p,hp,rfl⟩ | ⟨_,rfl⟩⟩:=(hm n y).1 h
    {exact (hI n p q hp hq).r}
    {exact (pb _ (Z06 hq)).1}}
   {have h1:sizes (L.map Prod.snd)<=((calls s t).map wt).sum:=by
     rw[hL];refine Z6n (fun c hc x hx=> ?_);obtain ⟨n,u,v⟩:=c;obtain ⟨m,y⟩:=x;have e:m=n:=nstep_fst hx;subst e;obtain ⟨hu,hv,_⟩:=(Z0l A B).1 hc;have hmm: (m,y)∈L:=by rw[hL]; exact List.mem_filterMap.2 ⟨_,hc,hx⟩
     obtain ⟨q,hq,⟨p,hp,rfl⟩ | ⟨hp,rfl⟩⟩:=(hm m y).1 hmm
     {rw[hp] at hu; rw[hq] at hv; rw[hu,hv]; exact (hI m p q hp hq).z}
     {rw[hp] at hu; rw[hq] at hv; rw[hu,hv]; simp[wt,sz]}
    have h2:=Z2C A B;rw[size_eq,size_eq s,size_eq t];unfold made;simp only;omega}
   {rw[Z0j];have:deeps (made s.kind L).parts<=max (deep s) (deep t) - 1:=Z2D (fun y hy=>by
     obtain ⟨n,h⟩:=hP y hy;obtain ⟨q,hq,⟨p,hp,rfl⟩ | ⟨hp,rfl⟩⟩:=(hm n y).1 h
     {have h1:=(pa p (Z06 hp)).2.2;have h2:=(pb q (Z06 hq)).2.2;have h3:=(hI n p q hp hq).d;omega}
     · have:=(pb _ (Z06 hq)).2.2
       omega)
    omega}
   {obtain ⟨q,hq,⟨p,hp,rfl⟩ | ⟨hp,rfl⟩⟩:=(hG n x).1 hx
    {exact ⟨p,hp,(hI n p q hp hq).v⟩}
    {exact absurd (g3 n _ hp hq).2 (Z0R hw)}}
   {cases hq:get t n with
    | none=>exact absurd hw (Z0R (g2 n p hp hq).2)
    | some q=>exact ⟨_,(hG n _).2 ⟨q,hq,Or.inl ⟨p,hp,rfl⟩⟩,(hI n p q hp hq).v⟩}
   {obtain ⟨q',hq',⟨p,hp,rfl⟩ | ⟨hp,rfl⟩⟩:=(hG n x).1 hx
    {rw[hq] at hq'; cases hq';exact (hI n p q hp hq).l}
    {rw[hq] at hq'; cases hq';exact R.refl (pb _ (Z06 hq)).2.1}}
   {obtain ⟨q',hq',_⟩:=(hG n x).1 hx;rw[hq] at hq'; cases hq'}
   {cases hp:get s n with
    | none=>rw[(hG n q).2 ⟨q,hq,Or.inr ⟨hp,rfl⟩⟩] at hx; cases hx
    | some p=>rw[(hG n _).2 ⟨q,hq,Or.inl ⟨p,hp,rfl⟩⟩] at hx; cases hx}}
  {rw[if_neg h6];obtain ⟨e1,e2,e3,e4⟩:=h2 h6;have hns:=Z1Q (Z0b rs) h6;obtain ⟨ps,hps⟩: ∃ps,ps=List.zipWith (named f) s.parts t.parts:=⟨_,rfl⟩;have hl:ps.length=s.parts.length:=by rw[hps,List.length_zipWith, <-e3,Nat.min_self]
   have hat: ∀i p q,s.parts[i]? =some p->t.parts[i]? =some q->ps[i]? =some (named f p q):=fun i p q hp hq=>by rw[hps,List.getElem?_zipWith,hp,hq]
   have hI: ∀i p q,s.parts[i]? =some p->t.parts[i]? =some q->Nis f (if i+1=s.parts.length then up else !up) p q (named f p q):=fun i p q hp hq=>by
    obtain ⟨r1,d1,_⟩:=pa p (List.mem_of_getElem? hp);obtain ⟨r2,d2,_⟩:=pb q (List.mem_of_getElem? hq);exact ih r1 r2 d1 d2 (e4 i p q hp hq)
   have hP: ∀y∈ps,∃i p q,s.parts[i]? =some p/\t.parts[i]? =some q/\y=named f p q:=fun y hy=>by
    obtain ⟨i,hi,e⟩:=List.getElem_of_mem hy;have h1:=List.getElem?_eq_getElem (l:=s.parts) (i:=i) (by omega);have h2:=List.getElem?_eq_getElem (l:=t.parts) (i:=i) (by omega);have h3:=hat i _ _ h1 h2;rw[List.getElem?_eq_getElem hi,e] at h3;exact ⟨i,_,_,h1,h2,Option.some.inj h3⟩
   rw[<-hps];refine ⟨Z1k ?_ (fun y hy=> ?_), ?_, ?_,⟨rfl,fun h=>absurd (Z0w h) h6,fun h=>absurd (Z0D h) h6,fun _=>⟨rfl,rfl,hl.symm,fun i p x hp hx=> ?_⟩⟩,Or.inr (Or.inr ⟨hk,fun h=>absurd h h6,fun _=>⟨e1,e2,hl.trans e3,fun i x q hx hq=> ?_⟩⟩)⟩
   {rw[Z3X (t:=s) (u:=⟨s.kind,s.of_,s.name,[],ps⟩) rfl rfl rfl hns.symm hl]; exact Z0b rs}
   {obtain ⟨i,p,q,hp,hq,rfl⟩:=hP y hy;exact (hI i p q hp hq).r}
   {have h1:sizes ps<=sizes s.parts+sizes t.parts:=by rw[hps]; exact Z8U (fun i p q hp hq=>(hI i p q hp hq).z)
    rw[size_eq,size_eq s,size_eq t];simp only;omega}
   {rw[Z0j];have:deeps ps<=max (deep s) (deep t) - 1:=Z2D (fun y hy=>by
     obtain ⟨i,p,q,hp,hq,rfl⟩:=hP y hy;have h1:=(pa p (List.mem_of_getElem? hp)).2.2;have h2:=(pb q (List.mem_of_getElem? hq)).2.2;have h3:=(hI i p q hp hq).d;omega)
    simp only;omega}
   {have hi:i < s.parts.length:=(List.getElem?_eq_some_iff.1 hp).1;have h2:=List.getElem?_eq_getElem (l:=t.parts) (i:=i) (by omega);rw[hat i p _ hp h2] at hx;cases hx;exact (hI i p _ hp h2).v}
   {simp only at hx;have hi:i < t.parts.length:=(List.getElem?_eq_some_iff.1 hq).1;have h1:=List.getElem?_eq_getElem (l:=s.parts) (i:=i) (by omega);rw[hat i _ q h1 hq] at hx;cases hx;have:=(hI i _ q h1 hq).l;simp only[hl];exact this}}
def near (a b:Sh):Bool:=decide (check a=0)&&decide (check b=0)&&hold true 40 a b
def alike (a b:Sh):Bool:=decide (check a=0)&&decide (check b=0)&&hold false 40 a b
def plain (a:Sh):Bool:=decide (check a=0)&&known a
def between (a b:Sh):Option Sh:=if near a b=true then whole (some (named 40 a b)) else none
def beside (a b:Sh):Option Sh:=if near a b=true then whole (some (named 40 b a)) else none
theorem near_iff {a b:Sh}:near a b=true ↔ check a=0/\check b=0/\R true 40 true a b:=by
 unfold near;rw[Bool.and_eq_true,Bool.and_eq_true,decide_eq_true_eq,decide_eq_true_eq];constructor
 {rintro ⟨⟨ca,cb⟩,h⟩; exact ⟨ca,cb,(Z0t (Z07 ca).2.2 (Z07 cb).2.2).1 h⟩}
 {rintro ⟨ca,cb,h⟩; exact ⟨⟨ca,cb⟩,(Z0t (Z07 ca).2.2 (Z07 cb).2.2).2 h⟩}
theorem near_off {a b:Sh} (h: ¬(check a=0/\check b=0)):near a b=false:=by
 cases e:near a b with
 | false=>rfl
 | true=>exact absurd ⟨(near_iff.1 e).1,(near_iff.1 e).2.1⟩ h
end
end Grd
namespace Go.Proofs.YtlomianlcnmfgaaGreatDoor
section
open Go.RowKit
theorem Z4Y (l:List UInt8) (hl:l.length<=1000000) (w:World):
 Calls Tryz.prog 98 #[.string ⟨l.toArray⟩] w fun e w'=>e= .returned (.int .i64 (l.takeWhile Lex.nameB).length)/\w=w':=
 Z9Q ⟨l.toArray⟩ (by rw[Z11]; omega) w
theorem Z8W (c:UInt8) (r:List UInt8):Lex.isName (c::r)=(decide ((c::r).length<=24)&&Lex.small c&&(c::r).all Lex.nameB&& !Lex.isWord (c::r)):=rfl
theorem Z3z (l:List UInt8) (hl:l.length<=9223372036854775807) (w:World):
 Y9 83 #[.string ⟨l.toArray⟩] w (.bool (Lex.isName l)):=by
 cases l with
 | nil=>
  have HM:Hid (Lex.isName []=false):=Y1 rfl;go_enter Tryz.func83,Tryz.ntmps83;go_wp2;go_ret;exact ⟨by rw[HM.out]; rfl,Below.refl _ _⟩
 | cons c r=>
  have HM:=Y1 (Z8W c r);have HT:=Y1 (Lex.Z6a (p:=Lex.nameB) (s:=c::r));obtain ⟨l,hll⟩: ∃l:List UInt8,l=c::r:=⟨_,rfl⟩;rw[<-hll] at hl HM HT ⊢;have hz: (⟨l.toArray⟩:ByteArray).size=l.length:=Z11 _;have he:l.isEmpty=false:=by rw[hll]; rfl
  have hidx: ∀W,(Instr.index 9 (.string ⟨l.toArray⟩) (.int .i64 0)).run Tryz.prog W= .ok (.int .u8 c.toNat) W:=fun W=>by rw[hll]; rfl
  clear hll;by_cases h24:l.length<=24
  {have h24d:decide ((l.length:Int)<=24)=true:=decide_eq_true (by omega);cases h1:Lex.small c
   {have HF:Hid (Lex.isName l=false):=Y1 (by rw[HM.out,h1]; simp);go_enter Tryz.func83,Tryz.ntmps83
    go_wp2_with fail
    refine (Z1c c _).mono ?_;rintro e w2 ⟨rfl,rfl⟩;rw[h1];go_wp2;go_ret;exact ⟨by rw[HF.out]; rfl,Below.refl _ _⟩}
   {have H1:=Y1 h1;go_enter Tryz.func83,Tryz.ntmps83
    go_wp2_with fail
    refine (Z1c c _).mono ?_;rintro e w2 ⟨rfl,rfl⟩;rw[h1];clear h1
    go_wp2_with fail
    refine (Z4Y l (by omega) _).mono ?_;rintro e w2 ⟨rfl,rfl⟩;obtain ⟨k,hk⟩: ∃k,k=(l.takeWhile Lex.nameB).length:=⟨_,rfl⟩;rw[<-hk] at HT ⊢;clear hk;by_cases hkl:k=l.length
    {have hkd: ((k:Int)==(l.length:Int))=true:=by rw[beq_iff_eq]; omega
     have HA:Hid (l.all Lex.nameB=true):=Y1 (HT.out.1 hkl);have HF:Hid (Lex.isName l= !Lex.isWord l):=Y1 (by rw[HM.out,H1.out,HA.out,decide_eq_true h24]; simp);clear hkl
     go_wp2_with fail
     refine (Z8x l _).mono ?_;rintro e w2 ⟨rfl,hb2⟩;go_wp2;go_ret;exact ⟨by rw[HF.out]; rfl,hb2⟩}
    {have hkd: ((k:Int)==(l.length:Int))=false:=by rw[beq_eq_false_iff_ne]; omega
     have HF:Hid (Lex.isName l=false):=Y1 (by
      have:l.all Lex.nameB=false:=by
       cases hq:l.all Lex.nameB with
       | false=>rfl
       | true=>exact absurd (HT.out.2 hq) hkl
      rw[HM.out,this]; simp)
     clear hkl;go_wp2;go_ret;exact ⟨by rw[HF.out]; rfl,Below.refl _ _⟩}}}
  {have h24d:decide ((l.length:Int)<=24)=false:=decide_eq_false (by omega);have HF:Hid (Lex.isName l=false):=Y1 (by rw[HM.out,decide_eq_false h24]; rfl);go_enter Tryz.func83,Tryz.ntmps83;go_wp2;go_ret;exact ⟨by rw[HF.out]; rfl,Below.refl _ _⟩}
theorem Z7z (c:UInt8) (r:List UInt8):Lex.isUpper (c::r)=(decide ((c::r).length<=24)&&Lex.great c&&(c::r).all Lex.nameB):=rfl
theorem Z7A (l:List UInt8) (hl:l.length<=9223372036854775807) (w:World):
 Y9 84 #[.string ⟨l.toArray⟩] w (.bool (Lex.isUpper l)):=by
 cases l with
 | nil=>
  have HM:Hid (Lex.isUpper []=false):=Y1 rfl;go_enter Tryz.func84,Tryz.ntmps84;go_wp2;go_ret;exact ⟨by rw[HM.out]; rfl,Below.refl _ _⟩
 | cons c r=>
  have HM:=Y1 (Z7z c r);have HT:=Y1 (Lex.Z6a (p:=Lex.nameB) (s:=c::r));obtain ⟨l,hll⟩: ∃l:List UInt8,l=c::r:=⟨_,rfl⟩;rw[<-hll] at hl HM HT ⊢;have hz: (⟨l.toArray⟩:ByteArray).size=l.length:=Z11 _;have he:l.isEmpty=false:=by rw[hll]; rfl
  have hidx: ∀W,(Instr.index 9 (.string ⟨l.toArray⟩) (.int .i64 0)).run Tryz.prog W= .ok (.int .u8 c.toNat) W:=fun W=>by rw[hll]; rfl
  clear hll;by_cases h24:l.length<=24
  {have h24d:decide ((l.length:Int)<=24)=true:=decide_eq_true (by omega);cases h1:Lex.great c
   {have HF:Hid (Lex.isUpper l=false):=Y1 (by rw[HM.out,h1]; simp);go_enter Tryz.func84,Tryz.ntmps84
    go_wp2_with fail
    refine (Z1s c _).mono ?_;rintro e w2 ⟨rfl,rfl⟩;rw[h1];go_wp2;go_ret;exact ⟨by rw[HF.out]; rfl,Below.refl _ _⟩}
   {have H1:=Y1 h1;go_enter Tryz.func84,Tryz.ntmps84
    go_wp2_with fail
    refine (Z1s c _).mono ?_;rintro e w2 ⟨rfl,rfl⟩;rw[h1];clear h1
    go_wp2_with fail
    refine (Z4Y l (by omega) _).mono ?_;rintro e w2 ⟨rfl,rfl⟩;obtain ⟨k,hk⟩: ∃k,k=(l.takeWhile Lex.nameB).length:=⟨_,rfl⟩;rw[<-hk] at HT ⊢;clear hk;by_cases hkl:k=l.length
    {have hkd: ((k:Int)==(l.length:Int))=true:=by rw[beq_iff_eq]; omega
     have HA:Hid (l.all Lex.nameB=true):=Y1 (HT.out.1 hkl);have HF:Hid (Lex.isUpper l=true):=Y1 (by rw[HM.out,H1.out,HA.out,decide_eq_true h24]; rfl);clear hkl;go_wp2;go_ret;exact ⟨by rw[HF.out]; rfl,Below.refl _ _⟩}
    {have hkd: ((k:Int)==(l.length:Int))=false:=by rw[beq_eq_false_iff_ne]; omega
     have HF:Hid (Lex.isUpper l=false):=Y1 (by
      have:l.all Lex.nameB=false:=by
       cases hq:l.all Lex.nameB with
       | false=>rfl
       | true=>exact absurd (HT.out.2 hq) hkl
      rw[HM.out,this]; simp)
     clear hkl;go_wp2;go_ret;exact ⟨by rw[HF.out]; rfl,Below.refl _ _⟩}}}
  {have h24d:decide ((l.length:Int)<=24)=false:=decide_eq_false (by omega);have HF:Hid (Lex.isUpper l=false):=Y1 (by rw[HM.out,decide_eq_false h24]; rfl);go_enter Tryz.func84,Tryz.ntmps84;go_wp2;go_ret;exact ⟨by rw[HF.out]; rfl,Below.refl _ _⟩}
end
section
open Go.RowKit Shp
theorem Z7B (A:Option Addr) (c:Nat) (l:List (List UInt8)) (p:Nat) (w:World) (hA:Strs w w.heap.size A (strs l)) (hl:l.length<=9223372036854775807) (hx: ∀x∈l,x.length<=9223372036854775807):
 Y9 85 #[.slice A l.length c,.int .i64 (p:Int)] w (.bool (areNames l&&decide (l.length=p))):=by
 have HA:=Y1 hA;have HX:=Y1 hx;clear hA hx;go_enter Tryz.func85,Tryz.ntmps85
 go_wp2_with fail
 go_loopw [5] (fun ii wr=> ∃i:Nat,ii= .int .i64 i/\i<=l.length/\Hid (∀j (hj:j < l.length),j < i->Lex.isName (l[j]'hj)=true/\ ∀k (hk:k < j),l[k]'(by omega)≠l[j]'hj)/\Below w.heap.size w wr)
  (fun i _=>l.length - (intOf i).toNat)
 case atStart=>exact ⟨0,rfl,Nat.zero_le _,Y1 (fun j _ hj=>absurd hj (by omega)),Below.refl _ _⟩
 case round=>
  obtain ⟨i,rfl,hi,HN,hb⟩:=hrel;by_cases hlt:i < l.length
  {have hi1: (i:Int) < (l.length:Int):=by omega
   rcases (HA.out.next hb).cell7 with h0 | ⟨g,off,rfl,hg,hc⟩
   {omega}
   {have hcell:=hc i hlt;obtain ⟨x,hx⟩: ∃x,x=l[i]'hlt:=⟨_,rfl⟩;rw[<-hx] at hcell;have hxl:x.length<=9223372036854775807:=by rw[hx]; exact HX.out _ (List.getElem_mem _)
    have HE:=Y1 hx;have HC:=Y1 hc;clear hx hc;cases hn:Lex.isName x with
    | false=>
     have HF:Hid (areNames l=false):=Y1 (Z3U hlt (by rw[<-HE.out]; exact hn));have hw:=Z3z x hxl wr;rw[hn] at hw;clear hn
     go_wp2_with (refine hw.mono ?_; rintro e w' ⟨rfl,hb'⟩)
     go_ret;exact ⟨by rw[HF.out]; rfl,Z00 hb hb'⟩
    | true=>
     have HT:Hid (Lex.isName (l[i]'hlt)=true):=Y1 (by rw[<-HE.out]; exact hn);have hw:=Z3z x hxl wr;rw[hn] at hw;clear hn
     go_wp2_with (refine hw.mono ?_; rintro e w' ⟨rfl,hb'⟩)
     have hbw:=Z00 hb hb';have HC2:Hid (∀j (hj:j < l.length),w'.cell? ⟨g,off+j,none⟩=some (.string ⟨(l[j]'hj).toArray⟩)):=Y1 (fun j hj=>((hb'.cell (p:=⟨g,off+j,none⟩) hg).trans (HC.out j hj)));have hcell2:=HC2.out i hlt;rw[<-HE.out] at hcell2;have HH2:=Y1 hcell2;have HBW:=Y1 hbw;clear hw hb hb' hbw hcell hcell2
     go_loopw [6] (fun kk wr2=> ∃k:Nat,kk= .int .i64 k/\k<=i/\Hid (∀j (hj:j < i),j < k->l[j]'(by omega)≠l[i]'hlt)/\Hid (Below w'.heap.size w' wr2))
      (fun k _=>i - (intOf k).toNat)
     case atStart=>exact ⟨0,rfl,Nat.zero_le _,Y1 (fun j _ hj=>absurd hj (by omega)),Y1 Y2⟩
     case round=>
      obtain ⟨k,rfl,hk,HK,HB2⟩:=hrel;have hgw:g < w'.heap.size:=Z1W HH2.out;by_cases hki:k < i
      {have hk1: (k:Int) < (i:Int):=by omega
       have hk2: (k:Int) < (l.length:Int):=by omega
       have hck:=(HB2.out.cell (p:=⟨g,off+k,none⟩) hgw).trans (HC2.out k (by omega));have hci:=(HB2.out.cell (p:=⟨g,off+i,none⟩) hgw).trans HH2.out;obtain ⟨y,hy⟩: ∃y,y=l[k]'(by omega):=⟨_,rfl⟩;rw[<-hy] at hck;have HY:=Y1 hy;clear hy;cases hq: (y==x)
       {have HM:Hid (l[k]'(by omega)≠l[i]'hlt):=Y1 (by rw[<-HY.out, <-HE.out]; intro h; rw[h] at hq; simp at hq)
        go_wp2_with fail
        go_quiet (fail)
        go_wp2
        go_roundw
        case rel=>exact ⟨k+1,by go_num,by omega,Y1 (fun j hj hji=>by
         rcases Nat.lt_succ_iff_lt_or_eq.1 hji with h | rfl
         {exact HK.out j hj h}
         · exact HM.out),Y1 (Z0r HB2.out _)⟩
        case measure=>simp[intOf]; omega}
       {have HF:Hid (areNames l=false):=Y1 (Z3e hlt hki (by rw[<-HY.out, <-HE.out]; simpa using hq))
        go_wp2_with fail
        go_quiet (fail)
        go_wp2;go_ret;exact ⟨by rw[HF.out]; rfl,Z0r (Z00 HBW.out HB2.out) _⟩}}
      {have hke:k=i:=by omega
       have HN2:Hid (∀j (hj:j < l.length),j < i+1->Lex.isName (l[j]'hj)=true/\ ∀k (hk:k < j),l[k]'(by omega)≠l[j]'hj):=Y1 (fun j hj hji=>by
        rcases Nat.lt_succ_iff_lt_or_eq.1 hji with h | rfl
        {exact HN.out j hj h}
        · exact ⟨HT.out,fun m hm=>HK.out m hm (by omega)⟩)
       have hk1: ¬(k:Int) < (i:Int):=by omega
       clear hke;go_wp2
       go_roundw
       case rel=>exact ⟨i+1,by go_num,by omega,HN2,Z00 HBW.out HB2.out⟩
       case measure=>simp[intOf]; omega}}}
  {have hi1: ¬(i:Int) < (l.length:Int):=by omega
   have HM:Hid (areNames l=true):=Y1 (Z4h (fun j hj=>(HN.out j hj (by omega)).1) (fun j hj=>(HN.out j hj (by omega)).2));go_wp2;go_ret;exact ⟨Z0y (by rw[HM.out,Bool.true_and,Bool.eq_iff_iff]; simp; omega),hb⟩}
end
end Go.Proofs.YtlomianlcnmfgaaGreatDoor
namespace Lex
section
def join:List (List UInt8)->List UInt8
 | []=> []
 | [p]=>p
 | p::q::ps=>p++32::join (q::ps)
def Placed (s:List UInt8):Nat->List (Tok×Nat)->Prop
 | a,[]=>a<=s.length
 | a,(t,p)::r=>a<=p/\p<=s.length/\1<=t.kind/\t.kind<=7/\(t.kind=4->Placed s (p+2) r)/\(t.kind≠4->p+t.text.length<=s.length/\(s.drop p).take t.text.length=t.text/\Placed s (p+t.text.length) r)
theorem Placed.less {s:List UInt8} {a b:Nat} (hab:b<=a): ∀ {l:List (Tok×Nat)},Placed s a l->Placed s b l
 | [],h=>Nat.le_trans hab h
 | (t,p)::r,h=>by
  obtain ⟨h1,h2⟩:=h;exact ⟨Nat.le_trans hab h1,h2⟩
def up (k:Nat):Except Nat Nat->Except Nat Nat
 | .ok n=> .ok (k+n)
 | .error n=> .error (k+n)
end
end Lex
