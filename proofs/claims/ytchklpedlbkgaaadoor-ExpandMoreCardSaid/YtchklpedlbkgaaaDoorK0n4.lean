/- What the proofs of ExpandMore want, part 4. -/
import Derived.Lib.SmallJoins
import Derived.Test.YtchklpedlbkgaaaDoorK0n3
set_option linter.unusedVariables false
set_option linter.unusedSimpArgs false
set_option linter.unusedSectionVars false
set_option maxRecDepth 100000
set_option maxHeartbeats 16000000
namespace Go.Proofs.YtchklpedlbkgaaaDoor
section
open Shp
theorem Z4v (x:Fld): ∀l:List Fld,(ins x l).Perm (x::l)
 | []=>List.Perm.refl _
 | y::l=>by
  unfold ins;split
  {exact ((Z4v x l).cons y).trans (List.Perm.swap x y l)}
  {exact List.Perm.refl _}
theorem Z3L: ∀(l a:List Fld),(l.foldl (fun a x=>ins x a) a).Perm (l++a)
 | [],a=>List.Perm.refl _
 | x::l,a=>by
  rw[List.foldl_cons];refine (Z3L l _).trans ?_;refine (List.Perm.append_left l (Z4v x a)).trans ?_;exact List.perm_middle
theorem Z0w (l:List Fld): (sortF l).Perm l:=by
 have:=Z3L l []
 rwa [List.append_nil] at this
theorem Z4O (x:Fld): ∀l:List Fld,l.Pairwise (fun a b=>a.1<=b.1)->(ins x l).Pairwise (fun a b=>a.1<=b.1)
 | [],_=>by simp[ins]
 | y::l,h=>by
  rw[List.pairwise_cons] at h;unfold ins;split
  {rename_i hlt
   rw[List.pairwise_cons];refine ⟨fun b hb=> ?_,Z4O x l h.2⟩;rcases List.mem_cons.1 ((Z4v x l).mem_iff.1 hb) with rfl | hb
   {exact List.le_of_lt hlt}
   {exact h.1 b hb}}
  {rename_i hlt
   have hxy:x.1<=y.1:=List.not_lt.1 hlt;rw[List.pairwise_cons,List.pairwise_cons];refine ⟨fun b hb=> ?_,h⟩;rcases List.mem_cons.1 hb with rfl | hb
   {exact hxy}
   {exact List.le_trans hxy (h.1 b hb)}}
theorem Z2X: ∀(l a:List Fld),a.Pairwise (fun a b=>a.1<=b.1)->(l.foldl (fun a x=>ins x a) a).Pairwise (fun a b=>a.1<=b.1)
 | [],a,h=>h
 | x::l,a,h=>Z2X l _ (Z4O x a h)
theorem Z1o (l:List Fld): (sortF l).Pairwise (fun a b=>a.1<=b.1):=Z2X l [] List.Pairwise.nil
theorem Z9V {l:List Fld} (h: (l.map Prod.fst).Nodup) {a b:Fld} (ha:a∈l) (hb:b∈l) (he:a.1=b.1):a=b:=by
 induction l with
 | nil=>cases ha
 | cons x l ih=>
  rw[List.map_cons,List.nodup_cons] at h;rcases List.mem_cons.1 ha with e1 | h1
  {rcases List.mem_cons.1 hb with e2 | h2
   {rw[e1,e2]}
   {exact absurd (by rw[<-e1,he]; exact List.mem_map_of_mem h2) h.1}}
  {rcases List.mem_cons.1 hb with e2 | h2
   {exact absurd (by rw[<-e2, <-he]; exact List.mem_map_of_mem h1) h.1}
   {exact ih h.2 h1 h2}}
theorem Z1p {l m:List Fld} (hp:m.Perm l) (hs:m.Pairwise (fun a b=>a.1<=b.1)) (hn: (l.map Prod.fst).Nodup):m=sortF l:=by
 refine List.Perm.eq_of_pairwise (le:=fun a b:Fld=>a.1<=b.1) (fun a b ha hb h1 h2=> ?_) hs (Z1o l) (hp.trans (Z0w l).symm);exact Z9V hn (hp.mem_iff.1 ha) ((Z0w l).mem_iff.1 hb) (List.le_antisymm h1 h2)
end
section
open Go.RowKit Shp Go.Sort
theorem Z7k (t:Sh) (q:Ptr) (w:World) (h0:t.names.length=0):
 Y9 52 #[.iface 92 (.agg (Y8 t q))] w (.tuple #[]):=by
 have H:Srt t.names.length w.heap.size (.agg (Y8 t q)) ltEl (fun d w1=>d.size=t.names.length/\Below w.heap.size w w1):= {
  less:=fun d w1 i j h hi0 hi=>absurd hi (by omega)
  swap:=fun d w1 i j h hi0 hi=>absurd hi (by omega)
  size:=fun d w1 h=>h.1
  big:=by omega
  base:=fun d w1 h=>h.2.size
  keep:=fun d w1 w2 h hb=>⟨h.1,h.2.trans hb⟩
  mL:=fmL t q
  mS:=fmS t q }
 exact (Z4N H Z9U (fmN t q) (fun d w1 h=>(Z5r t q w1).mono fun e w2 ⟨he,hb⟩=>⟨he,h.1,Z02 h.2 hb⟩) #[] w ⟨by rw[h0]; rfl,Below.refl _ _⟩).mono fun e w' ⟨he,d',_,_,h⟩=>⟨he,h.2⟩
def els (t:Sh) (qs:Nat->Ptr) (Fs:Nat->List Nat):Array El:=((List.range t.names.length).map fun i=>(⟨t.names.getD i [],t.parts.getD i ⟨0,[],[],[],[]⟩,qs i,Fs i⟩:El)).toArray
section
variable (t : Sh) (qs : Nat -> Ptr) (Fs : Nat -> List Nat)
include t qs Fs
theorem Z3g: (els t qs Fs).size=t.names.length:=by simp[els]
theorem Z6d (i:Nat) (h:i < t.names.length) (h2:i < t.parts.length): (els t qs Fs)[i]! =⟨t.names[i],t.parts[i],qs i,Fs i⟩:=by
 rw[getElem!_pos (els t qs Fs) i (by rw[Z3g]; exact h)];simp[els,h,h2]
end
theorem Z8A (t:Sh) (q:Ptr) (qs:Nat->Ptr) (Fs:Nat->List Nat) (bn bp:Nat) (w:World) (hA:q.A=some ⟨bn,0,none⟩) (hP:q.P=some ⟨bp,0,none⟩) (hl:t.names.length=t.parts.length) (hN:t.names.length < 400000)
    (ht:TxR w bn t.names) (hp:PaR w bp t.parts qs) (hne:bn≠bp):
    Calls Tryd.prog 52 #[.iface 92 (.agg #[.int .i64 t.kind,.string ⟨t.of_.toArray⟩,.string ⟨t.name.toArray⟩,.slice q.A t.names.length q.c,.slice q.P t.parts.length q.d])] w fun e w'=>e= .returned (.tuple #[])/\
      ∃d',PermIn 0 t.names.length (els t qs Fs) d'/\SortedIn ltEl 0 t.names.length d'/\FSt w bn bp t.names.length d' w':=by
  have hlen:=Z5r t q;have mN:=fmN t q;rw[hA,hP] at hlen mN ⊢;have H:=Z8z w bn bp t.names.length t.kind t.of_ t.name q.c t.parts.length q.d hN (by omega) (by omega);refine Z4N H Z9U mN (fun d w1 h=>(hlen w1).mono fun e w2 ⟨he,hb⟩=>⟨he,h.keep (hb.mono h.up.size)⟩) (els t qs Fs) w ?_;exact ⟨Z3g t qs Fs,fun i hi=>by rw[Z6d t qs Fs i hi (by omega)]; exact ht.at_ i hi,fun i hi=>by rw[Z6d t qs Fs i hi (by omega)]; exact hp.at_ i (by omega),ht.fz,hp.fz,ht.lt,hp.lt,hne,Up2.refl _ _ _⟩
theorem Z8B {N:Nat} {d d':Array El} (h:PermIn 0 N d d') (hN:d.size=N):d'.toList.Perm d.toList:=by
 obtain ⟨h1,_,h3⟩:=h;have e:d.extract 0 N=d:=by rw[<-hN]; exact Array.extract_size
 have e':d'.extract 0 N=d':=by rw[<-hN, <-h1]; exact Array.extract_size
 rwa [e,e'] at h3
theorem Z6e {N:Nat} {d:Array El} (h:SortedIn ltEl 0 N d) (hN:d.size=N): (d.toList.map fun x=>(x.n,x.t)).Pairwise (fun a b:Fld=>a.1<=b.1):=by
 rw[List.pairwise_map,List.pairwise_iff_getElem];intro i j hi hj hij;have:=h i j (Nat.zero_le _) hij (by simpa[hN] using hj);simp only[ltEl,decide_eq_false_iff_not,List.not_lt] at this;rw[getElem!_pos d i (by simpa using hi),getElem!_pos d j (by simpa using hj)] at this;simpa using this
theorem Z8C {t t':Sh} {q:Ptr} (h:Small t q) (ho:t'.of_=t.of_) (hn:t'.name=t.name) (hns:t'.names.Perm t.names) (hp:t'.parts.length=t.parts.length):Small t' q:=by
 have hl:=hns.length_eq;obtain ⟨h1,h2,h3,h4,h5,h6,h7,h8,h9⟩:=h;exact ⟨by rw[ho]; exact h1,by rw[hn]; exact h2,fun x hx=>h3 x (hns.mem_iff.1 hx),by rw[hl]; exact h4,by rw[hp]; exact h5,by rw[hl]; exact h6,by rw[hp]; exact h7,h8,h9⟩
theorem Zb0 {w0 W:World} {t:Sh} {q:Ptr} {bn bp N:Nat} {qs:Nat->Ptr} {Fs:Nat->List Nat} {d:Array El} (hA:q.A=some ⟨bn,0,none⟩) (hP:q.P=some ⟨bp,0,none⟩) (hs:Small t q)
 (hN:t.names.length=N) (hN2:t.parts.length=N) (hf:FSt w0 bn bp N d W) (hp:d.toList.Perm (els t qs Fs).toList) (hr: ∀i (h:i < t.parts.length),Own W (qs i) (t.parts[i]'h) (Fs i)):
 Own W q ⟨t.kind,t.of_,t.name,d.toList.map El.n,d.toList.map El.t⟩ ([bn]++ [bp]++d.toList.flatMap El.F)/\([bn]++ [bp]++d.toList.flatMap El.F).Perm ([bn]++ [bp]++(List.range t.parts.length).flatMap Fs):=by
 have hsz:=hf.size;have hall: ∀x∈d.toList,Own W x.q x.t x.F:=fun x hx=>by
  have hx2:=hp.mem_iff.1 hx;obtain ⟨i,hi,rfl⟩:=List.getElem_of_mem hx2;have hi2:i < t.names.length:=by simpa[els] using hi
  have:=Z6d t qs Fs i hi2 (by omega);rw[getElem!_pos (els t qs Fs) i (by rw[Z3g]; exact hi2)] at this;rw[Array.getElem_toList,this];exact hr i (by omega)
 have hen: ((els t qs Fs).toList.map El.n)=t.names:=by
  apply List.ext_getElem
  {simp[els]}
  {intro i h1 h2;simp[els,h2]}
 have heF: (els t qs Fs).toList.flatMap El.F=(List.range t.parts.length).flatMap Fs:=by
  rw[hN2, <-hN];simp[els,List.flatMap_map]
 have hget: ∀i (h:i < d.toList.length),d[i]! =d.toList[i]'h:=fun i h=>by
  rw[getElem!_pos d i (by simpa using h)];simp
 refine ⟨.mk q _ _ [bn] [bp] (fun i=>(d[i]!).q) (fun i=>(d[i]!).F) (Z8C hs rfl rfl ((hp.map El.n).trans (by rw[hen])) (by simp; omega)) ?_ ?_ ?_ ?_, ?_⟩
 {refine Or.inr ⟨bn,hA,rfl,Nat.lt_of_lt_of_le hf.ln hf.up.size,fun i hi=> ?_,hf.fn⟩;have hi2:i < d.toList.length:=by simpa using hi
  rw[hf.tx i (by simpa[hsz] using hi2),hget i hi2];simp}
 {refine Or.inr ⟨bp,hP,rfl,Nat.lt_of_lt_of_le hf.lp hf.up.size,fun i hi=> ?_,hf.fp⟩;have hi2:i < d.toList.length:=by simpa using hi
  have:=hf.pa i (by simpa[hsz] using hi2);rw[hget i hi2] at this;simpa[hget i hi2] using this}
 {intro i hi;have hi2:i < d.toList.length:=by simpa using hi
  have:=hall _ (List.getElem_mem hi2);simpa[hget i hi2] using this}
 {congr 1;show d.toList.flatMap El.F=(List.range (d.toList.map El.t).length).flatMap (fun i=>(d[i]!).F);rw[List.length_map];have:d.toList=(List.range d.toList.length).map (fun i=>d[i]!):=by
   apply List.ext_getElem
   {simp}
   {intro i h1 h2;simp[hget i h1]}
  conv=>lhs; rw[this]
  rw[List.flatMap_map]}
 {rw[<-heF];exact List.Perm.append_left _ (List.Perm.flatMap_right El.F hp)}
end
section
open Go.RowKit Shp
structure UpF (F:List Nat) (w w':World):Prop where
 os:w'.os=w.os
 tape:w'.tape=w.tape
 output:w'.output=w.output
 size:w.heap.size<=w'.heap.size
 block: ∀k,k < w.heap.size->k∉F->w'.heap[k]? =w.heap[k]?
theorem UpF.refl (F:List Nat) (w:World):UpF F w w:=⟨rfl,rfl,rfl,Nat.le_refl _,fun _ _ _=>rfl⟩
theorem UpF.below {F:List Nat} {a b c:World} (h:UpF F a b) (k:Below b.heap.size b c):UpF F a c:=
 ⟨k.os.trans h.os,k.tape.trans h.tape,k.output.trans h.output,Nat.le_trans h.size k.size,fun x h1 h2=>(k.block x (Nat.lt_of_lt_of_le h1 h.size)).trans (h.block x h1 h2)⟩
theorem UpF.next {F G:List Nat} {a b c:World} (h:UpF F a b) (k:UpF G b c) (hs: ∀x∈G,x∈F):UpF F a c:=
 ⟨k.os.trans h.os,k.tape.trans h.tape,k.output.trans h.output,Nat.le_trans h.size k.size,fun x h1 h2=>(k.block x (Nat.lt_of_lt_of_le h1 h.size) (fun e=>h2 (hs x e))).trans (h.block x h1 h2)⟩
theorem UpF.same {F:List Nat} {w w':World} (h:UpF F w w') {b:Nat} (h1:b < w.heap.size) (h2:b∉F):Z0v w w' b:=
 ⟨fun k=>World.cell?_of_block (w:=w) (h.block b h1 h2),fun k=>World.frozen?_of_block (w:=w) (h.block b h1 h2)⟩
theorem Up2.upF {bn bp:Nat} {w w':World} (h:Up2 bn bp w w') {F:List Nat} (h1:bn∈F) (h2:bp∈F):UpF F w w':=
 ⟨h.os,h.tape,h.output,h.size,fun k hk hn=>h.block k hk (fun e=>hn (e▸h1)) (fun e=>hn (e▸h2))⟩
theorem Z0p {W W':World} {q:Ptr} {t:Sh} {F:List Nat} (h:Own W q t F) (hb:Below W.heap.size W W'):Own W' q t F:=
 h.of (fun b hm=>⟨fun k=>hb.cell (p:=⟨b,k,none⟩) (h.lt b hm),fun k=>hb.frozen (p:=⟨b,k,none⟩) (h.lt b hm)⟩) hb.size
theorem Z2D (t:Sh): (sorted t).kind=t.kind/\(sorted t).of_=t.of_/\(sorted t).name=t.name:=by
 rw[Z0d]; split <;> exact ⟨rfl,rfl,rfl⟩
theorem Z4e {t:Sh} (h:t.names= []\/t.names.length=t.parts.length): (sorted t).names.length=t.names.length/\(sorted t).parts.length=t.parts.length:=by
 rw[Z0d];split
 {rename_i h0
  simp[h0]}
 {rename_i h0
  rcases h with h | h
  {exact absurd h h0}
  {have:=(Z0w (t.names.zip (t.parts.map sorted))).length_eq;rw[List.length_zip,List.length_map] at this;simp only[List.length_map,this];omega}}
theorem Z1s {t:Sh} (h:right t=true):t.names= []\/t.names.length=t.parts.length/\t.names.Nodup:=by
 have hf:=Z0c h;unfold fits at hf;split at hf
 {simp only[Bool.and_eq_true,decide_eq_true_eq] at hf;exact Or.inl (List.eq_nil_of_length_eq_zero hf.1.2)}
 {split at hf
  {cases hf}
  {split at hf
   {simp only[Bool.and_eq_true,decide_eq_true_eq] at hf;refine Or.inr ⟨hf.2, ?_⟩;have:=hf.1;simp only[areNames,Bool.and_eq_true,Z5o] at this;exact this.2}
   {split at hf
    {cases hf}
    {rename_i h0
     exact Or.inl (List.eq_nil_of_length_eq_zero (by omega))}}}}
theorem Z4P {W:World} {b o:Nat} {t:Sh} {q:Ptr} (hr:right t=true) (h:Sh5 W b o t q):Sh5 W b o (sorted t) q:=by
 obtain ⟨k1,k2,k3⟩:=Z2D t;obtain ⟨l1,l2⟩:=Z4e (t:=t) ((Z1s hr).imp id And.left);unfold Sh5 at *;rw[k1,k2,k3,l1,l2];exact h
theorem Z6f {Fs:Nat->List Nat}: ∀n,((List.range n).flatMap Fs).Nodup->(∀j,j < n->(Fs j).Nodup)/\ ∀i j,i < j->j < n-> ∀b∈Fs i,b∉Fs j
 | 0,_=>⟨fun j hj=>absurd hj (by omega),fun i j _ hj=>absurd hj (by omega)⟩
 | n+1,h=>by
  rw[List.range_succ,List.flatMap_append,List.nodup_append] at h;obtain ⟨h1,h2,h3⟩:=h;obtain ⟨k1,k2⟩:=Z6f n h1;have e: [n].flatMap Fs=Fs n:=by simp
  rw[e] at h2 h3;refine ⟨fun j hj=> ?_,fun i j hij hj b hb hb2=> ?_⟩
  {rcases Nat.lt_or_eq_of_le (Nat.le_of_lt_succ hj) with h | rfl
   {exact k1 j h}
   {exact h2}}
  {rcases Nat.lt_or_eq_of_le (Nat.le_of_lt_succ hj) with h | rfl
   {exact k2 i j hij h b hb hb2}
   {exact h3 b (List.mem_flatMap.2 ⟨i,List.mem_range.2 hij,hb⟩) b hb2 rfl}}
theorem Z2E {FN FP:List Nat} {n:Nat} {Fs:Nat->List Nat} (h: (FN++FP++(List.range n).flatMap Fs).Nodup):
 (∀b∈FN,b∉FP)/\(∀b∈FN,∀j,j < n->b∉Fs j)/\(∀b∈FP,∀j,j < n->b∉Fs j)/\(∀j,j < n->(Fs j).Nodup)/\ ∀i j,i < n->j < n->i≠j-> ∀b∈Fs i,b∉Fs j:=by
 rw[List.nodup_append] at h;obtain ⟨h1,h2,h3⟩:=h;rw[List.nodup_append] at h1;have hm: ∀j,j < n-> ∀b∈Fs j,b∈(List.range n).flatMap Fs:=fun j hj b hb=>List.mem_flatMap.2 ⟨j,List.mem_range.2 hj,hb⟩;obtain ⟨h4,h5⟩:=Z6f n h2;refine ⟨fun b hb hb2=>h1.2.2 b hb b hb2 rfl,fun b hb j hj hb2=>h3 b (List.mem_append_left _ hb) b (hm j hj b hb2) rfl,fun b hb j hj hb2=>h3 b (List.mem_append_right _ hb) b (hm j hj b hb2) rfl,h4,fun i j hi hj hne b hb hb2=> ?_⟩;rcases Nat.lt_or_gt_of_ne hne with h | h
 {exact h5 i j h hj b hb hb2}
 {exact h5 j i h hi b hb2 hb}
end
section
open Shp
theorem Z0f {t:Sh} (h:check t=0):size t<=400/\deep t<=40/\right t=true:=by
 unfold check at h;by_cases h4:400 < size t
 {rw[if_pos h4] at h; omega}
 {rw[if_neg h4] at h;by_cases h40:40 < deep t
  {rw[if_pos h40] at h; omega}
  {rw[if_neg h40] at h;cases hr:right t with
   | false=>rw[hr] at h; simp at h
   | true=>exact ⟨by omega,by omega,rfl⟩}}
theorem Z5J {l m:List (List UInt8)} (h:l.Perm m):areNames l=areNames m:=by
 rw[Bool.eq_iff_iff,Z0D,Z0D];exact ⟨fun ⟨h1,h2⟩=>⟨fun x hx=>h1 x (h.mem_iff.2 hx),h.nodup_iff.1 h2⟩,fun ⟨h1,h2⟩=>⟨fun x hx=>h1 x (h.mem_iff.1 hx),h.nodup_iff.2 h2⟩⟩
theorem Z5t {t u:Sh} (hk:u.kind=t.kind) (ho:u.of_=t.of_) (hn:u.name=t.name) (hns:u.names.Perm t.names) (hp:u.parts.length=t.parts.length):fits u=fits t:=by
 have ha:=Z5J hns;unfold fits bare;rw[hk,ho,hn,hns.length_eq,hp,ha]
theorem Z4Q {l m:List Sh} (h:l.Perm m):sizes l=sizes m:=by
 induction h with
 | nil=>rfl
 | cons x _ ih=>simp[sizes,ih]
 | swap x y l=>simp[sizes]; omega
 | trans _ _ ih1 ih2=>exact ih1.trans ih2
theorem Z4R {l m:List Sh} (h:l.Perm m):deeps l=deeps m:=by
 induction h with
 | nil=>rfl
 | cons x _ ih=>simp[deeps,ih]
 | swap x y l=>simp[deeps]; omega
 | trans _ _ ih1 ih2=>exact ih1.trans ih2
theorem Z9W {f:Sh->Sh} {l:List Sh} (h: ∀p∈l,size (f p)=size p):sizes (l.map f)=sizes l:=by
 induction l with
 | nil=>rfl
 | cons a l ih=>simp[sizes,h a (by simp),ih (fun p hp=>h p (by simp[hp]))]
theorem Z9X {f:Sh->Sh} {l:List Sh} (h: ∀p∈l,deep (f p)=deep p):deeps (l.map f)=deeps l:=by
 induction l with
 | nil=>rfl
 | cons a l ih=>simp[deeps,h a (by simp),ih (fun p hp=>h p (by simp[hp]))]
structure Like (f:Sh->Sh) (t u:Sh):Prop where
 k:u.kind=t.kind
 o:u.of_=t.of_
 n:u.name=t.name
 ns:u.names.Perm t.names
 ps:u.parts.Perm (t.parts.map f)
theorem Like.size {f:Sh->Sh} {t u:Sh} (h:Like f t u) (hp: ∀p∈t.parts,size (f p)=size p):size u=size t:=by
 rw[size_eq,size_eq,Z4Q h.ps,Z9W hp]
theorem Like.deep {f:Sh->Sh} {t u:Sh} (h:Like f t u) (hp: ∀p∈t.parts,deep (f p)=deep p):deep u=deep t:=by
 rw[Z0l,Z0l,Z4R h.ps,Z9X hp]
theorem Like.right {f:Sh->Sh} {t u:Sh} (h:Like f t u) (ht:right t=true) (hp: ∀p∈t.parts,right (f p)=true):right u=true:=by
 refine Z2m ?_ (fun p hm=> ?_)
 {rw[Z5t h.k h.o h.n h.ns (by rw[h.ps.length_eq,List.length_map])];exact Z0c ht}
 {obtain ⟨x,hx,rfl⟩:=List.mem_map.1 (h.ps.mem_iff.1 hm);exact hp x hx}
theorem Z2Y {t:Sh} (h:right t=true) (h0:t.names≠ []):t.names.length=t.parts.length/\t.names.Nodup:=(Z1s h).resolve_left h0
theorem Z1v {t:Sh} (h:right t=true):Like turned t (turned t):=by
 rw[Z16];split
 {rename_i h0
  exact ⟨rfl,rfl,rfl,by rw[h0],List.Perm.refl _⟩}
 {exact ⟨rfl,rfl,rfl,List.reverse_perm _,List.reverse_perm _⟩}
theorem Z7l (t:Sh):right t=true->size (turned t)=size t:=by
 induction t using Sh.ind with
 | h t ih=>exact fun h=>(Z1v h).size fun p hp=>ih p hp (Z05 h hp)
theorem Z7m (t:Sh):right t=true->deep (turned t)=deep t:=by
 induction t using Sh.ind with
 | h t ih=>exact fun h=>(Z1v h).deep fun p hp=>ih p hp (Z05 h hp)
theorem Z6h (t:Sh):right t=true->right (turned t)=true:=by
 induction t using Sh.ind with
 | h t ih=>exact fun h=>(Z1v h).right h fun p hp=>ih p hp (Z05 h hp)
theorem Z4w {t:Sh} (h1:size t<=400) (h2:deep t<=40) (h3:right t=true):check t=0:=by
 unfold check;rw[if_neg (by omega),if_neg (by omega),if_neg (by rw[h3]; decide)]
theorem Z1P {t:Sh} (h:check t=0):check (turned t)=0:=by
 obtain ⟨h1,h2,h3⟩:=Z0f h;exact Z4w (by rw[Z7l t h3]; exact h1) (by rw[Z7m t h3]; exact h2) (Z6h t h3)
theorem Z6j (u:Sh):u=⟨u.kind,u.of_,u.name,u.names,u.parts⟩:=by cases u; rfl
end
end Go.Proofs.YtchklpedlbkgaaaDoor
namespace Go.Proofs.YtchklpedlbkgaaaDoor
namespace Expd
open Shp
structure Bd where
 of_:List UInt8
 name:List UInt8
 sh:Sh
def find:List Bd->List UInt8->List UInt8->Option Sh
 | [],_,_=>none
 | b::l,o,n=>match find l o n with
  | some s=>some s
  | none=>if b.of_=o/\b.name=n then some b.sh else none
abbrev Look:=List UInt8->List UInt8->Option Sh
mutual
def put (f:Look):Sh->Option Sh
 | ⟨k,o,n,ns,ps⟩=>if k=9 then f o n else match puts f ps with
  | none=>none
  | some qs=>some ⟨k,o,n,ns,qs⟩
def puts (f:Look):List Sh->Option (List Sh)
 | []=>some []
 | p::ps=>match put f p with
  | none=>none
  | some q=>match puts f ps with
   | none=>none
   | some qs=>some (q::qs)
end
mutual
def fill (f:Look):Sh->Sh
 | ⟨k,o,n,ns,ps⟩=>if k=9 then (f o n).getD ⟨k,o,n,ns,ps⟩ else ⟨k,o,n,ns,fills f ps⟩
def fills (f:Look):List Sh->List Sh
 | []=> []
 | p::ps=>fill f p::fills f ps
end
mutual
def keys:Sh->List (List UInt8×List UInt8)
 | ⟨k,o,n,_,ps⟩=>if k=9 then [(o,n)] else keyss ps
def keyss:List Sh->List (List UInt8×List UInt8)
 | []=> []
 | p::ps=>keys p++keyss ps
end
theorem Za0 (f:Look) (l:List Sh):fills f l=l.map (fill f):=by
 induction l with
 | nil=>rfl
 | cons a l ih=>simp[fills,ih]
theorem Z8D (l:List Sh):keyss l=l.flatMap keys:=by
 induction l with
 | nil=>rfl
 | cons a l ih=>simp[keyss,ih]
theorem Z4S (f:Look) (t:Sh):put f t=if t.kind=9 then f t.of_ t.name else match puts f t.parts with
 | none=>none
 | some qs=>some ⟨t.kind,t.of_,t.name,t.names,qs⟩:=by cases t; rfl
theorem Z7Y (f:Look) (t:Sh):fill f t=if t.kind=9 then (f t.of_ t.name).getD t else ⟨t.kind,t.of_,t.name,t.names,t.parts.map (fill f)⟩:=by
 cases t; rw[<-Za0]; rfl
theorem Z5g (t:Sh):keys t=if t.kind=9 then [(t.of_,t.name)] else t.parts.flatMap keys:=by
 cases t; rw[<-Z8D]; rfl
theorem fill_name {f:Look} {t:Sh} (h:t.kind=9):fill f t=(f t.of_ t.name).getD t:=by rw[Z7Y,if_pos h]
theorem fill_node {f:Look} {t:Sh} (h: ¬t.kind=9):fill f t=⟨t.kind,t.of_,t.name,t.names,t.parts.map (fill f)⟩:=by rw[Z7Y,if_neg h]
theorem keys_name {t:Sh} (h:t.kind=9):keys t= [(t.of_,t.name)]:=by rw[Z5g,if_pos h]
theorem keys_node {t:Sh} (h: ¬t.kind=9):keys t=t.parts.flatMap keys:=by rw[Z5g,if_neg h]
theorem Z3M {t p:Sh} (h: ¬t.kind=9) (hp:p∈t.parts) {k:List UInt8×List UInt8} (hk:k∈keys p):k∈keys t:=by
 rw[keys_node h]; exact List.mem_flatMap.2 ⟨p,hp,hk⟩
section
variable {f : Look}
include f
theorem Za1 {l:List Sh} (h: ∀p∈l,put f p=some (fill f p)):puts f l=some (l.map (fill f)):=by
 induction l with
 | nil=>rfl
 | cons a l ih=>
  unfold puts;rw[h a (by simp),ih (fun p hp=>h p (by simp[hp]))];rfl
theorem Za2 {l:List Sh} {p:Sh} (hp:p∈l) (h:put f p=none):puts f l=none:=by
 induction l with
 | nil=>cases hp
 | cons a l ih=>
  unfold puts;rcases List.mem_cons.1 hp with rfl | hp
  {rw[h]}
  {rw[ih hp];cases put f a <;> rfl}
theorem put_some (t:Sh): (∀k∈keys t,(f k.1 k.2).isSome=true)->put f t=some (fill f t):=by
 induction t using Sh.ind with
 | h t ih=>
  intro h;by_cases hk:t.kind=9
  {rw[Z4S,if_pos hk,fill_name hk];have:=h (t.of_,t.name) (by rw[keys_name hk]; simp);cases e:f t.of_ t.name with
   | none=>rw[e] at this; cases this
   | some s=>rfl}
  {rw[Z4S,if_neg hk,fill_node hk,Za1 (fun p hp=>ih p hp (fun k hkk=>h k (Z3M hk hp hkk)))]}
theorem put_none (t:Sh) {k:List UInt8×List UInt8}:k∈keys t->f k.1 k.2=none->put f t=none:=by
 induction t using Sh.ind with
 | h t ih=>
  intro hm hn;by_cases hk:t.kind=9
  {rw[keys_name hk,List.mem_singleton] at hm;rw[Z4S,if_pos hk];rw[hm] at hn; exact hn}
  {rw[keys_node hk] at hm;obtain ⟨p,hp,hm⟩:=List.mem_flatMap.1 hm;rw[Z4S,if_neg hk,Za2 hp (ih p hp hm hn)]}
end
theorem Z6k (f:Look) (t:Sh): (∀k∈keys t,(f k.1 k.2).isSome=true)\/ ∃k∈keys t,f k.1 k.2=none:=by
 by_cases h: ∀k∈keys t,(f k.1 k.2).isSome=true
 {exact Or.inl h}
 {refine Or.inr ?_;simp only[Classical.not_forall] at h;obtain ⟨k,hk,h⟩:=h;refine ⟨k,hk, ?_⟩;cases e:f k.1 k.2 with
  | none=>rfl
  | some s=>rw[e] at h; exact absurd rfl h}
def Z0W:Sh:=⟨0,[],[],[],[]⟩
def resolve (env:List Bd) (t:Sh):Sh×Int:=
 if check t≠0 then (Z0W,check t) else match put (find env) t with
  | none=>(Z0W,110)
  | some u=>if check u≠0 then (Z0W,check u) else (sorted u,0)
section
variable {env : List Bd}
include env
theorem resolve_bad {t:Sh} (h:check t≠0):resolve env t=(Z0W,check t):=by unfold resolve; rw[if_pos h]
theorem resolve_name {t:Sh} (h:check t=0) (h1:put (find env) t=none):resolve env t=(Z0W,110):=by unfold resolve; rw[if_neg (by simpa using h),h1]
theorem resolve_great {t u:Sh} (h:check t=0) (h1:put (find env) t=some u) (h2:check u≠0):resolve env t=(Z0W,check u):=by
 unfold resolve; rw[if_neg (by simpa using h),h1]; simp only; rw[if_pos h2]
theorem resolve_ok {t u:Sh} (h:check t=0) (h1:put (find env) t=some u) (h2:check u=0):resolve env t=(sorted u,0):=by
 unfold resolve; rw[if_neg (by simpa using h),h1]; simp only; rw[if_neg (by simpa using h2)]
end
def meets (o n:List UInt8) (t:Sh):Prop:=(o,n)∈keys t
theorem put_like {f g:Look} (t:Sh): (∀k∈keys t,f k.1 k.2=g k.1 k.2)->put f t=put g t:=by
 intro h;rcases Z6k f t with h1 | ⟨k,h1,h2⟩
 {rw[put_some t h1,put_some t (fun k hk=>by rw[<-h k hk]; exact h1 k hk)];congr 1;clear h1;induction t using Sh.ind with
  | h t ih=>
   by_cases hk:t.kind=9
   {rw[fill_name hk,fill_name hk,h (t.of_,t.name) (by rw[keys_name hk]; simp)]}
   {rw[fill_node hk,fill_node hk];congr 1;exact List.map_congr_left (fun p hp=>ih p hp (fun k hkk=>h k (Z3M hk hp hkk)))}}
 {rw[put_none t h1 h2,put_none t h1 (by rw[<-h k h1]; exact h2)]}
theorem Z4g (l m:List Bd) (o n:List UInt8):find (l++m) o n=match find m o n with | some s=>some s | none=>find l o n:=by
 induction l with
 | nil=>cases h:find m o n <;> simp[find,h]
 | cons b l ih=>
  simp only[List.cons_append,find];rw[ih];cases h:find m o n <;> simp[find]
theorem find_cons (b:Bd) (m:List Bd) (o n:List UInt8):find (b::m) o n=match find m o n with | some s=>some s | none=>if b.of_=o/\b.name=n then some b.sh else none:=rfl
theorem Za4 (l m:List Bd) (b:Bd) {o n:List UInt8} (h: ¬(b.of_=o/\b.name=n)):find (l++b::m) o n=find (l++m) o n:=by
 rw[Z4g,Z4g];have:find (b::m) o n=find m o n:=by
  rw[find_cons];cases e:find m o n with
  | some s=>rfl
  | none=>simp only; rw[if_neg h]
 rw[this]
theorem Z6m {e1 e2:List Bd} {t:Sh} (h: ∀k∈keys t,find e1 k.1 k.2=find e2 k.1 k.2):resolve e1 t=resolve e2 t:=by
 unfold resolve; rw[put_like t h]
theorem resolve_more {l m:List Bd} {b:Bd} {t:Sh} (h: ¬meets b.of_ b.name t):resolve (l++b::m) t=resolve (l++m) t:=
 Z6m (fun k hk=>Za4 l m b (fun e=>h (by unfold meets; rw[e.1,e.2]; exact hk)))
theorem Z4h (t:Sh):right t=true-> ∀k,k∈keys (turned t) ↔ k∈keys t:=by
 induction t using Sh.ind with
 | h t ih=>
  intro hr k;have hL:=Z1v hr;by_cases hk:t.kind=9
  {rw[keys_name hk,keys_name (by rw[hL.k]; exact hk),hL.o,hL.n]}
  {rw[keys_node hk,keys_node (by rw[hL.k]; exact hk),List.mem_flatMap,List.mem_flatMap];constructor
   {rintro ⟨p,hp,h⟩;obtain ⟨q,hq,rfl⟩:=List.mem_map.1 (hL.ps.mem_iff.1 hp);exact ⟨q,hq,(ih q hq (Z05 hr hq) k).1 h⟩}
   {rintro ⟨q,hq,h⟩;exact ⟨turned q,hL.ps.mem_iff.2 (List.mem_map.2 ⟨q,hq,rfl⟩),(ih q hq (Z05 hr hq) k).2 h⟩}}
section
variable {t : Sh} (h : right t = true) (hk : t.kind = 9)
include t h hk
theorem name_bare:t.names= []/\t.parts= []:=by
 have:=Z0c h;rw[Z26 (Or.inl hk)] at this;simp only[Bool.and_eq_true,decide_eq_true_eq] at this;exact ⟨List.eq_nil_of_length_eq_zero this.1.2,List.eq_nil_of_length_eq_zero this.2⟩
theorem Z7q:turned t=t:=by
 obtain ⟨h1,h2⟩:=name_bare h hk;rw[Z16,if_pos h1,h2]
 conv=>rhs; rw[Z6j t,h1,h2]
 rfl
end
theorem Z7r (f:Look) (t:Sh):right t=true->size (fill f (turned t))=size (fill f t)/\deep (fill f (turned t))=deep (fill f t)/\right (fill f (turned t))=right (fill f t)/\sorted (fill f (turned t))=sorted (fill f t):=by
 induction t using Sh.ind with
 | h t ih=>
  intro hr;by_cases hk:t.kind=9
  {rw[Z7q hr hk]; exact ⟨rfl,rfl,rfl,rfl⟩}
  have hL:=Z1v hr;have hk2: ¬(turned t).kind=9:=by rw[hL.k]; exact hk
  have hps: ((turned t).parts.map (fill f)).Perm ((t.parts.map turned).map (fill f)):=hL.ps.map _;have hi:=fun p hp=>ih p hp (Z05 hr hp);rw[fill_node hk,fill_node hk2];refine ⟨?_, ?_, ?_, ?_⟩
  {rw[size_eq,size_eq];simp only;rw[Z4Q hps,List.map_map];congr 1;clear hps hL hk2 hr;generalize t.parts=l at *;induction l with
   | nil=>rfl
   | cons a l ihl=>
    simp only[List.map_cons,sizes,Function.comp_apply];rw[(hi a (by simp)).1,ihl (fun p hp=>ih p (by simp[hp])) (fun p hp=>hi p (by simp[hp]))]}
  {rw[Z0l,Z0l];simp only;rw[Z4R hps,List.map_map];congr 1;clear hps hL hk2 hr;generalize t.parts=l at *;induction l with
   | nil=>rfl
   | cons a l ihl=>
    simp only[List.map_cons,deeps,Function.comp_apply];rw[(hi a (by simp)).2.1,ihl (fun p hp=>ih p (by simp[hp])) (fun p hp=>hi p (by simp[hp]))]}
  {rw[Z1z,Z1z];simp only;congr 1
   {exact Z5t hL.k hL.o hL.n hL.ns (by simp only[List.length_map]; rw[hL.ps.length_eq,List.length_map])}
   {rw[Z1M,Z1M,Bool.eq_iff_iff,List.all_eq_true,List.all_eq_true];constructor
    {intro h p hp;obtain ⟨q,hq,rfl⟩:=List.mem_map.1 hp;rw[<-(hi q hq).2.2.1];exact h _ (hps.mem_iff.2 (List.mem_map.2 ⟨turned q,List.mem_map.2 ⟨q,hq,rfl⟩,rfl⟩))}
    {intro h p hp;obtain ⟨q',hq',rfl⟩:=List.mem_map.1 (hps.mem_iff.1 hp);obtain ⟨q,hq,rfl⟩:=List.mem_map.1 hq';rw[(hi q hq).2.2.1];exact h _ (List.mem_map.2 ⟨q,hq,rfl⟩)}}}
  {have hmm: ((t.parts.map turned).map (fill f)).map sorted=(t.parts.map (fill f)).map sorted:=by
    rw[List.map_map,List.map_map,List.map_map];exact List.map_congr_left fun p hp=>(hi p hp).2.2.2
   by_cases h0:t.names= []
   {rw[Z16,if_pos h0,Z0d,if_pos rfl,Z0d,if_pos h0];simp only[hmm]}
   {have hl:=Z2Y hr h0;have hfst: (t.names.zip ((t.parts.map (fill f)).map sorted)).map Prod.fst=t.names:=List.map_fst_zip (by rw[List.length_map,List.length_map,hl.1]; exact Nat.le_refl _);have hrv:t.names.reverse≠ []:=by simpa using h0
    have hz:t.names.reverse.zip (((t.parts.map turned).reverse.map (fill f)).map sorted)=(t.names.zip ((t.parts.map (fill f)).map sorted)).reverse:=by
     rw[List.map_reverse,List.map_reverse,hmm,List.zip_eq_zipWith,List.zip_eq_zipWith,List.reverse_zipWith (by rw[List.length_map,List.length_map,hl.1])]
    have hu:sortF (t.names.zip ((t.parts.map (fill f)).map sorted)).reverse=sortF (t.names.zip ((t.parts.map (fill f)).map sorted)):=
     Z1p ((Z0w _).trans (List.reverse_perm _)) (Z1o _) (by rw[hfst]; exact hl.2)
    rw[Z16,if_neg h0,Z0d,if_neg hrv,Z0d,if_neg h0];simp only[hz,hu]}}
theorem resolve_turned {env:List Bd} {t:Sh} (h:check t=0):resolve env (turned t)=resolve env t:=by
 have hr:=(Z0f h).2.2;have hT:=Z7r (find env) t hr;have hc:check (fill (find env) (turned t))=check (fill (find env) t):=by unfold check; rw[hT.1,hT.2.1,hT.2.2.1]
 rcases Z6k (find env) t with h1 | ⟨k,h1,h2⟩
 {have e1:=put_some t h1;have e2:=put_some (f:=find env) (turned t) (fun k hk=>h1 k ((Z4h t hr k).1 hk));by_cases hz:check (fill (find env) t)=0
  {rw[resolve_ok h e1 hz,resolve_ok (Z1P h) e2 (by rw[hc]; exact hz),hT.2.2.2]}
  {rw[resolve_great h e1 hz,resolve_great (Z1P h) e2 (by rw[hc]; exact hz),hc]}}
 {rw[resolve_name h (put_none t h1 h2),resolve_name (Z1P h) (put_none (turned t) ((Z4h t hr k).2 h1) h2)]}
structure It where
 kind:Int
 name:List UInt8
 sh:Sh
def opq (o n:List UInt8):Sh:=⟨10,o,n,[],[]⟩
def bindOf (o:List UInt8) (i:It):Option Bd:=if i.kind=1 then some ⟨o,i.name,i.sh⟩ else if i.kind=2 then some ⟨o,i.name,opq o i.name⟩ else none
def types (o:List UInt8) (l:List It):List Bd:=l.filterMap (bindOf o)
end Expd
end Go.Proofs.YtchklpedlbkgaaaDoor
namespace Go.Proofs.YtchklpedlbkgaaaDoor
section
open Go.RowKit Shp
theorem Z8F {H:Type} {enc:TypeId×Value->H} {W:World} {base b0:Nat} {held:Bool} {v:Value} {d:DataW H} {p:List MemPlace}
 (hv:Value.okWide Tryd.prog W .any b0 25 v) (h:DataW.Trod enc Tryd.prog W base (fun _=>true) held 25 v d p):
 ∃(t:Sh) (q:Ptr),v= .agg (Y8 t q)/\ShAt W W.heap.size q t:=by
 obtain ⟨cs,rfl,hsz⟩:=Go.WideShapes.okWide_struct Tryd.underlying25 hv;obtain ⟨n,hn⟩:=h;obtain ⟨t,q,hcs,hat⟩:=Z3a n hn;refine ⟨t,q, ?_,hat⟩;congr 1;apply Array.ext';exact hcs
end
section
open Go.RowKit Shp
open Expd (Bd It)
theorem Z2H (s:ByteArray):s.data.toList.length=s.size:=by rw[<-Lib.size_eq]
def BdAt (w:World) (B g o:Nat) (b:Bd) (q:Ptr):Prop:=
 w.cell? ⟨g,o,none⟩=some (.string ⟨b.of_.toArray⟩)/\w.cell? ⟨g,o+1,none⟩=some (.string ⟨b.name.toArray⟩)/\Sh5 w g (o+2) b.sh q/\ShAt w B q b.sh/\b.of_.length<=9223372036854775807/\b.name.length<=9223372036854775807
theorem BdAt.of {w w':World} {B B' g o:Nat} {b:Bd} {q:Ptr} (h:BdAt w B g o b q) (hB:B<=B') (hg:g < B) (hc: ∀g k,g < B->w'.cell? ⟨g,k,none⟩=w.cell? ⟨g,k,none⟩):BdAt w' B' g o b q:=
 ⟨(hc _ _ hg).trans h.1,(hc _ _ hg).trans h.2.1,h.2.2.1.of (fun k=>hc g k hg),h.2.2.2.1.of hB hc,h.2.2.2.2⟩
def BdsAt (w:World) (B:Nat) (A:Option Addr) (l:List Bd):Prop:=
 l.length=0\/ ∃(g off:Nat) (qs:Nat->Ptr),A=some ⟨g,off,none⟩/\g < B/\ ∀i (h:i < l.length),BdAt w B g (off+i * 7) (l[i]'h) (qs i)
theorem BdsAt.of {w w':World} {B B':Nat} {A:Option Addr} {l:List Bd} (h:BdsAt w B A l) (hB:B<=B') (hc: ∀g k,g < B->w'.cell? ⟨g,k,none⟩=w.cell? ⟨g,k,none⟩):BdsAt w' B' A l:=by
 rcases h with h | ⟨g,off,qs,h1,h2,h3⟩
 {exact Or.inl h}
 {exact Or.inr ⟨g,off,qs,h1,Nat.lt_of_lt_of_le h2 hB,fun i hi=>(h3 i hi).of hB h2 hc⟩}
theorem BdsAt.keep {w w':World} {B B':Nat} {A:Option Addr} {l:List Bd} (h:BdsAt w B A l) (hb:Below B' w w') (hB:B<=B'):BdsAt w' B A l:=
 h.of (Nat.le_refl _) (fun g k hg=>hb.cell (p:=⟨g,k,none⟩) (Nat.lt_of_lt_of_le hg hB))
theorem BdsAt.next {w w':World} {A:Option Addr} {l:List Bd} (h:BdsAt w w.heap.size A l) (hb:Below w.heap.size w w'):BdsAt w' w'.heap.size A l:=
 h.of hb.size (fun g k hg=>hb.cell (p:=⟨g,k,none⟩) hg)
section
variable {H : Type} {enc : TypeId × Value -> H} {W : World} {base : Nat} {held : Bool}
theorem Z3h {fuel:Nat} {cs:List Value} {x:DataW H×List MemPlace} (h:DataW.trod enc Tryd.prog W base (fun _=>true) held fuel 54 cs=some x):
 ∃(b:Bd) (q:Ptr),cs= [(.string ⟨b.of_.toArray⟩),.string ⟨b.name.toArray⟩,.int .i64 b.sh.kind,.string ⟨b.sh.of_.toArray⟩,.string ⟨b.sh.name.toArray⟩,.slice q.A b.sh.names.length q.c,.slice q.P b.sh.parts.length q.d]/\ShAt W W.heap.size q b.sh/\b.of_.length<=9223372036854775807/\b.name.length<=9223372036854775807:=by
 obtain ⟨xs,n,hn,_,hlen,hxl,hf⟩:=DataW.trod_struct Tryd.underlying54 h;have hC:Tryd.prog.cellsOf 54=7:=by kernel_rfl
 have c0:Tryd.prog.cellsOf 9=1:=by kernel_rfl
 have c1:Tryd.prog.cellsOf 9=1:=by kernel_rfl
 have c2:Tryd.prog.cellsOf 25=5:=by kernel_rfl
 rw[hC] at hlen
 match cs,hlen with
 | [a0,a1,a2,a3,a4,a5,a6],_=>
  have f0:=hf 0 _ rfl;have f1:=hf 1 _ rfl;have f2:=hf 2 _ rfl;have hz:xs.length=3:=hxl;change DataW.trod enc _ W base _ held n 9 (([a0,a1,a2,a3,a4,a5,a6].drop 0).take (Tryd.prog.cellsOf 9))=_ at f0;change DataW.trod enc _ W base _ held n 9 (([a0,a1,a2,a3,a4,a5,a6].drop 1).take (Tryd.prog.cellsOf 9))=_ at f1;change DataW.trod enc _ W base _ held n 25 (([a0,a1,a2,a3,a4,a5,a6].drop 2).take (Tryd.prog.cellsOf 25))=_ at f2;rw[c0,List.getElem?_eq_getElem (by omega)] at f0;rw[c1,List.getElem?_eq_getElem (by omega)] at f1;rw[c2,List.getElem?_eq_getElem (by omega)] at f2;obtain ⟨b0,hb0,_,hm0⟩:=DataW.trod_string Tryd.underlying9 f0;obtain ⟨b1,hb1,_,hm1⟩:=DataW.trod_string Tryd.underlying9 f1;obtain ⟨t,q,hb2,hat⟩:=Z3a _ f2;simp at hb0 hb1 hb2;obtain ⟨h2,h3,h4,h5,h6⟩:=hb2;subst hb0 hb1 h2 h3 h4 h5 h6;exact ⟨⟨b0.data.toList,b1.data.toList,t⟩,q,rfl,hat,by unfold maxLen at hm0; rw[Z2H]; exact hm0,by unfold maxLen at hm1; rw[Z2H]; exact hm1⟩
theorem Za5 {b0:Nat} {v:Value} {d:DataW H} {p:List MemPlace}
 (hv:Value.okWide Tryd.prog W .any b0 54 v) (h:DataW.Trod enc Tryd.prog W base (fun _=>true) held 54 v d p):
 ∃(b:Bd) (q:Ptr),v= .agg #[(.string ⟨b.of_.toArray⟩),.string ⟨b.name.toArray⟩,.int .i64 b.sh.kind,.string ⟨b.sh.of_.toArray⟩,.string ⟨b.sh.name.toArray⟩,.slice q.A b.sh.names.length q.c,.slice q.P b.sh.parts.length q.d]/\ShAt W W.heap.size q b.sh/\b.of_.length<=9223372036854775807/\b.name.length<=9223372036854775807:=by
 obtain ⟨cs,rfl,hsz⟩:=Go.WideShapes.okWide_struct Tryd.underlying54 hv;obtain ⟨n,hn⟩:=h;obtain ⟨t,q,hcs,hat⟩:=Z3h hn;refine ⟨t,q, ?_,hat⟩;congr 1;apply Array.ext';exact hcs
end
def ItAt (w:World) (B g o:Nat) (b:It) (q:Ptr):Prop:=
 w.cell? ⟨g,o,none⟩=some (.int .i64 b.kind)/\w.cell? ⟨g,o+1,none⟩=some (.string ⟨b.name.toArray⟩)/\Sh5 w g (o+2) b.sh q/\ShAt w B q b.sh/\True/\b.name.length<=9223372036854775807
theorem ItAt.of {w w':World} {B B' g o:Nat} {b:It} {q:Ptr} (h:ItAt w B g o b q) (hB:B<=B') (hg:g < B) (hc: ∀g k,g < B->w'.cell? ⟨g,k,none⟩=w.cell? ⟨g,k,none⟩):ItAt w' B' g o b q:=
 ⟨(hc _ _ hg).trans h.1,(hc _ _ hg).trans h.2.1,h.2.2.1.of (fun k=>hc g k hg),h.2.2.2.1.of hB hc,h.2.2.2.2⟩
def ItsAt (w:World) (B:Nat) (A:Option Addr) (l:List It):Prop:=
 l.length=0\/ ∃(g off:Nat) (qs:Nat->Ptr),A=some ⟨g,off,none⟩/\g < B/\ ∀i (h:i < l.length),ItAt w B g (off+i * 7) (l[i]'h) (qs i)
theorem ItsAt.of {w w':World} {B B':Nat} {A:Option Addr} {l:List It} (h:ItsAt w B A l) (hB:B<=B') (hc: ∀g k,g < B->w'.cell? ⟨g,k,none⟩=w.cell? ⟨g,k,none⟩):ItsAt w' B' A l:=by
 rcases h with h | ⟨g,off,qs,h1,h2,h3⟩
 {exact Or.inl h}
 {exact Or.inr ⟨g,off,qs,h1,Nat.lt_of_lt_of_le h2 hB,fun i hi=>(h3 i hi).of hB h2 hc⟩}
theorem ItsAt.keep {w w':World} {B B':Nat} {A:Option Addr} {l:List It} (h:ItsAt w B A l) (hb:Below B' w w') (hB:B<=B'):ItsAt w' B A l:=
 h.of (Nat.le_refl _) (fun g k hg=>hb.cell (p:=⟨g,k,none⟩) (Nat.lt_of_lt_of_le hg hB))
theorem ItsAt.next {w w':World} {A:Option Addr} {l:List It} (h:ItsAt w w.heap.size A l) (hb:Below w.heap.size w w'):ItsAt w' w'.heap.size A l:=
 h.of hb.size (fun g k hg=>hb.cell (p:=⟨g,k,none⟩) hg)
end
section
open Go.RowKit Shp
abbrev Ky:=List UInt8×List UInt8
def keyV (k:Ky):Value:= .agg #[.string ⟨k.1.toArray⟩,.string ⟨k.2.toArray⟩]
def Fine (k:Ky):Prop:=k.1.length<=9223372036854775807/\k.2.length<=9223372036854775807
theorem Zbr:laidOutB Tryd.prog=true:=by kernel_rfl
theorem ZbN: (76:TypeId) < Tryd.prog.types.size:=of_decide_eq_true (by kernel_rfl)
theorem Zbs: (match Tryd.prog.underlying 76 with | some (.array _ _) | some (.struct _)=>true | _=>false)=true:=by kernel_rfl
theorem ZbO:Tryd.prog.keyType 76=true:=by kernel_rfl
theorem Z6n:Tryd.prog.cellsOf 76=2:=by kernel_rfl
theorem ZbP:Tryd.prog.cellsOf 9=1:=by kernel_rfl
theorem Z2Z:Maps.Keyed Tryd.prog 76:=Maps.Keyed.of_law (deep_law_laid Zbr (m:=2) (by omega) ZbN (by kernel_rfl) Zbs)
theorem Zbt: ∃m,Tryd.prog.types.size=m+2:=⟨Tryd.prog.types.size - 2,by have:2<=Tryd.prog.types.size:=of_decide_eq_true (by kernel_rfl); omega⟩
def KL (k:Ky):Lit:= .string (keyBytes [.string k.1,.string k.2])
theorem keyOf_keyV {k:Ky} (h:Fine k):keyOf Tryd.prog 76 (keyV k)=some (KL k):=by
 obtain ⟨m,hm⟩:=Zbt;have h1: (⟨k.1.toArray⟩:ByteArray).size<=maxLen:=by rw[Z0G]; unfold maxLen; exact h.1
 have h2: (⟨k.2.toArray⟩:ByteArray).size<=maxLen:=by rw[Z0G]; unfold maxLen; exact h.2
 unfold keyOf keyV KL;simp only[Tryd.underlying76];rw[if_pos (by simp[ZbO,Value.formed,Tryd.underlying76,Z6n]),hm];unfold Program.keyLits;simp only[Tryd.underlying76,Value.cells];rw[if_pos ⟨by rw[Z6n]; rfl,by simp⟩];simp[ZbP,Program.keyLits,Tryd.underlying9,h1,h2]
theorem KL_inj {k k':Ky} (h:Fine k) (h':Fine k') (e:KL k=KL k'):k=k':=by
 have h1:=keyOf_keyV h;rw[e] at h1;have:=Z2Z.inj h1 (keyOf_keyV h');unfold keyV at this;simp at this;exact Prod.ext this.1 this.2
theorem KL_key (k:Ky):WideAt.IsKeyLit (KL k):=trivial
def slEl:Value->Option (DataW Unit×List MemPlace)
 | .slice none n c=>some (.agg [.lit (.int .i64 (n:Int)),.lit (.int .i64 (c:Int))],[])
 | .slice (some ⟨g,o,none⟩) n c=>some (.agg [.lit (.int .i64 (g:Int)),.lit (.int .i64 (o:Int)),.lit (.int .i64 (n:Int)),.lit (.int .i64 (c:Int))],[])
 | _=>none
theorem slEl_inj {v v':Value} {d:DataW Unit} {p p':List MemPlace} (h:slEl v=some (d,p)) (h':slEl v'=some (d,p')):v=v':=by
 unfold slEl at h h';split at h <;> split at h' <;> simp only[Option.some.injEq,Prod.mk.injEq,reduceCtorEq] at h h'
 {obtain ⟨rfl,_⟩:=h;simp at h';obtain ⟨⟨h1,h2⟩,_⟩:=h';congr 1 <;> omega}
 {obtain ⟨rfl,_⟩:=h;simp at h'}
 {obtain ⟨rfl,_⟩:=h;simp at h'}
 {obtain ⟨rfl,_⟩:=h;simp at h';obtain ⟨⟨h1,h2,h3,h4⟩,_⟩:=h';simp only[Value.slice.injEq,Option.some.injEq,Addr.mk.injEq,and_true];refine ⟨⟨?_, ?_⟩, ?_, ?_⟩ <;> omega}
theorem zero_sl (w:World): (zeroValue 90).run Tryd.prog w= .ok (.slice none 0 0) w:=by kernel_rfl
def Mp (W:World) (b N:Nat) (S:List Ky) (m:Ky->Value):Prop:=
 ∃D:DataW Unit,W.ownsMap Tryd.prog 76 slEl b N D/\Maps.size D=S.length/\S.Nodup/\(∀k∈S,Fine k)/\(∀k,Fine k->(Maps.has D (KL k)=true ↔ k∈S))/\
  ∀k,Fine k-> ∃p,slEl (if k∈S then m k else .slice none 0 0)=some (D.atKey (KL k) (.agg [.lit (.int .i64 0),.lit (.int .i64 0)]),p)
theorem Mp.made (W:World) (m:Ky->Value):Mp (W.alloc (.map #[] 0)) W.heap.size 0 [] m:=by
 refine ⟨.map [],World.ownsMap_made _ _ _ _,rfl,List.nodup_nil,nofun,fun k _=>⟨fun h=>by simp[Maps.has] at h,nofun⟩,fun k _=>⟨[], ?_⟩⟩;rw[if_neg (by simp)];rfl
theorem Mp.lt {W:World} {b N:Nat} {S:List Ky} {m:Ky->Value} (h:Mp W b N S m):b < W.heap.size:=by obtain ⟨_,h,_⟩:=h; exact h.lt
theorem Mp.kept {W W':World} {b N:Nat} {S:List Ky} {m:Ky->Value} (h:Mp W b N S m) {row:Option Nat} (hg:W.grownBy W' row) (hne:some b≠row):Mp W' b N S m:=by
 obtain ⟨D,h1,h2⟩:=h; exact ⟨D,h1.kept hg hne,h2⟩
theorem Mp.same {W W':World} {b N:Nat} {S:List Ky} {m:Ky->Value} (h:Mp W b N S m) (hb:W'.heap[b]? =W.heap[b]?):Mp W' b N S m:=by
 obtain ⟨D,⟨es,clock,h0,h1⟩,h2⟩:=h; exact ⟨D,⟨es,clock,hb.trans h0,h1⟩,h2⟩
theorem Mp.look {W:World} {b N:Nat} {S:List Ky} {m:Ky->Value} (h:Mp W b N S m) {k:Ky} (hk:Fine k):
 (Instr.lookup 67 (.map (some b)) (keyV k) false).run Tryd.prog W= .ok (if k∈S then m k else .slice none 0 0) W:=by
 obtain ⟨D,h1,_,_,_,_,h6⟩:=h;obtain ⟨v,ps,hr,hv⟩:=h1.lookup Z2Z Tryd.underlying67 (zero_sl W) (zd:= .agg [.lit (.int .i64 0),.lit (.int .i64 0)]) (zp:= []) rfl (keyOf_keyV hk);obtain ⟨p,hp⟩:=h6 k hk;rw[hr,slEl_inj hv hp]
theorem Mp.len {W:World} {b N:Nat} {S:List Ky} {m:Ky->Value} (h:Mp W b N S m) (ty:TypeId):
 (Builtin.len_ #[67] ty #[.map (some b)]).run Tryd.prog W= .ok (.int .i64 S.length) W:=by
 obtain ⟨D,h1,h2,_⟩:=h;rw[h1.len Tryd.underlying67 ty,h2]
theorem Mp.put {W:World} {b N:Nat} {S:List Ky} {m:Ky->Value} (h:Mp W b N S m) {k:Ky} (hk:Fine k) (hN:N < maxLen) {v:Value} {z:DataW Unit×List MemPlace} (hv:slEl v=some z):
 ∃W',(Instr.mapUpdate 67 (.map (some b)) (keyV k) v).run Tryd.prog W= .ok () W'/\Mp W' b (N+1) (if k∈S then S else k::S) (fun x=>if x=k then v else m x)/\W.mapTurned W' b:=by
 obtain ⟨D,h1,h2,h3,h4,h5,h6⟩:=h;obtain ⟨W',hr,ho,hg⟩:=h1.store Z2Z Tryd.underlying67 hN (keyOf_keyV hk) (ps:=z.2) (d:=z.1) (by rw[hv]);have hT:=h1.tidy Z2Z;have hsz:=Maps.size_put (k:=KL k) hT z.1;have hmem: ∀x,x∈(if k∈S then S else k::S) ↔ x=k\/x∈S:=fun x=>by
  by_cases e:k∈S
  {rw[if_pos e]; exact ⟨Or.inr,fun h=>h.elim (fun h=>h▸e) id⟩}
  {rw[if_neg e]; exact List.mem_cons}
 refine ⟨W',hr,⟨D.put (KL k) z.1,ho, ?_, ?_, ?_, ?_, ?_⟩,hg⟩
 {rw[hsz,h2];by_cases e:k∈S
  {rw[if_pos ((h5 k hk).2 e),if_pos e]}
  {rw[if_neg (fun h=>e ((h5 k hk).1 h)),if_neg e]; rfl}}
 {by_cases e:k∈S
  {rw[if_pos e]; exact h3}
  {rw[if_neg e]; exact List.nodup_cons.2 ⟨e,h3⟩}}
 {intro x hx;rcases (hmem x).1 hx with rfl | hx
  {exact hk}
  {exact h4 x hx}}
 {intro x hx;rw[hmem];by_cases e:x=k
  {subst e;exact ⟨fun _=>Or.inl rfl,fun _=>Maps.has_put_same h1.isMap (KL_key _) _⟩}
  {rw[Maps.has_put_other (fun h=>e (KL_inj hx hk h)),h5 x hx];exact ⟨Or.inr,fun h=>h.resolve_left e⟩}}
 {intro x hx;by_cases e:x=k
  {subst e;refine ⟨z.2, ?_⟩;rw[if_pos ((hmem _).2 (Or.inl rfl))];simp only[if_true];rw[Maps.atKey_put_same h1.isMap (KL_key _),hv]}
  {obtain ⟨p,hp⟩:=h6 x hx;refine ⟨p, ?_⟩;rw[Maps.atKey_put_other (fun h=>e (KL_inj hx hk h)), <-hp];by_cases e2:x∈S
   {rw[if_pos ((hmem x).2 (Or.inr e2)),if_pos e2]; simp only[if_neg e]}
   {rw[if_neg (fun h=>e2 (((hmem x).1 h).resolve_left e)),if_neg e2]}}}
theorem Mp.del {W:World} {b N:Nat} {S:List Ky} {m:Ky->Value} (h:Mp W b N S m) {k:Ky} (hk:Fine k) (ty:TypeId):
 ∃W',(Builtin.delete_ #[67,76] ty #[.map (some b),keyV k]).run Tryd.prog W= .ok (.tuple #[]) W'/\Mp W' b N (S.filter (· ≠k)) m/\W.mapTurned W' b:=by
 obtain ⟨D,h1,h2,h3,h4,h5,h6⟩:=h;obtain ⟨W',hr,ho,hg⟩:=h1.drop Z2Z Tryd.underlying67 (keyOf_keyV hk) ty;have hT:=h1.tidy Z2Z;have hsz:=Maps.size_del (k:=KL k) hT;have hmem: ∀x,x∈S.filter (· ≠k) ↔ x∈S/\x≠k:=fun x=>by simp[List.mem_filter]
 have hlen: (S.filter (· ≠k)).length+(if k∈S then 1 else 0)=S.length:=by
  clear h2 h4 h5 h6 hsz hmem;induction S with
  | nil=>rfl
  | cons a S ih=>
   rw[List.nodup_cons] at h3;have:=ih h3.2;by_cases e:a=k
   {subst e;have hf:S.filter (· ≠a)=S:=List.filter_eq_self.2 (fun x hx=>by simp; rintro rfl; exact h3.1 hx)
    rw[List.filter_cons_of_neg (by simp),hf,if_pos (by simp)]; rfl}
   {rw[List.filter_cons_of_pos (by simp[e]),List.length_cons,List.length_cons];have: (k∈a::S) ↔ k∈S:=by simp[Ne.symm e]
    by_cases e2:k∈S
    {rw[if_pos (this.2 e2)]; rw[if_pos e2] at *; omega}
    {rw[if_neg (fun h=>e2 (this.1 h))]; rw[if_neg e2] at *; omega}}
 refine ⟨W',hr,⟨D.del (KL k),ho, ?_, ?_, ?_, ?_, ?_⟩,hg⟩
 {rw[h2] at hsz;by_cases e:k∈S
  {rw[if_pos ((h5 k hk).2 e)] at hsz; rw[if_pos e] at hlen; omega}
  {rw[if_neg (fun h=>e ((h5 k hk).1 h))] at hsz; rw[if_neg e] at hlen; omega}}
 {exact h3.filter _}
 {exact fun x hx=>h4 x ((hmem x).1 hx).1}
 {intro x hx;rw[hmem];by_cases e:x=k
  {subst e;rw[Maps.has_del_same];exact ⟨nofun,fun h=>absurd rfl h.2⟩}
  {rw[Maps.has_del_other (fun h=>e (KL_inj hx hk h)),h5 x hx];exact ⟨fun h=>⟨h,e⟩,fun h=>h.1⟩}}
 {intro x hx;by_cases e:x=k
  {subst e;refine ⟨[], ?_⟩;rw[if_neg (fun h=>((hmem _).1 h).2 rfl),Maps.atKey_del_same]; rfl}
  {obtain ⟨p,hp⟩:=h6 x hx;refine ⟨p, ?_⟩;rw[Maps.atKey_del_other (fun h=>e (KL_inj hx hk h)), <-hp];by_cases e2:x∈S
   {rw[if_pos ((hmem x).2 ⟨e2,e⟩),if_pos e2]}
   {rw[if_neg (fun h=>e2 ((hmem x).1 h).1),if_neg e2]}}}
end
end Go.Proofs.YtchklpedlbkgaaaDoor
namespace Go.Proofs.YtchklpedlbkgaaaDoor
open Go.RowKit
def also (d:Nat->Bool) (i:Nat):Nat->Bool:=fun j=>cond (Nat.beq j i) true (d j)
section
variable {P : Program} {ops : Array Oper} {Q : Exit -> Act -> World -> Prop}
def StepInv (P:Program) (ops:Array Oper) (Q:Exit->Act->World->Prop) (A: (Nat->Value)->Act) (I: (Nat->Bool)->(Nat->Value)->World->Prop) (i:Nat):Prop:=
 ∀o,ops[i]? =some o-> ∀(d:Nat->Bool) (u:Nat->Value) (W:World),I d u W->d i=false->(∀j,waits o j=true->d j=true)->
  wpOp P ops Q i (fun a' w'=> ∃v,a'=A (upd u i v)/\I (also d i) (upd u i v) w') (A u) W
def StepsInv (P:Program) (ops:Array Oper) (Q:Exit->Act->World->Prop) (A: (Nat->Value)->Act) (I: (Nat->Bool)->(Nat->Value)->World->Prop) (rs:List Nat):Prop:=
 ∀i∈rs,StepInv P ops Q A I i
section
variable {A : (Nat -> Value) -> Act} {I : (Nat -> Bool) -> (Nat -> Value) -> World -> Prop}
include A I
theorem StepsInv.nil:StepsInv P ops Q A I []:=fun _ h=>by cases h
theorem StepsInv.cons {i:Nat} {rs:List Nat} (o:Oper) (ho:ops[i]? =some o)
 (h: ∀(d:Nat->Bool) (u:Nat->Value) (W:World) (K':Act->World->Prop),I d u W->d i=false->(∀j,waits o j=true->d j=true)->
  Shut (∀v w',I (also d i) (upd u i v) w'->K' (A (upd u i v)) w')->
  if Region.wanted o (yielded ops (A u).tmps)=true then Oper.wp P o (A u) W K' Q else K' ((A u).put o.dst undef) W)
 (hs:StepsInv P ops Q A I rs):StepsInv P ops Q A I (i::rs):=fun j hj=>by
 rcases List.mem_cons.1 hj with rfl | hj
 {intro o' ho' d u W hI hd hw;rw[ho] at ho';obtain rfl:o=o':=Option.some.inj ho';exact wpOp_step ho (fun K' hK=>h d u W K' hI hd hw (fun v w' h1=>hK _ _ ⟨v,rfl,h1⟩))}
 {exact hs j hj}
end
theorem Z7s (listed:Array Bool) {i:Nat} (hi:i < listed.size): (fun j=>(listed.setIfInBounds i true).getD j false)=also (fun j=>listed.getD j false) i:=by
 funext j;unfold also;by_cases h:j=i
 {subst h;have:Nat.beq j j=true:=Nat.beq_refl j;rw[this];simp[hi]}
 {have hb:Nat.beq j i=false:=by cases hb:Nat.beq j i <;> first | rfl | exact absurd (Nat.eq_of_beq_eq_true hb) h
  rw[hb];exact getD_set_ne false (Ne.symm h)}
theorem ZbQ (A: (Nat->Value)->Act) (I: (Nat->Bool)->(Nat->Value)->World->Prop) (hl:lowAfter ops=true)
 (hstep:StepsInv P ops Q A I (List.range ops.size))
 (hdone: ∀d u W,I d u W->(∀j,j < ops.size->d j=true)->Q .normal (A u) W):
 ∀(fuel:Nat) (listed:Array Bool) (u:Nat->Value) (W:World),listed.size=ops.size->listed.toList.count false<=fuel->I (fun j=>listed.getD j false) u W->
  wpAny P .any ops Q fuel listed (A u) W:=by
 intro fuel;induction fuel with
 | zero=>
  intro listed u W hsz hc hI;have hr:Region.ready .any ops listed= []:=by
   refine List.eq_nil_iff_forall_not_mem.2 fun j hj=> ?_;obtain ⟨h1,o,ho,_⟩:=mem_ready.1 hj;have hjs:j < listed.size:=by
    rw[hsz];rcases Nat.lt_or_ge j ops.size with h | h
    {exact h}
    {rw[Array.getElem?_eq_none h] at ho; cases ho}
   refine Z4J listed.toList (by omega) j ?_;simp[hjs] at h1 ⊢;exact h1
  exact ⟨hr,hdone _ u W hI fun j hj=>Z2b hl listed hr hsz (j+1) j (by omega) hj⟩
 | succ fuel ih=>
  intro listed u W hsz hc hI;refine ⟨fun hr=>hdone _ u W hI fun j hj=>Z2b hl listed hr hsz (j+1) j (by omega) hj,fun i hi=> ?_⟩;obtain ⟨h1,o,ho,hall⟩:=mem_ready.1 hi;have his:i < ops.size:=by
   rcases Nat.lt_or_ge i ops.size with h | h
   {exact h}
   {rw[Array.getElem?_eq_none h] at ho; cases ho}
  have hil:i < listed.size:=by omega
  have hdi:listed.getD i false=false:=by simp[hil] at h1 ⊢; exact h1
  have hdep: ∀j,waits o j=true->listed.getD j false=true:=fun j hj=>by
   obtain ⟨e,he,hb⟩:=Array.any_eq_true'.1 hj;simp only[Bool.and_eq_true,beq_iff_eq] at hb;obtain ⟨hb,rfl⟩:=hb;exact hall e he hb
  refine wpOp_mono (fun a' w' h=> ?_) (hstep i (List.mem_range.2 his) o ho (fun j=>listed.getD j false) u W hI hdi hdep);obtain ⟨v,rfl,hI'⟩:=h;rw[<-Z7s listed hil] at hI';refine ih _ _ _ (by simpa using hsz) ?_ hI';have h2:listed.toList[i]? =some false:=by simp[hil] at h1 ⊢; exact h1
  have:=Z5m listed.toList i h2;rw[Array.toList_setIfInBounds];omega
theorem Z30 {id:Nat} {w:World} {rs:List Nat} (A: (Nat->Value)->Act) (u0:Nat->Value) (I: (Nat->Bool)->(Nat->Value)->World->Prop) (hm:P.follows .mixedOrders=true) (hl:lowAfter ops=true)
 (hrs:List.range ops.size=rs) (hI:I (fun _=>false) u0 w.drew) (hstep:StepsInv P ops Q A I rs)
 (hdone: ∀d u W,I d u W->(∀j,j < ops.size->d j=true)->Q .normal (A u) W):
 (Code.region id ops true).wp P Q (A u0) w:=by
 subst hrs;refine wp_region_any hm (ZbQ A I hl hstep hdone _ _ _ _ (by simp) ?_ ?_)
 {exact Nat.le_trans List.count_le_length (by simp)}
 {have e: (fun j=>(Array.replicate ops.size false).getD j false)=fun _=>false:=by
   funext j;rcases Nat.lt_or_ge j ops.size with h | h
   {simp[h]}
   {simp[h]}
  rw[e];exact hI}
theorem Z1I {o:Oper} {a:Act} {W W':World} {K':Act->World->Prop} {E:Prop} (hw:Region.wanted o (yielded ops a.tmps)=true)
 (hrun: (execOp a.eval o).run P W= .ok .skip W') (hK:K' (a.put o.dst undef) W'):
 if Region.wanted o (yielded ops a.tmps)=true then Oper.wp P o a W K' Q else E:=by
 rw[if_pos hw,Oper.wp,hrun,Oper.upon_skip];exact hK
end
end Go.Proofs.YtchklpedlbkgaaaDoor
