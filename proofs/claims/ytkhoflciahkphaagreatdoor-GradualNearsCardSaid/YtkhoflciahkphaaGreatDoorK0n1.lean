/- What the proofs of GradualNears want, part 1. -/
import Derived.DeepKeys4
import Derived.MakeChecks
import Derived.Lib.LaidTab
import Derived.WalkLawsBesides
import Derived.Test.YtkhoflciahkphaaGreatDoorK0n0
set_option linter.unusedVariables false
set_option linter.unusedSimpArgs false
set_option linter.unusedSectionVars false
set_option maxRecDepth 100000
set_option maxHeartbeats 16000000
namespace Go.Proofs.YtkhoflciahkphaaGreatDoor
section
open Go.RowKit Shp Go.Sort
structure El where
 n:List UInt8
 t:Sh
 q:Ptr
 F:List Nat
instance:Inhabited El:=⟨⟨[],⟨0,[],[],[],[]⟩,⟨none,0,none,0⟩,[]⟩⟩
def ltEl (a b:El):Bool:=decide (a.n < b.n)
theorem Z8Y:SWO ltEl:=⟨fun x=>swo_ltStr.irrefl x.n,fun x y z=>swo_ltStr.trans x.n y.n z.n,fun x y z=>swo_ltStr.ntrans x.n y.n z.n⟩
structure Up2 (bn bp:Nat) (w w':World):Prop where
 os:w'.os=w.os
 tape:w'.tape=w.tape
 output:w'.output=w.output
 size:w.heap.size<=w'.heap.size
 block: ∀k,k < w.heap.size->k≠bn->k≠bp->w'.heap[k]? =w.heap[k]?
theorem Up2.refl (bn bp:Nat) (w:World):Up2 bn bp w w:=⟨rfl,rfl,rfl,Nat.le_refl _,fun _ _ _ _=>rfl⟩
theorem Up2.below {bn bp:Nat} {a b c:World} (h:Up2 bn bp a b) (k:Below a.heap.size b c):Up2 bn bp a c:=
 ⟨k.os.trans h.os,k.tape.trans h.tape,k.output.trans h.output,Nat.le_trans h.size k.size,fun x h1 h2 h3=>(k.block x h1).trans (h.block x h1 h2 h3)⟩
theorem Up2.set {bn bp:Nat} {a b:World} (h:Up2 bn bp a b) {p:Addr} (hp:p.block=bn\/p.block=bp) (v:Value):Up2 bn bp a (b.setCell p v):=
 ⟨h.os,h.tape,h.output,by simpa[World.setCell] using h.size,fun x h1 h2 h3=>(Below.heap_setCell _ _ _ _ (fun e=>by rcases hp with e2 | e2 <;> omega)).trans (h.block x h1 h2 h3)⟩
theorem Up2.drew {bn bp:Nat} {a b:World} (h:Up2 bn bp a b):Up2 bn bp a b.drew:=⟨h.os,h.tape,h.output,h.size,h.block⟩
theorem Up2.set5 {bn bp:Nat} {a b:World} (h:Up2 bn bp a b) (o:Nat) (a0 a1 a2 a3 a4:Value):Up2 bn bp a (set5 b bp o a0 a1 a2 a3 a4):=
 ((((h.set (Or.inr rfl) _).set (Or.inr rfl) _).set (Or.inr rfl) _).set (Or.inr rfl) _).set (Or.inr rfl) _
theorem Z5G (W:World) (b o:Nat) (a0 a1 a2 a3 a4:Value) (x:Addr) (h:b≠x.block): (set5 W b o a0 a1 a2 a3 a4).cell? x=W.cell? x:=by
 unfold set5;rw[World.cell?_setCell_far _ _ _ _ h,World.cell?_setCell_far _ _ _ _ h,World.cell?_setCell_far _ _ _ _ h,World.cell?_setCell_far _ _ _ _ h,World.cell?_setCell_far _ _ _ _ h]
theorem Zak {b x y:Nat} (h:x≠y): (⟨b,x,none⟩:Addr)≠⟨b,y,none⟩:=fun e=>h (by injection e)
theorem so {W:World} {b x y:Nat} {v:Value} (h:x≠y): (W.setCell ⟨b,x,none⟩ v).cell? ⟨b,y,none⟩=W.cell? ⟨b,y,none⟩:=World.cell?_setCell_other _ _ _ _ (Zak h)
theorem ss {W:World} {b x:Nat} {v u:Value} (h:W.cell? ⟨b,x,none⟩=some u): (W.setCell ⟨b,x,none⟩ v).cell? ⟨b,x,none⟩=some v:=World.cell?_setCell_same _ _ _ h
theorem Z9N (W:World) (b o:Nat) (a0 a1 a2 a3 a4:Value) (x:Nat) (h:x < o\/o+4 < x): (set5 W b o a0 a1 a2 a3 a4).cell? ⟨b,x,none⟩=W.cell? ⟨b,x,none⟩:=by
 unfold set5;rw[so,so,so,so,so] <;> omega
theorem Z3N (W:World) (b o:Nat) (t:Sh) (q:Ptr) (t':Sh) (q':Ptr) (h:Sh5 W b o t' q'):
 Sh5 (set5 W b o (.int .i64 t.kind) (.string ⟨t.of_.toArray⟩) (.string ⟨t.name.toArray⟩) (.slice q.A t.names.length q.c) (.slice q.P t.parts.length q.d)) b o t q:=by
 obtain ⟨h0,h1,h2,h3,h4⟩:=h;unfold set5;refine ⟨?_, ?_, ?_, ?_, ?_⟩
 {rw[so,so,so,so]
  {exact ss h0}
  all_goals omega}
 {rw[so,so,so]
  {exact ss ((so (by omega)).trans h1)}
  all_goals omega}
 {rw[so,so]
  {exact ss ((so (by omega)).trans ((so (by omega)).trans h2))}
  all_goals omega}
 {rw[so]
  {exact ss ((so (by omega)).trans ((so (by omega)).trans ((so (by omega)).trans h3)))}
  all_goals omega}
 {exact ss ((so (by omega)).trans ((so (by omega)).trans ((so (by omega)).trans ((so (by omega)).trans h4))))}
theorem Z34 (W:World) (b i k:Nat) (a0 a1 a2 a3 a4:Value) (t:Sh) (q:Ptr) (hne:k≠i) (h:Sh5 W b (k * 5) t q):Sh5 (set5 W b (i * 5) a0 a1 a2 a3 a4) b (k * 5) t q:=by
 obtain ⟨h0,h1,h2,h3,h4⟩:=h;refine ⟨?_, ?_, ?_, ?_, ?_⟩ <;> rw[Z9N _ _ _ _ _ _ _ _ _ (by omega)] <;> assumption
structure FSt (w0:World) (bn bp N:Nat) (d:Array El) (w:World):Prop where
 size:d.size=N
 tx: ∀i,i < N->w.cell? ⟨bn,i,none⟩=some (.string ⟨(d[i]!).n.toArray⟩)
 pa: ∀i,i < N->Sh5 w bp (i * 5) (d[i]!).t (d[i]!).q
 fn: ∀k,w.frozen? ⟨bn,k,none⟩=false
 fp: ∀k,w.frozen? ⟨bp,k,none⟩=false
 ln:bn < w0.heap.size
 lp:bp < w0.heap.size
 ne:bn≠bp
 up:Up2 bn bp w0 w
theorem FSt.keep {w0:World} {bn bp N:Nat} {d:Array El} {w w':World} (h:FSt w0 bn bp N d w) (hb:Below w0.heap.size w w'):FSt w0 bn bp N d w':=
 ⟨h.size,fun i hi=>(hb.cell (p:=⟨bn,i,none⟩) h.ln).trans (h.tx i hi),fun i hi=>(h.pa i hi).of (fun k=>hb.cell (p:=⟨bp,k,none⟩) h.lp),fun k=>(hb.frozen (p:=⟨bn,k,none⟩) h.ln).trans (h.fn k),
  fun k=>(hb.frozen (p:=⟨bp,k,none⟩) h.lp).trans (h.fp k),h.ln,h.lp,h.ne,h.up.below hb⟩
theorem Z4Z {W:World} {b o c:Nat} {t:Sh} {q:Ptr} {v:Value} {x:Nat} (hne:b≠c) (h:Sh5 W c o t q):Sh5 (W.setCell ⟨b,x,none⟩ v) c o t q:=
 h.of fun k=>World.cell?_setCell_far _ _ _ _ hne
theorem Z7S (w0:World) (bn bp N:Nat) (K:Int) (o m:List UInt8) (c l dd:Nat) (hN:N < 400000) (hl:N<=l) (hl2:l < 1000000):
 Srt N w0.heap.size (.agg #[.int .i64 K,.string ⟨o.toArray⟩,.string ⟨m.toArray⟩,.slice (some ⟨bn,0,none⟩) N c,.slice (some ⟨bp,0,none⟩) l dd]) ltEl (FSt w0 bn bp N) where
 less d w i j h hi0 hi hj0 hj:=by
  obtain ⟨a,rfl⟩:=Int.eq_ofNat_of_zero_le hi0;obtain ⟨b,rfl⟩:=Int.eq_ofNat_of_zero_le hj0;have ha:a < N:=by omega
  have hb:b < N:=by omega
  refine (Z7Q K ⟨o.toArray⟩ ⟨m.toArray⟩ bn N c dd (some ⟨bp,0,none⟩) l _ _ a b w ha hb (by omega) (Nat.lt_of_lt_of_le h.ln h.up.size) (h.tx a ha) (h.tx b hb)).mono ?_;rintro e w' ⟨rfl,hw⟩;exact ⟨rfl,h.keep (hw.mono h.up.size),hw.size,fun x _ hx=>hw.block x hx⟩
 swap d w i j h hi0 hi hj0 hj:=by
  obtain ⟨a,rfl⟩:=Int.eq_ofNat_of_zero_le hi0;obtain ⟨b,rfl⟩:=Int.eq_ofNat_of_zero_le hj0;have ha:a < N:=by omega
  have hb:b < N:=by omega
  have hs:=h.size;obtain ⟨p0,p1,p2,p3,p4⟩:=h.pa a ha;obtain ⟨r0,r1,r2,r3,r4⟩:=h.pa b hb;have hnw:=Nat.lt_of_lt_of_le h.ln h.up.size;have hpw:=Nat.lt_of_lt_of_le h.lp h.up.size;refine (Z7R K ⟨o.toArray⟩ ⟨m.toArray⟩ bn N c bp l dd _ _ a b _ _ _ _ _ _ _ _ _ _ _ _ _ _ _ _ _ _ w ha hb hl hl2 hnw hpw h.ne (h.tx a ha) (h.tx b hb) h.fn h.fp p0 r0 p1 r1 p2 r2 p3 r3 p4 r4).mono ?_;rintro e w' ⟨rfl,W0,hW0,rfl⟩;have h0:=h.keep (hW0.mono h.up.size);have hne:=h.ne;have ea: ((a:Nat):Int).toNat=a:=by omega
  have eb: ((b:Nat):Int).toNat=b:=by omega
  rw[ea,eb];have hget:=fun k=>swp_get d (i:=a) (j:=b) (by omega) (by omega) k;refine ⟨rfl,⟨by rw[size_swp]; exact hs,fun k hk=> ?_,fun k hk=> ?_,fun k=> ?_,fun k=> ?_,h.ln,h.lp,hne, ?_⟩, ?_, ?_⟩
  {rw[World.cell?_drew,Z5G _ _ _ _ _ _ _ _ _ hne.symm,Z5G _ _ _ _ _ _ _ _ _ hne.symm,World.cell?_drew];by_cases hkb:k=b
   {subst hkb;rw[swp_right d a k (by omega)];obtain ⟨v,hv⟩:=cell?_setCell_some (w:=W0) (p:=⟨bn,a,none⟩) (x:= .string ⟨(d[k]!).n.toArray⟩) (q:=⟨bn,k,none⟩) (h0.tx k hk);exact ss hv}
   {rw[so (Ne.symm hkb)];by_cases hka:k=a
    {subst hka;rw[swp_left d k b (by omega) hkb];exact ss (h0.tx k hk)}
    {rw[so (Ne.symm hka),swp_other d a b k hka hkb];exact h0.tx k hk}}}
  {have hz: ∀k,k < N->Sh5 ((((W0.setCell ⟨bn,a,none⟩ (.string ⟨(d[b]!).n.toArray⟩)).setCell ⟨bn,b,none⟩ (.string ⟨(d[a]!).n.toArray⟩)).drew)) bp (k * 5) (d[k]!).t (d[k]!).q:=fun k hk=>
    (Z4Z hne (Z4Z hne (h0.pa k hk))).of fun _=>World.cell?_drew _ _
   refine Sh5.of (w:=set5 _ _ _ _ _ _ _ _) ?_ (fun _=>World.cell?_drew _ _);by_cases hkb:k=b
   {subst hkb;rw[swp_right d a k (by omega)];by_cases hka:k=a
    {subst hka;exact Z3N _ _ _ _ _ _ _ (Z3N _ _ _ _ _ _ _ (hz k hk))}
    {exact Z3N _ _ _ _ _ _ _ (Z34 _ _ _ _ _ _ _ _ _ _ _ hka (hz k hk))}}
   {refine Z34 _ _ _ _ _ _ _ _ _ _ _ hkb ?_;by_cases hka:k=a
    {subst hka;rw[swp_left d k b (by omega) hkb];exact Z3N _ _ _ _ _ _ _ (hz k hk)}
    {rw[swp_other d a b k hka hkb];exact Z34 _ _ _ _ _ _ _ _ _ _ _ hka (hz k hk)}}}
  {have:=h0.fn k;simpa[set5,World.frozen?_drew] using this}
  {have:=h0.fp k;simpa[set5,World.frozen?_drew] using this}
  {exact (((((h0.up.set (Or.inl rfl) _).set (Or.inl rfl) _).drew).set5 _ _ _ _ _ _).set5 _ _ _ _ _ _).drew}
  {have:=hW0.size;simpa[set5,World.setCell] using this}
  {intro x hx1 hx2;have hn:x≠bn:=by have:=h.ln; omega
   have hp:x≠bp:=by have:=h.lp; omega
   have hU:=((((((Up2.refl bn bp W0).set (Or.inl rfl) (.string ⟨(d[b]!).n.toArray⟩) (p:=⟨bn,a,none⟩)).set (Or.inl rfl) (.string ⟨(d[a]!).n.toArray⟩) (p:=⟨bn,b,none⟩)).drew).set5 (a * 5) (.int .i64 (d[b]!).t.kind) (.string ⟨(d[b]!).t.of_.toArray⟩) (.string ⟨(d[b]!).t.name.toArray⟩) (.slice (d[b]!).q.A (d[b]!).t.names.length (d[b]!).q.c) (.slice (d[b]!).q.P (d[b]!).t.parts.length (d[b]!).q.d)).set5 (b * 5) (.int .i64 (d[a]!).t.kind) (.string ⟨(d[a]!).t.of_.toArray⟩) (.string ⟨(d[a]!).t.name.toArray⟩) (.slice (d[a]!).q.A (d[a]!).t.names.length (d[a]!).q.c) (.slice (d[a]!).q.P (d[a]!).t.parts.length (d[a]!).q.d)).drew;exact (hU.block x (Nat.lt_of_lt_of_le hx2 hW0.size) hn hp).trans (hW0.block x hx2)}
 size d w h:=h.size
 big:=by omega
 base d w h:=h.up.size
 keep d w w' h hb:=h.keep hb
 mL w:=by kernel_rfl
 mS w:=by kernel_rfl
theorem Z6K (t:Sh) (q:Ptr) (w:World) (h0:t.names.length=0):
 Y9 97 #[.iface 75 (.agg (Y8 t q))] w (.tuple #[]):=by
 have H:Srt t.names.length w.heap.size (.agg (Y8 t q)) ltEl (fun d w1=>d.size=t.names.length/\Below w.heap.size w w1):= {
  less:=fun d w1 i j h hi0 hi=>absurd hi (by omega)
  swap:=fun d w1 i j h hi0 hi=>absurd hi (by omega)
  size:=fun d w1 h=>h.1
  big:=by omega
  base:=fun d w1 h=>h.2.size
  keep:=fun d w1 w2 h hb=>⟨h.1,h.2.trans hb⟩
  mL:=fmL t q
  mS:=fmS t q }
 exact (Z4t H Z8Y (fmN t q) (fun d w1 h=>(Z4Y t q w1).mono fun e w2 ⟨he,hb⟩=>⟨he,h.1,Z00 h.2 hb⟩) #[] w ⟨by rw[h0]; rfl,Below.refl _ _⟩).mono fun e w' ⟨he,d',_,_,h⟩=>⟨he,h.2⟩
def els (t:Sh) (qs:Nat->Ptr) (Fs:Nat->List Nat):Array El:=((List.range t.names.length).map fun i=>(⟨t.names.getD i [],t.parts.getD i ⟨0,[],[],[],[]⟩,qs i,Fs i⟩:El)).toArray
section
variable (t : Sh) (qs : Nat -> Ptr) (Fs : Nat -> List Nat)
include t qs Fs
theorem Z35: (els t qs Fs).size=t.names.length:=by simp[els]
theorem Z5H (i:Nat) (h:i < t.names.length) (h2:i < t.parts.length): (els t qs Fs)[i]! =⟨t.names[i],t.parts[i],qs i,Fs i⟩:=by
 rw[getElem!_pos (els t qs Fs) i (by rw[Z35]; exact h)];simp[els,h,h2]
end
theorem Z7T (t:Sh) (q:Ptr) (qs:Nat->Ptr) (Fs:Nat->List Nat) (bn bp:Nat) (w:World) (hA:q.A=some ⟨bn,0,none⟩) (hP:q.P=some ⟨bp,0,none⟩) (hl:t.names.length=t.parts.length) (hN:t.names.length < 400000)
    (ht:TxR w bn t.names) (hp:PaR w bp t.parts qs) (hne:bn≠bp):
    Calls Tryz.prog 97 #[.iface 75 (.agg #[.int .i64 t.kind,.string ⟨t.of_.toArray⟩,.string ⟨t.name.toArray⟩,.slice q.A t.names.length q.c,.slice q.P t.parts.length q.d])] w fun e w'=>e= .returned (.tuple #[])/\
      ∃d',PermIn 0 t.names.length (els t qs Fs) d'/\SortedIn ltEl 0 t.names.length d'/\FSt w bn bp t.names.length d' w':=by
  have hlen:=Z4Y t q;have mN:=fmN t q;rw[hA,hP] at hlen mN ⊢;have H:=Z7S w bn bp t.names.length t.kind t.of_ t.name q.c t.parts.length q.d hN (by omega) (by omega);refine Z4t H Z8Y mN (fun d w1 h=>(hlen w1).mono fun e w2 ⟨he,hb⟩=>⟨he,h.keep (hb.mono h.up.size)⟩) (els t qs Fs) w ?_;exact ⟨Z35 t qs Fs,fun i hi=>by rw[Z5H t qs Fs i hi (by omega)]; exact ht.at_ i hi,fun i hi=>by rw[Z5H t qs Fs i hi (by omega)]; exact hp.at_ i (by omega),ht.fz,hp.fz,ht.lt,hp.lt,hne,Up2.refl _ _ _⟩
theorem Z7U {N:Nat} {d d':Array El} (h:PermIn 0 N d d') (hN:d.size=N):d'.toList.Perm d.toList:=by
 obtain ⟨h1,_,h3⟩:=h;have e:d.extract 0 N=d:=by rw[<-hN]; exact Array.extract_size
 have e':d'.extract 0 N=d':=by rw[<-hN, <-h1]; exact Array.extract_size
 rwa [e,e'] at h3
theorem Z5I {N:Nat} {d:Array El} (h:SortedIn ltEl 0 N d) (hN:d.size=N): (d.toList.map fun x=>(x.n,x.t)).Pairwise (fun a b:Fld=>a.1<=b.1):=by
 rw[List.pairwise_map,List.pairwise_iff_getElem];intro i j hi hj hij;have:=h i j (Nat.zero_le _) hij (by simpa[hN] using hj);simp only[ltEl,decide_eq_false_iff_not,List.not_lt] at this;rw[getElem!_pos d i (by simpa using hi),getElem!_pos d j (by simpa using hj)] at this;simpa using this
theorem Z7V {t t':Sh} {q:Ptr} (h:Small t q) (ho:t'.of_=t.of_) (hn:t'.name=t.name) (hns:t'.names.Perm t.names) (hp:t'.parts.length=t.parts.length):Small t' q:=by
 have hl:=hns.length_eq;obtain ⟨h1,h2,h3,h4,h5,h6,h7,h8,h9⟩:=h;exact ⟨by rw[ho]; exact h1,by rw[hn]; exact h2,fun x hx=>h3 x (hns.mem_iff.1 hx),by rw[hl]; exact h4,by rw[hp]; exact h5,by rw[hl]; exact h6,by rw[hp]; exact h7,h8,h9⟩
theorem Z9O {w0 W:World} {t:Sh} {q:Ptr} {bn bp N:Nat} {qs:Nat->Ptr} {Fs:Nat->List Nat} {d:Array El} (hA:q.A=some ⟨bn,0,none⟩) (hP:q.P=some ⟨bp,0,none⟩) (hs:Small t q)
 (hN:t.names.length=N) (hN2:t.parts.length=N) (hf:FSt w0 bn bp N d W) (hp:d.toList.Perm (els t qs Fs).toList) (hr: ∀i (h:i < t.parts.length),Own W (qs i) (t.parts[i]'h) (Fs i)):
 Own W q ⟨t.kind,t.of_,t.name,d.toList.map El.n,d.toList.map El.t⟩ ([bn]++ [bp]++d.toList.flatMap El.F)/\([bn]++ [bp]++d.toList.flatMap El.F).Perm ([bn]++ [bp]++(List.range t.parts.length).flatMap Fs):=by
 have hsz:=hf.size;have hall: ∀x∈d.toList,Own W x.q x.t x.F:=fun x hx=>by
  have hx2:=hp.mem_iff.1 hx;obtain ⟨i,hi,rfl⟩:=List.getElem_of_mem hx2;have hi2:i < t.names.length:=by simpa[els] using hi
  have:=Z5H t qs Fs i hi2 (by omega);rw[getElem!_pos (els t qs Fs) i (by rw[Z35]; exact hi2)] at this;rw[Array.getElem_toList,this];exact hr i (by omega)
 have hen: ((els t qs Fs).toList.map El.n)=t.names:=by
  apply List.ext_getElem
  {simp[els]}
  {intro i h1 h2;simp[els,h2]}
 have heF: (els t qs Fs).toList.flatMap El.F=(List.range t.parts.length).flatMap Fs:=by
  rw[hN2, <-hN];simp[els,List.flatMap_map]
 have hget: ∀i (h:i < d.toList.length),d[i]! =d.toList[i]'h:=fun i h=>by
  rw[getElem!_pos d i (by simpa using h)];simp
 refine ⟨.mk q _ _ [bn] [bp] (fun i=>(d[i]!).q) (fun i=>(d[i]!).F) (Z7V hs rfl rfl ((hp.map El.n).trans (by rw[hen])) (by simp; omega)) ?_ ?_ ?_ ?_, ?_⟩
 {refine Or.inr ⟨bn,hA,rfl,Nat.lt_of_lt_of_le hf.ln hf.up.size,fun i hi=> ?_,hf.fn⟩;have hi2:i < d.toList.length:=by simpa using hi
  rw[hf.tx i (by simpa[hsz] using hi2),hget i hi2];simp}
 {refine Or.inr ⟨bp,hP,rfl,Nat.lt_of_lt_of_le hf.lp hf.up.size,fun i hi=> ?_,hf.fp⟩;have hi2:i < d.toList.length:=by simpa using hi
  have:=hf.pa i (by simpa[hsz] using hi2);rw[hget i hi2] at this;simpa[hget i hi2] using this}
 {intro i hi;have hi2:i < d.toList.length:=by simpa using hi
  have:=hall _ (List.getElem_mem hi2);simpa[hget i hi2] using this}
 {congr 1;show d.toList.flatMap El.F=(List.range (d.toList.map El.t).length).flatMap (fun i=>(d[i]!).F);rw[List.length_map];have:d.toList=(List.range d.toList.length).map (fun i=>d[i]!):=by
   apply List.ext_getElem
   {simp}
   {intro i h1 h2;simp[hget i h1]}
  conv=>lhs; rw[this]
  rw[List.flatMap_map]}
 {rw[<-heF];exact List.Perm.append_left _ (List.Perm.flatMap_right El.F hp)}
end
section
open Go.RowKit Shp
structure UpF (F:List Nat) (w w':World):Prop where
 os:w'.os=w.os
 tape:w'.tape=w.tape
 output:w'.output=w.output
 size:w.heap.size<=w'.heap.size
 block: ∀k,k < w.heap.size->k∉F->w'.heap[k]? =w.heap[k]?
theorem UpF.refl (F:List Nat) (w:World):UpF F w w:=⟨rfl,rfl,rfl,Nat.le_refl _,fun _ _ _=>rfl⟩
theorem UpF.below {F:List Nat} {a b c:World} (h:UpF F a b) (k:Below b.heap.size b c):UpF F a c:=
 ⟨k.os.trans h.os,k.tape.trans h.tape,k.output.trans h.output,Nat.le_trans h.size k.size,fun x h1 h2=>(k.block x (Nat.lt_of_lt_of_le h1 h.size)).trans (h.block x h1 h2)⟩
theorem UpF.next {F G:List Nat} {a b c:World} (h:UpF F a b) (k:UpF G b c) (hs: ∀x∈G,x∈F):UpF F a c:=
 ⟨k.os.trans h.os,k.tape.trans h.tape,k.output.trans h.output,Nat.le_trans h.size k.size,fun x h1 h2=>(k.block x (Nat.lt_of_lt_of_le h1 h.size) (fun e=>h2 (hs x e))).trans (h.block x h1 h2)⟩
theorem UpF.same {F:List Nat} {w w':World} (h:UpF F w w') {b:Nat} (h1:b < w.heap.size) (h2:b∉F):Z0J w w' b:=
 ⟨fun k=>World.cell?_of_block (w:=w) (h.block b h1 h2),fun k=>World.frozen?_of_block (w:=w) (h.block b h1 h2)⟩
theorem Up2.upF {bn bp:Nat} {w w':World} (h:Up2 bn bp w w') {F:List Nat} (h1:bn∈F) (h2:bp∈F):UpF F w w':=
 ⟨h.os,h.tape,h.output,h.size,fun k hk hn=>h.block k hk (fun e=>hn (e▸h1)) (fun e=>hn (e▸h2))⟩
theorem Z1B {W W':World} {q:Ptr} {t:Sh} {F:List Nat} (h:Own W q t F) (hb:Below W.heap.size W W'):Own W' q t F:=
 h.of (fun b hm=>⟨fun k=>hb.cell (p:=⟨b,k,none⟩) (h.lt b hm),fun k=>hb.frozen (p:=⟨b,k,none⟩) (h.lt b hm)⟩) hb.size
theorem Z2A (t:Sh): (sorted t).kind=t.kind/\(sorted t).of_=t.of_/\(sorted t).name=t.name:=by
 rw[Z0k]; split <;> exact ⟨rfl,rfl,rfl⟩
theorem Z3T {t:Sh} (h:t.names= []\/t.names.length=t.parts.length): (sorted t).names.length=t.names.length/\(sorted t).parts.length=t.parts.length:=by
 rw[Z0k];split
 {rename_i h0
  simp[h0]}
 {rename_i h0
  rcases h with h | h
  {exact absurd h h0}
  {have:=(Z0S (t.names.zip (t.parts.map sorted))).length_eq;rw[List.length_zip,List.length_map] at this;simp only[List.length_map,this];omega}}
theorem Z28 {t:Sh} (h:right t=true):t.names= []\/t.names.length=t.parts.length/\t.names.Nodup:=by
 have hf:=Z08 h;unfold fits at hf;split at hf
 {simp only[Bool.and_eq_true,decide_eq_true_eq] at hf;exact Or.inl (List.eq_nil_of_length_eq_zero hf.1.2)}
 {split at hf
  {cases hf}
  {split at hf
   {simp only[Bool.and_eq_true,decide_eq_true_eq] at hf;refine Or.inr ⟨hf.2, ?_⟩;have:=hf.1;simp only[areNames,Bool.and_eq_true,Z4Q] at this;exact this.2}
   {split at hf
    {cases hf}
    {rename_i h0
     exact Or.inl (List.eq_nil_of_length_eq_zero (by omega))}}}}
theorem Z4u {W:World} {b o:Nat} {t:Sh} {q:Ptr} (hr:right t=true) (h:Sh5 W b o t q):Sh5 W b o (sorted t) q:=by
 obtain ⟨k1,k2,k3⟩:=Z2A t;obtain ⟨l1,l2⟩:=Z3T (t:=t) ((Z28 hr).imp id And.left);unfold Sh5 at *;rw[k1,k2,k3,l1,l2];exact h
theorem Z5J {Fs:Nat->List Nat}: ∀n,((List.range n).flatMap Fs).Nodup->(∀j,j < n->(Fs j).Nodup)/\ ∀i j,i < j->j < n-> ∀b∈Fs i,b∉Fs j
 | 0,_=>⟨fun j hj=>absurd hj (by omega),fun i j _ hj=>absurd hj (by omega)⟩
 | n+1,h=>by
  rw[List.range_succ,List.flatMap_append,List.nodup_append] at h;obtain ⟨h1,h2,h3⟩:=h;obtain ⟨k1,k2⟩:=Z5J n h1;have e: [n].flatMap Fs=Fs n:=by simp
  rw[e] at h2 h3;refine ⟨fun j hj=> ?_,fun i j hij hj b hb hb2=> ?_⟩
  {rcases Nat.lt_or_eq_of_le (Nat.le_of_lt_succ hj) with h | rfl
   {exact k1 j h}
   {exact h2}}
  {rcases Nat.lt_or_eq_of_le (Nat.le_of_lt_succ hj) with h | rfl
   {exact k2 i j hij h b hb hb2}
   {exact h3 b (List.mem_flatMap.2 ⟨i,List.mem_range.2 hij,hb⟩) b hb2 rfl}}
theorem Z2B {FN FP:List Nat} {n:Nat} {Fs:Nat->List Nat} (h: (FN++FP++(List.range n).flatMap Fs).Nodup):
 (∀b∈FN,b∉FP)/\(∀b∈FN,∀j,j < n->b∉Fs j)/\(∀b∈FP,∀j,j < n->b∉Fs j)/\(∀j,j < n->(Fs j).Nodup)/\ ∀i j,i < n->j < n->i≠j-> ∀b∈Fs i,b∉Fs j:=by
 rw[List.nodup_append] at h;obtain ⟨h1,h2,h3⟩:=h;rw[List.nodup_append] at h1;have hm: ∀j,j < n-> ∀b∈Fs j,b∈(List.range n).flatMap Fs:=fun j hj b hb=>List.mem_flatMap.2 ⟨j,List.mem_range.2 hj,hb⟩;obtain ⟨h4,h5⟩:=Z5J n h2;refine ⟨fun b hb hb2=>h1.2.2 b hb b hb2 rfl,fun b hb j hj hb2=>h3 b (List.mem_append_left _ hb) b (hm j hj b hb2) rfl,fun b hb j hj hb2=>h3 b (List.mem_append_right _ hb) b (hm j hj b hb2) rfl,h4,fun i j hi hj hne b hb hb2=> ?_⟩;rcases Nat.lt_or_gt_of_ne hne with h | h
 {exact h5 i j h hj b hb hb2}
 {exact h5 j i h hi b hb2 hb}
end
section
open Shp
theorem Z05 {t:Sh} (h:check t=0):size t<=400/\deep t<=40/\right t=true:=by
 unfold check at h;by_cases h4:400 < size t
 {rw[if_pos h4] at h; omega}
 {rw[if_neg h4] at h;by_cases h40:40 < deep t
  {rw[if_pos h40] at h; omega}
  {rw[if_neg h40] at h;cases hr:right t with
   | false=>rw[hr] at h; simp at h
   | true=>exact ⟨by omega,by omega,rfl⟩}}
theorem Z7W {l m:List Sh} (h:l.Perm m):sizes l=sizes m:=by
 induction h with
 | nil=>rfl
 | cons x _ ih=>simp[sizes,ih]
 | swap x y l=>simp[sizes]; omega
 | trans _ _ ih1 ih2=>exact ih1.trans ih2
theorem Z90 {f:Sh->Sh} {l:List Sh} (h: ∀p∈l,size (f p)=size p):sizes (l.map f)=sizes l:=by
 induction l with
 | nil=>rfl
 | cons a l ih=>simp[sizes,h a (by simp),ih (fun p hp=>h p (by simp[hp]))]
structure Like (f:Sh->Sh) (t u:Sh):Prop where
 k:u.kind=t.kind
 o:u.of_=t.of_
 n:u.name=t.name
 ns:u.names.Perm t.names
 ps:u.parts.Perm (t.parts.map f)
theorem Like.size {f:Sh->Sh} {t u:Sh} (h:Like f t u) (hp: ∀p∈t.parts,size (f p)=size p):size u=size t:=by
 rw[size_eq,size_eq,Z7W h.ps,Z90 hp]
end
end Go.Proofs.YtkhoflciahkphaaGreatDoor
namespace Sub
section
open Shp Go.Proofs.YtkhoflciahkphaaGreatDoor
def stepNarrow (g:Sh->Sh->Bool) (c:Cl):Bool:=
 match c with
 | (_,_,none)=>true
 | (_,some p,some q)=>g p q
 | (_,none,some _)=>false
def stepWide (g:Sh->Sh->Bool) (c:Cl):Bool:=
 match c with
 | (_,none,_)=>true
 | (_,some p,some q)=>g p q
 | (_,some _,none)=>false
def placesAll (g:Sh->Sh->Bool):List Sh->List Sh->Bool
 | [],[]=>true
 | a::us,b::vs=>(if us.isEmpty then g a b else g b a)&&placesAll g us vs
 | [],_::_=>false
 | _::_,[]=>false
def bw:Nat->Sh->Sh->Bool
 | 0,_,_=>false
 | f+1,a,b=>
  if a.kind≠b.kind then false
  else if a.kind=6 then (calls a b).all (stepNarrow (bw f))
  else if a.kind=7 then (calls a b).all (stepWide (bw f))
  else decide (a.of_=b.of_/\a.name=b.name)&&placesAll (bw f) a.parts b.parts
theorem Z24 {g:Sh->Sh->Bool} {us vs:List Sh}:placesAll g us vs=true ↔
 us.length=vs.length/\ ∀(i:Nat) (p q:Sh),us[i]? =some p->vs[i]? =some q->(if i+1=us.length then g p q else g q p)=true:=by
 induction us generalizing vs with
 | nil=>cases vs <;> simp[placesAll]
 | cons a us ih=>
  cases vs with
  | nil=>simp[placesAll]
  | cons b vs=>
   unfold placesAll;rw[Bool.and_eq_true,ih];constructor
   {rintro ⟨h1,h2,h3⟩;refine ⟨by simp[h2],fun i p q hp hq=> ?_⟩;cases i with
    | zero=>
     simp only[List.getElem?_cons_zero,Option.some.injEq] at hp hq;subst hp hq;by_cases e:us.isEmpty=true
     {rw[if_pos e] at h1; rw[if_pos (by have:=(Z16 us).1 e; rw[List.length_cons]; omega)]; exact h1}
     {rw[if_neg e] at h1; rw[if_neg (fun h=>e ((Z16 us).2 (by rw[List.length_cons] at h; omega)))]; exact h1}
    | succ i=>
     have:=h3 i p q (by simpa using hp) (by simpa using hq);rw[<-this]; simp}
   {rintro ⟨h1,h2⟩;refine ⟨?_,by simpa using h1,fun i p q hp hq=> ?_⟩
    {have:=h2 0 a b (by simp) (by simp);by_cases e:us.isEmpty=true
     {rw[if_pos e]; rw[if_pos (by have:=(Z16 us).1 e; rw[List.length_cons]; omega)] at this; exact this}
     {rw[if_neg e]; rw[if_neg (fun h=>e ((Z16 us).2 (by rw[List.length_cons] at h; omega)))] at this; exact this}}
    {have:=h2 (i+1) p q (by simpa using hp) (by simpa using hq);rw[<-this]; simp}}
def whole (o:Option Sh):Option Sh:=o.bind (fun j=>if check j=0 then some (sorted j) else none)
def J (up:Bool) (a b:Sh):Option Sh:=if check a=0/\check b=0 then whole (bound 40 up a b) else none
def below (a b:Sh):Bool:=decide (check a=0)&&decide (check b=0)&&bw 40 a b
end
end Sub
namespace Grd
section
open Shp Sub Go.Proofs.YtkhoflciahkphaaGreatDoor
def R (w:Bool):Nat->Bool->Sh->Sh->Prop
 | 0,_,_,_=>False
 | f+1,up,a,b=>a.kind=4\/b.kind=4\/(a.kind=b.kind/\
  (a.kind=6\/a.kind=7->(∀n p q,get a n=some p->get b n=some q->R w f up p q)/\
   (∀n p,get a n=some p->get b n=none->w=true/\Narrow up a.kind)/\
   (∀n q,get a n=none->get b n=some q->w=true/\Wide up a.kind))/\
  (¬(a.kind=6\/a.kind=7)->a.of_=b.of_/\a.name=b.name/\a.parts.length=b.parts.length/\
   ∀i p q,a.parts[i]? =some p->b.parts[i]? =some q->R w f (if i+1=a.parts.length then up else !up) p q))
section
variable {w : Bool} {f : Nat}
include w f
theorem R.flip: ∀ {up:Bool} {a b:Sh},R w f up a b->R w f (!up) b a:=by
 induction f with
 | zero=>intro up a b h; exact h.elim
 | succ f ih=>
  intro up a b h;rcases h with h | h | ⟨hk,h1,h2⟩
  {exact Or.inr (Or.inl h)}
  {exact Or.inl h}
  refine Or.inr (Or.inr ⟨hk.symm,fun h=> ?_,fun h=> ?_⟩)
  {rw[<-hk] at h ⊢;obtain ⟨g1,g2,g3⟩:=h1 h;refine ⟨fun n q p hq hp=>ih (g1 n p q hp hq),fun n q hq hp=> ?_,fun n p hq hp=> ?_⟩
   {rw[Z2w]; exact g3 n q hp hq}
   {rw[Z3v]; exact g2 n p hp hq}}
  {rw[<-hk] at h;obtain ⟨e1,e2,e3,e4⟩:=h2 h;refine ⟨e1.symm,e2.symm,e3.symm,fun i p q hp hq=> ?_⟩;have:=ih (e4 i q p hq hp);rw[<-e3];by_cases e:i+1=a.parts.length
   {rw[if_pos e] at this ⊢; exact this}
   {rw[if_neg e] at this ⊢; exact this}}
theorem R.flip_iff {up:Bool} {a b:Sh}:R w f up a b ↔ R w f (!up) b a:=⟨R.flip,fun h=>by have:=h.flip; rwa [Bool.not_not] at this⟩
theorem R.refl: ∀ {up:Bool} {a:Sh},deep a<=f->R w f up a a:=by
 induction f with
 | zero=>intro up a h; rw[Z0d] at h; omega
 | succ f ih=>
  intro up a h;have hp: ∀p∈a.parts,deep p<=f:=fun p hp=>by have:=Z0t hp; rw[Z0d] at h; omega
  refine Or.inr (Or.inr ⟨rfl,fun _=>⟨fun n p q h1 h2=> ?_,fun n p h1 h2=> ?_,fun n p h1 h2=> ?_⟩,fun _=>⟨rfl,rfl,rfl,fun i p q h1 h2=> ?_⟩⟩)
  {rw[h1] at h2; cases h2; exact ih (hp p (Z06 h1))}
  {rw[h1] at h2; cases h2}
  {rw[h1] at h2; cases h2}
  {rw[h1] at h2; cases h2;exact ih (hp p (List.mem_of_getElem? h1))}
end
theorem R.any {f:Nat}: ∀ {up up':Bool} {a b:Sh},R false f up a b->R false f up' a b:=by
 induction f with
 | zero=>intro up up' a b h; exact h.elim
 | succ f ih=>
  intro up up' a b h;rcases h with h | h | ⟨hk,h1,h2⟩
  {exact Or.inl h}
  {exact Or.inr (Or.inl h)}
  refine Or.inr (Or.inr ⟨hk,fun h=> ?_,fun h=> ?_⟩)
  {obtain ⟨g1,g2,g3⟩:=h1 h;exact ⟨fun n p q hp hq=>ih (g1 n p q hp hq),fun n p hp hq=>absurd (g2 n p hp hq).1 (by simp),fun n q hp hq=>absurd (g3 n q hp hq).1 (by simp)⟩}
  {obtain ⟨e1,e2,e3,e4⟩:=h2 h;exact ⟨e1,e2,e3,fun i p q hp hq=>ih (e4 i p q hp hq)⟩}
theorem R.symm {f:Nat} {up up':Bool} {a b:Sh} (h:R false f up a b):R false f up' b a:=h.flip.any
theorem R.same {w:Bool} {f:Nat}: ∀ {up:Bool} {c a b:Sh},V f true c a->V f false c a->R w f up a b->R w f up c b:=by
 induction f with
 | zero=>intro up c a b h; exact h.elim
 | succ f ih=>
  intro up c a b h g k;obtain ⟨hk,h1,h2,h3⟩:=h;obtain ⟨_,i1,i2,i3⟩:=g;rcases k with k | k | ⟨kk,k1,k2⟩
  {exact Or.inl (hk.trans k)}
  {exact Or.inr (Or.inl k)}
  refine Or.inr (Or.inr ⟨hk.trans kk,fun h=> ?_,fun h=> ?_⟩)
  {obtain ⟨g1,g2,g3⟩:=k1 (hk▸h);rw[<-hk] at g2 g3;have hG: ∀n,(∀p,get c n=some p-> ∃q,get a n=some q/\V f true p q/\V f false p q)/\(∀q,get a n=some q-> ∃p,get c n=some p/\V f true p q/\V f false p q):=fun n=>by
    rcases Z13 h true with hw | hw
    {have hv:Wide false c.kind:=by rw[show false= !true from rfl,Z3v]; exact hw
     refine ⟨fun p hp=> ?_,fun q hq=> ?_⟩
     {obtain ⟨q,hq,v⟩:=i2 hv n p hp;obtain ⟨p',hp',v'⟩:=h1 hw n q hq;rw[hp] at hp'; cases hp';exact ⟨q,hq,v',v⟩}
     {obtain ⟨p,hp,v'⟩:=h1 hw n q hq;obtain ⟨q',hq',v⟩:=i2 hv n p hp;rw[hq] at hq'; cases hq';exact ⟨p,hp,v',v⟩}}
    {have hv:Narrow false c.kind:=by rw[show false= !true from rfl,Z2w]; exact hw
     refine ⟨fun p hp=> ?_,fun q hq=> ?_⟩
     {obtain ⟨q,hq,v⟩:=h2 hw n p hp;obtain ⟨p',hp',v'⟩:=i1 hv n q hq;rw[hp] at hp'; cases hp';exact ⟨q,hq,v,v'⟩}
     {obtain ⟨p,hp,v'⟩:=i1 hv n q hq;obtain ⟨q',hq',v⟩:=h2 hw n p hp;rw[hq] at hq'; cases hq';exact ⟨p,hp,v,v'⟩}}
   refine ⟨fun n p q hp hq=> ?_,fun n p hp hq=> ?_,fun n q hp hq=> ?_⟩
   {obtain ⟨r,hr,v,v'⟩:=(hG n).1 p hp;exact ih v v' (g1 n r q hr hq)}
   {obtain ⟨r,hr,_⟩:=(hG n).1 p hp;exact g2 n r hr hq}
   {cases ha:get a n with
    | none=>exact g3 n q ha hq
    | some r=>
     obtain ⟨p',hp',_⟩:=(hG n).2 r ha;rw[hp] at hp'; cases hp'}}
  {obtain ⟨e1,e2,e3,e4⟩:=h3 h;obtain ⟨_,_,_,d4⟩:=i3 h;obtain ⟨f1,f2,f3,f4⟩:=k2 (hk▸h);refine ⟨e1.trans f1,e2.trans f2,e3.trans f3,fun i p q hp hq=> ?_⟩;have hi:i < c.parts.length:=(List.getElem?_eq_some_iff.1 hp).1;have hia:i < a.parts.length:=by omega
   have h5:=e4 i p _ hp (List.getElem?_eq_getElem hia);have h7:=d4 i p _ hp (List.getElem?_eq_getElem hia);have h6:=f4 i _ q (List.getElem?_eq_getElem hia) hq;rw[<-e3] at h6;by_cases e:i+1=c.parts.length
   {rw[if_pos e] at h5 h7; exact ih h5 h7 h6}
   {rw[if_neg e] at h5 h7; exact ih h7 h5 h6}}
mutual
def known (s:Sh):Bool:=match s with | ⟨k,_,_,_,ps⟩=>decide (k≠4)&&knowns ps
def knowns:List Sh->Bool
 | []=>true
 | p::ps=>known p&&knowns ps
end
theorem known_eq (s:Sh):known s=(decide (s.kind≠4)&&knowns s.parts):=by obtain ⟨k,o,n,ns,ps⟩:=s; rw[known]
theorem knowns_mem {l:List Sh} {p:Sh} (h:knowns l=true) (hp:p∈l):known p=true:=by
 induction l with
 | nil=>cases hp
 | cons a l ih=>
  rw[knowns,Bool.and_eq_true] at h;rcases List.mem_cons.1 hp with rfl | hp
  {exact h.1}
  {exact ih h.2 hp}
def al (w:Bool) (k:Int) (first:Bool):Bool:=if first=true then k==(if w=true then 6 else 0) else k==(if w=true then 7 else 0)
theorem Zan {w:Bool} {k:Int} (h:k=6\/k=7): (al w k true=true ↔ w=true/\Narrow true k)/\(al w k false=true ↔ w=true/\Wide true k):=by
 unfold al Narrow Wide;cases w <;> rcases h with rfl | rfl <;> simp
def hstep (h:Bool->Bool) (g:Sh->Sh->Bool) (c:Cl):Bool:=
 match c with
 | (_,some p,some q)=>g p q
 | (_,some _,none)=>h true
 | (_,none,_)=>h false
def hold (w:Bool):Nat->Sh->Sh->Bool
 | 0,_,_=>false
 | f+1,a,b=>
  if a.kind=4\/b.kind=4 then true
  else if a.kind≠b.kind then false
  else if a.kind=6\/a.kind=7 then (calls a b).all (hstep (al w a.kind) (hold w f))
  else decide (a.of_=b.of_/\a.name=b.name)&&placesAll (hold w f) a.parts b.parts
theorem Z38 {w:Bool} {f:Nat}: ∀ {a b:Sh},right a=true->right b=true->(hold w f a b=true ↔ R w f true a b):=by
 induction f with
 | zero=>intro a b _ _; unfold hold R; simp
 | succ f ih=>
  intro a b ra rb;unfold hold R;by_cases h4:a.kind=4\/b.kind=4
  {rw[if_pos h4];exact ⟨fun _=>h4.elim Or.inl (fun h=>Or.inr (Or.inl h)),fun _=>rfl⟩}
  rw[if_neg h4];have h4a:a.kind≠4:=fun h=>h4 (Or.inl h);have h4b:b.kind≠4:=fun h=>h4 (Or.inr h);by_cases hk:a.kind=b.kind
  {rw[if_neg (fun h=>h hk)];by_cases h6:a.kind=6\/a.kind=7
   {have A:=Z0s (Z08 ra) h6;have B:=Z0s (Z08 rb) (hk▸h6);obtain ⟨a1,a2⟩:=Zan (w:=w) h6;rw[if_pos h6,List.all_eq_true];constructor
    {intro h;refine Or.inr (Or.inr ⟨hk,fun _=>⟨fun n p q hp hq=> ?_,fun n p hp hq=> ?_,fun n q hp hq=> ?_⟩,fun h=>absurd h6 h⟩)
     {have:=h (n,get a n,get b n) ((Z0c A B).2 ⟨rfl,rfl,Or.inl (Z0Q hp)⟩);rw[hp,hq] at this;exact (ih (Z04 ra (Z06 hp)) (Z04 rb (Z06 hq))).1 this}
     {have:=h (n,get a n,get b n) ((Z0c A B).2 ⟨rfl,rfl,Or.inl (Z0Q hp)⟩);rw[hp,hq] at this;exact a1.1 this}
     {have:=h (n,get a n,get b n) ((Z0c A B).2 ⟨rfl,rfl,Or.inr (Z0Q hq)⟩);rw[hp,hq] at this;exact a2.1 this}}
    {intro h;rcases h with h | h | ⟨_,h,_⟩
     {exact absurd h h4a}
     {exact absurd h h4b}
     obtain ⟨g1,g2,g3⟩:=h h6;rintro ⟨n,x,y⟩ hc;obtain ⟨rfl,rfl,hn⟩:=(Z0c A B).1 hc;cases hp:get a n with
     | none=>
      cases hq:get b n with
      | none=>
       rcases hn with hn | hn
       {exact absurd hn (A.get_none.1 hp)}
       {exact absurd hn (B.get_none.1 hq)}
      | some q=>exact a2.2 (g3 n q hp hq)
     | some p=>
      cases hq:get b n with
      | none=>exact a1.2 (g2 n p hp hq)
      | some q=>exact (ih (Z04 ra (Z06 hp)) (Z04 rb (Z06 hq))).2 (g1 n p q hp hq)}}
   {rw[if_neg h6,Bool.and_eq_true,decide_eq_true_eq,Z24];constructor
    {rintro ⟨⟨h1,h2⟩,h3,h4⟩;refine Or.inr (Or.inr ⟨hk,fun h=>absurd h h6,fun _=>⟨h1,h2,h3,fun i p q hp hq=> ?_⟩⟩);have:=h4 i p q hp hq;have rp:=Z04 ra (List.mem_of_getElem? hp);have rq:=Z04 rb (List.mem_of_getElem? hq);by_cases e:i+1=a.parts.length
     {rw[if_pos e] at this ⊢; exact (ih rp rq).1 this}
     {rw[if_neg e] at this ⊢; exact ((ih rq rp).1 this).flip}}
    {intro h;rcases h with h | h | ⟨_,_,h⟩
     {exact absurd h h4a}
     {exact absurd h h4b}
     obtain ⟨h1,h2,h3,h4⟩:=h h6;refine ⟨⟨h1,h2⟩,h3,fun i p q hp hq=> ?_⟩;have:=h4 i p q hp hq;have rp:=Z04 ra (List.mem_of_getElem? hp);have rq:=Z04 rb (List.mem_of_getElem? hq);by_cases e:i+1=a.parts.length
     {rw[if_pos e] at this ⊢; exact (ih rp rq).2 this}
     {rw[if_neg e] at this ⊢; exact (ih rq rp).2 (R.flip_iff.2 this)}}}}
  {rw[if_pos hk];constructor
   {intro h; cases h}
   {intro h;rcases h with h | h | ⟨h,_⟩
    {exact absurd h h4a}
    {exact absurd h h4b}
    {exact absurd h hk}}}
def nstep (g:Sh->Sh->Sh) (c:Cl):Option Fld:=
 match c with
 | (n,some p,some q)=>some (n,g p q)
 | (n,none,some q)=>some (n,q)
 | (_,_,none)=>none
def named:Nat->Sh->Sh->Sh
 | 0,s,_=>s
 | f+1,s,t=>
  if s.kind=4\/t.kind=4 then s
  else if s.kind=6\/s.kind=7 then ⟨s.kind,s.of_,s.name,((calls s t).filterMap (nstep (named f))).map Prod.fst,((calls s t).filterMap (nstep (named f))).map Prod.snd⟩
  else ⟨s.kind,s.of_,s.name,[],List.zipWith (named f) s.parts t.parts⟩
theorem nstep_fst {g:Sh->Sh->Sh} {c:Cl} {x:Fld} (h:nstep g c=some x):x.1=c.1:=by
 unfold nstep at h;split at h
 {cases h; rfl}
 {cases h; rfl}
 {cases h}
def near (a b:Sh):Bool:=decide (check a=0)&&decide (check b=0)&&hold true 40 a b
def alike (a b:Sh):Bool:=decide (check a=0)&&decide (check b=0)&&hold false 40 a b
def plain (a:Sh):Bool:=decide (check a=0)&&known a
def between (a b:Sh):Option Sh:=if near a b=true then whole (some (named 40 a b)) else none
theorem near_iff {a b:Sh}:near a b=true ↔ check a=0/\check b=0/\R true 40 true a b:=by
 unfold near;rw[Bool.and_eq_true,Bool.and_eq_true,decide_eq_true_eq,decide_eq_true_eq];constructor
 {rintro ⟨⟨ca,cb⟩,h⟩; exact ⟨ca,cb,(Z38 (Z05 ca).2.2 (Z05 cb).2.2).1 h⟩}
 {rintro ⟨ca,cb,h⟩; exact ⟨⟨ca,cb⟩,(Z38 (Z05 ca).2.2 (Z05 cb).2.2).2 h⟩}
theorem Z0V {a b:Sh}:alike a b=true ↔ check a=0/\check b=0/\R false 40 true a b:=by
 unfold alike;rw[Bool.and_eq_true,Bool.and_eq_true,decide_eq_true_eq,decide_eq_true_eq];constructor
 {rintro ⟨⟨ca,cb⟩,h⟩; exact ⟨ca,cb,(Z38 (Z05 ca).2.2 (Z05 cb).2.2).1 h⟩}
 {rintro ⟨ca,cb,h⟩; exact ⟨⟨ca,cb⟩,(Z38 (Z05 ca).2.2 (Z05 cb).2.2).2 h⟩}
section
variable {a b : Sh} (h : ¬ (check a = 0 /\ check b = 0))
include a b h
theorem near_off:near a b=false:=by
 cases e:near a b with
 | false=>rfl
 | true=>exact absurd ⟨(near_iff.1 e).1,(near_iff.1 e).2.1⟩ h
theorem alike_off:alike a b=false:=by
 cases e:alike a b with
 | false=>rfl
 | true=>exact absurd ⟨(Z0V.1 e).1,(Z0V.1 e).2.1⟩ h
end
end
end Grd
namespace Go.Proofs.YtkhoflciahkphaaGreatDoor
section
open Go.RowKit
theorem ZaM (l:List UInt8) (hl:l.length<=1000000) (w:World):
 Calls Tryz.prog 104 #[.string ⟨l.toArray⟩] w fun e w'=>e= .returned (.int .i64 (l.takeWhile Lex.nameB).length)/\w=w':=
 Zbk ⟨l.toArray⟩ (by rw[Z1f]; omega) w
theorem Zb6 (c:UInt8) (r:List UInt8):Lex.isName (c::r)=(decide ((c::r).length<=24)&&Lex.small c&&(c::r).all Lex.nameB&& !Lex.isWord (c::r)):=rfl
theorem ZaH (l:List UInt8) (hl:l.length<=9223372036854775807) (w:World):
 Y9 90 #[.string ⟨l.toArray⟩] w (.bool (Lex.isName l)):=by
 cases l with
 | nil=>
  have HM:Hid (Lex.isName []=false):=Y1 rfl;go_enter Tryz.func90,Tryz.ntmps90;go_wp2;go_ret;exact ⟨by rw[HM.out]; rfl,Below.refl _ _⟩
 | cons c r=>
  have HM:=Y1 (Zb6 c r);have HT:=Y1 (Lex.Zah (p:=Lex.nameB) (s:=c::r));obtain ⟨l,hll⟩: ∃l:List UInt8,l=c::r:=⟨_,rfl⟩;rw[<-hll] at hl HM HT ⊢;have hz: (⟨l.toArray⟩:ByteArray).size=l.length:=Z1f _;have he:l.isEmpty=false:=by rw[hll]; rfl
  have hidx: ∀W,(Instr.index 9 (.string ⟨l.toArray⟩) (.int .i64 0)).run Tryz.prog W= .ok (.int .u8 c.toNat) W:=fun W=>by rw[hll]; rfl
  clear hll;by_cases h24:l.length<=24
  {have h24d:decide ((l.length:Int)<=24)=true:=decide_eq_true (by omega);cases h1:Lex.small c
   {have HF:Hid (Lex.isName l=false):=Y1 (by rw[HM.out,h1]; simp);go_enter Tryz.func90,Tryz.ntmps90
    go_wp2_with fail
    refine (Zay c _).mono ?_;rintro e w2 ⟨rfl,rfl⟩;rw[h1];go_wp2;go_ret;exact ⟨by rw[HF.out]; rfl,Below.refl _ _⟩}
   {have H1:=Y1 h1;go_enter Tryz.func90,Tryz.ntmps90
    go_wp2_with fail
    refine (Zay c _).mono ?_;rintro e w2 ⟨rfl,rfl⟩;rw[h1];clear h1
    go_wp2_with fail
    refine (ZaM l (by omega) _).mono ?_;rintro e w2 ⟨rfl,rfl⟩;obtain ⟨k,hk⟩: ∃k,k=(l.takeWhile Lex.nameB).length:=⟨_,rfl⟩;rw[<-hk] at HT ⊢;clear hk;by_cases hkl:k=l.length
    {have hkd: ((k:Int)==(l.length:Int))=true:=by rw[beq_iff_eq]; omega
     have HA:Hid (l.all Lex.nameB=true):=Y1 (HT.out.1 hkl);have HF:Hid (Lex.isName l= !Lex.isWord l):=Y1 (by rw[HM.out,H1.out,HA.out,decide_eq_true h24]; simp);clear hkl
     go_wp2_with fail
     refine (Zb4 l _).mono ?_;rintro e w2 ⟨rfl,hb2⟩;go_wp2;go_ret;exact ⟨by rw[HF.out]; rfl,hb2⟩}
    {have hkd: ((k:Int)==(l.length:Int))=false:=by rw[beq_eq_false_iff_ne]; omega
     have HF:Hid (Lex.isName l=false):=Y1 (by
      have:l.all Lex.nameB=false:=by
       cases hq:l.all Lex.nameB with
       | false=>rfl
       | true=>exact absurd (HT.out.2 hq) hkl
      rw[HM.out,this]; simp)
     clear hkl;go_wp2;go_ret;exact ⟨by rw[HF.out]; rfl,Below.refl _ _⟩}}}
  {have h24d:decide ((l.length:Int)<=24)=false:=decide_eq_false (by omega);have HF:Hid (Lex.isName l=false):=Y1 (by rw[HM.out,decide_eq_false h24]; rfl);go_enter Tryz.func90,Tryz.ntmps90;go_wp2;go_ret;exact ⟨by rw[HF.out]; rfl,Below.refl _ _⟩}
theorem ZaS (c:UInt8) (r:List UInt8):Lex.isUpper (c::r)=(decide ((c::r).length<=24)&&Lex.great c&&(c::r).all Lex.nameB):=rfl
theorem ZaT (l:List UInt8) (hl:l.length<=9223372036854775807) (w:World):
 Y9 91 #[.string ⟨l.toArray⟩] w (.bool (Lex.isUpper l)):=by
 cases l with
 | nil=>
  have HM:Hid (Lex.isUpper []=false):=Y1 rfl;go_enter Tryz.func91,Tryz.ntmps91;go_wp2;go_ret;exact ⟨by rw[HM.out]; rfl,Below.refl _ _⟩
 | cons c r=>
  have HM:=Y1 (ZaS c r);have HT:=Y1 (Lex.Zah (p:=Lex.nameB) (s:=c::r));obtain ⟨l,hll⟩: ∃l:List UInt8,l=c::r:=⟨_,rfl⟩;rw[<-hll] at hl HM HT ⊢;have hz: (⟨l.toArray⟩:ByteArray).size=l.length:=Z1f _;have he:l.isEmpty=false:=by rw[hll]; rfl
  have hidx: ∀W,(Instr.index 9 (.string ⟨l.toArray⟩) (.int .i64 0)).run Tryz.prog W= .ok (.int .u8 c.toNat) W:=fun W=>by rw[hll]; rfl
  clear hll;by_cases h24:l.length<=24
  {have h24d:decide ((l.length:Int)<=24)=true:=decide_eq_true (by omega);cases h1:Lex.great c
   {have HF:Hid (Lex.isUpper l=false):=Y1 (by rw[HM.out,h1]; simp);go_enter Tryz.func91,Tryz.ntmps91
    go_wp2_with fail
    refine (ZaA c _).mono ?_;rintro e w2 ⟨rfl,rfl⟩;rw[h1];go_wp2;go_ret;exact ⟨by rw[HF.out]; rfl,Below.refl _ _⟩}
   {have H1:=Y1 h1;go_enter Tryz.func91,Tryz.ntmps91
    go_wp2_with fail
    refine (ZaA c _).mono ?_;rintro e w2 ⟨rfl,rfl⟩;rw[h1];clear h1
    go_wp2_with fail
    refine (ZaM l (by omega) _).mono ?_;rintro e w2 ⟨rfl,rfl⟩;obtain ⟨k,hk⟩: ∃k,k=(l.takeWhile Lex.nameB).length:=⟨_,rfl⟩;rw[<-hk] at HT ⊢;clear hk;by_cases hkl:k=l.length
    {have hkd: ((k:Int)==(l.length:Int))=true:=by rw[beq_iff_eq]; omega
     have HA:Hid (l.all Lex.nameB=true):=Y1 (HT.out.1 hkl);have HF:Hid (Lex.isUpper l=true):=Y1 (by rw[HM.out,H1.out,HA.out,decide_eq_true h24]; rfl);clear hkl;go_wp2;go_ret;exact ⟨by rw[HF.out]; rfl,Below.refl _ _⟩}
    {have hkd: ((k:Int)==(l.length:Int))=false:=by rw[beq_eq_false_iff_ne]; omega
     have HF:Hid (Lex.isUpper l=false):=Y1 (by
      have:l.all Lex.nameB=false:=by
       cases hq:l.all Lex.nameB with
       | false=>rfl
       | true=>exact absurd (HT.out.2 hq) hkl
      rw[HM.out,this]; simp)
     clear hkl;go_wp2;go_ret;exact ⟨by rw[HF.out]; rfl,Below.refl _ _⟩}}}
  {have h24d:decide ((l.length:Int)<=24)=false:=decide_eq_false (by omega);have HF:Hid (Lex.isUpper l=false):=Y1 (by rw[HM.out,decide_eq_false h24]; rfl);go_enter Tryz.func91,Tryz.ntmps91;go_wp2;go_ret;exact ⟨by rw[HF.out]; rfl,Below.refl _ _⟩}
end
section
open Go.RowKit Shp
theorem ZaU (A:Option Addr) (c:Nat) (l:List (List UInt8)) (p:Nat) (w:World) (hA:Strs w w.heap.size A (strs l)) (hl:l.length<=9223372036854775807) (hx: ∀x∈l,x.length<=9223372036854775807):
 Y9 92 #[.slice A l.length c,.int .i64 (p:Int)] w (.bool (areNames l&&decide (l.length=p))):=by
 have HA:=Y1 hA;have HX:=Y1 hx;clear hA hx;go_enter Tryz.func92,Tryz.ntmps92
 go_wp2_with fail
 go_loopw [5] (fun ii wr=> ∃i:Nat,ii= .int .i64 i/\i<=l.length/\Hid (∀j (hj:j < l.length),j < i->Lex.isName (l[j]'hj)=true/\ ∀k (hk:k < j),l[k]'(by omega)≠l[j]'hj)/\Below w.heap.size w wr)
  (fun i _=>l.length - (intOf i).toNat)
 case atStart=>exact ⟨0,rfl,Nat.zero_le _,Y1 (fun j _ hj=>absurd hj (by omega)),Below.refl _ _⟩
 case round=>
  obtain ⟨i,rfl,hi,HN,hb⟩:=hrel;by_cases hlt:i < l.length
  {have hi1: (i:Int) < (l.length:Int):=by omega
   rcases (HA.out.next hb).cell7 with h0 | ⟨g,off,rfl,hg,hc⟩
   {omega}
   {have hcell:=hc i hlt;obtain ⟨x,hx⟩: ∃x,x=l[i]'hlt:=⟨_,rfl⟩;rw[<-hx] at hcell;have hxl:x.length<=9223372036854775807:=by rw[hx]; exact HX.out _ (List.getElem_mem _)
    have HE:=Y1 hx;have HC:=Y1 hc;clear hx hc;cases hn:Lex.isName x with
    | false=>
     have HF:Hid (areNames l=false):=Y1 (Z5r hlt (by rw[<-HE.out]; exact hn));have hw:=ZaH x hxl wr;rw[hn] at hw;clear hn
     go_wp2_with (refine hw.mono ?_; rintro e w' ⟨rfl,hb'⟩)
     go_ret;exact ⟨by rw[HF.out]; rfl,Z00 hb hb'⟩
    | true=>
     have HT:Hid (Lex.isName (l[i]'hlt)=true):=Y1 (by rw[<-HE.out]; exact hn);have hw:=ZaH x hxl wr;rw[hn] at hw;clear hn
     go_wp2_with (refine hw.mono ?_; rintro e w' ⟨rfl,hb'⟩)
     have hbw:=Z00 hb hb';have HC2:Hid (∀j (hj:j < l.length),w'.cell? ⟨g,off+j,none⟩=some (.string ⟨(l[j]'hj).toArray⟩)):=Y1 (fun j hj=>((hb'.cell (p:=⟨g,off+j,none⟩) hg).trans (HC.out j hj)));have hcell2:=HC2.out i hlt;rw[<-HE.out] at hcell2;have HH2:=Y1 hcell2;have HBW:=Y1 hbw;clear hw hb hb' hbw hcell hcell2
     go_loopw [6] (fun kk wr2=> ∃k:Nat,kk= .int .i64 k/\k<=i/\Hid (∀j (hj:j < i),j < k->l[j]'(by omega)≠l[i]'hlt)/\Hid (Below w'.heap.size w' wr2))
      (fun k _=>i - (intOf k).toNat)
     case atStart=>exact ⟨0,rfl,Nat.zero_le _,Y1 (fun j _ hj=>absurd hj (by omega)),Y1 Y2⟩
     case round=>
      obtain ⟨k,rfl,hk,HK,HB2⟩:=hrel;have hgw:g < w'.heap.size:=Z31 HH2.out;by_cases hki:k < i
      {have hk1: (k:Int) < (i:Int):=by omega
       have hk2: (k:Int) < (l.length:Int):=by omega
       have hck:=(HB2.out.cell (p:=⟨g,off+k,none⟩) hgw).trans (HC2.out k (by omega));have hci:=(HB2.out.cell (p:=⟨g,off+i,none⟩) hgw).trans HH2.out;obtain ⟨y,hy⟩: ∃y,y=l[k]'(by omega):=⟨_,rfl⟩;rw[<-hy] at hck;have HY:=Y1 hy;clear hy;cases hq: (y==x)
       {have HM:Hid (l[k]'(by omega)≠l[i]'hlt):=Y1 (by rw[<-HY.out, <-HE.out]; intro h; rw[h] at hq; simp at hq)
        go_wp2_with fail
        go_quiet (fail)
        go_wp2
        go_roundw
        case rel=>exact ⟨k+1,by go_num,by omega,Y1 (fun j hj hji=>by
         rcases Nat.lt_succ_iff_lt_or_eq.1 hji with h | rfl
         {exact HK.out j hj h}
         · exact HM.out),Y1 (Z0D HB2.out _)⟩
        case measure=>simp[intOf]; omega}
       {have HF:Hid (areNames l=false):=Y1 (Z4L hlt hki (by rw[<-HY.out, <-HE.out]; simpa using hq))
        go_wp2_with fail
        go_quiet (fail)
        go_wp2;go_ret;exact ⟨by rw[HF.out]; rfl,Z0D (Z00 HBW.out HB2.out) _⟩}}
      {have hke:k=i:=by omega
       have HN2:Hid (∀j (hj:j < l.length),j < i+1->Lex.isName (l[j]'hj)=true/\ ∀k (hk:k < j),l[k]'(by omega)≠l[j]'hj):=Y1 (fun j hj hji=>by
        rcases Nat.lt_succ_iff_lt_or_eq.1 hji with h | rfl
        {exact HN.out j hj h}
        · exact ⟨HT.out,fun m hm=>HK.out m hm (by omega)⟩)
       have hk1: ¬(k:Int) < (i:Int):=by omega
       clear hke;go_wp2
       go_roundw
       case rel=>exact ⟨i+1,by go_num,by omega,HN2,Z00 HBW.out HB2.out⟩
       case measure=>simp[intOf]; omega}}}
  {have hi1: ¬(i:Int) < (l.length:Int):=by omega
   have HM:Hid (areNames l=true):=Y1 (Z6m (fun j hj=>(HN.out j hj (by omega)).1) (fun j hj=>(HN.out j hj (by omega)).2));go_wp2;go_ret;exact ⟨Z0w (by rw[HM.out,Bool.true_and,Bool.eq_iff_iff]; simp; omega),hb⟩}
end
end Go.Proofs.YtkhoflciahkphaaGreatDoor
namespace Lex
section
def join:List (List UInt8)->List UInt8
 | []=> []
 | [p]=>p
 | p::q::ps=>p++32::join (q::ps)
def Placed (s:List UInt8):Nat->List (Tok×Nat)->Prop
 | a,[]=>a<=s.length
 | a,(t,p)::r=>a<=p/\p<=s.length/\1<=t.kind/\t.kind<=7/\(t.kind=4->Placed s (p+2) r)/\(t.kind≠4->p+t.text.length<=s.length/\(s.drop p).take t.text.length=t.text/\Placed s (p+t.text.length) r)
theorem Placed.less {s:List UInt8} {a b:Nat} (hab:b<=a): ∀ {l:List (Tok×Nat)},Placed s a l->Placed s b l
 | [],h=>Nat.le_trans hab h
 | (t,p)::r,h=>by
  obtain ⟨h1,h2⟩:=h;exact ⟨Nat.le_trans hab h1,h2⟩
def up (k:Nat):Except Nat Nat->Except Nat Nat
 | .ok n=> .ok (k+n)
 | .error n=> .error (k+n)
end
end Lex
namespace Lex
def letter (c:UInt8):Bool:=small c||great c
theorem Z5Y (c:UInt8):nameB c=(letter c||digit c||c==95):=rfl
end Lex
namespace Go.Proofs.YtkhoflciahkphaaGreatDoor
open Go.RowKit
section
variable (c : UInt8) (w : World)
include c w
theorem Z1q:
 Calls Tryz.prog 112 #[.int .u8 (c.toNat:Int)] w fun e w'=>e= .returned (.bool (Lex.small c))/\w=w':=by
 have hlt:=c.toNat_lt;have H:c.toNat<=96\/(97<=c.toNat/\c.toNat<=122)\/123<=c.toNat:=by omega
 have HB:Hid (Lex.small c=(decide (97<=c.toNat)&&decide (c.toNat<=122))):=Y1 rfl;obtain ⟨n,hn⟩: ∃n,n=c.toNat:=⟨_,rfl⟩;rw[<-hn] at H HB hlt ⊢;clear hn;rcases H with h1 | ⟨h1,h2⟩ | h1
 {have h3:decide ((97:Int)<=(n:Int))=false:=decide_eq_false (by omega);go_enter Tryz.func112,Tryz.ntmps112;go_wp2;go_ret;exact ⟨by rw[HB.out,decide_eq_false (by omega)]; rfl,rfl⟩}
 {have h3:decide ((n:Int)<=122)=true:=decide_eq_true (by omega);have h4:decide ((97:Int)<=(n:Int))=true:=decide_eq_true (by omega);go_enter Tryz.func112,Tryz.ntmps112;go_wp2;go_ret;exact ⟨by rw[HB.out,decide_eq_true h1,decide_eq_true h2]; rfl,rfl⟩}
 {have h3:decide ((n:Int)<=122)=false:=decide_eq_false (by omega);have h4:decide ((97:Int)<=(n:Int))=true:=decide_eq_true (by omega);go_enter Tryz.func112,Tryz.ntmps112;go_wp2;go_ret;exact ⟨by rw[HB.out,decide_eq_false (p:=n<=122) (by omega),Bool.and_false]; rfl,rfl⟩}
theorem Z2H:
 Calls Tryz.prog 115 #[.int .u8 (c.toNat:Int)] w fun e w'=>e= .returned (.bool (Lex.great c))/\w=w':=by
 have hlt:=c.toNat_lt;have H:c.toNat<=64\/(65<=c.toNat/\c.toNat<=90)\/91<=c.toNat:=by omega
 have HB:Hid (Lex.great c=(decide (65<=c.toNat)&&decide (c.toNat<=90))):=Y1 rfl;obtain ⟨n,hn⟩: ∃n,n=c.toNat:=⟨_,rfl⟩;rw[<-hn] at H HB hlt ⊢;clear hn;rcases H with h1 | ⟨h1,h2⟩ | h1
 {have h3:decide ((65:Int)<=(n:Int))=false:=decide_eq_false (by omega);go_enter Tryz.func115,Tryz.ntmps115;go_wp2;go_ret;exact ⟨by rw[HB.out,decide_eq_false (by omega)]; rfl,rfl⟩}
 {have h3:decide ((n:Int)<=90)=true:=decide_eq_true (by omega);have h4:decide ((65:Int)<=(n:Int))=true:=decide_eq_true (by omega);go_enter Tryz.func115,Tryz.ntmps115;go_wp2;go_ret;exact ⟨by rw[HB.out,decide_eq_true h1,decide_eq_true h2]; rfl,rfl⟩}
 {have h3:decide ((n:Int)<=90)=false:=decide_eq_false (by omega);have h4:decide ((65:Int)<=(n:Int))=true:=decide_eq_true (by omega);go_enter Tryz.func115,Tryz.ntmps115;go_wp2;go_ret;exact ⟨by rw[HB.out,decide_eq_false (p:=n<=90) (by omega),Bool.and_false]; rfl,rfl⟩}
theorem Z2I:
 Calls Tryz.prog 136 #[.int .u8 (c.toNat:Int)] w fun e w'=>e= .returned (.bool (Lex.digit c))/\w=w':=by
 have hlt:=c.toNat_lt;have H:c.toNat<=47\/(48<=c.toNat/\c.toNat<=57)\/58<=c.toNat:=by omega
 have HB:Hid (Lex.digit c=(decide (48<=c.toNat)&&decide (c.toNat<=57))):=Y1 rfl;obtain ⟨n,hn⟩: ∃n,n=c.toNat:=⟨_,rfl⟩;rw[<-hn] at H HB hlt ⊢;clear hn;rcases H with h1 | ⟨h1,h2⟩ | h1
 {have h3:decide ((48:Int)<=(n:Int))=false:=decide_eq_false (by omega);go_enter Tryz.func136,Tryz.ntmps136;go_wp2;go_ret;exact ⟨by rw[HB.out,decide_eq_false (by omega)]; rfl,rfl⟩}
 {have h3:decide ((n:Int)<=57)=true:=decide_eq_true (by omega);have h4:decide ((48:Int)<=(n:Int))=true:=decide_eq_true (by omega);go_enter Tryz.func136,Tryz.ntmps136;go_wp2;go_ret;exact ⟨by rw[HB.out,decide_eq_true h1,decide_eq_true h2]; rfl,rfl⟩}
 {have h3:decide ((n:Int)<=57)=false:=decide_eq_false (by omega);have h4:decide ((48:Int)<=(n:Int))=true:=decide_eq_true (by omega);go_enter Tryz.func136,Tryz.ntmps136;go_wp2;go_ret;exact ⟨by rw[HB.out,decide_eq_false (p:=n<=57) (by omega),Bool.and_false]; rfl,rfl⟩}
theorem Z1G:
 Calls Tryz.prog 135 #[.int .u8 (c.toNat:Int)] w fun e w'=>e= .returned (.bool (Lex.letter c))/\w=w':=by
 have HM:Hid (Lex.letter c=(Lex.small c||Lex.great c)):=Y1 rfl;cases h1:Lex.small c
 {have HF:Hid (Lex.letter c=Lex.great c):=Y1 (by rw[HM.out,h1]; rfl);go_enter Tryz.func135,Tryz.ntmps135
  go_wp2_with fail
  refine (Z1q c _).mono ?_;rintro e w2 ⟨rfl,rfl⟩;rw[h1]
  go_wp2_with fail
  refine (Z2H c _).mono ?_;rintro e w2 ⟨rfl,rfl⟩;go_wp2;go_ret;exact ⟨by rw[HF.out]; rfl,rfl⟩}
 {have HF:Hid (Lex.letter c=true):=Y1 (by rw[HM.out,h1]; rfl);go_enter Tryz.func135,Tryz.ntmps135
  go_wp2_with fail
  refine (Z1q c _).mono ?_;rintro e w2 ⟨rfl,rfl⟩;rw[h1];go_wp2;go_ret;exact ⟨by rw[HF.out]; rfl,rfl⟩}
theorem Z3W:
 Calls Tryz.prog 129 #[.int .u8 (c.toNat:Int)] w fun e w'=>e= .returned (.bool (Lex.nameB c))/\w=w':=by
 have HM:=Y1 (Lex.Z5Y c);have b95:=Za4 c;cases h1:Lex.letter c
 {cases h2:Lex.digit c
  {cases g95: (c==95)
   {rw[g95] at b95;have HF:Hid (Lex.nameB c=false):=Y1 (by rw[HM.out,h1,h2,g95]; rfl);clear HM;go_enter Tryz.func129,Tryz.ntmps129
    go_wp2_with fail
    refine (Z1G c _).mono ?_;rintro e w2 ⟨rfl,rfl⟩;rw[h1]
    go_wp2_with fail
    refine (Z2I c _).mono ?_;rintro e w2 ⟨rfl,rfl⟩;rw[h2];go_wp2;go_ret;exact ⟨by rw[HF.out]; rfl,rfl⟩}
   {rw[g95] at b95;have HF:Hid (Lex.nameB c=true):=Y1 (by rw[HM.out,h1,h2,g95]; rfl);clear HM;go_enter Tryz.func129,Tryz.ntmps129
    go_wp2_with fail
    refine (Z1G c _).mono ?_;rintro e w2 ⟨rfl,rfl⟩;rw[h1]
    go_wp2_with fail
    refine (Z2I c _).mono ?_;rintro e w2 ⟨rfl,rfl⟩;rw[h2];go_wp2;go_ret;exact ⟨by rw[HF.out]; rfl,rfl⟩}}
  {have HF:Hid (Lex.nameB c=true):=Y1 (by rw[HM.out,h1,h2]; rfl);clear HM;go_enter Tryz.func129,Tryz.ntmps129
   go_wp2_with fail
   refine (Z1G c _).mono ?_;rintro e w2 ⟨rfl,rfl⟩;rw[h1]
   go_wp2_with fail
   refine (Z2I c _).mono ?_;rintro e w2 ⟨rfl,rfl⟩;rw[h2];go_wp2;go_ret;exact ⟨by rw[HF.out]; rfl,rfl⟩}}
 {have HF:Hid (Lex.nameB c=true):=Y1 (by rw[HM.out,h1]; rfl);clear HM;go_enter Tryz.func129,Tryz.ntmps129
  go_wp2_with fail
  refine (Z1G c _).mono ?_;rintro e w2 ⟨rfl,rfl⟩;rw[h1];go_wp2;go_ret;exact ⟨by rw[HF.out]; rfl,rfl⟩}
end
theorem Z89 (s:List UInt8) (w:World):
 Calls Tryz.prog 114 #[.string ⟨s.toArray⟩] w fun e w'=>e= .returned (.bool (Lex.isWord s))/\w=w':=by
 cases hq:Lex.isWord s
 {have HN: ∀t∈Lex.words,(s==t)=false:=fun t ht=>by
   cases h: (s==t) with
   | false=>rfl
   | true=>
    obtain rfl:=beq_iff_eq.1 h;unfold Lex.isWord at hq;rw[List.contains_iff_mem.2 ht] at hq; cases hq
  have n0: (s== [109,111,100,117,108,101])=false:=HN _ (by decide);have n1: (s== [105,109,112,111,114,116])=false:=HN _ (by decide);have n2: (s== [112,105,110])=false:=HN _ (by decide);have n3: (s== [114,97,110,103,101])=false:=HN _ (by decide);have n4: (s== [116,121,112,101])=false:=HN _ (by decide);have n5: (s== [111,112,97,113,117,101])=false:=HN _ (by decide);have n6: (s== [108,101,116])=false:=HN _ (by decide);have n7: (s== [105,110])=false:=HN _ (by decide);have n8: (s== [101,120,112,111,114,116])=false:=HN _ (by decide);have n9: (s== [102,117,110])=false:=HN _ (by decide);have n10: (s== [105,102])=false:=HN _ (by decide);have n11: (s== [116,104,101,110])=false:=HN _ (by decide);have n12: (s== [101,108,115,101])=false:=HN _ (by decide);have n13: (s== [99,97,115,101])=false:=HN _ (by decide);have n14: (s== [111,102])=false:=HN _ (by decide);have n15: (s== [97,115])=false:=HN _ (by decide);have n16: (s== [110,101,119])=false:=HN _ (by decide);have n17: (s== [114,97,119])=false:=HN _ (by decide);have n18: (s== [116,114,117,101])=false:=HN _ (by decide);have n19: (s== [102,97,108,115,101])=false:=HN _ (by decide);clear HN hq;go_enter Tryz.func114,Tryz.ntmps114;go_wp2;go_ret;exact ⟨rfl,rfl⟩}
 {have hm:s∈Lex.words:=List.contains_iff_mem.1 hq;clear hq;unfold Lex.words at hm;simp only[List.mem_cons,List.not_mem_nil,or_false] at hm;rcases hm with rfl | rfl | rfl | rfl | rfl | rfl | rfl | rfl | rfl | rfl | rfl | rfl | rfl | rfl | rfl | rfl | rfl | rfl | rfl | rfl
  all_goals
   go_enter Tryz.func114,Tryz.ntmps114;go_wp2;go_ret;exact ⟨rfl,rfl⟩}
end Go.Proofs.YtkhoflciahkphaaGreatDoor
namespace Lex
def named (l:List UInt8):Bool:=decide (l.length<=24)&&l.tail.all nameB
section
variable {p : UInt8 -> Bool} {l : List UInt8}
include p l
theorem Z9R (h: ∀j (hj:j < l.length),1<=j->p (l[j]'hj)=true):l.tail.all p=true:=by
 cases l with
 | nil=>rfl
 | cons c r=>
  refine List.all_eq_true.2 (fun x hx=> ?_);obtain ⟨j,hj,rfl⟩:=List.mem_iff_getElem.1 hx;exact h (j+1) (by simpa using hj) (by omega)
theorem Za8 {j:Nat} (hj:j < l.length) (h1:1<=j) (h:p (l[j]'hj)=false):l.tail.all p=false:=by
 cases l with
 | nil=>simp at hj
 | cons c r=>
  obtain ⟨k,rfl⟩: ∃k,j=k+1:=⟨j - 1,by omega⟩;have hm: (r[k]'(by simpa using hj))∈r:=List.getElem_mem _;cases hq: (c::r).tail.all p with
  | false=>rfl
  | true=>
   have:=List.all_eq_true.1 hq _ hm;have h':p (r[k]'(by simpa using hj))=false:=h;rw[h'] at this; cases this
end
theorem Z8a (c:UInt8) (r:List UInt8):isName (c::r)=(small c&&named (c::r)&& !isWord (c::r)):=by
 show (decide ((c::r).length<=24)&&small c&&(c::r).all nameB&& !isWord (c::r))=_;cases h:small c with
 | false=>simp
 | true=>
  have:nameB c=true:=by unfold nameB; rw[h]; rfl
  unfold named;simp[this]
theorem Z6R (c:UInt8) (r:List UInt8):isUpper (c::r)=(great c&&named (c::r)):=by
 show (decide ((c::r).length<=24)&&great c&&(c::r).all nameB)=_;cases h:great c with
 | false=>simp
 | true=>
  have:nameB c=true:=by unfold nameB; rw[h]; simp
  unfold named;simp[this]
end Lex
namespace Go.Proofs.YtkhoflciahkphaaGreatDoor
open Go.RowKit
section
variable (l : List UInt8) (hl : l.length <= 9223372036854775807) (w : World)
include l hl w
theorem Z2J:
 Calls Tryz.prog 113 #[.string ⟨l.toArray⟩] w fun e w'=>e= .returned (.bool (Lex.named l))/\w=w':=by
 have hz: (⟨l.toArray⟩:ByteArray).size=l.length:=Z1f _;have HM:Hid (Lex.named l=(decide (l.length<=24)&&l.tail.all Lex.nameB)):=Y1 rfl;by_cases h24:l.length<=24
 {have h24d: ¬((24:Int) < (l.length:Int)):=by omega
  go_enter Tryz.func113,Tryz.ntmps113
  go_wp2_with fail
  go_loopw [3] (fun ii wr=> ∃n:Nat,ii= .int .i64 n/\1<=n/\(n<=l.length\/n=1)/\Hid (∀j (hj:j < l.length),1<=j->j < n->Lex.nameB (l[j]'hj)=true)/\w=wr)
   (fun i _=>l.length - (intOf i).toNat)
  case atStart=>exact ⟨1,rfl,Nat.le_refl _,Or.inr rfl,Y1 (fun j _ h1 hj=>absurd hj (by omega)),rfl⟩
  case round=>
   obtain ⟨n,rfl,h1,hn,HN,rfl⟩:=hrel;by_cases hlt:n < l.length
   {have hi1: (n:Int) < (l.length:Int):=by omega
    obtain ⟨c,hc⟩: ∃c,c=l[n]'hlt:=⟨_,rfl⟩;have hidx: ∀W,(Instr.index 9 (.string ⟨l.toArray⟩) (.int .i64 (n:Int))).run Tryz.prog W= .ok (.int .u8 c.toNat) W:=fun W=>by
     rw[hc]; exact Z7D ⟨l.toArray⟩ n (by omega) W
    have HC:=Y1 hc;clear hc;cases hb:Lex.nameB c
    {have HF:Hid (Lex.named l=false):=Y1 (by rw[HM.out,Lex.Za8 hlt h1 (by rw[<-HC.out]; exact hb)]; simp)
     go_wp2_with fail
     refine (Z3W c _).mono ?_;rintro e w2 ⟨rfl,rfl⟩;rw[hb];go_wp2;go_ret;exact ⟨by rw[HF.out]; rfl,rfl⟩}
    {have HN2:Hid (∀j (hj:j < l.length),1<=j->j < n+1->Lex.nameB (l[j]'hj)=true):=Y1 (fun j hj h1 hji=>by
      rcases Nat.lt_succ_iff_lt_or_eq.1 hji with h' | rfl
      {exact HN.out j hj h1 h'}
      · rw[<-HC.out]; exact hb)
     go_wp2_with fail
     refine (Z3W c _).mono ?_;rintro e w2 ⟨rfl,rfl⟩;rw[hb];go_wp2
     go_roundw
     case rel=>exact ⟨n+1,by go_num,by omega,Or.inl (by omega),HN2,trivial⟩
     case measure=>simp[intOf]; omega}}
   {have hi1: ¬(n:Int) < (l.length:Int):=by omega
    have HF:Hid (Lex.named l=true):=Y1 (by rw[HM.out,decide_eq_true h24,Lex.Z9R (fun j hj h1=>HN.out j hj h1 (by omega))]; rfl);go_wp2;go_ret;exact ⟨by rw[HF.out]; rfl,rfl⟩}}
 {have h24d: (24:Int) < (l.length:Int):=by omega
  have HF:Hid (Lex.named l=false):=Y1 (by rw[HM.out,decide_eq_false h24]; rfl);go_enter Tryz.func113,Tryz.ntmps113;go_wp2;go_ret;exact ⟨by rw[HF.out]; rfl,rfl⟩}
theorem Z2c:
 Calls Tryz.prog 101 #[.string ⟨l.toArray⟩] w fun e w'=>e= .returned (.bool (Lex.isName l))/\w=w':=by
 cases l with
 | nil=>
  have HM:Hid (Lex.isName []=false):=Y1 rfl;go_enter Tryz.func101,Tryz.ntmps101;go_wp2;go_ret;exact ⟨by rw[HM.out]; rfl,rfl⟩
 | cons c r=>
  have HM:=Y1 (Lex.Z8a c r);obtain ⟨l,hll⟩: ∃l:List UInt8,l=c::r:=⟨_,rfl⟩;rw[<-hll] at hl HM ⊢;have hz: (⟨l.toArray⟩:ByteArray).size=l.length:=Z1f _;have he:l.isEmpty=false:=by rw[hll]; rfl
  have he2: (l== [])=false:=by rw[hll]; rfl
  have he3: (l != [])=true:=by rw[hll]; rfl
  have hidx: ∀W,(Instr.index 9 (.string ⟨l.toArray⟩) (.int .i64 0)).run Tryz.prog W= .ok (.int .u8 c.toNat) W:=fun W=>by rw[hll]; rfl
  clear hll;cases h1:Lex.small c
  {have HF:Hid (Lex.isName l=false):=Y1 (by rw[HM.out,h1]; rfl);go_enter Tryz.func101,Tryz.ntmps101
   go_wp2_with fail
   refine (Z1q c _).mono ?_;rintro e w2 ⟨rfl,rfl⟩;rw[h1];go_wp2;go_ret;exact ⟨by rw[HF.out]; rfl,rfl⟩}
  {cases h2:Lex.named l
   {have HF:Hid (Lex.isName l=false):=Y1 (by rw[HM.out,h1,h2]; rfl);go_enter Tryz.func101,Tryz.ntmps101
    go_wp2_with fail
    refine (Z1q c _).mono ?_;rintro e w2 ⟨rfl,rfl⟩;rw[h1]
    go_wp2_with fail
    refine (Z2J l hl _).mono ?_;rintro e w2 ⟨rfl,rfl⟩;rw[h2];go_wp2;go_ret;exact ⟨by rw[HF.out]; rfl,rfl⟩}
   {have HF:Hid (Lex.isName l= !Lex.isWord l):=Y1 (by rw[HM.out,h1,h2]; rfl);go_enter Tryz.func101,Tryz.ntmps101
    go_wp2_with fail
    refine (Z1q c _).mono ?_;rintro e w2 ⟨rfl,rfl⟩;rw[h1]
    go_wp2_with fail
    refine (Z2J l hl _).mono ?_;rintro e w2 ⟨rfl,rfl⟩;rw[h2]
    go_wp2_with fail
    refine (Z89 l _).mono ?_;rintro e w2 ⟨rfl,rfl⟩;go_wp2;go_ret;exact ⟨by rw[HF.out]; rfl,rfl⟩}}
theorem Z3X:
 Calls Tryz.prog 102 #[.string ⟨l.toArray⟩] w fun e w'=>e= .returned (.bool (Lex.isUpper l))/\w=w':=by
 cases l with
 | nil=>
  have HM:Hid (Lex.isUpper []=false):=Y1 rfl;go_enter Tryz.func102,Tryz.ntmps102;go_wp2;go_ret;exact ⟨by rw[HM.out]; rfl,rfl⟩
 | cons c r=>
  have HM:=Y1 (Lex.Z6R c r);obtain ⟨l,hll⟩: ∃l:List UInt8,l=c::r:=⟨_,rfl⟩;rw[<-hll] at hl HM ⊢;have hz: (⟨l.toArray⟩:ByteArray).size=l.length:=Z1f _;have he:l.isEmpty=false:=by rw[hll]; rfl
  have he2: (l== [])=false:=by rw[hll]; rfl
  have he3: (l != [])=true:=by rw[hll]; rfl
  have hidx: ∀W,(Instr.index 9 (.string ⟨l.toArray⟩) (.int .i64 0)).run Tryz.prog W= .ok (.int .u8 c.toNat) W:=fun W=>by rw[hll]; rfl
  clear hll;cases h1:Lex.great c
  {have HF:Hid (Lex.isUpper l=false):=Y1 (by rw[HM.out,h1]; rfl);go_enter Tryz.func102,Tryz.ntmps102
   go_wp2_with fail
   refine (Z2H c _).mono ?_;rintro e w2 ⟨rfl,rfl⟩;rw[h1];go_wp2;go_ret;exact ⟨by rw[HF.out]; rfl,rfl⟩}
  {have HF:Hid (Lex.isUpper l=Lex.named l):=Y1 (by rw[HM.out,h1]; rfl);go_enter Tryz.func102,Tryz.ntmps102
   go_wp2_with fail
   refine (Z2H c _).mono ?_;rintro e w2 ⟨rfl,rfl⟩;rw[h1]
   go_wp2_with fail
   refine (Z2J l hl _).mono ?_;rintro e w2 ⟨rfl,rfl⟩;go_wp2;go_ret;exact ⟨by rw[HF.out]; rfl,rfl⟩}
end
end Go.Proofs.YtkhoflciahkphaaGreatDoor
namespace Go.Proofs.YtkhoflciahkphaaGreatDoor
section
open Go.RowKit Go.Maps Go.WideMaps Shp
theorem Z1b:Keyed Tryz.prog 9:=string_keyed Tryz.underlying9
theorem Z3C (w:World): (zeroValue 93).run Tryz.prog w= .ok (.agg #[]) w:=by kernel_rfl
def seenOf (l:List (List UInt8)) (k:Nat):DataW Unit:=setOf (.agg []) ((l.take k).map Lit.string)
theorem Z98 (l:List (List UInt8)):seenOf l 0= .map []:=by simp[seenOf,setOf]
theorem Z99 (l:List (List UInt8)) (k:Nat) (hk:k < l.length):seenOf l (k+1)=(seenOf l k).put (.string (l[k]'hk)) (.agg []):=by
 unfold seenOf;rw[List.take_succ_eq_append_getElem hk,List.map_append,List.map_cons,List.map_nil,setOf_snoc]
theorem Z5Z (x:List UInt8): ∀l:List (List UInt8),l.any ((fun y:Lit=>y.sameKey (.string x)) ∘ Lit.string)=l.contains x
 | []=>rfl
 | a::r=>by
  rw[List.any_cons,List.contains_cons,Z5Z x r];congr 1;by_cases e:a=x
  {subst e; simp[Lit.sameKey]}
  {have e': ¬x=a:=fun h=>e h.symm;simp[Lit.sameKey];rw[show (a==x)=false from by simpa using e,show (x==a)=false from by simpa using e']}
theorem Z9S (l:List (List UInt8)) (k:Nat) (x:List UInt8):Maps.has (seenOf l k) (.string x)=(l.take k).contains x:=by
 unfold seenOf;rw[has_setOf _ _ _ (fun y hy=>by obtain ⟨_,_,rfl⟩:=List.mem_map.1 hy; trivial),List.any_map];exact Z5Z x _
theorem Z6S (A:Option Addr) (c:Nat) (l:List (List UInt8)) (w:World) (hA:Strs w w.heap.size A (strs l)) (hl:l.length<=1000000) (hx: ∀x∈l,x.length<=9223372036854775807):
 Y9 99 #[.slice A l.length c] w (.bool (areNames l)):=by
 have hmm:= @run_makeMap Tryz.prog;have HA:=Y1 hA;have HX:=Y1 hx;clear hA hx;go_enter Tryz.func99,Tryz.ntmps99
 go_wp2_with fail
 go_loopw [11] (fun ii wr=> ∃k:Nat,k<=l.length/\ii= .int .i64 k/\wr.ownsMap Tryz.prog 9 unitElem w.heap.size k (seenOf l k)/\Below w.heap.size w wr/\Hid (∀j (hj:j < l.length),j < k->Lex.isName (l[j]'hj)=true/\ ∀m (hm:m < j),l[m]'(by omega)≠l[j]'hj))
  (fun i _=>l.length - (intOf i).toNat)
 case atStart=>exact ⟨0,Nat.zero_le _,rfl,by rw[Z98]; exact World.ownsMap_made _ _ _ _,Y2.alloc (Nat.le_refl _) _,Y1 (fun j _ hj=>absurd hj (by omega))⟩
 case round=>
  obtain ⟨k,hk,rfl,hown,hb,HN⟩:=hrel;by_cases hlt:k < l.length
  {have hi1: (k:Int) < (l.length:Int):=by omega
   rcases (HA.out.next hb).cell7 with h0 | ⟨g,off,rfl,hg,hc⟩
   {omega}
   {have hcell:=hc k hlt;obtain ⟨x,hx⟩: ∃x,x=l[k]'hlt:=⟨_,rfl⟩;rw[<-hx] at hcell;have hxl:x.length<=9223372036854775807:=by rw[hx]; exact HX.out _ (List.getElem_mem _)
    have HE:=Y1 hx;have hkey:keyOf Tryz.prog 9 (.string ⟨x.toArray⟩)=some (.string x):=keyOf_string_mk Tryz.underlying9 (by rw[Z1f]; unfold maxLen; exact hxl);clear hx hc;have HHAS:=Y1 (Z9S l k x);have HOWN:=Y1 hown;have HBB:=Y1 hb;clear hb;cases hin: (l.take k).contains x with
    | true=>
     have HF:Hid (areNames l=false):=Y1 (by
      have hm:=List.contains_iff_mem.1 hin;obtain ⟨m,hm,he⟩:=List.getElem_of_mem hm;rw[List.length_take] at hm;rw[List.getElem_take] at he;exact Z4L (k:=m) hlt (by omega) (by rw[he,HE.out]))
     have hhas:=HHAS.out;rw[hin] at hhas;clear hin
     go_wp2_with (first
      | (at_lookup; refine wpList_lookup_own_unit _ rfl _ _ 92 rfl 9 93 Z1b Tryz.underlying92 (Z3C _) w.heap.size k _ rfl hown _ _ rfl hkey ?_)
      | fail)
     go_ret;exact ⟨by rw[HF.out]; rfl,HBB.out.alloc HBB.out.size _⟩
    | false=>
     have HNU:Hid (∀m (hm:m < k),l[m]'(by omega)≠l[k]'hlt):=Y1 (fun m hm he=>by
      rw[<-HE.out] at he;have:x∈l.take k:=by
       rw[<-he];have:=List.getElem_mem (l:=l.take k) (n:=m) (by rw[List.length_take]; omega)
       rwa [List.getElem_take] at this
      rw[List.contains_iff_mem.2 this] at hin;cases hin)
     have hhas:=HHAS.out;rw[hin] at hhas;clear hin;cases hn:Lex.isName x with
     | false=>
      have HF:Hid (areNames l=false):=Y1 (Z5r hlt (by rw[<-HE.out]; exact hn));have hw:=fun W=>Z2c x hxl W;simp only[hn] at hw;clear hn
      go_wp2_with (first
       | (at_lookup; refine wpList_lookup_own_unit _ rfl _ _ 92 rfl 9 93 Z1b Tryz.underlying92 (Z3C _) w.heap.size k _ rfl hown _ _ rfl hkey ?_)
       | (go_at_call 101; refine (hw _).mono ?_; rintro e w' ⟨rfl,rfl⟩))
      go_ret;exact ⟨by rw[HF.out]; rfl,HBB.out.alloc HBB.out.size _⟩
     | true=>
      have HNA:Hid (Lex.isName (l[k]'hlt)=true):=Y1 (by rw[<-HE.out]; exact hn);have hw:=fun W=>Z2c x hxl W;simp only[hn] at hw;clear hn
      go_wp2_with (first
       | (at_lookup; refine wpList_lookup_own_unit _ rfl _ _ 92 rfl 9 93 Z1b Tryz.underlying92 (Z3C _) w.heap.size k _ rfl hown _ _ rfl hkey ?_)
       | (go_at_call 101; refine (hw _).mono ?_; rintro e w' ⟨rfl,rfl⟩)
       | (at_mapUpdate; refine wpList_mapUpdate_own _ rfl _ _ _ 92 rfl 9 93 Z1b Tryz.underlying92 (unitElem (H:=Unit)) w.heap.size k _ rfl (hown.alloc _) (by unfold maxLen; omega) _ _ _ rfl rfl hkey _ [] unitElem_mk ?_; intro w1 hown1 hgrow1))
      go_roundw
      case rel=>
       refine ⟨k+1,by omega,by go_num, ?_, ?_,Y1 (fun j hj hji=>by
        rcases Nat.lt_succ_iff_lt_or_eq.1 hji with h | rfl
        {exact HN.out j hj h}
        · exact ⟨HNA.out,HNU.out⟩)⟩
       {rw[Z99 l k hlt, <-HE.out]; exact hown1}
       {exact (HBB.out.alloc HBB.out.size _).grown hgrow1 (by have:=HBB.out.size; simp; omega) (fun j hj=>by cases hj; exact Nat.le_refl _)}
      case measure=>simp[intOf]; omega}}
  {have hi1: ¬(k:Int) < (l.length:Int):=by omega
   have HM:Hid (areNames l=true):=Y1 (Z6m (fun j hj=>(HN.out j hj (by omega)).1) (fun j hj=>(HN.out j hj (by omega)).2));go_wp2;go_ret;exact ⟨by rw[HM.out]; rfl,hb⟩}
end
end Go.Proofs.YtkhoflciahkphaaGreatDoor
namespace Go.Proofs.YtkhoflciahkphaaGreatDoor
open Go.RowKit Go.Maps Go.WideMaps Shp
namespace SubM
abbrev Ky:=List UInt8
def Fine (k:Ky):Prop:=k.length<=9223372036854775807
def KL (k:Ky):Lit:= .string k
theorem Z2d {k:Ky} (h:Fine k):keyOf Tryz.prog 9 (.string ⟨k.toArray⟩)=some (KL k):=keyOf_string_mk Tryz.underlying9 (by rw[Z1f]; unfold maxLen; exact h)
theorem Z4z {k k':Ky} (h:Fine k) (h':Fine k') (e:KL k=KL k'):k=k':=by cases e; rfl
theorem Z9a (k:Ky):WideAt.IsKeyLit (KL k):=trivial
def slEl:Value->Option (DataW Unit×List MemPlace)
 | .pointer none=>some (.agg [],[])
 | .pointer (some ⟨g,o,none⟩)=>some (.agg [.lit (.int .i64 (g:Int)),.lit (.int .i64 (o:Int))],[])
 | _=>none
theorem Z60 {v v':Value} {d:DataW Unit} {p p':List MemPlace} (h:slEl v=some (d,p)) (h':slEl v'=some (d,p')):v=v':=by
 unfold slEl at h h';split at h <;> split at h' <;> simp only[Option.some.injEq,Prod.mk.injEq,reduceCtorEq] at h h'
 {rfl}
 {obtain ⟨rfl,_⟩:=h;simp at h'}
 {obtain ⟨rfl,_⟩:=h;simp at h'}
 {obtain ⟨rfl,_⟩:=h;simp at h';obtain ⟨⟨h1,h2⟩,_⟩:=h';have e1:_=_:=Int.ofNat_inj.1 h1;have e2:_=_:=Int.ofNat_inj.1 h2;rw[e1,e2]}
theorem Z7l (w:World): (zeroValue 49).run Tryz.prog w= .ok (.pointer none) w:=by kernel_rfl
def Mp (W:World) (b N:Nat) (S:List Ky) (m:Ky->Value):Prop:=
 ∃D:DataW Unit,W.ownsMap Tryz.prog 9 slEl b N D/\Maps.size D=S.length/\S.Nodup/\(∀k∈S,Fine k)/\(∀k,Fine k->(Maps.has D (KL k)=true ↔ k∈S))/\
  ∀k,Fine k-> ∃p,slEl (if k∈S then m k else .pointer none)=some (D.atKey (KL k) (.agg []),p)
theorem Mp.made (W:World) (m:Ky->Value):Mp (W.alloc (.map #[] 0)) W.heap.size 0 [] m:=by
 refine ⟨.map [],World.ownsMap_made _ _ _ _,rfl,List.nodup_nil,nofun,fun k _=>⟨fun h=>by simp[Maps.has] at h,nofun⟩,fun k _=>⟨[], ?_⟩⟩;rw[if_neg (by simp)];rfl
theorem Mp.lt {W:World} {b N:Nat} {S:List Ky} {m:Ky->Value} (h:Mp W b N S m):b < W.heap.size:=by obtain ⟨_,h,_⟩:=h; exact h.lt
theorem Mp.kept {W W':World} {b N:Nat} {S:List Ky} {m:Ky->Value} (h:Mp W b N S m) {row:Option Nat} (hg:W.grownBy W' row) (hne:some b≠row):Mp W' b N S m:=by
 obtain ⟨D,h1,h2⟩:=h; exact ⟨D,h1.kept hg hne,h2⟩
theorem Mp.same {W W':World} {b N:Nat} {S:List Ky} {m:Ky->Value} (h:Mp W b N S m) (hb:W'.heap[b]? =W.heap[b]?):Mp W' b N S m:=by
 obtain ⟨D,⟨es,clock,h0,h1⟩,h2⟩:=h; exact ⟨D,⟨es,clock,hb.trans h0,h1⟩,h2⟩
section
variable {W : World} {b N : Nat} {S : List Ky}
include W b N S
theorem Mp.like {m m':Ky->Value} (h:Mp W b N S m) (hm: ∀k∈S,m' k=m k):Mp W b N S m':=by
 obtain ⟨D,h1,h2,h3,h4,h5,h6⟩:=h;refine ⟨D,h1,h2,h3,h4,h5,fun k hk=> ?_⟩;obtain ⟨p,hp⟩:=h6 k hk;refine ⟨p, ?_⟩;rw[<-hp];by_cases e:k∈S
 {rw[if_pos e,if_pos e,hm k e]}
 {rw[if_neg e,if_neg e]}
theorem Mp.look {m:Ky->Value} (h:Mp W b N S m) {k:Ky} (hk:Fine k):
 (Instr.lookup 62 (.map (some b)) ((.string ⟨k.toArray⟩)) false).run Tryz.prog W= .ok (if k∈S then m k else .pointer none) W:=by
 obtain ⟨D,h1,_,_,_,_,h6⟩:=h;obtain ⟨v,ps,hr,hv⟩:=h1.lookup Z1b Tryz.underlying62 (Z7l W) (zd:= .agg []) (zp:= []) rfl (Z2d hk);obtain ⟨p,hp⟩:=h6 k hk;rw[hr,Z60 hv hp]
end
theorem Mp.len {W:World} {b N:Nat} {S:List Ky} {m:Ky->Value} (h:Mp W b N S m) (ty:TypeId):
 (Builtin.len_ #[62] ty #[.map (some b)]).run Tryz.prog W= .ok (.int .i64 S.length) W:=by
 obtain ⟨D,h1,h2,_⟩:=h;rw[h1.len Tryz.underlying62 ty,h2]
theorem Mp.put {W:World} {b N:Nat} {S:List Ky} {m:Ky->Value} (h:Mp W b N S m) {k:Ky} (hk:Fine k) (hN:N < maxLen) {v:Value} {z:DataW Unit×List MemPlace} (hv:slEl v=some z):
 ∃W',(Instr.mapUpdate 62 (.map (some b)) ((.string ⟨k.toArray⟩)) v).run Tryz.prog W= .ok () W'/\Mp W' b (N+1) (if k∈S then S else k::S) (fun x=>if x=k then v else m x)/\W.mapTurned W' b:=by
 obtain ⟨D,h1,h2,h3,h4,h5,h6⟩:=h;obtain ⟨W',hr,ho,hg⟩:=h1.store Z1b Tryz.underlying62 hN (Z2d hk) (ps:=z.2) (d:=z.1) (by rw[hv]);have hT:=h1.tidy Z1b;have hsz:=Maps.size_put (k:=KL k) hT z.1;have hmem: ∀x,x∈(if k∈S then S else k::S) ↔ x=k\/x∈S:=fun x=>by
  by_cases e:k∈S
  {rw[if_pos e]; exact ⟨Or.inr,fun h=>h.elim (fun h=>h▸e) id⟩}
  {rw[if_neg e]; exact List.mem_cons}
 refine ⟨W',hr,⟨D.put (KL k) z.1,ho, ?_, ?_, ?_, ?_, ?_⟩,hg⟩
 {rw[hsz,h2];by_cases e:k∈S
  {rw[if_pos ((h5 k hk).2 e),if_pos e]}
  {rw[if_neg (fun h=>e ((h5 k hk).1 h)),if_neg e]; rfl}}
 {by_cases e:k∈S
  {rw[if_pos e]; exact h3}
  {rw[if_neg e]; exact List.nodup_cons.2 ⟨e,h3⟩}}
 {intro x hx;rcases (hmem x).1 hx with rfl | hx
  {exact hk}
  {exact h4 x hx}}
 {intro x hx;rw[hmem];by_cases e:x=k
  {subst e;exact ⟨fun _=>Or.inl rfl,fun _=>Maps.has_put_same h1.isMap (Z9a _) _⟩}
  {rw[Maps.has_put_other (fun h=>e (Z4z hx hk h)),h5 x hx];exact ⟨Or.inr,fun h=>h.resolve_left e⟩}}
 {intro x hx;by_cases e:x=k
  {subst e;refine ⟨z.2, ?_⟩;rw[if_pos ((hmem _).2 (Or.inl rfl))];simp only[if_true];rw[Maps.atKey_put_same h1.isMap (Z9a _),hv]}
  {obtain ⟨p,hp⟩:=h6 x hx;refine ⟨p, ?_⟩;rw[Maps.atKey_put_other (fun h=>e (Z4z hx hk h)), <-hp];by_cases e2:x∈S
   {rw[if_pos ((hmem x).2 (Or.inr e2)),if_pos e2]; simp only[if_neg e]}
   {rw[if_neg (fun h=>e2 (((hmem x).1 h).resolve_left e)),if_neg e2]}}}
theorem Mp.del {W:World} {b N:Nat} {S:List Ky} {m:Ky->Value} (h:Mp W b N S m) {k:Ky} (hk:Fine k) (ty:TypeId):
 ∃W',(Builtin.delete_ #[62,9] ty #[.map (some b),(.string ⟨k.toArray⟩)]).run Tryz.prog W= .ok (.tuple #[]) W'/\Mp W' b N (S.filter (· ≠k)) m/\W.mapTurned W' b:=by
 obtain ⟨D,h1,h2,h3,h4,h5,h6⟩:=h;obtain ⟨W',hr,ho,hg⟩:=h1.drop Z1b Tryz.underlying62 (Z2d hk) ty;have hT:=h1.tidy Z1b;have hsz:=Maps.size_del (k:=KL k) hT;have hmem: ∀x,x∈S.filter (· ≠k) ↔ x∈S/\x≠k:=fun x=>by simp[List.mem_filter]
 have hlen: (S.filter (· ≠k)).length+(if k∈S then 1 else 0)=S.length:=by
  clear h2 h4 h5 h6 hsz hmem;induction S with
  | nil=>rfl
  | cons a S ih=>
   rw[List.nodup_cons] at h3;have:=ih h3.2;by_cases e:a=k
   {subst e;have hf:S.filter (· ≠a)=S:=List.filter_eq_self.2 (fun x hx=>by simp; rintro rfl; exact h3.1 hx)
    rw[List.filter_cons_of_neg (by simp),hf,if_pos (by simp)]; rfl}
   {rw[List.filter_cons_of_pos (by simp[e]),List.length_cons,List.length_cons];have: (k∈a::S) ↔ k∈S:=by simp[Ne.symm e]
    by_cases e2:k∈S
    {rw[if_pos (this.2 e2)]; rw[if_pos e2] at *; omega}
    {rw[if_neg (fun h=>e2 (this.1 h))]; rw[if_neg e2] at *; omega}}
 refine ⟨W',hr,⟨D.del (KL k),ho, ?_, ?_, ?_, ?_, ?_⟩,hg⟩
 {rw[h2] at hsz;by_cases e:k∈S
  {rw[if_pos ((h5 k hk).2 e)] at hsz; rw[if_pos e] at hlen; omega}
  {rw[if_neg (fun h=>e ((h5 k hk).1 h))] at hsz; rw[if_neg e] at hlen; omega}}
 {exact h3.filter _}
 {exact fun x hx=>h4 x ((hmem x).1 hx).1}
 {intro x hx;rw[hmem];by_cases e:x=k
  {subst e;rw[Maps.has_del_same];exact ⟨nofun,fun h=>absurd rfl h.2⟩}
  {rw[Maps.has_del_other (fun h=>e (Z4z hx hk h)),h5 x hx];exact ⟨fun h=>⟨h,e⟩,fun h=>h.1⟩}}
 {intro x hx;by_cases e:x=k
  {subst e;refine ⟨[], ?_⟩;rw[if_neg (fun h=>((hmem _).1 h).2 rfl),Maps.atKey_del_same]; rfl}
  {obtain ⟨p,hp⟩:=h6 x hx;refine ⟨p, ?_⟩;rw[Maps.atKey_del_other (fun h=>e (Z4z hx hk h)), <-hp];by_cases e2:x∈S
   {rw[if_pos ((hmem x).2 ⟨e2,e⟩),if_pos e2]}
   {rw[if_neg (fun h=>e2 ((hmem x).1 h).1),if_neg e2]}}}
theorem Mp.look2 {W:World} {b N:Nat} {S:List Ky} {m:Ky->Value} (h:Mp W b N S m) {k:Ky} (hk:Fine k):
 (Instr.lookup 62 (.map (some b)) (.string ⟨k.toArray⟩) true).run Tryz.prog W= .ok (.tuple #[if k∈S then m k else .pointer none,.bool (decide (k∈S))]) W:=by
 obtain ⟨D,h1,_,_,_,h5,h6⟩:=h;obtain ⟨v,ps,hr,hv⟩:=h1.look_ok Z1b Tryz.underlying62 (Z7l W) (zd:= .agg []) (zp:= []) rfl (Z2d hk);obtain ⟨p,hp⟩:=h6 k hk;rw[hr,Z60 hv hp];have:Maps.has D (KL k)=decide (k∈S):=by rw[Bool.eq_iff_iff,h5 k hk,decide_eq_true_eq]
 rw[this]
end SubM
end Go.Proofs.YtkhoflciahkphaaGreatDoor
namespace Go.Proofs.YtkhoflciahkphaaGreatDoor
open Go.RowKit Shp
namespace SubM
abbrev sv (s:Sh) (q:Ptr):Value:= .agg (Y8 s q)
structure Upd (S:Nat->Prop) (a b:World):Prop where
 os:b.os=a.os
 tape:b.tape=a.tape
 output:b.output=a.output
 size:a.heap.size<=b.heap.size
 block: ∀x,x < a.heap.size-> ¬S x->b.heap[x]? =a.heap[x]?
section
variable {S T : Nat -> Prop} {a b c : World} {B n0 : Nat}
theorem Upd.refl (S:Nat->Prop) (a:World):Upd S a a:=⟨rfl,rfl,rfl,Nat.le_refl _,fun _ _ _=>rfl⟩
theorem Upd.trans (h:Upd S a b) (k:Upd S b c):Upd S a c:=
 ⟨k.os.trans h.os,k.tape.trans h.tape,k.output.trans h.output,Nat.le_trans h.size k.size,fun x h1 h2=>(k.block x (Nat.lt_of_lt_of_le h1 h.size) h2).trans (h.block x h1 h2)⟩
theorem Upd.mono (h:Upd S a b) (hs: ∀x,x < a.heap.size->S x->T x):Upd T a b:=⟨h.os,h.tape,h.output,h.size,fun x h1 h2=>h.block x h1 (fun hx=>h2 (hs x h1 hx))⟩
theorem Upd.of_below (h:Below B a b) (hB: ∀x,x < a.heap.size->B<=x->S x):Upd S a b:=
 ⟨h.os,h.tape,h.output,h.size,fun x h1 h2=>h.block x (Nat.lt_of_not_le (fun hx=>h2 (hB x h1 hx)))⟩
theorem Upd.new (h:Below a.heap.size a b):Upd S a b:=Upd.of_below h (fun x h1 h2=>absurd h1 (by omega))
theorem Upd.below (h:Upd S a b) (hB:B<=a.heap.size) (hS: ∀x,S x->B<=x):Below B a b:=⟨h.os,h.tape,h.output,h.size,fun x h1=>h.block x (by omega) (fun hx=>by have:=hS x hx; omega)⟩
theorem Upd.drew (h:Upd S a b):Upd S a b.drew:=⟨h.os,h.tape,h.output,h.size,h.block⟩
theorem Upd.grown (h:Upd S a b) {row:Option Nat} (hg:b.grownBy c row) (hr: ∀k,row=some k->k < a.heap.size->S k):Upd S a c:=
 ⟨hg.os.trans h.os,hg.tape.trans h.tape,hg.output.trans h.output,Nat.le_trans h.size hg.size,fun x h1 h2=>(hg.block x (Nat.lt_of_lt_of_le h1 h.size) (fun e=>h2 (hr x e.symm h1))).trans (h.block x h1 h2)⟩
theorem Upd.set (h:Upd S a b) (p:Addr) (hp:p.block < a.heap.size->S p.block) (v:Value):Upd S a (b.setCell p v):=
 ⟨h.os,h.tape,h.output,by simpa[World.setCell] using h.size,fun x h1 h2=>(Below.heap_setCell _ _ _ _ (fun e=>h2 (by
  have e':x=p.block:=by first | exact e | exact e.symm
  rw[e']; exact hp (e'▸h1)))).trans (h.block x h1 h2)⟩
theorem Upd.cell (h:Upd S a b) {g k:Nat} (hg:g < a.heap.size) (hS: ¬S g):b.cell? ⟨g,k,none⟩=a.cell? ⟨g,k,none⟩:=World.cell?_of_block (w:=a) (h.block g hg hS)
theorem Upd.frozen (h:Upd S a b) {g k:Nat} (hg:g < a.heap.size) (hS: ¬S g):b.frozen? ⟨g,k,none⟩=a.frozen? ⟨g,k,none⟩:=World.frozen?_of_block (w:=a) (h.block g hg hS)
theorem Z1h {g:Nat} {t:Sh} {q:Ptr} (h:Box5 a g t q) (hu:Upd S a b) (hS: ¬S g):Box5 b g t q:=by
 obtain ⟨h0,h1,f0,f1,f2,f3,f4⟩:=h;exact ⟨Nat.lt_of_lt_of_le h0 hu.size,h1.of (fun k=>hu.cell h0 hS),(hu.frozen h0 hS).trans f0,(hu.frozen h0 hS).trans f1,(hu.frozen h0 hS).trans f2,(hu.frozen h0 hS).trans f3,(hu.frozen h0 hS).trans f4⟩
theorem Z0f {t:Sh} {q:Ptr} (h:ShAt a n0 q t) (hn:n0<=a.heap.size) (hu:Upd S a b) (hS: ∀x,x < n0-> ¬S x):ShAt b n0 q t:=
 h.of (Nat.le_refl _) (fun g k hg=>hu.cell (by omega) (hS g hg))
theorem Zao {g N:Nat} {K:List Ky} {m:Ky->Value} (h:Mp a g N K m) (hu:Upd S a b) (hS: ¬S g):Mp b g N K m:=h.same (hu.block g h.lt hS)
end
def At (W:World) (n0:Nat) (o:Option Sh) (v:Value):Prop:=
 match o with
 | none=>v= .pointer none
 | some p=> ∃g off q,v= .pointer (some ⟨g,off,none⟩)/\g < n0/\Sh5 W g off p q/\ShAt W n0 q p
theorem At.upd {a b:World} {S:Nat->Prop} {n0:Nat} {o:Option Sh} {v:Value} (h:At a n0 o v) (hn:n0<=a.heap.size) (hu:Upd S a b) (hS: ∀x,x < n0-> ¬S x):At b n0 o v:=by
 cases o with
 | none=>exact h
 | some p=>
  obtain ⟨g,off,q,h1,h2,h3,h4⟩:=h;exact ⟨g,off,q,h1,h2,h3.of (fun k=>hu.cell (by omega) (hS g h2)),Z0f h4 hn hu hS⟩
end SubM
end Go.Proofs.YtkhoflciahkphaaGreatDoor
namespace Go.Proofs.YtkhoflciahkphaaGreatDoor
open Go.RowKit Shp Sub
namespace SubM
structure Takes (n0 N:Nat) (a b:Sh) (fn:Nat) (cs:List Value) (step:Cl->Bool) (K:Bool->List Cl->World->Prop):Prop where
 keep: ∀ok done W W',K ok done W->Upd (fun x=>N<=x/\x < N+3) W W'->K ok done W'
 call: ∀done c rest W (x y:Value),calls a b=done++c::rest->N+3<=W.heap.size->K true done W->At W n0 c.2.1 x->At W n0 c.2.2 y->
  Calls Tryz.prog fn (.string ⟨c.1.toArray⟩::x::y::cs).toArray W fun e W'=>e= .returned (.bool (step c))/\K (step c) (done++ [c]) W'/\Upd (fun x=>n0<=x/\ ¬(N<=x/\x < N+3)) W W'
def numOf:List (List UInt8)->List UInt8->Nat
 | [],_=>0
 | x::l,n=>if x=n then 0 else numOf l n+1
theorem Z61: ∀ {ns:List (List UInt8)} (hd:ns.Nodup) {k:Nat} (hk:k < ns.length),numOf ns (ns[k]'hk)=k
 | x::l,hd,0,hk=>by simp[numOf]
 | x::l,hd,k+1,hk=>by
  rw[List.nodup_cons] at hd;unfold numOf;rw[if_neg,List.getElem_cons_succ,Z61 hd.2];rw[List.getElem_cons_succ];exact fun e=>hd.1 (by rw[e]; exact List.getElem_mem _)
def place (g off:Nat) (ns:List (List UInt8)) (n:List UInt8):Value:= .pointer (some ⟨g,off+numOf ns n * 5,none⟩)
theorem Z48 {g off:Nat} {ns:List (List UInt8)} (hd:ns.Nodup) {k:Nat} (hk:k < ns.length):place g off ns (ns[k]'hk)= .pointer (some ⟨g,off+k * 5,none⟩):=by
 unfold place;rw[Z61 hd]
def Parts (W:World) (n0:Nat) (t:Sh) (q:Ptr) (g off:Nat) (qs:Nat->Ptr):Prop:=
 t.parts.length=0\/(q.P=some ⟨g,off,none⟩/\g < n0/\ ∀i (h:i < t.parts.length),Sh5 W g (off+i * 5) (t.parts[i]'h) (qs i)/\ShAt W n0 (qs i) (t.parts[i]'h))
theorem Z2q {W:World} {n0:Nat} {t:Sh} {q:Ptr} (h:ShAt W n0 q t): ∃g off qs,Parts W n0 t q g off qs:=by
 rcases h.part with h | ⟨g,off,qs,hP,hg,h5,hr⟩
 {exact ⟨0,0,fun _=>q,Or.inl h⟩}
 {exact ⟨g,off,qs,Or.inr ⟨hP,hg,fun i hi=>⟨h5 i hi,hr i hi⟩⟩⟩}
theorem Parts.upd {a b:World} {S:Nat->Prop} {n0:Nat} {t:Sh} {q:Ptr} {g off:Nat} {qs:Nat->Ptr} (h:Parts a n0 t q g off qs) (hn:n0<=a.heap.size) (hu:Upd S a b) (hS: ∀x,x < n0-> ¬S x):Parts b n0 t q g off qs:=by
 rcases h with h | ⟨hP,hg,hc⟩
 {exact Or.inl h}
 {exact Or.inr ⟨hP,hg,fun i hi=>⟨(hc i hi).1.of (fun k=>hu.cell (by omega) (hS g hg)),Z0f (hc i hi).2 hn hu hS⟩⟩}
theorem Z49 {W:World} {n0:Nat} {t:Sh} {q:Ptr} (h:ShAt W n0 q t) {k:Nat} (hk:k < t.names.length):
 ∃g off,q.A=some ⟨g,off,none⟩/\g < n0/\W.cell? ⟨g,off+k,none⟩=some (.string ⟨(t.names[k]'hk).toArray⟩):=by
 rcases h.strs.cell7 with h0 | ⟨g,off,hA,hg,hc⟩
 {omega}
 {exact ⟨g,off,hA,hg,hc k hk⟩}
structure L1 (N:Nat) (a b:Sh) (pa pb:Ptr) (g off:Nat) (w:World) (k:Nat) (W:World):Prop where
 ba:Box5 W N a pa
 bb:Box5 W (N+1) b pb
 mp: ∃S,Mp W (N+2) k S (place g off b.names)/\ ∀n,n∈S ↔ n∈b.names.take k
 up:Upd (fun x=>N<=x/\x < N+3) w W
theorem L1.put {N:Nat} {a b:Sh} {pa pb:Ptr} {g off:Nat} {w:World} {k:Nat} {W:World} (h:L1 N a b pa pb g off w k W) (hd:b.names.Nodup) (hlt:k < b.names.length) (hk:k<=1000) (hf:Fine (b.names[k]'hlt)):
 ∃W',(Instr.mapUpdate 62 (.map (some (N+2))) (.string ⟨(b.names[k]'hlt).toArray⟩) (.pointer (some ⟨g,off+k * 5,none⟩))).run Tryz.prog W= .ok () W'/\L1 N a b pa pb g off w (k+1) W':=by
 obtain ⟨hB1,hB2,⟨S,hM,hS⟩,hU⟩:=h;have hpl:=Z48 (g:=g) (off:=off) hd hlt;obtain ⟨W',hr,hM',ht⟩:=hM.put hf (by unfold maxLen; omega) (v:= .pointer (some ⟨g,off+k * 5,none⟩)) (z:=_) rfl;have hu2:Upd (fun x=>x=N+2) W W':=(Upd.refl _ W).grown ht.grown (fun k h _=>by cases h; rfl);refine ⟨W',hr,Z1h hB1 hu2 (by omega),Z1h hB2 hu2 (by omega),⟨_,hM'.like (fun x _=> ?_),fun n=> ?_⟩,hU.trans (hu2.mono (fun x _ h=>by omega))⟩
 {by_cases e:x=b.names[k]'hlt
  {rw[if_pos e,e,hpl]}
  {rw[if_neg e]}}
 {rw[List.take_succ_eq_append_getElem hlt,List.mem_append,List.mem_singleton];by_cases e:b.names[k]'hlt∈S
  {rw[if_pos e,hS];refine ⟨Or.inl,fun h=>h.elim id (fun h=>by rw[h]; exact (hS _).1 e)⟩}
  {rw[if_neg e,List.mem_cons,hS];exact ⟨fun h=>h.symm,fun h=>h.symm⟩}}
section
variable {a b : Sh} (A : Rec a)
include a b A
theorem Z2e: (callsA a b).length=a.names.length:=by unfold callsA; rw[List.length_map,List.length_zip,A.l,Nat.min_self]
theorem Z9b {k:Nat} (h:k < a.names.length) (h2:k < a.parts.length): (callsA a b)[k]'(by rw[Z2e A]; exact h)=(a.names[k]'h,some (a.parts[k]'h2),get b (a.names[k]'h)):=by
 unfold callsA; simp
theorem Z9c {k:Nat} (h:k < a.names.length) (h2:k < a.parts.length): ∃rest,calls a b=(callsA a b).take k++(a.names[k]'h,some (a.parts[k]'h2),get b (a.names[k]'h))::rest/\(callsA a b).take k++ [(a.names[k]'h,some (a.parts[k]'h2),get b (a.names[k]'h))]=(callsA a b).take (k+1):=by
 have hl:k < (callsA a b).length:=by rw[Z2e A]; exact h
 have e: (callsA a b).take (k+1)=(callsA a b).take k++ [(a.names[k]'h,some (a.parts[k]'h2),get b (a.names[k]'h))]:=by rw[List.take_succ_eq_append_getElem hl,Z9b A h h2]
 refine ⟨(callsA a b).drop (k+1)++callsB a b, ?_,e.symm⟩;unfold calls;rw[show (callsA a b).take k++(a.names[k]'h,some (a.parts[k]'h2),get b (a.names[k]'h))::((callsA a b).drop (k+1)++callsB a b)=((callsA a b).take k++ [(a.names[k]'h,some (a.parts[k]'h2),get b (a.names[k]'h))])++((callsA a b).drop (k+1)++callsB a b) from by simp, <-e, <-List.append_assoc,List.take_append_drop]
end
structure L2 (n0 N:Nat) (a b:Sh) (pa pb:Ptr) (g off:Nat) (w:World) (K:Bool->List Cl->World->Prop) (gone:List (List UInt8)) (done:List Cl) (W:World):Prop where
 ba:Box5 W N a pa
 bb:Box5 W (N+1) b pb
 mp: ∃S,Mp W (N+2) b.names.length S (place g off b.names)/\ ∀n,n∈S ↔ n∈b.names/\n∉gone
 up:Upd (fun x=>n0<=x) w W
 sz:N+3<=W.heap.size
 k:K true done W
section
variable {n0 : Nat} {a b : Sh} {pa pb : Ptr} {g off : Nat} {w : World} {K : Bool -> List Cl -> World -> Prop} {gone : List (List UInt8)} {done : List Cl} {W W' : World} {fn : Nat} {cs : List Value} {step : Cl -> Bool}
theorem L2.upd (h:L2 n0 w.heap.size a b pa pb g off w K gone done W) (hn:n0<=w.heap.size) (hu:Upd (fun x=>n0<=x/\ ¬(w.heap.size<=x/\x < w.heap.size+3)) W W') {done':List Cl} (hk:K true done' W'):L2 n0 w.heap.size a b pa pb g off w K gone done' W':=by
 obtain ⟨S,hM,hS⟩:=h.mp;exact ⟨Z1h h.ba hu (by omega),Z1h h.bb hu (by omega),⟨S,Zao hM hu (by omega),hS⟩,h.up.trans (hu.mono (fun x _ hx=>hx.1)),Nat.le_trans h.sz hu.size,hk⟩
theorem L2.drew (h:L2 n0 w.heap.size a b pa pb g off w K gone done W) (hT:Takes n0 w.heap.size a b fn cs step K) (hn:n0<=w.heap.size):L2 n0 w.heap.size a b pa pb g off w K gone done W.drew:=
 h.upd hn (Upd.refl _ W).drew (hT.keep _ _ _ _ h.k (Upd.refl _ W).drew)
theorem L2.del (h:L2 n0 w.heap.size a b pa pb g off w K gone done W) (hT:Takes n0 w.heap.size a b fn cs step K) (hn:n0<=w.heap.size) {n:List UInt8} (hf:Fine n) (ty:TypeId):
 ∃W',(Builtin.delete_ #[62,9] ty #[.map (some (w.heap.size+2)),(.string ⟨n.toArray⟩)]).run Tryz.prog W= .ok (.tuple #[]) W'/\L2 n0 w.heap.size a b pa pb g off w K (gone++ [n]) done W':=by
 obtain ⟨S,hM,hS⟩:=h.mp;obtain ⟨W',hr,hM',ht⟩:=hM.del hf ty;have hu:Upd (fun x=>x=w.heap.size+2) W W':=(Upd.refl _ W).grown ht.grown (fun k h _=>by cases h; rfl);refine ⟨W',hr,Z1h h.ba hu (by omega),Z1h h.bb hu (by omega),⟨_,hM',fun x=> ?_⟩,h.up.trans (hu.mono (fun x _ hx=>by omega)),Nat.le_trans h.sz hu.size,hT.keep _ _ _ _ h.k (hu.mono (fun x _ hx=>by omega))⟩;rw[List.mem_filter,hS,List.mem_append,List.mem_singleton];simp;exact ⟨fun ⟨⟨h1,h2⟩,h3⟩=>⟨h1,h2,h3⟩,fun ⟨h1,h2,h3⟩=>⟨⟨h1,h2⟩,h3⟩⟩
end
def callsBk (a b:Sh) (i:Nat):List Cl:=(((b.names.zip b.parts).take i).filter (fun x=>(get a x.1).isNone)).map (fun x=>(x.1,none,some x.2))
theorem Z3Y (a b:Sh) (B:Rec b):callsBk a b b.names.length=callsB a b:=by
 unfold callsBk callsB;rw[List.take_of_length_le (by rw[List.length_zip]; omega)]
theorem Z62 {b:Sh} {i:Nat} (h:i < b.names.length) (h2:i < b.parts.length): (b.names.zip b.parts).take (i+1)=(b.names.zip b.parts).take i++ [(b.names[i]'h,b.parts[i]'h2)]:=by
 rw[List.take_succ_eq_append_getElem (by rw[List.length_zip]; omega),List.getElem_zip]
section
variable {a b : Sh} {i : Nat} (h : i < b.names.length) (h2 : i < b.parts.length)
include a b i h h2
theorem Z6T (hn: (get a (b.names[i]'h)).isNone=false):callsBk a b (i+1)=callsBk a b i:=by
 unfold callsBk;rw[Z62 h h2,List.filter_append];simp[hn]
theorem Z6U (hn: (get a (b.names[i]'h)).isNone=true):callsBk a b (i+1)=callsBk a b i++ [(b.names[i]'h,none,some (b.parts[i]'h2))]:=by
 unfold callsBk;rw[Z62 h h2,List.filter_append,List.map_append];simp[hn]
end
theorem Z8b (a b:Sh) (B:Rec b) (i:Nat): ∃rest,calls a b=callsA a b++callsBk a b i++rest:=by
 refine ⟨(((b.names.zip b.parts).drop i).filter (fun x=>(get a x.1).isNone)).map (fun x=>(x.1,none,some x.2)), ?_⟩;unfold calls callsB callsBk;rw[List.append_assoc, <-List.map_append, <-List.filter_append,List.take_append_drop]
theorem Za9 {W:World} {n0 g off:Nat} {b:Sh} {pb:Ptr} {qs:Nat->Ptr} (B:Rec b) (hP:Parts W n0 b pb g off qs) {n:List UInt8} {x:Bool} (hx:x=true ↔ n∈b.names):At W n0 (get b n) (if x=true then place g off b.names n else .pointer none):=by
 by_cases e:n∈b.names
 {obtain ⟨i,hi,rfl⟩:=List.getElem_of_mem e;have hi2:i < b.parts.length:=by rw[<-B.l]; exact hi
  rw[if_pos (hx.2 e),Z48 B.nodup hi];have hg:get b (b.names[i]'hi)=some (b.parts[i]'hi2):=Za3 B.nodup hi hi2;rw[hg];rcases hP with h | ⟨_,hlt,hc⟩
  {omega}
  {exact ⟨g,off+i * 5,qs i,rfl,hlt,(hc i hi2).1,(hc i hi2).2⟩}}
 {rw[if_neg (fun h=>e (hx.1 h)),B.get_none.2 e];rfl}
theorem Z1t (a b:Sh) (pa pb:Ptr) (n0:Nat) (w:World) (A:Rec a) (B:Rec b) (ha:ShAt w n0 pa a) (hb:ShAt w n0 pb b) (hn:n0<=w.heap.size) (la:a.names.length<=1000) (lb:b.names.length<=1000)
 (fn:Nat) (hen: ∀args W,(callFunc fn args).run Tryz.prog W= .ok (.enter fn args) W) (cs:List Value) (step:Cl->Bool) (K:Bool->List Cl->World->Prop)
 (hT:Takes n0 w.heap.size a b fn cs step K) (h0:K true [] w):
 Calls Tryz.prog 55 #[sv a pa,sv b pb,.func (.func fn) #[] cs.toArray] w fun e w'=>e= .returned (.bool ((calls a b).all step))/\
  (∃D,K ((calls a b).all step) D w'/\((calls a b).all step=true->D=calls a b))/\Upd (fun x=>n0<=x) w w':=by
 obtain ⟨Aa,ca,Pa,da⟩:=pa;obtain ⟨Ab,cb,Pb,db⟩:=pb;have hb1:=Z01 w (.cells #[.int .i64 a.kind,.string ⟨a.of_.toArray⟩,.string ⟨a.name.toArray⟩,.slice Aa a.names.length ca,.slice Pa a.parts.length da] 25);obtain ⟨w1,hw1⟩: ∃w1,w1=w.alloc (.cells #[.int .i64 a.kind,.string ⟨a.of_.toArray⟩,.string ⟨a.name.toArray⟩,.slice Aa a.names.length ca,.slice Pa a.parts.length da] 25):=⟨_,rfl⟩;have hb2:=Z01 w1 (.cells #[.int .i64 b.kind,.string ⟨b.of_.toArray⟩,.string ⟨b.name.toArray⟩,.slice Ab b.names.length cb,.slice Pb b.parts.length db] 25);obtain ⟨w2,hw2⟩: ∃w2,w2=w1.alloc (.cells #[.int .i64 b.kind,.string ⟨b.of_.toArray⟩,.string ⟨b.name.toArray⟩,.slice Ab b.names.length cb,.slice Pb b.parts.length db] 25):=⟨_,rfl⟩;have hs1:w1.heap.size=w.heap.size+1:=by rw[hw1]; simp
 have hs2:w2.heap.size=w.heap.size+2:=by rw[hw2]; simp[hs1]
 have hb3:=Z01 w2 (.map #[] 0);obtain ⟨w3,hw3⟩: ∃w3,w3=w2.alloc (.map #[] 0):=⟨_,rfl⟩;have hs3:w3.heap.size=w.heap.size+3:=by rw[hw3]; simp[hs2]
 rw[<-hw1] at hb1;rw[<-hw2] at hb2;rw[<-hw3] at hb3;have hB1:Box5 w1 w.heap.size a ⟨Aa,ca,Pa,da⟩:=by rw[hw1]; exact Z02 w a ⟨Aa,ca,Pa,da⟩
 have hB2:Box5 w2 w1.heap.size b ⟨Ab,cb,Pb,db⟩:=by rw[hw2]; exact Z02 w1 b ⟨Ab,cb,Pb,db⟩
 have hBA:=(hB1.next hb2).next hb3;have hBB:=hB2.next hb3;rw[hs1] at hBB;have hM: ∀m,Mp w3 (w.heap.size+2) 0 [] m:=fun m=>by
  have:=Mp.made w2 m;rw[<-hw3,hs2] at this;exact this
 have hU:Upd (fun x=>w.heap.size<=x/\x < w.heap.size+3) w w3:=Upd.new (Z00 hb1 (Z00 hb2 hb3));have HB1:=Y1 hBA;have HB2:=Y1 hBB;have HM:=Y1 hM;have HU:=Y1 hU;have HA:=Y1 A;have HBB:=Y1 B;have HSA:=Y1 ha;have HSB:=Y1 hb;have HN:=Y1 hn;have HLA:=Y1 la;have HLB:=Y1 lb;have HT:=Y1 hT;have HK:=Y1 h0;have HS:=Y1 hs3;obtain ⟨_,⟨a0,a1,a2,a3,a4⟩,_⟩:=hBA;obtain ⟨_,⟨b0,b1,b2,b3,b4⟩,_⟩:=hBB;simp only[Nat.zero_add] at a0 a1 a2 a3 a4 b0 b1 b2 b3 b4;have hw1':=hw1.symm;have hw2':=hw2.symm;have hw3':=hw3.symm;clear hw1 hw2 hw3 hb1 hb2 hb3 hB1 hB2 hM hU A B ha hb hn la lb hT h0;unfold sv
 try dsimp only
 have hmm:= @run_makeMap Tryz.prog;go_enter Tryz.func55,Tryz.ntmps55
 go_wp2_with fail
 obtain ⟨g,off,qs,hP⟩:=Z2q HSB.out;have HP:=Y1 hP;clear hP
 go_loopw [20] (fun ii wr=> ∃k:Nat,k<=b.names.length/\ii= .int .i64 (k:Int)/\Hid (L1 w.heap.size a b ⟨Aa,ca,Pa,da⟩ ⟨Ab,cb,Pb,db⟩ g off w k wr)) (fun i _=>b.names.length - (intOf i).toNat)
 case atStart=>exact ⟨0,Nat.zero_le _,rfl,Y1 ⟨HB1.out,HB2.out,⟨[],HM.out _,by simp⟩,HU.out⟩⟩
 case round=>
  obtain ⟨k,hk,rfl,HR⟩:=hrel;have hlb:=HLB.out;clear b0 b1 b2 b3 b4 a0 a1 a2 a3 a4;by_cases hlt:k < b.names.length
  {have hi1: (k:Int) < (b.names.length:Int):=by omega
   have hi2: (k:Int) < (b.parts.length:Int):=by rw[<-HBB.out.l]; omega
   have hn0:=HN.out;have hsb:=Z0f HSB.out hn0 HR.out.up (fun x hx hs=>by omega);have hpp:=HP.out.upd hn0 HR.out.up (fun x hx hs=>by omega);obtain ⟨gA,oA,rfl,hgA,hcA⟩:=Z49 hsb hlt;rcases hpp with h | ⟨rfl,hgP,_⟩
   {have:=HBB.out.l; omega}
   obtain ⟨W',hr,hL⟩:=HR.out.put HBB.out.nodup hlt (by omega) (HSB.out.small.ns _ (List.getElem_mem _));obtain ⟨nm,hnm⟩: ∃nm,nm=b.names[k]'hlt:=⟨_,rfl⟩;rw[<-hnm] at hcA hr;have HL:=Y1 hL;obtain ⟨_,⟨b0,b1,b2,b3,b4⟩,_⟩:=HR.out.bb;simp only[Nat.zero_add] at b0 b1 b2 b3 b4;clear hL HR hsb hnm hgA hgP hn0;go_wp2
   go_roundw
   case rel=>exact ⟨k+1,by omega,by go_num,HL⟩
   case measure=>simp[intOf]; omega}
  {obtain rfl:k=b.names.length:=by omega
   have hi1: ¬(b.names.length:Int) < (b.names.length:Int):=by omega
   have hL:L2 n0 w.heap.size a b ⟨Aa,ca,Pa,da⟩ ⟨Ab,cb,Pb,db⟩ g off w K (a.names.take 0) ((callsA a b).take 0) wr:=by
    obtain ⟨S,hM,hS⟩:=HR.out.mp;refine ⟨HR.out.ba,HR.out.bb,⟨S,hM,fun n=> ?_⟩,HR.out.up.mono (fun x _ hx=>by have:=HN.out; omega), ?_,HT.out.keep _ _ _ _ HK.out HR.out.up⟩
    {rw[hS,List.take_length]; simp}
    {have:=hM.lt; omega}
   have HL:=Y1 hL;obtain ⟨_,⟨a0,a1,a2,a3,a4⟩,_⟩:=HR.out.ba;simp only[Nat.zero_add] at a0 a1 a2 a3 a4;clear hL HR hlt hk
   go_wp2_with fail
   go_loopw [35] (fun ii wr=> ∃k:Nat,k<=a.names.length/\ii= .int .i64 (k:Int)/\Hid (((callsA a b).take k).all step=true)/\Hid (L2 n0 w.heap.size a b ⟨Aa,ca,Pa,da⟩ ⟨Ab,cb,Pb,db⟩ g off w K (a.names.take k) ((callsA a b).take k) wr)) (fun i _=>a.names.length - (intOf i).toNat)
   case atStart=>exact ⟨0,Nat.zero_le _,rfl,Y1 (by simp),HL⟩
   case round=>
    obtain ⟨k,hk,rfl,HST,HL2⟩:=hrel;clear a0 a1 a2 a3 a4 HL;have hla:=HLA.out;by_cases hlt:k < a.names.length
    {have hi3: (k:Int) < (a.names.length:Int):=by omega
     have hi4: (k:Int) < (a.parts.length:Int):=by rw[<-HA.out.l]; omega
     have hk2:k < a.parts.length:=by omega
     have hn0:=HN.out;have hsa:=Z0f HSA.out hn0 HL2.out.up (fun x hx hs=>by omega);obtain ⟨gq,oq,rs,hpa⟩:=Z2q hsa;have hpb:=HP.out.upd hn0 HL2.out.up (fun x hx hs=>by omega);obtain ⟨gA,oA,rfl,hgA,hcA⟩:=Z49 hsa hlt;rcases hpa with h | ⟨rfl,hgP,h5⟩
     {omega}
     obtain ⟨S,hM,hS⟩:=HL2.out.mp;have hfine:Fine (a.names[k]'hlt):=HSA.out.small.ns _ (List.getElem_mem _);have hlook:=(show Mp wr.drew _ _ _ _ from hM.same rfl).look hfine;have hmem: (decide (a.names[k]'hlt∈S))=true ↔ (a.names[k]'hlt)∈b.names:=by
      rw[decide_eq_true_eq,hS];refine ⟨fun h=>h.1,fun h=>⟨h,fun hm=> ?_⟩⟩;obtain ⟨i,hi,e⟩:=List.getElem_of_mem hm;rw[List.getElem_take] at e;rw[List.length_take] at hi;have:=(List.getElem_inj HA.out.nodup).1 e;omega
     have hat:=Za9 HBB.out hpb hmem;obtain ⟨rest,hcut,hnext⟩:=Z9c (b:=b) HA.out hlt hk2;obtain ⟨nm,hnm⟩: ∃nm,nm=a.names[k]'hlt:=⟨_,rfl⟩;obtain ⟨xa,hxa⟩: ∃xa,xa=a.parts[k]'hk2:=⟨_,rfl⟩;have hax:At wr n0 (some xa) (.pointer (some ⟨gq,oq+k * 5,none⟩)):=⟨gq,oq+k * 5,rs k,rfl,hgP,by rw[hxa]; exact (h5 k hk2).1,by rw[hxa]; exact (h5 k hk2).2⟩;rw[<-hnm] at hcA hlook hmem hat hcut hnext hfine;rw[<-hxa] at hcut hnext;obtain ⟨y,hy⟩: ∃y,y=(if nm∈S then place g off b.names nm else .pointer none):=⟨_,rfl⟩;rw[<-hy] at hlook;have hat':At wr n0 (get b nm) y:=by
      rw[hy];by_cases e:nm∈S
      {simpa[e] using hat}
      {simpa[e] using hat}
     have hL3:=HL2.out.drew HT.out hn0;have hcall:=HT.out.call _ _ _ wr.drew _ _ hcut hL3.sz hL3.k (At.upd hax (by have:=HL2.out.up.size; omega) (Upd.refl (fun _=>False) wr).drew (fun _ _ h=>h)) (At.upd hat' (by have:=HL2.out.up.size; omega) (Upd.refl (fun _=>False) wr).drew (fun _ _ h=>h));have HCALL:=Y1 hcall;have HFI:=Y1 hfine;have HNX:=Y1 hnext;have HL3:=Y1 hL3;have HCUT:=Y1 hcut;obtain ⟨_,⟨a0,a1,a2,a3,a4⟩,_⟩:=HL2.out.ba;simp only[Nat.zero_add] at a0 a1 a2 a3 a4;have HNM:=Y1 hnm;clear hcall hfine hnext hL3 hcut hsa hpb hM hS hmem hat hat' hax hnm hxa hy h5 hgA hgP HL2
     go_wp2_with fail
     go_still_tail 9,(by kernel_rfl)
     change wpList _ _ _ _ _ wr.drew
     go_wp2_with fail
     refine HCALL.out.mono ?_;rintro e W2 ⟨rfl,hk2',hu2⟩;have HK2:=Y1 hk2';have HU2:=Y1 hu2;clear hk2' hu2 HCALL a0 a1 a2 a3 a4;cases hst:step (nm,some xa,get b nm) with
     | false=>
      have HALL:Hid ((calls a b).all step=false):=Y1 (by rw[HCUT.out,List.all_append,List.all_cons,hst]; simp);rw[hst] at HK2;clear hst;go_wp2;go_ret;rw[HALL.out];exact ⟨rfl,⟨_,HK2.out,nofun⟩,HL3.out.up.trans (HU2.out.mono (fun x _ h=>h.1))⟩
     | true=>
      rw[hst] at HK2;have HL4:=Y1 (HL3.out.upd HN.out HU2.out HK2.out);have HST2:Hid (((callsA a b).take (k+1)).all step=true):=Y1 (by rw[<-HNX.out,List.all_append,HST.out]; simp[hst]);rw[HNX.out] at HL4;clear hst HK2 HU2 HCUT;obtain ⟨W5,hr,hL5⟩:=HL4.out.del HT.out HN.out HFI.out 0;have HL5:=Y1 hL5;clear hL5;go_wp2
      go_roundw
      case rel=>exact ⟨k+1,by omega,by go_num,HST2,by rw[show a.names.take (k+1)=a.names.take k++ [nm] from by rw[List.take_succ_eq_append_getElem hlt,HNM.out]]; exact HL5⟩
      case measure=>simp[intOf]; omega}
    {obtain rfl:k=a.names.length:=by omega
     have hi3: ¬(a.names.length:Int) < (a.names.length:Int):=by omega
     have e0: (callsA a b).take a.names.length=callsA a b++callsBk a b 0:=by
      rw[<-Z2e (b:=b) HA.out,List.take_length]; simp[callsBk]
     have hst0:=HST.out;have hl0:=HL2.out;rw[e0] at hst0 hl0;rw[List.take_length] at hl0;have HST0:=Y1 hst0;have HL0:=Y1 hl0;obtain ⟨_,⟨b0,b1,b2,b3,b4⟩,_⟩:=HL2.out.bb;simp only[Nat.zero_add] at b0 b1 b2 b3 b4;clear hst0 hl0 HST HL2 hlt hk e0
     go_wp2_with fail
     go_loopw [57] (fun ii wr=> ∃k:Nat,k<=b.names.length/\ii= .int .i64 (k:Int)/\Hid ((callsA a b++callsBk a b k).all step=true)/\Hid (L2 n0 w.heap.size a b ⟨Aa,ca,Pa,da⟩ ⟨Ab,cb,Pb,db⟩ g off w K a.names (callsA a b++callsBk a b k) wr)) (fun i _=>b.names.length - (intOf i).toNat)
     case atStart=>exact ⟨0,Nat.zero_le _,rfl,HST0,HL0⟩
     case round=>
      obtain ⟨k,hk,rfl,HST,HL2⟩:=hrel;clear b0 b1 b2 b3 b4 HL0 HST0;by_cases hlt:k < b.names.length
      {have hi5: (k:Int) < (b.names.length:Int):=by omega
       have hk2:k < b.parts.length:=by rw[<-HBB.out.l]; exact hlt
       have hn0:=HN.out;have hsb:=Z0f HSB.out hn0 HL2.out.up (fun x hx hs=>by omega);have hpb:=HP.out.upd hn0 HL2.out.up (fun x hx hs=>by omega);obtain ⟨gA,oA,rfl,hgA,hcA⟩:=Z49 hsb hlt;obtain ⟨S,hM,hS⟩:=HL2.out.mp;have hfine:Fine (b.names[k]'hlt):=HSB.out.small.ns _ (List.getElem_mem _);have hlook:=hM.look2 hfine;have hmem:b.names[k]'hlt∈S ↔ get a (b.names[k]'hlt)=none:=by
        rw[hS,HA.out.get_none];exact ⟨fun h=>h.2,fun h=>⟨List.getElem_mem _,h⟩⟩
       obtain ⟨rest,hcut⟩:=Z8b a b HBB.out (k+1);by_cases hin:b.names[k]'hlt∈S
       {have hnone:=hmem.1 hin;have hnew:=Z6U hlt hk2 (by rw[hnone]; rfl);rw[hnew] at hcut;rw[if_pos hin,decide_eq_true hin,Z48 HBB.out.nodup hlt] at hlook;obtain ⟨nm,hnm⟩: ∃nm,nm=b.names[k]'hlt:=⟨_,rfl⟩;obtain ⟨xb,hxb⟩: ∃xb,xb=b.parts[k]'hk2:=⟨_,rfl⟩;have hat:At wr n0 (some xb) (.pointer (some ⟨g,off+k * 5,none⟩)):=by
         rcases hpb with h | ⟨_,hgP,h5⟩
         {omega}
         {exact ⟨g,off+k * 5,qs k,rfl,hgP,by rw[hxb]; exact (h5 k hk2).1,by rw[hxb]; exact (h5 k hk2).2⟩}
        rw[<-hnm] at hcA hlook hnew hcut;rw[<-hxb] at hnew hcut;have hL3:=HL2.out;have hcut':calls a b=(callsA a b++callsBk a b k)++(nm,none,some xb)::rest:=by rw[hcut]; simp
        have hcall:=HT.out.call _ _ _ wr (.pointer none) _ hcut' hL3.sz hL3.k rfl hat;have HCALL:=Y1 hcall;have HNX:=Y1 hnew;have HL3:=Y1 hL3;have HCUT:=Y1 hcut';clear hcall hnew hL3 hcut hcut' hsb hpb hM hS hmem hat hnm hxb hgA HL2 hin hnone hfine
        go_wp2_with fail
        refine HCALL.out.mono ?_;rintro e W2 ⟨rfl,hk2',hu2⟩;have HK2:=Y1 hk2';have HU2:=Y1 hu2;clear hk2' hu2 HCALL;cases hst:step (nm,none,some xb) with
        | false=>
         have HALL:Hid ((calls a b).all step=false):=Y1 (by rw[HCUT.out,List.all_append,List.all_cons,hst]; simp);rw[hst] at HK2;clear hst;go_wp2;go_ret;rw[HALL.out];exact ⟨rfl,⟨_,HK2.out,nofun⟩,HL3.out.up.trans (HU2.out.mono (fun x _ h=>h.1))⟩
        | true=>
         rw[hst] at HK2;have hl4:=HL3.out.upd HN.out HU2.out HK2.out;rw[List.append_assoc, <-HNX.out] at hl4;have HL4:=Y1 hl4;have HST2:Hid ((callsA a b++callsBk a b (k+1)).all step=true):=Y1 (by rw[HNX.out, <-List.append_assoc,List.all_append,HST.out]; simp[hst]);clear hst HK2 HU2 HCUT hl4;go_wp2
         go_roundw
         case rel=>exact ⟨k+1,by omega,by go_num,HST2,HL4⟩
         case measure=>simp[intOf]; omega}
       {have hold:=Z6T (a:=a) hlt hk2 (by
         cases hg:get a (b.names[k]'hlt) with
         | none=>exact absurd (hmem.2 hg) hin
         | some _=>rfl)
        rw[if_neg hin,decide_eq_false hin] at hlook;obtain ⟨nm,hnm⟩: ∃nm,nm=b.names[k]'hlt:=⟨_,rfl⟩;rw[<-hnm] at hcA hlook;have HL3:Hid (L2 n0 w.heap.size a b ⟨Aa,ca,Pa,da⟩ ⟨some ⟨gA,oA,none⟩,cb,Pb,db⟩ g off w K a.names (callsA a b++callsBk a b (k+1)) wr):=Y1 (by rw[hold]; exact HL2.out);have HST2:Hid ((callsA a b++callsBk a b (k+1)).all step=true):=Y1 (by rw[hold]; exact HST.out);clear hold hsb hpb hM hS hmem hnm hgA HL2 hin hcut hfine;go_wp2
        go_roundw
        case rel=>exact ⟨k+1,by omega,by go_num,HST2,HL3⟩
        case measure=>simp[intOf]; omega}}
      {obtain rfl:k=b.names.length:=by omega
       have hi5: ¬(b.names.length:Int) < (b.names.length:Int):=by omega
       have hall: (calls a b).all step=true:=by
        have:=HST.out;rw[Z3Y a b HBB.out] at this;exact this
       have hl:=HL2.out;rw[Z3Y a b HBB.out] at hl;have HALL:=Y1 hall;have HL:=Y1 hl;clear hall hl HL2 HST;go_wp2;go_ret;rw[HALL.out];exact ⟨rfl,⟨_,HL.out.k,fun _=>rfl⟩,HL.out.up⟩}}}
end SubM
end Go.Proofs.YtkhoflciahkphaaGreatDoor
namespace Go.Proofs.YtkhoflciahkphaaGreatDoor
open Go.RowKit Shp Sub
namespace SubM
structure TakesP (n0 N:Nat) (a b:Sh) (fn:Nat) (cs:List Value) (step:Nat->Bool) (K:Bool->Nat->World->Prop):Prop where
 keep: ∀ok k W W',K ok k W->Upd (fun x=>N<=x/\x < N+2) W W'->K ok k W'
 call: ∀k (hk:k < a.parts.length) (hk2:k < b.parts.length) W (x y:Ptr),N+2<=W.heap.size->K true k W->ShAt W n0 x (a.parts[k]'hk)->ShAt W n0 y (b.parts[k]'hk2)->
  Calls Tryz.prog fn (sv (a.parts[k]'hk) x::sv (b.parts[k]'hk2) y:: .bool (decide (k+1=a.parts.length))::cs).toArray W fun e W'=>e= .returned (.bool (step k))/\K (step k) (k+1) W'/\Upd (fun x=>n0<=x/\ ¬(N<=x/\x < N+2)) W W'
structure P2 (n0 N:Nat) (a b:Sh) (pa pb:Ptr) (w:World) (K:Bool->Nat->World->Prop) (k:Nat) (W:World):Prop where
 ba:Box5 W N a pa
 bb:Box5 W (N+1) b pb
 up:Upd (fun x=>n0<=x) w W
 sz:N+2<=W.heap.size
 k:K true k W
section
variable {n0 : Nat} {a b : Sh} {pa pb : Ptr} {w : World} {K : Bool -> Nat -> World -> Prop} {k : Nat} {W W' : World} {fn : Nat} {cs : List Value} {step : Nat -> Bool}
theorem P2.upd (h:P2 n0 w.heap.size a b pa pb w K k W) (hn:n0<=w.heap.size) (hu:Upd (fun x=>n0<=x/\ ¬(w.heap.size<=x/\x < w.heap.size+2)) W W') {k':Nat} (hk:K true k' W'):P2 n0 w.heap.size a b pa pb w K k' W':=
 ⟨Z1h h.ba hu (by omega),Z1h h.bb hu (by omega),h.up.trans (hu.mono (fun x _ hx=>hx.1)),Nat.le_trans h.sz hu.size,hk⟩
theorem P2.new (h:P2 n0 w.heap.size a b pa pb w K k W) (hT:TakesP n0 w.heap.size a b fn cs step K) (hn:n0<=w.heap.size) (hb:Below W.heap.size W W'):P2 n0 w.heap.size a b pa pb w K k W':=
 h.upd hn (Upd.new hb) (hT.keep _ _ _ _ h.k (Upd.new hb))
end
def headEq (a b:Sh):Bool:=decide (a.of_=b.of_/\a.name=b.name/\a.parts.length=b.parts.length)
theorem Z1O (a b:Sh) (pa pb:Ptr) (n0:Nat) (w:World) (ha:ShAt w n0 pa a) (hb:ShAt w n0 pb b) (hn:n0<=w.heap.size) (la:a.parts.length<=1000)
 (fn:Nat) (hen: ∀args W,(callFunc fn args).run Tryz.prog W= .ok (.enter fn args) W) (cs:List Value) (step:Nat->Bool) (K:Bool->Nat->World->Prop)
 (hT:TakesP n0 w.heap.size a b fn cs step K) (h0:K true 0 w):
 Calls Tryz.prog 58 #[sv a pa,sv b pb,.func (.func fn) #[] cs.toArray] w fun e w'=>e= .returned (.bool (headEq a b&&(List.range a.parts.length).all step))/\
  (∃D,K (!headEq a b||(List.range a.parts.length).all step) D w'/\((headEq a b&&(List.range a.parts.length).all step)=true->D=a.parts.length))/\Upd (fun x=>n0<=x) w w':=by
 obtain ⟨Aa,ca,Pa,da⟩:=pa;obtain ⟨Ab,cb,Pb,db⟩:=pb;have hb1:=Z01 w (.cells #[.int .i64 a.kind,.string ⟨a.of_.toArray⟩,.string ⟨a.name.toArray⟩,.slice Aa a.names.length ca,.slice Pa a.parts.length da] 25);obtain ⟨w1,hw1⟩: ∃w1,w1=w.alloc (.cells #[.int .i64 a.kind,.string ⟨a.of_.toArray⟩,.string ⟨a.name.toArray⟩,.slice Aa a.names.length ca,.slice Pa a.parts.length da] 25):=⟨_,rfl⟩;have hb2:=Z01 w1 (.cells #[.int .i64 b.kind,.string ⟨b.of_.toArray⟩,.string ⟨b.name.toArray⟩,.slice Ab b.names.length cb,.slice Pb b.parts.length db] 25);obtain ⟨w2,hw2⟩: ∃w2,w2=w1.alloc (.cells #[.int .i64 b.kind,.string ⟨b.of_.toArray⟩,.string ⟨b.name.toArray⟩,.slice Ab b.names.length cb,.slice Pb b.parts.length db] 25):=⟨_,rfl⟩;have hs1:w1.heap.size=w.heap.size+1:=by rw[hw1]; simp
 have hs2:w2.heap.size=w.heap.size+2:=by rw[hw2]; simp[hs1]
 rw[<-hw1] at hb1;rw[<-hw2] at hb2;have hB1:Box5 w1 w.heap.size a ⟨Aa,ca,Pa,da⟩:=by rw[hw1]; exact Z02 w a ⟨Aa,ca,Pa,da⟩
 have hB2:Box5 w2 w1.heap.size b ⟨Ab,cb,Pb,db⟩:=by rw[hw2]; exact Z02 w1 b ⟨Ab,cb,Pb,db⟩
 have hBA:=hB1.next hb2;rw[hs1] at hB2;have hU:Upd (fun x=>w.heap.size<=x/\x < w.heap.size+2) w w2:=Upd.new (Z00 hb1 hb2);have hP2:P2 n0 w.heap.size a b ⟨Aa,ca,Pa,da⟩ ⟨Ab,cb,Pb,db⟩ w K 0 w2:=⟨hBA,hB2,hU.mono (fun x _ h=>by omega),by omega,hT.keep _ _ _ _ h0 hU⟩;have HP2:=Y1 hP2;have HSA:=Y1 ha;have HSB:=Y1 hb;have HN:=Y1 hn;have HLA:=Y1 la;have HT:=Y1 hT;have ns:=ha.small;have nt:=hb.small;have o1:=ns.o;have o2:=ns.n;have o3:=nt.o;have o4:=nt.n;obtain ⟨_,⟨a0,a1,a2,a3,a4⟩,_⟩:=hBA;obtain ⟨_,⟨b0,b1,b2,b3,b4⟩,_⟩:=hB2;simp only[Nat.zero_add] at a0 a1 a2 a3 a4 b0 b1 b2 b3 b4;have hw1':=hw1.symm;have hw2':=hw2.symm;clear hw1 hw2 hb1 hb2 hB1 hP2 hU ha hb hn la hT h0 ns nt;unfold sv
 try dsimp only
 cases hh:headEq a b with
 | false=>
  have HF:Hid ((∃D,K (!false||(List.range a.parts.length).all step) D w2/\((false&&(List.range a.parts.length).all step)=true->D=a.parts.length))/\Upd (fun x=>n0<=x) w w2):=Y1 ⟨⟨0,HP2.out.k,nofun⟩,HP2.out.up⟩;clear HP2 HSA HSB HN HLA HT;have hh': ¬(a.of_=b.of_/\a.name=b.name/\a.parts.length=b.parts.length):=of_decide_eq_false hh;clear hh;by_cases e1:a.of_=b.of_
  {by_cases e2:a.name=b.name
   {have e3:a.parts.length≠b.parts.length:=fun e=>hh' ⟨e1,e2,e⟩;have n1: (a.of_ !=b.of_)=false:=by rw[e1]; simp
    have m1: (a.of_==b.of_)=true:=by rw[e1]; simp
    have n2: (a.name !=b.name)=false:=by rw[e2]; simp
    have m2: (a.name==b.name)=true:=by rw[e2]; simp
    have n3: ((a.parts.length:Int) !=(b.parts.length:Int))=true:=by simp; omega
    have m3: ((a.parts.length:Int)==(b.parts.length:Int))=false:=by simp; omega
    clear e1 e2 e3 hh';go_enter Tryz.func58,Tryz.ntmps58;go_wp2;go_ret;exact ⟨rfl,HF.out⟩}
   {have n1: (a.of_ !=b.of_)=false:=by rw[e1]; simp
    have m1: (a.of_==b.of_)=true:=by rw[e1]; simp
    have n2: (a.name !=b.name)=true:=by simpa using e2
    have m2: (a.name==b.name)=false:=by simpa using e2
    clear e1 e2 hh';go_enter Tryz.func58,Tryz.ntmps58;go_wp2;go_ret;exact ⟨rfl,HF.out⟩}}
  {have n1: (a.of_ !=b.of_)=true:=by simpa using e1
   have m1: (a.of_==b.of_)=false:=by simpa using e1
   clear e1 hh';go_enter Tryz.func58,Tryz.ntmps58;go_wp2;go_ret;exact ⟨rfl,HF.out⟩}
 | true=>
  obtain ⟨e1,e2,e3⟩:a.of_=b.of_/\a.name=b.name/\a.parts.length=b.parts.length:=of_decide_eq_true hh;have HE3:=Y1 e3;have n1: (a.of_ !=b.of_)=false:=by rw[e1]; simp
  have m1: (a.of_==b.of_)=true:=by rw[e1]; simp
  have n2: (a.name !=b.name)=false:=by rw[e2]; simp
  have m2: (a.name==b.name)=true:=by rw[e2]; simp
  have n3: ((a.parts.length:Int) !=(b.parts.length:Int))=false:=by rw[e3]; simp
  have m3: ((a.parts.length:Int)==(b.parts.length:Int))=true:=by rw[e3]; simp
  simp only[Bool.true_and,Bool.not_true,Bool.false_or];clear e1 e2 e3 hh;obtain ⟨st,hst⟩: ∃st,st=(List.range a.parts.length).all step:=⟨_,rfl⟩;have HST:=Y1 hst;rw[<-hst];clear hst;go_enter Tryz.func58,Tryz.ntmps58
  go_wp2_with fail
  go_loopw [33] (fun ii wr=> ∃k:Nat,k<=a.parts.length/\ii= .int .i64 (k:Int)/\Hid ((List.range k).all step=true)/\Hid (P2 n0 w.heap.size a b ⟨Aa,ca,Pa,da⟩ ⟨Ab,cb,Pb,db⟩ w K k wr)) (fun i _=>a.parts.length - (intOf i).toNat)
  case atStart=>exact ⟨0,Nat.zero_le _,rfl,Y1 (by simp),HP2⟩
  case round=>
   obtain ⟨k,hk,rfl,HSS,HP⟩:=hrel;have hla:=HLA.out;clear a0 a1 a2 a3 a4 b0 b1 b2 b3 b4 n1 n2 n3 m1 m2 m3 o1 o2 o3 o4;by_cases hlt:k < a.parts.length
   {have hi1: (k:Int) < (a.parts.length:Int):=by omega
    have hk2:k < b.parts.length:=by rw[<-HE3.out]; exact hlt
    have hi2: (k:Int) < (b.parts.length:Int):=by omega
    have hn0:=HN.out;have hpa:=Z2q (Z0f HSA.out hn0 HP.out.up (fun x hx hs=>by omega));have hpb:=Z2q (Z0f HSB.out hn0 HP.out.up (fun x hx hs=>by omega));obtain ⟨ga,oa,ra,hpa⟩:=hpa;obtain ⟨gb,ob,rb,hpb⟩:=hpb;rcases hpa with h | ⟨rfl,hga,h5a⟩
    {omega}
    rcases hpb with h | ⟨rfl,hgb,h5b⟩
    {omega}
    obtain ⟨p,hp⟩: ∃p,p=a.parts[k]'hlt:=⟨_,rfl⟩;obtain ⟨q,hq⟩: ∃q,q=b.parts[k]'hk2:=⟨_,rfl⟩;obtain ⟨⟨x0,x1,x2,x3,x4⟩,hsx⟩:=h5a k hlt;obtain ⟨⟨y0,y1,y2,y3,y4⟩,hsy⟩:=h5b k hk2;have hwn:n0<=wr.heap.size:=by have:=HP.out.up.size; omega
    have hcall:=HT.out.call k hlt hk2;rw[<-hp] at x0 x1 x2 x3 x4 hsx hcall;rw[<-hq] at y0 y1 y2 y3 y4 hsy hcall;have HC:=Y1 hcall;have HWN:=Y1 hwn;have HSX:=Y1 hsx;have HSY:=Y1 hsy;have hbw:=Z01 wr (.cells (Y8 p (ra k)) 25);have HPN:=Y1 (HP.out.new HT.out hn0 hbw.drew);have HBW:=Y1 hbw;have HBX:=Y1 (Z02 wr p (ra k));obtain ⟨_,⟨a0,a1,a2,a3,a4⟩,_⟩:=HP.out.ba.next hbw;obtain ⟨_,⟨b0,b1,b2,b3,b4⟩,_⟩:=HP.out.bb.next hbw;obtain ⟨_,⟨c0,c1,c2,c3,c4⟩,_⟩:=HBX.out;have hgaW:ga < wr.heap.size:=by omega
    have hgbW:gb < wr.heap.size:=by omega
    have hwW:w.heap.size+1 < wr.heap.size:=by have:=HP.out.sz; omega
    simp only[Nat.zero_add] at a0 a1 a2 a3 a4 b0 b1 b2 b3 b4 c0 c1 c2 c3 c4;obtain ⟨y0,y1,y2,y3,y4⟩:=(show Sh5 wr gb (ob+k * 5) q (rb k) from ⟨y0,y1,y2,y3,y4⟩).keep hgbW hbw;obtain ⟨w3,hw3⟩: ∃w3,w3=wr.alloc (.cells (Y8 p (ra k)) 25):=⟨_,rfl⟩;rw[<-hw3] at hbw HPN HBW HBX a0 a1 a2 a3 a4 b0 b1 b2 b3 b4 c0 c1 c2 c3 c4 y0 y1 y2 y3 y4;have hw3':=hw3.symm;clear hw3 hcall hsx hsy hwn hp hq h5a h5b hbw
    go_wp2_with fail
    go_still_tail 13,(by kernel_rfl)
    change wpList _ _ _ _ _ w3.drew
    go_wp2_with fail
    rw[show ((k:Int)==(a.parts.length:Int) - 1)=decide (k+1=a.parts.length) from by rw[Bool.eq_iff_iff,beq_iff_eq,decide_eq_true_eq]; omega];have hu3:Upd (fun x=>n0<=x/\ ¬(w.heap.size<=x/\x < w.heap.size+2)) wr w3.drew:=Upd.new HBW.out.drew;refine (HC.out w3.drew (ra k) (rb k) HPN.out.sz HPN.out.k (Z0f HSX.out HWN.out hu3 (fun x h1 h2=>by omega)) (Z0f HSY.out HWN.out hu3 (fun x h1 h2=>by omega))).mono ?_;rintro e W2 ⟨rfl,hk2',hu2⟩;have HK2:=Y1 hk2';have HU2:=Y1 hu2;clear hk2' hu2 hu3 HC a0 a1 a2 a3 a4 b0 b1 b2 b3 b4 c0 c1 c2 c3 c4 y0 y1 y2 y3 y4 x0 x1 x2 x3 x4;cases hs:step k with
    | false=>
     have HALL:Hid (st=false):=Y1 (by
      rw[HST.out,Bool.eq_false_iff];intro h;have:=List.all_eq_true.1 h k (List.mem_range.2 hlt);rw[hs] at this; cases this)
     rw[hs] at HK2;clear hs;go_wp2;go_ret;rw[HALL.out];exact ⟨rfl,⟨_,HK2.out,nofun⟩,HPN.out.up.trans (HU2.out.mono (fun x _ h=>h.1))⟩
    | true=>
     rw[hs] at HK2;have HP4:=Y1 (HPN.out.upd HN.out HU2.out HK2.out);have HSS2:Hid ((List.range (k+1)).all step=true):=Y1 (by rw[List.range_succ,List.all_append,HSS.out]; simp[hs]);clear hs HK2 HU2;go_wp2
     go_roundw
     case rel=>exact ⟨k+1,by omega,by go_num,HSS2,HP4⟩
     case measure=>simp[intOf]; omega}
   {obtain rfl:k=a.parts.length:=by omega
    have hi1: ¬(a.parts.length:Int) < (a.parts.length:Int):=by omega
    have HALL:Hid (st=true):=Y1 (by rw[HST.out]; exact HSS.out);clear HSS;go_wp2;go_ret;rw[HALL.out];exact ⟨rfl,⟨_,HP.out.k,fun _=>rfl⟩,HP.out.up⟩}
end SubM
end Go.Proofs.YtkhoflciahkphaaGreatDoor
namespace Go.Proofs.YtkhoflciahkphaaGreatDoor
open Go.RowKit Shp Sub
namespace SubM
def placeStep (g:Sh->Sh->Bool) (a b:Sh) (k:Nat):Bool:=
 match a.parts[k]?,b.parts[k]? with
 | some p,some q=>if k+1=a.parts.length then g p q else g q p
 | some _,none=>true
 | none,_=>true
theorem Z3h (g:Sh->Sh->Bool) (a b:Sh): (headEq a b&&(List.range a.parts.length).all (placeStep g a b))=(decide (a.of_=b.of_/\a.name=b.name)&&placesAll g a.parts b.parts):=by
 rw[Bool.eq_iff_iff,Bool.and_eq_true,Bool.and_eq_true,Z24,List.all_eq_true];unfold headEq;rw[decide_eq_true_eq,decide_eq_true_eq];constructor
 {rintro ⟨⟨h1,h2,h3⟩,h4⟩;refine ⟨⟨h1,h2⟩,h3,fun i p q hp hq=> ?_⟩;have:=h4 i (List.mem_range.2 (List.getElem?_eq_some_iff.1 hp).1);unfold placeStep at this;rw[hp,hq] at this;exact this}
 {rintro ⟨⟨h1,h2⟩,h3,h4⟩;refine ⟨⟨h1,h2,h3⟩,fun i hi=> ?_⟩;have hi:=List.mem_range.1 hi;unfold placeStep;rw[List.getElem?_eq_getElem hi,List.getElem?_eq_getElem (show i < b.parts.length by omega)];exact h4 i _ _ (List.getElem?_eq_getElem hi) (List.getElem?_eq_getElem (by omega))}
structure Two (f:Nat) (a b:Sh):Prop where
 ra:right a=true
 rb:right b=true
 da:deep a<=f
 db:deep b<=f
 sa:size a<=400
 sb:size b<=400
theorem Two.part {f:Nat} {a b p q:Sh} (h:Two (f+1) a b) (hp:p∈a.parts) (hq:q∈b.parts):Two f p q:=by
 obtain ⟨ra,rb,da,db,sa,sb⟩:=h;have h1:=Z0t hp;have h2:=Z0t hq;have h3:=Z1z hp;have h4:=Z1z hq;rw[Z0d] at da db;rw[size_eq] at sa sb;exact ⟨Z04 ra hp,Z04 rb hq,by omega,by omega,by omega,by omega⟩
theorem Two.swap {f:Nat} {a b:Sh} (h:Two f a b):Two f b a:=⟨h.rb,h.ra,h.db,h.da,h.sb,h.sa⟩
theorem Two.la {f:Nat} {a b:Sh} (h:Two f a b):a.parts.length<=1000:=by have:=h.sa; have:=Z0O a.parts; rw[size_eq] at *; omega
end SubM
end Go.Proofs.YtkhoflciahkphaaGreatDoor
namespace Go.Proofs.YtkhoflciahkphaaGreatDoor
open Go.RowKit Shp Sub
namespace SubM
abbrev fv (i0 i1:Nat):Value:= .func (.func 73) #[] #[.pointer (some ⟨i0,0,none⟩),.pointer (some ⟨i1,0,none⟩)]
abbrev rv (i0 i1:Nat):Value:= .agg #[fv i0 i1]
structure Rl (w:Bool) (W:World) (n0 i0 i1:Nat):Prop where
 l0:i0 < n0
 l1:i1 < n0
 c0:W.cell? ⟨i0,0,none⟩=some (.int .i64 (if w=true then 6 else 0))
 c1:W.cell? ⟨i1,0,none⟩=some (.int .i64 (if w=true then 7 else 0))
theorem Rl.upd {w:Bool} {S:Nat->Prop} {a b:World} {n0 i0 i1:Nat} (h:Rl w a n0 i0 i1) (hn:n0<=a.heap.size) (hu:Upd S a b) (hS: ∀x,x < n0-> ¬S x):Rl w b n0 i0 i1:=
 ⟨h.l0,h.l1,(hu.cell (by have:=h.l0; omega) (hS _ h.l0)).trans h.c0,(hu.cell (by have:=h.l1; omega) (hS _ h.l1)).trans h.c1⟩
theorem Rl.new {w:Bool} {a b:World} {n0 i0 i1:Nat} (h:Rl w a n0 i0 i1) (hn:n0<=a.heap.size) (hb:Below a.heap.size a b):Rl w b n0 i0 i1:=h.upd (S:=fun _=>False) hn (Upd.new hb) (fun _ _ h=>h)
theorem Z9T: ∀args W,(callFunc 73 args).run Tryz.prog W= .ok (.enter 73 args) W:=enters_of Tryz.func73 (by kernel_rfl) rfl
theorem Z4A (w:Bool) (k:Int) (f:Bool) (W:World) (n0 i0 i1:Nat) (h:Rl w W n0 i0 i1):
 Calls Tryz.prog 73 #[.int .i64 k,.bool f,.pointer (some ⟨i0,0,none⟩),.pointer (some ⟨i1,0,none⟩)] W fun e W'=>e= .returned (.bool (Grd.al w k f))/\Below W.heap.size W W':=by
 obtain ⟨h1,h2,c0,c1⟩:=h;have HB:=Y1 (Below.refl W.heap.size W);cases f with
 | true=>
  rw[show Grd.al w k true=(k==(if w=true then 6 else 0)) from rfl];generalize (if w=true then (6:Int) else 0)=F at c0;clear h1 h2 c1;go_enter Tryz.func73,Tryz.ntmps73;go_wp2;go_ret;exact ⟨rfl,HB.out⟩
 | false=>
  rw[show Grd.al w k false=(k==(if w=true then 7 else 0)) from rfl];generalize (if w=true then (7:Int) else 0)=F at c1;clear h1 h2 c0;go_enter Tryz.func73,Tryz.ntmps73;go_wp2;go_ret;exact ⟨rfl,HB.out⟩
def HoldOk (w:Bool) (f:Nat):Prop:=
 ∀(a b:Sh) (pa pb:Ptr) (n0 i0 i1:Nat) (W:World),Two f a b->ShAt W n0 pa a->ShAt W n0 pb b->n0<=W.heap.size->Rl w W n0 i0 i1->
  Calls Tryz.prog 52 #[rv i0 i1,sv a pa,sv b pb] W fun e W'=>e= .returned (.bool (Grd.hold w f a b))/\Below W.heap.size W W'
section
variable {w : Bool} {f : Nat}
theorem Z8c (hI:HoldOk w f) (k:Int) (n0 i0 i1 gr ga:Nat) (nm:List UInt8) (o1 o2:Option Sh) (x y:Value) (W:World) (h: ∀p q,o1=some p->o2=some q->Two f p q) (hn:n0<=W.heap.size) (hx:At W n0 o1 x) (hy:At W n0 o2 y) (hr:Rl w W n0 i0 i1)
 (cr:W.cell? ⟨gr,0,none⟩=some (fv i0 i1)) (ca:W.cell? ⟨ga,0,none⟩=some (.int .i64 k)):
 Calls Tryz.prog 74 (.string ⟨nm.toArray⟩::x::y:: .pointer (some ⟨gr,0,none⟩):: .pointer (some ⟨ga,0,none⟩):: []).toArray W fun e W'=>e= .returned (.bool (Grd.hstep (Grd.al w k) (Grd.hold w f) (nm,o1,o2)))/\Below W.heap.size W W':=by
 have hen:=Z9T;cases o1 with
 | none=>
  have hx':x= .pointer none:=hx;subst hx';have hy': ∃p,y= .pointer p:=by
   cases o2 with
   | none=>exact ⟨none,hy⟩
   | some _=>obtain ⟨g,o,q,h1,_⟩:=hy; exact ⟨_,h1⟩
  obtain ⟨p,rfl⟩:=hy';have hs:Grd.hstep (Grd.al w k) (Grd.hold w f) (nm,none,o2)=Grd.al w k false:=by cases o2 <;> rfl
  rw[hs];have HC:=Y1 (Z4A w k false W n0 i0 i1 hr);clear hy h hI hn hs hr hx;go_enter Tryz.func74,Tryz.ntmps74
  go_wp2_with fail
  refine HC.out.mono ?_;rintro e W2 ⟨rfl,hb2⟩;have HB2:=Y1 hb2;clear hb2 HC;go_wp2;go_ret;exact ⟨rfl,HB2.out⟩
 | some p=>
  obtain ⟨g,off,qx,rfl,hg,h5,hs⟩:=hx;cases o2 with
  | none=>
   have hy':y= .pointer none:=hy;subst hy';have hst:Grd.hstep (Grd.al w k) (Grd.hold w f) (nm,some p,none)=Grd.al w k true:=rfl;rw[hst];have HC:=Y1 (Z4A w k true W n0 i0 i1 hr);clear h hI hn hst hg h5 hs hr hy;go_enter Tryz.func74,Tryz.ntmps74
   go_wp2_with fail
   refine HC.out.mono ?_;rintro e W2 ⟨rfl,hb2⟩;have HB2:=Y1 hb2;clear hb2 HC;go_wp2;go_ret;exact ⟨rfl,HB2.out⟩
  | some q=>
   obtain ⟨g',off',qy,rfl,hg',h5',hs'⟩:=hy;have hst:Grd.hstep (Grd.al w k) (Grd.hold w f) (nm,some p,some q)=Grd.hold w f p q:=rfl;rw[hst];obtain ⟨x0,x1,x2,x3,x4⟩:=h5;obtain ⟨y0,y1,y2,y3,y4⟩:=h5';have hu:Upd (fun _=>False) W W.drew:=(Upd.refl _ W).drew;have HC:=Y1 (hI p q qx qy n0 i0 i1 W.drew (h p q rfl rfl) (Z0f hs hn hu (fun _ _ h=>h)) (Z0f hs' hn hu (fun _ _ h=>h)) hn (hr.upd hn hu (fun _ _ h=>h)));have HZ:Hid (Below W.heap.size W W.drew):=Y1 (Below.refl _ W).drew;unfold sv at HC;clear h hI hn hst hg hg' hs hs' hu hr ca;go_enter Tryz.func74,Tryz.ntmps74
   go_wp2_with fail
   go_still_tail 7,(by kernel_rfl)
   change wpList _ _ _ _ _ W.drew
   go_wp2_with fail
   refine HC.out.mono ?_;rintro e W2 ⟨rfl,hb2⟩;have HB2:=Y1 (Z00 HZ.out hb2);clear hb2 HC;go_wp2;go_ret;exact ⟨rfl,HB2.out⟩
theorem Z8d (hI:HoldOk w f) (n0 i0 i1 gr:Nat) (p q:Sh) (x y:Ptr) (l:Bool) (W:World) (h:Two f p q) (hn:n0<=W.heap.size) (hx:ShAt W n0 x p) (hy:ShAt W n0 y q) (hr:Rl w W n0 i0 i1)
 (cr:W.cell? ⟨gr,0,none⟩=some (fv i0 i1)) (gl:gr < W.heap.size):
 Calls Tryz.prog 75 (sv p x::sv q y:: .bool l:: .pointer (some ⟨gr,0,none⟩):: []).toArray W fun e W'=>e= .returned (.bool (if l=true then Grd.hold w f p q else Grd.hold w f q p))/\Below W.heap.size W W':=by
 have hb1:=Z01 W (.cells (Y8 p x) 25);obtain ⟨w1,hw1⟩: ∃w1,w1=W.alloc (.cells (Y8 p x) 25):=⟨_,rfl⟩;have hb2:=Z01 w1 (.cells (Y8 q y) 25);obtain ⟨w2,hw2⟩: ∃w2,w2=w1.alloc (.cells (Y8 q y) 25):=⟨_,rfl⟩;have hs1:w1.heap.size=W.heap.size+1:=by rw[hw1]; simp
 rw[<-hw1] at hb1;rw[<-hw2] at hb2;have hB1:Box5 w1 W.heap.size p x:=by rw[hw1]; exact Z02 W p x
 have hB2:Box5 w2 w1.heap.size q y:=by rw[hw2]; exact Z02 w1 q y
 have hBA:=hB1.next hb2;rw[hs1] at hB2;have hbw:=Z00 hb1 hb2;have hu:Upd (fun _=>False) W w2:=Upd.new hbw;have hx2:=Z0f hx hn hu (fun _ _ h=>h);have hy2:=Z0f hy hn hu (fun _ _ h=>h);have hn2:n0<=w2.heap.size:=by have:=hu.size; omega
 have hr2:=hr.upd hn hu (fun _ _ h=>h);have HA:=Y1 (hI p q x y n0 i0 i1 w2 h hx2 hy2 hn2 hr2);have HB:=Y1 (hI q p y x n0 i0 i1 w2 h.swap hy2 hx2 hn2 hr2);have cr2:w2.cell? ⟨gr,0,none⟩=some (fv i0 i1):=(hbw.cell (p:=⟨gr,0,none⟩) gl).trans cr;have HW:=Y1 hbw;obtain ⟨_,⟨a0,a1,a2,a3,a4⟩,_⟩:=hBA;obtain ⟨_,⟨b0,b1,b2,b3,b4⟩,_⟩:=hB2;simp only[Nat.zero_add] at a0 a1 a2 a3 a4 b0 b1 b2 b3 b4;have hw1':=hw1.symm;have hw2':=hw2.symm;clear hw1 hw2 hb1 hb2 hB1 hu hx2 hy2 hx hy hn h hI hr hr2 hbw cr;unfold sv at HA HB ⊢;cases l with
 | true=>
  go_enter Tryz.func75,Tryz.ntmps75
  go_wp2_with fail
  refine HA.out.mono ?_;rintro e W3 ⟨rfl,hb3⟩;have HB3:=Y1 (Z00 HW.out hb3);clear hb3 a0 a1 a2 a3 a4 b0 b1 b2 b3 b4 HA HB cr2;go_wp2;go_ret;exact ⟨rfl,HB3.out⟩
 | false=>
  go_enter Tryz.func75,Tryz.ntmps75
  go_wp2_with fail
  refine HB.out.mono ?_;rintro e W3 ⟨rfl,hb3⟩;have HB3:=Y1 (Z00 HW.out hb3);clear hb3 a0 a1 a2 a3 a4 b0 b1 b2 b3 b4 HA HB cr2;go_wp2;go_ret;exact ⟨rfl,HB3.out⟩
end
theorem Z9d (w:Bool) (f:Nat):HoldOk w f:=by
 induction f with
 | zero=>intro a b pa pb n0 i0 i1 W h; have:=h.da; rw[Z0d] at this; omega
 | succ f hI=>
  intro a b pa pb n0 i0 i1 W h ha hb hn hr;have hbr:=Z01 W (.cells #[fv i0 i1] 34);obtain ⟨w0,hw0⟩: ∃w0,w0=W.alloc (.cells #[fv i0 i1] 34):=⟨_,rfl⟩;have cr0:w0.cell? ⟨W.heap.size,0,none⟩=some (fv i0 i1):=by rw[hw0]; simp[go_sem]
  have hs0:w0.heap.size=W.heap.size+1:=by rw[hw0]; simp
  rw[<-hw0] at hbr;have hb1:=Z01 w0 (.cells (Y8 a pa) 25);obtain ⟨w1,hw1⟩: ∃w1,w1=w0.alloc (.cells (Y8 a pa) 25):=⟨_,rfl⟩;have hb2:=Z01 w1 (.cells (Y8 b pb) 25);obtain ⟨w2,hw2⟩: ∃w2,w2=w1.alloc (.cells (Y8 b pb) 25):=⟨_,rfl⟩;have hs1:w1.heap.size=W.heap.size+2:=by rw[hw1]; simp[hs0]
  rw[<-hw1] at hb1;rw[<-hw2] at hb2;have hB1:Box5 w1 w0.heap.size a pa:=by rw[hw1]; exact Z02 w0 a pa
  have hB2:Box5 w2 w1.heap.size b pb:=by rw[hw2]; exact Z02 w1 b pb
  have hBA:=hB1.next hb2;rw[hs0] at hBA;rw[hs1] at hB2;have hbw:=Z00 hbr (Z00 hb1 hb2);have cr2:w2.cell? ⟨W.heap.size,0,none⟩=some (fv i0 i1):=((Z00 hb1 hb2).cell (p:=⟨W.heap.size,0,none⟩) (by rw[hs0]; exact Nat.lt_succ_self _)).trans cr0;have hu:Upd (fun _=>False) W w2:=Upd.new hbw;have HA:=Y1 (Z0f ha hn hu (fun _ _ h=>h));have HB:=Y1 (Z0f hb hn hu (fun _ _ h=>h));have HN:Hid (n0<=w2.heap.size):=Y1 (by have:=hu.size; omega);have HRL:=Y1 (hr.upd hn hu (fun _ _ h=>h));have HW:=Y1 hbw;have H2:=Y1 h;have HI:=Y1 hI;have HCR:=Y1 cr2;have HBA:=Y1 hBA;have hz2:w2.heap.size=W.heap.size+3:=by rw[hw2]; simp[hs1]
  have HZ2:=Y1 hz2;obtain ⟨_,⟨a0,a1,a2,a3,a4⟩,_⟩:=hBA;obtain ⟨_,⟨b0,b1,b2,b3,b4⟩,_⟩:=hB2;simp only[Nat.zero_add] at a0 a1 a2 a3 a4 b0 b1 b2 b3 b4;have hw0':=hw0.symm;have hw1':=hw1.symm;have hw2':=hw2.symm;have hwz:W.heap.size<=w2.heap.size:=hbw.size
  -- what the closures keep: all that lay there ahead
  have keepN: ∀(ok:Bool) (done:List Cl) W1 W',Below w2.heap.size w2 W1->Upd (fun x=>w2.heap.size<=x/\x < w2.heap.size+3) W1 W'->Below w2.heap.size w2 W':=fun _ _ W1 W' h1 h2=>h1.trans (h2.below h1.size (fun x hx=>by omega));have keepP: ∀(ok:Bool) (k:Nat) W1 W',Below w2.heap.size w2 W1->Upd (fun x=>w2.heap.size<=x/\x < w2.heap.size+2) W1 W'->Below w2.heap.size w2 W':=fun _ _ W1 W' h1 h2=>h1.trans (h2.below h1.size (fun x hx=>by omega));have HKN:=Y1 keepN;have HKP:=Y1 keepP;clear hw0 hw1 hw2 hbr hb1 hb2 hB1 hu ha hb hn h hI hbw keepN keepP hr cr0 hz2;unfold sv;by_cases h4:a.kind=4
  {have HR:Hid (Grd.hold w (f+1) a b=true):=Y1 (by unfold Grd.hold; rw[if_pos (Or.inl h4)]);have m4:=Y4 4 h4 rfl;rw[HR.out];clear h4 cr2;go_enter Tryz.func52,Tryz.ntmps52;go_wp2;go_ret;exact ⟨rfl,HW.out⟩}
  have m4: (a.kind==4)=false:=by simpa using h4
  by_cases h4b:b.kind=4
  {have HR:Hid (Grd.hold w (f+1) a b=true):=Y1 (by unfold Grd.hold; rw[if_pos (Or.inr h4b)]);have m4b:=Y4 4 h4b rfl;rw[HR.out];clear h4 h4b cr2;go_enter Tryz.func52,Tryz.ntmps52;go_wp2;go_ret;exact ⟨rfl,HW.out⟩}
  have m4b: (b.kind==4)=false:=by simpa using h4b
  have hor: ¬(a.kind=4\/b.kind=4):=fun h=>h.elim h4 h4b;by_cases hk:a.kind=b.kind
  {have m0: (a.kind !=b.kind)=false:=by rw[hk]; simp
   by_cases h67:a.kind=6\/a.kind=7
   {have HR:Hid (Grd.hold w (f+1) a b=(calls a b).all (Grd.hstep (Grd.al w a.kind) (Grd.hold w f))):=Y1 (by conv=>lhs; unfold Grd.hold; rw[if_neg hor,if_neg (fun h=>h hk),if_pos h67]);have HRa:=Y1 (Z0s (Z08 H2.out.ra) h67);have HRb:=Y1 (Z0s (Z08 H2.out.rb) (hk▸h67));have hT:Takes n0 w2.heap.size a b 74 [.pointer (some ⟨W.heap.size,0,none⟩),.pointer (some ⟨W.heap.size+1,0,none⟩)] (Grd.hstep (Grd.al w a.kind) (Grd.hold w f)) (fun _ _ W1=>Below w2.heap.size w2 W1):=by
     refine ⟨HKN.out,fun done c rest W1 x y hcut hsz hK hx hy=> ?_⟩;obtain ⟨nm,o1,o2⟩:=c;have hm: (nm,o1,o2)∈calls a b:=by rw[hcut]; simp
     obtain ⟨e1,e2,_⟩:=(Z0c HRa.out HRb.out).1 hm;have hcr:W1.cell? ⟨W.heap.size,0,none⟩=some (fv i0 i1):=(hK.cell (p:=⟨W.heap.size,0,none⟩) (by show W.heap.size < w2.heap.size; rw[HZ2.out]; omega)).trans HCR.out;have hca:W1.cell? ⟨W.heap.size+1,0,none⟩=some (.int .i64 a.kind):=(hK.cell (p:=⟨W.heap.size+1,0,none⟩) (by show W.heap.size+1 < w2.heap.size; rw[HZ2.out]; omega)).trans (by
      obtain ⟨_,⟨a0,_⟩,_⟩:=HBA.out;simpa using a0)
     have hrl:Rl w W1 n0 i0 i1:=HRL.out.upd (S:=fun _=>False) HN.out (Upd.new hK) (fun _ _ h=>h);refine (Z8c HI.out a.kind n0 i0 i1 _ _ nm o1 o2 x y W1 (fun p q hp hq=> ?_) (by have:=HN.out; omega) hx hy hrl hcr hca).mono ?_
     {rw[e1] at hp; rw[e2] at hq;exact H2.out.part (Z06 hp) (Z06 hq)}
     {rintro e W' ⟨rfl,hb⟩;exact ⟨rfl,hK.trans (hb.mono hK.size),Upd.new hb⟩}
    have HE:=Y1 (Z1t a b pa pb n0 w2 HRa.out HRb.out HA.out HB.out HN.out (by have:=H2.out.la; rw[<-HRa.out.l] at this; exact this) (by have:=H2.out.swap.la; rw[<-HRb.out.l] at this; exact this) 74 (enters_of Tryz.func74 (by kernel_rfl) rfl) [.pointer (some ⟨W.heap.size,0,none⟩),.pointer (some ⟨W.heap.size+1,0,none⟩)] _ _ hT Y2);unfold sv at HE;rw[HR.out];clear hT hk hor h4 h4b;rcases h67 with h6 | h6
    {have m6: (a.kind==6)=true:=by rw[h6]; rfl
     clear h6;go_enter Tryz.func52,Tryz.ntmps52
     go_wp2_with fail
     refine HE.out.mono ?_;rintro e W3 ⟨rfl,⟨_,hK,_⟩,_⟩;have HK:=Y1 (HW.out.trans (hK.mono HW.out.size));clear hK HE a0 a1 a2 a3 a4 b0 b1 b2 b3 b4 cr2;go_wp2;go_ret;exact ⟨rfl,HK.out⟩}
    {have m6: (a.kind==6)=false:=by rw[h6]; rfl
     have m7:=Y4 7 h6 rfl;clear h6;go_enter Tryz.func52,Tryz.ntmps52
     go_wp2_with fail
     refine HE.out.mono ?_;rintro e W3 ⟨rfl,⟨_,hK,_⟩,_⟩;have HK:=Y1 (HW.out.trans (hK.mono HW.out.size));clear hK HE a0 a1 a2 a3 a4 b0 b1 b2 b3 b4 cr2;go_wp2;go_ret;exact ⟨rfl,HK.out⟩}}
   {have m6: (a.kind==6)=false:=by simpa using fun h=>h67 (Or.inl h)
    have m7: (a.kind==7)=false:=by simpa using fun h=>h67 (Or.inr h)
    have HR:Hid (Grd.hold w (f+1) a b=(headEq a b&&(List.range a.parts.length).all (placeStep (Grd.hold w f) a b))):=Y1 (by rw[Z3h]; conv=>lhs; unfold Grd.hold; rw[if_neg hor,if_neg (fun h=>h hk),if_neg h67]);have hT:TakesP n0 w2.heap.size a b 75 [.pointer (some ⟨W.heap.size,0,none⟩)] (placeStep (Grd.hold w f) a b) (fun _ _ W1=>Below w2.heap.size w2 W1):=by
     refine ⟨HKP.out,fun k hk hk2 W1 x y hsz hK hx hy=> ?_⟩;have hcr:W1.cell? ⟨W.heap.size,0,none⟩=some (fv i0 i1):=(hK.cell (p:=⟨W.heap.size,0,none⟩) (by show W.heap.size < w2.heap.size; rw[HZ2.out]; omega)).trans HCR.out;have hrl:Rl w W1 n0 i0 i1:=HRL.out.upd (S:=fun _=>False) HN.out (Upd.new hK) (fun _ _ h=>h);refine (Z8d HI.out n0 i0 i1 _ _ _ x y _ W1 (H2.out.part (List.getElem_mem _) (List.getElem_mem _)) (by have:=HN.out; omega) hx hy hrl hcr (by have:=HZ2.out; omega)).mono ?_;rintro e W' ⟨rfl,hb⟩;refine ⟨?_,hK.trans (hb.mono hK.size),Upd.new hb⟩;unfold placeStep;rw[List.getElem?_eq_getElem hk,List.getElem?_eq_getElem hk2];simp only[decide_eq_true_eq]
    have HE:=Y1 (Z1O a b pa pb n0 w2 HA.out HB.out HN.out H2.out.la 75 (enters_of Tryz.func75 (by kernel_rfl) rfl) [.pointer (some ⟨W.heap.size,0,none⟩)] _ _ hT Y2);unfold sv at HE;rw[HR.out];clear hT hk hor h4 h4b h67;go_enter Tryz.func52,Tryz.ntmps52
    go_wp2_with fail
    refine HE.out.mono ?_;rintro e W3 ⟨rfl,⟨_,hK,_⟩,_⟩;have HK:=Y1 (HW.out.trans (hK.mono HW.out.size));clear hK HE a0 a1 a2 a3 a4 b0 b1 b2 b3 b4 cr2;go_wp2;go_ret;exact ⟨rfl,HK.out⟩}}
  {have m0: (a.kind !=b.kind)=true:=by simpa using hk
   have HR:Hid (Grd.hold w (f+1) a b=false):=Y1 (by unfold Grd.hold; rw[if_neg hor,if_pos hk]);rw[HR.out];clear hk hor h4 h4b cr2;go_enter Tryz.func52,Tryz.ntmps52;go_wp2;go_ret;exact ⟨rfl,HW.out⟩}
end SubM
end Go.Proofs.YtkhoflciahkphaaGreatDoor
namespace Go.Proofs.YtkhoflciahkphaaGreatDoor
section
open Go.RowKit Shp Go.Sort
structure Swi (w wi:World) (ps:List Sh) (qs:Nat->Ptr) (Fs Fs':Nat->List Nat) (i:Nat):Prop where
 up:UpF ((List.range ps.length).flatMap Fs) w wi
 pm: ∀j,j < ps.length->(Fs' j).Perm (Fs j)
 lo: ∀j (h:j < ps.length),j < i->Own wi (qs j) (sorted (ps[j]'h)) (Fs' j)
 hi: ∀j (h:j < ps.length),i<=j->Own wi (qs j) (ps[j]'h) (Fs' j)
theorem Swi.start {w wi:World} {ps:List Sh} {qs:Nat->Ptr} {Fs:Nat->List Nat} (hr: ∀j (h:j < ps.length),Own w (qs j) (ps[j]'h) (Fs j)) (hb:Below w.heap.size w wi):Swi w wi ps qs Fs Fs 0:=
 ⟨(UpF.refl _ _).below hb,fun j _=>List.Perm.refl _,fun j _ h=>absurd h (by omega),fun j h _=>Z1B (hr j h) hb⟩
theorem Swi.below {w wi w2:World} {ps:List Sh} {qs:Nat->Ptr} {Fs Fs':Nat->List Nat} {i:Nat} (h:Swi w wi ps qs Fs Fs' i) (hb:Below wi.heap.size wi w2):Swi w w2 ps qs Fs Fs' i:=
 ⟨h.up.below hb,h.pm,fun j hj hl=>Z1B (h.lo j hj hl) hb,fun j hj hl=>Z1B (h.hi j hj hl) hb⟩
theorem Swi.step {w wi w2:World} {ps:List Sh} {qs:Nat->Ptr} {Fs Fs':Nat->List Nat} {i:Nat} {F':List Nat} (h:Swi w wi ps qs Fs Fs' i) (hi:i < ps.length)
 (hdis: ∀i j,i < ps.length->j < ps.length->i≠j-> ∀b∈Fs i,b∉Fs j) (hu:UpF (Fs' i) wi w2) (hp:F'.Perm (Fs' i)) (ho:Own w2 (qs i) (sorted (ps[i]'hi)) F'): ∃Fs2,Swi w w2 ps qs Fs Fs2 (i+1):=by
 have hfar: ∀j,j < ps.length->j≠i-> ∀b∈Fs' j,b∉Fs' i:=fun j hj hne b hb hb2=>
  hdis j i hj hi hne b ((h.pm j hj).mem_iff.1 hb) ((h.pm i hi).mem_iff.1 hb2)
 refine ⟨fun j=>if j=i then F' else Fs' j,h.up.next hu (fun x hx=>List.mem_flatMap.2 ⟨i,List.mem_range.2 hi,(h.pm i hi).mem_iff.1 hx⟩),fun j hj=> ?_,fun j hj hl=> ?_,fun j hj hl=> ?_⟩
 {by_cases e:j=i
  {subst e; simp only[if_true]; exact hp.trans (h.pm j hj)}
  {simp only[if_neg e]; exact h.pm j hj}}
 {by_cases e:j=i
  {subst e; simp only[if_true]; exact ho}
  {simp only[if_neg e];have ho2:=h.lo j hj (by omega);exact ho2.of (fun b hb=>hu.same (ho2.lt b hb) (hfar j hj e b hb)) hu.size}}
 {have e:j≠i:=by omega
  simp only[if_neg e];have ho2:=h.hi j hj (by omega);exact ho2.of (fun b hb=>hu.same (ho2.lt b hb) (hfar j hj e b hb)) hu.size}
def half (t:Sh):Sh:=⟨t.kind,t.of_,t.name,t.names,t.parts.map sorted⟩
theorem Z4B {t:Sh} {q:Ptr} (h:Small t q):Small (half t) q:=by
 obtain ⟨h1,h2,h3,h4,h5,h6,h7,h8,h9⟩:=h;exact ⟨h1,h2,h3,h4,by simpa[half] using h5,h6,by simpa[half] using h7,h8,h9⟩
theorem Swi.halfs {w wi:World} {t:Sh} {qs:Nat->Ptr} {Fs Fs':Nat->List Nat} (h:Swi w wi t.parts qs Fs Fs' t.parts.length): ∀i (hi:i < (half t).parts.length),Own wi (qs i) ((half t).parts[i]'hi) (Fs' i):=fun i hi=>by
 have hi2:i < t.parts.length:=by simpa[half] using hi
 have:=h.lo i hi2 hi2;simpa[half] using this
theorem Z56 {n:Nat} {Fs Fs':Nat->List Nat} (h: ∀j,j < n->(Fs' j).Perm (Fs j)): ((List.range n).flatMap Fs').Perm ((List.range n).flatMap Fs):=by
 induction n with
 | zero=>exact List.Perm.refl _
 | succ n ih=>
  rw[List.range_succ,List.flatMap_append,List.flatMap_append];refine (ih fun j hj=>h j (by omega)).append ?_;simpa using h n (by omega)
theorem Z9e {w wi w2:World} {t:Sh} {q:Ptr} {FN FP:List Nat} {qs:Nat->Ptr} {Fs Fs':Nat->List Nat} (hr:right t=true) (hs:Small t q) (h0:t.names.length=0)
 (hn:t.names.length=0/\FN= []\/ ∃b,q.A=some ⟨b,0,none⟩/\FN= [b]/\TxR w b t.names) (hp:t.parts.length=0/\FP= []\/ ∃b,q.P=some ⟨b,0,none⟩/\FP= [b]/\PaR w b t.parts qs)
 (hnd: (FN++FP++(List.range t.parts.length).flatMap Fs).Nodup) (h:Swi w wi t.parts qs Fs Fs' t.parts.length) (hb:Below wi.heap.size wi w2):
 UpF (FN++FP++(List.range t.parts.length).flatMap Fs) w w2/\ ∃F',F'.Perm (FN++FP++(List.range t.parts.length).flatMap Fs)/\Own w2 q (sorted t) F':=by
 have h2:=h.below hb;obtain ⟨n1,n2,n3,_,_⟩:=Z2B hnd;have hU:UpF (FN++FP++(List.range t.parts.length).flatMap Fs) w w2:=(UpF.refl _ w).next h2.up (fun x hx=>List.mem_append_right _ hx);have hnil:t.names= []:=List.eq_nil_of_length_eq_zero h0;have hso:sorted t=half t:=by rw[Z0k,if_pos hnil]; unfold half; rw[hnil]
 have hin: ∀b∈FP,b∉(List.range t.parts.length).flatMap Fs:=fun b hb hb2=>by
  obtain ⟨j,hj,hb2⟩:=List.mem_flatMap.1 hb2;exact n3 b hb j (List.mem_range.1 hj) hb2
 have hin2: ∀b∈FN,b∉(List.range t.parts.length).flatMap Fs:=fun b hb hb2=>by
  obtain ⟨j,hj,hb2⟩:=List.mem_flatMap.1 hb2;exact n2 b hb j (List.mem_range.1 hj) hb2
 refine ⟨hU,FN++FP++(List.range t.parts.length).flatMap Fs',(Z56 h2.pm).append_left _, ?_⟩;rw[hso];refine .mk q _ _ FN FP qs Fs' (Z4B hs) ?_ ?_ (Swi.halfs h2) (by simp[half])
 {rcases hn with h | ⟨b,h1,rfl,h3⟩
  {exact Or.inl h}
  {exact Or.inr ⟨b,h1,rfl,h3.of (h2.up.same h3.lt (hin2 b (by simp))) h2.up.size⟩}}
 {rcases hp with h | ⟨b,h1,rfl,h3⟩
  {exact Or.inl (by simpa[half] using h)}
  {refine Or.inr ⟨b,h1,rfl,Nat.lt_of_lt_of_le h3.lt h2.up.size,fun i hi=> ?_,fun k=>((h2.up.same h3.lt (hin b (by simp))).2 k).trans (h3.fz k)⟩;have hi2:i < t.parts.length:=by simpa[half] using hi
   have hm:t.parts[i]∈t.parts:=List.getElem_mem hi2;have:=Z4u (Z04 hr hm) ((h3.at_ i hi2).of (h2.up.same h3.lt (hin b (by simp))).1);simpa[half] using this}}
theorem Z9f {t:Sh} (hl:t.names.length=t.parts.length) (qs:Nat->Ptr) (Fs:Nat->List Nat): (els t qs Fs).toList.map (fun x=>((x.n,x.t):Fld))=t.names.zip t.parts:=by
 apply List.ext_getElem
 {simp[els,hl]}
 {intro i h1 h2;have h3:i < t.names.length:=by simpa[els] using h1
  have h4:i < t.parts.length:=by omega
  simp[els,h3,h4]}
theorem Z9g {w wi:World} {t:Sh} {q:Ptr} {FN FP:List Nat} {qs:Nat->Ptr} {Fs Fs':Nat->List Nat} (hr:right t=true) (hs:Small t q) (h0:t.names.length≠0)
 (hn:t.names.length=0/\FN= []\/ ∃b,q.A=some ⟨b,0,none⟩/\FN= [b]/\TxR w b t.names) (hp:t.parts.length=0/\FP= []\/ ∃b,q.P=some ⟨b,0,none⟩/\FP= [b]/\PaR w b t.parts qs)
 (hnd: (FN++FP++(List.range t.parts.length).flatMap Fs).Nodup) (h:Swi w wi t.parts qs Fs Fs' t.parts.length):
 ∃bn bp,q.A=some ⟨bn,0,none⟩/\q.P=some ⟨bp,0,none⟩/\(half t).names.length=(half t).parts.length/\TxR wi bn (half t).names/\PaR wi bp (half t).parts qs/\bn≠bp/\
  ∀(d':Array El) (w2:World),PermIn 0 (half t).names.length (els (half t) qs Fs') d'->SortedIn ltEl 0 (half t).names.length d'->FSt wi bn bp (half t).names.length d' w2->
   UpF (FN++FP++(List.range t.parts.length).flatMap Fs) w w2/\ ∃F',F'.Perm (FN++FP++(List.range t.parts.length).flatMap Fs)/\Own w2 q (sorted t) F':=by
 obtain ⟨hl,hnn⟩:=(Z28 hr).resolve_left (fun e=>h0 (by rw[e]; rfl));rcases hn with ⟨hn,_⟩ | ⟨bn,hA,rfl,hT⟩
 {omega}
 rcases hp with ⟨hp,_⟩ | ⟨bp,hP,rfl,hPa⟩
 {omega}
 obtain ⟨n1,n2,n3,_,_⟩:=Z2B hnd;have hbnp:bn≠bp:=fun e=>n1 bn (by simp) (by simp[e]);have hinP:bp∉(List.range t.parts.length).flatMap Fs:=fun hb2=>by
  obtain ⟨j,hj,hb2⟩:=List.mem_flatMap.1 hb2;exact n3 bp (by simp) j (List.mem_range.1 hj) hb2
 have hinN:bn∉(List.range t.parts.length).flatMap Fs:=fun hb2=>by
  obtain ⟨j,hj,hb2⟩:=List.mem_flatMap.1 hb2;exact n2 bn (by simp) j (List.mem_range.1 hj) hb2
 have hlh: (half t).names.length=(half t).parts.length:=by simpa[half] using hl
 refine ⟨bn,bp,hA,hP,hlh,hT.of (h.up.same hT.lt hinN) h.up.size,⟨Nat.lt_of_lt_of_le hPa.lt h.up.size,fun i hi=> ?_,fun k=>((h.up.same hPa.lt hinP).2 k).trans (hPa.fz k)⟩,hbnp, ?_⟩
 {have hi2:i < t.parts.length:=by simpa[half] using hi
  have hm:t.parts[i]∈t.parts:=List.getElem_mem hi2;have:=Z4u (Z04 hr hm) ((hPa.at_ i hi2).of (h.up.same hPa.lt hinP).1);simpa[half] using this}
 {intro d' w2 hpm hso hf;have hpl:=Z7U hpm (Z35 _ _ _);have hown: ∀i (hi:i < (half t).parts.length),Own w2 (qs i) ((half t).parts[i]'hi) (Fs' i):=fun i hi=>by
   have hi2:i < t.parts.length:=by simpa[half] using hi
   have ho:=h.halfs i hi;refine ho.of (fun b hb=> ?_) hf.up.size;have hbF:b∈Fs i:=(h.pm i hi2).mem_iff.1 hb;have hb1:b≠bn:=fun e=>n2 bn (by simp) i hi2 (e▸hbF);have hb2:b≠bp:=fun e=>n3 bp (by simp) i hi2 (e▸hbF);have hbl:=hf.up.block b (ho.lt b hb) hb1 hb2;exact ⟨fun k=>World.cell?_of_block (w:=wi) hbl,fun k=>World.frozen?_of_block (w:=wi) hbl⟩
  obtain ⟨o1,o2⟩:=Z9O (N:=(half t).names.length) hA hP (Z4B hs) rfl hlh.symm hf hpl hown;have hsorted:sorted t=⟨(half t).kind,(half t).of_,(half t).name,d'.toList.map El.n,d'.toList.map El.t⟩:=by
   have hfst: (t.names.zip (t.parts.map sorted)).map Prod.fst=t.names:=List.map_fst_zip (by rw[List.length_map,hl]; exact Nat.le_refl _);have hu: (d'.toList.map fun x=>((x.n,x.t):Fld))=sortF (t.names.zip (t.parts.map sorted)):=by
    refine Z1F ?_ (Z5I hso hf.size) (by rw[hfst]; exact hnn);have:=hpl.map (fun x=>((x.n,x.t):Fld))
    rwa [Z9f hlh] at this
   rw[Z0k,if_neg (fun e=>h0 (by rw[e]; rfl)), <-hu];simp[half,List.map_map,Function.comp_def]
  refine ⟨?_,_, ?_,by rw[hsorted]; exact o1⟩
  {have hU1:UpF ([bn]++ [bp]++(List.range t.parts.length).flatMap Fs) w wi:=(UpF.refl _ w).next h.up (fun x hx=>List.mem_append_right _ hx);exact hU1.next (hf.up.upF (F:= [bn]++ [bp]) (by simp) (by simp)) (fun x hx=>List.mem_append_left _ hx)}
  {refine o2.trans ?_;have:=(Z56 h.pm).append_left ([bn]++ [bp]);simpa[half] using this}}
theorem Box5.same {W W':World} {g:Nat} {t:Sh} {q:Ptr} (h:Box5 W g t q) (hs:Z0J W W' g) (hz:W.heap.size<=W'.heap.size):Box5 W' g t q:=by
 obtain ⟨h0,h1,f0,f1,f2,f3,f4⟩:=h;exact ⟨Nat.lt_of_lt_of_le h0 hz,h1.of hs.1,(hs.2 _).trans f0,(hs.2 _).trans f1,(hs.2 _).trans f2,(hs.2 _).trans f3,(hs.2 _).trans f4⟩
theorem Swi.box {w wi:World} {t:Sh} {q:Ptr} {qs:Nat->Ptr} {Fs Fs':Nat->List Nat} {i g:Nat} (h:Swi w wi t.parts qs Fs Fs' i) (hb:Box5 w g t q) (hg:g∉(List.range t.parts.length).flatMap Fs):Box5 wi g t q:=
 hb.same (h.up.same hb.1 hg) h.up.size
theorem Z4C (t:Sh): ∀(q:Ptr) (F:List Nat) (w:World),Own w q t F->F.Nodup->right t=true->size t<=400->
 Calls Tryz.prog 78 #[.agg (Y8 t q)] w
  fun e w'=>e= .returned (.tuple #[])/\UpF F w w'/\ ∃F',F'.Perm F/\Own w' q (sorted t) F':=by
 induction t using Sh.ind with
 | h t ih=>
 intro q F w hO hnd hr hz;have hb0:=Z01 w (.cells (Y8 t q) 25);have HB:=Y1 (Z02 w t q);have HM:=Y1 hO.small;have hlt:=hO.lt;obtain ⟨FN,FP,qs,Fs,hn,hp,hrr,rfl⟩:=(Z1B hO hb0).inv;obtain ⟨n1,n2,n3,n4,n5⟩:=Z2B hnd;have hg:w.heap.size∉(List.range t.parts.length).flatMap Fs:=fun hm=>by
  have:=hlt w.heap.size (List.mem_append_right _ hm);omega
 have HG:=Y1 hg;have HS0:=Y1 (Swi.start hrr Y2);have HN:=Y1 hn;have HP:=Y1 hp;have HND:=Y1 hnd;have HD:=Y1 n5;have HN4:=Y1 n4;have HN3:=Y1 n3;have HR:=Y1 hr;have HZ:Hid (size t=1+sizes t.parts):=Y1 (size_eq t);have HB0:=Y1 hb0;have hlen:=Z0O t.parts;have hpl:t.parts.length<=400:=by have:=HZ.out; omega
 clear hb0 hO hlt hn hp hrr hnd n1 n2 n3 n4 n5 hr hg hlen;go_enter Tryz.func78,Tryz.ntmps78
 go_wp2_with fail
 generalize w.alloc (.cells (Y8 t q) 25)=W0 at HB HS0 HN HP HB0 ⊢
 go_loopw [7] (fun ii wr=> ∃i:Nat,ii= .int .i64 i/\i<=t.parts.length/\Hid (∃Fs',Swi W0 wr t.parts qs Fs Fs' i)) (fun i _=>t.parts.length - (intOf i).toNat)
 case atStart=>exact ⟨0,rfl,Nat.zero_le _,Y1 ⟨_,HS0.out⟩⟩
 case round=>
  obtain ⟨i,rfl,hi,HSW⟩:=hrel;by_cases hlt:i < t.parts.length
  {obtain ⟨Fs',hsw⟩:=HSW.out;rcases HP.out with ⟨h0,_⟩ | ⟨bp,hqP,hFP,hPa⟩
   {omega}
   {obtain ⟨x,hx⟩: ∃x,x=t.parts[i]:=⟨_,rfl⟩;have hxr:right x=true:=by rw[hx]; exact Z04 HR.out (List.getElem_mem _)
    have hxz:size x<=400:=by
     have:=Z1z (List.getElem_mem hlt);have:=HZ.out;rw[hx]; omega
    have hinP:bp∉(List.range t.parts.length).flatMap Fs:=fun hb2=>by
     obtain ⟨j,hj,hb2⟩:=List.mem_flatMap.1 hb2;exact HN3.out bp (by rw[hFP]; simp) j (List.mem_range.1 hj) hb2
    obtain ⟨p0,p1,p2,p3,p4⟩:=(hPa.at_ i hlt).of (hsw.up.same hPa.lt hinP).1;have hbx:=Z01 wr (.cells (Y8 x (qs i)) 25);have hsw2:=hsw.below hbx;have hox:=hsw2.hi i hlt (Nat.le_refl _);rw[<-hx] at p0 p1 p2 p3 p4 hox;have IH:=Y1 (ih t.parts[i] (List.getElem_mem _) (qs i) (Fs' i) (wr.alloc (.cells (Y8 x (qs i)) 25)) (by rw[<-hx]; exact hox) (((hsw.pm i hlt).nodup_iff).2 (HN4.out i hlt)) (by rw[<-hx]; exact hxr) (by rw[<-hx]; exact hxz));rw[<-hx] at IH;have HX:=Y1 hx;have HSW2:=Y1 hsw2;clear hx hsw hsw2 hox hbx hinP hPa hFP hxr hxz ih HSW;have hi1: (i:Int) < (t.parts.length:Int):=by omega
    rw[hqP];clear hqP
    go_wp2_with fail
    refine IH.out.mono ?_;rintro e w2 ⟨rfl,hu,F',hF',ho'⟩;have HS3:Hid (∃Fs2,Swi W0 w2 t.parts qs Fs Fs2 (i+1)):=Y1 (HSW2.out.step hlt HD.out hu hF' (by rw[<-HX.out]; exact ho'));clear hu hF' ho' IH HSW2;go_wp2
    go_roundw
    case rel=>exact ⟨i+1,by go_num,by omega,HS3⟩
    case measure=>simp[intOf]; omega}}
  {obtain ⟨Fs',hsw⟩:=HSW.out;have hie:i=t.parts.length:=by omega
   subst hie;have hi1: ¬(t.parts.length:Int) < (t.parts.length:Int):=by omega
   obtain ⟨_,⟨b0,b1,b2,b3,b4⟩,_⟩:=hsw.box HB.out HG.out;have HSW3:=Y1 hsw;clear hsw HSW hlt
   go_wp2_with fail
   by_cases h0:t.names.length=0
   {refine (Z6K t q wr h0).mono ?_;rintro e w2 ⟨rfl,hb2⟩;obtain ⟨r1,r2⟩:=Z9e HR.out HM.out h0 HN.out HP.out HND.out HSW3.out hb2;have HR1:=Y1 (((UpF.refl _ w).below HB0.out).next r1 (fun x hx=>hx));have HR2:=Y1 r2;clear r1 r2 hb2 HSW3;go_wp2
    go_end0
    exact ⟨rfl,HR1.out,HR2.out⟩}
   {obtain ⟨bn,bp,hA,hP,hl,hT,hPa,hne,hall⟩:=Z9g HR.out HM.out h0 HN.out HP.out HND.out HSW3.out;have hw:=Z7T (half t) q qs Fs' bn bp wr hA hP hl (by
     have: (half t).parts.length=t.parts.length:=by simp[half]
     omega) hT hPa hne
    have hkk: (half t).parts.length=t.parts.length:=by simp[half]
    have e1: (half t).kind=t.kind:=rfl;have e2: (half t).of_=t.of_:=rfl;have e3: (half t).name=t.name:=rfl;have e4: (half t).names.length=t.names.length:=rfl;rw[hkk,e1,e2,e3,e4] at hw;refine hw.mono ?_;rintro e w2 ⟨rfl,d',hpm,hso,hf⟩;obtain ⟨r1,r2⟩:=hall d' w2 hpm hso hf;have HR1:=Y1 (((UpF.refl _ w).below HB0.out).next r1 (fun x hx=>hx));have HR2:=Y1 r2;clear r1 r2 hpm hso hf hw hall HSW3 hA hP hl hT hPa hne hkk e1 e2 e3 e4;go_wp2
    go_end0
    exact ⟨rfl,HR1.out,HR2.out⟩}}
end
section
open Go.RowKit
def wordsC:Array Value:=#[.string ⟨#[]⟩,.string ⟨#[73,110,116]⟩,.string ⟨#[66,111,111,108]⟩,.string ⟨#[84,101,120,116]⟩,.string ⟨#[65,110,121]⟩]
theorem Z4a:Tryz.prog.globalNamed "pandect/shape.words" =some 0:=by kernel_rfl
def WGlobs (w:World):Prop:=w.var? Tryz.prog "pandect/shape.words" =some wordsC
theorem WGlobs.cell {w:World} (h:WGlobs w) (i:Nat):w.cell? ⟨0,i,none⟩=wordsC[i]? :=World.var?_cell Z4a h i
theorem WGlobs.lt {w:World} (h:WGlobs w):0 < w.heap.size:=Z31 ((WGlobs.cell h 0).trans (by rfl:wordsC[0]? =some (.string ⟨#[]⟩)))
theorem WGlobs.next {w w':World} (h:WGlobs w) (hb:Below w.heap.size w w'):WGlobs w':=var?_below hb Z4a (WGlobs.lt h) h
theorem Z3i {P:Program} {w:World}: ∀ {l:List (String×DataW Unit)} {ps:List MemPlace},DataW.LaidVars P w l ps-> ∀x∈l,
 ∃g t cs fuel p,P.globalNamed x.1=some g/\(P.globals[g]?).map (·.type)=some t/\w.var? P x.1=some cs/\DataW.trod (fun _=>()) P w 0 (fun _=>true) false fuel t cs.toList=some (x.2,p)
 | [],_,_,x,hx=>by simp at hx
 | (n,d)::r,ps,h,x,hx=>by
  obtain ⟨g,t,cs,fuel,p,q,h1,h2,h3,h4,h5,_⟩:=h;rcases List.mem_cons.1 hx with rfl | hx
  {exact ⟨g,t,cs,fuel,p,h1,h2,h3,h4⟩}
  {exact Z3i h5 x hx}
theorem Z22 {L:List (String×DataW Unit)} {W:World} (h:laidMet Tryz.prog L W) (m4: ("pandect/shape.words",Rows.laid_pandect_shape_words)∈L):WGlobs W:=by
 unfold WGlobs;obtain ⟨ps,hv,_,_⟩:=h;obtain ⟨g1,t1,cs,f1,p1,a1,b1,c1,d1⟩:=Z3i hv _ m4;obtain rfl:=Option.some.inj (Z4a.symm.trans a1);have ht: (Tryz.prog.globals[0]?).map (·.type)=some 114:=by kernel_rfl
 obtain rfl:=Option.some.inj (ht.symm.trans b1);rw[c1];congr 1;have hc1:Tryz.prog.cellsOf 9=1:=by kernel_rfl
 obtain ⟨xs,m,_,hx,hsz,hl,he⟩:=DataW.trod_array Tryz.underlying114 d1;rw[hc1] at he;have hc6:Tryz.prog.cellsOf 114=5:=by kernel_rfl
 rw[hc6] at hsz;have hx1:=(Prod.mk.inj hx).1;apply Array.ext'
 match xs,hl,hx1 with
 | [y0,y1,y2,y3,y4],_,hx1=>
  obtain ⟨L,hL⟩: ∃L,L=cs.toList:=⟨_,rfl⟩;rw[<-hL] at hsz he ⊢;clear hL
  match L,hsz with
  | [k0,k1,k2,k3,k4],_=>
   have e0:=he 0 (by omega);have e1:=he 1 (by omega);have e2:=he 2 (by omega);have e3:=he 3 (by omega);have e4:=he 4 (by omega);simp only[List.getElem?_cons_zero,List.getElem?_cons_succ,Nat.mul_one,List.drop_zero,List.drop_succ_cons,List.take_succ_cons,List.take_zero] at e0 e1 e2 e3 e4;obtain ⟨x0,h0,rfl,_⟩:=DataW.trod_string Tryz.underlying9 e0;obtain ⟨x1,h1,rfl,_⟩:=DataW.trod_string Tryz.underlying9 e1;obtain ⟨x2,h2,rfl,_⟩:=DataW.trod_string Tryz.underlying9 e2;obtain ⟨x3,h3,rfl,_⟩:=DataW.trod_string Tryz.underlying9 e3;obtain ⟨x4,h4,rfl,_⟩:=DataW.trod_string Tryz.underlying9 e4;simp at h0 h1 h2 h3 h4;simp[Rows.laid_pandect_shape_words] at hx1;obtain ⟨z0,z1,z2,z3,z4⟩:=hx1;have key: ∀(x:ByteArray) (l:List UInt8),l=x.data.toList->x=⟨l.toArray⟩:=fun x l h=>by rw[h]
   rw[h0,h1,h2,h3,h4];have k0:=key x0 [] (by simp[z0]);have k1:=key x1 [73,110,116] (by simp[<-z1]);have k2:=key x2 [66,111,111,108] (by simp[<-z2]);have k3:=key x3 [84,101,120,116] (by simp[<-z3]);have k4:=key x4 [65,110,121] (by simp[<-z4]);rw[k0,k1,k2,k3,k4]; rfl
end
section
open Go.RowKit Shp
def wordB (s:List UInt8):Bool:= []==s|| [73,110,116]==s|| [66,111,111,108]==s|| [84,101,120,116]==s|| [65,110,121]==s
def NotYet (s:List UInt8) (i:Int):Prop:=((1:Int)<=i->(([]:List UInt8)==s)=false)/\((2:Int)<=i->([73,110,116]==s)=false)/\((3:Int)<=i->([66,111,111,108]==s)=false)/\((4:Int)<=i->([84,101,120,116]==s)=false)/\((5:Int)<=i->([65,110,121]==s)=false)
theorem Z63 (s:List UInt8) (w:World) (hg:WGlobs w):
 Calls Tryz.prog 111 #[.string ⟨s.toArray⟩] w fun e w'=>e= .returned (.bool (wordB s))/\w=w':=by
 have c0:w.cell? ⟨0,0,none⟩=some (.string ⟨#[]⟩):=hg.cell 0;have c1:w.cell? ⟨0,1,none⟩=some (.string ⟨#[73,110,116]⟩):=hg.cell 1;have c2:w.cell? ⟨0,2,none⟩=some (.string ⟨#[66,111,111,108]⟩):=hg.cell 2;have c3:w.cell? ⟨0,3,none⟩=some (.string ⟨#[84,101,120,116]⟩):=hg.cell 3;have c4:w.cell? ⟨0,4,none⟩=some (.string ⟨#[65,110,121]⟩):=hg.cell 4;clear hg;have i0: ∀W,(Instr.index 114 (.agg #[.string ⟨#[]⟩,.string ⟨#[73,110,116]⟩,.string ⟨#[66,111,111,108]⟩,.string ⟨#[84,101,120,116]⟩,.string ⟨#[65,110,121]⟩]) (.int .i64 0)).run Tryz.prog W= .ok (.string ⟨#[]⟩) W:=fun W=>by kernel_rfl
 have i1: ∀W,(Instr.index 114 (.agg #[.string ⟨#[]⟩,.string ⟨#[73,110,116]⟩,.string ⟨#[66,111,111,108]⟩,.string ⟨#[84,101,120,116]⟩,.string ⟨#[65,110,121]⟩]) (.int .i64 1)).run Tryz.prog W= .ok (.string ⟨#[73,110,116]⟩) W:=fun W=>by kernel_rfl
 have i2: ∀W,(Instr.index 114 (.agg #[.string ⟨#[]⟩,.string ⟨#[73,110,116]⟩,.string ⟨#[66,111,111,108]⟩,.string ⟨#[84,101,120,116]⟩,.string ⟨#[65,110,121]⟩]) (.int .i64 2)).run Tryz.prog W= .ok (.string ⟨#[66,111,111,108]⟩) W:=fun W=>by kernel_rfl
 have i3: ∀W,(Instr.index 114 (.agg #[.string ⟨#[]⟩,.string ⟨#[73,110,116]⟩,.string ⟨#[66,111,111,108]⟩,.string ⟨#[84,101,120,116]⟩,.string ⟨#[65,110,121]⟩]) (.int .i64 3)).run Tryz.prog W= .ok (.string ⟨#[84,101,120,116]⟩) W:=fun W=>by kernel_rfl
 have i4: ∀W,(Instr.index 114 (.agg #[.string ⟨#[]⟩,.string ⟨#[73,110,116]⟩,.string ⟨#[66,111,111,108]⟩,.string ⟨#[84,101,120,116]⟩,.string ⟨#[65,110,121]⟩]) (.int .i64 4)).run Tryz.prog W= .ok (.string ⟨#[65,110,121]⟩) W:=fun W=>by kernel_rfl
 go_enter Tryz.func111,Tryz.ntmps111
 go_wp2_with fail
 go_loopw [6] (fun ii wr=> ∃i:Int,ii= .int .i64 i/\0<=i/\i<=5/\Hid (NotYet s i)/\w=wr)
  (fun i _=>(5 - intOf i).toNat)
 case atStart=>exact ⟨0,rfl,by omega,by omega,Y1 ⟨fun h=>absurd h (by omega),fun h=>absurd h (by omega),fun h=>absurd h (by omega),fun h=>absurd h (by omega),fun h=>absurd h (by omega)⟩,rfl⟩
 case round=>
  obtain ⟨i,rfl,hi0,hi,HN,rfl⟩:=hrel;clear c0 c1 c2 c3 c4;have hc:i=0\/i=1\/i=2\/i=3\/i=4\/i=5:=by omega
  rcases hc with rfl | rfl | rfl | rfl | rfl | rfl
  {cases hq: (([]:List UInt8)==s)
   {have HN2:Hid (NotYet s 1):=Y1 (show ((1:Int)<=1->(([]:List UInt8)==s)=false)/\((2:Int)<=1->([73,110,116]==s)=false)/\((3:Int)<=1->([66,111,111,108]==s)=false)/\((4:Int)<=1->([84,101,120,116]==s)=false)/\((5:Int)<=1->([65,110,121]==s)=false) from ⟨fun _=>hq,fun h=>absurd h (by omega),fun h=>absurd h (by omega),fun h=>absurd h (by omega),fun h=>absurd h (by omega)⟩);have hqe:s.isEmpty=false:=by cases s <;> simp_all
    go_wp2
    go_roundw
    case rel=>exact ⟨1,rfl,by omega,by omega,HN2,trivial⟩
    case measure=>simp[intOf]}
   {have HF:Hid (wordB s=true):=Y1 (by unfold wordB; rw[hq]; simp);have hqe:s.isEmpty=true:=by cases s <;> simp_all
    go_wp2;go_ret;exact ⟨by rw[HF.out]; rfl,rfl⟩}}
  {cases hq: ([73,110,116]==s)
   {have HN2:Hid (NotYet s 2):=Y1 (show ((1:Int)<=2->(([]:List UInt8)==s)=false)/\((2:Int)<=2->([73,110,116]==s)=false)/\((3:Int)<=2->([66,111,111,108]==s)=false)/\((4:Int)<=2->([84,101,120,116]==s)=false)/\((5:Int)<=2->([65,110,121]==s)=false) from ⟨fun _=>HN.out.1 (by omega),fun _=>hq,fun h=>absurd h (by omega),fun h=>absurd h (by omega),fun h=>absurd h (by omega)⟩);go_wp2
    go_roundw
    case rel=>exact ⟨2,rfl,by omega,by omega,HN2,trivial⟩
    case measure=>simp[intOf]}
   {have HF:Hid (wordB s=true):=Y1 (by unfold wordB; rw[hq]; simp);go_wp2;go_ret;exact ⟨by rw[HF.out]; rfl,rfl⟩}}
  {cases hq: ([66,111,111,108]==s)
   {have HN2:Hid (NotYet s 3):=Y1 (show ((1:Int)<=3->(([]:List UInt8)==s)=false)/\((2:Int)<=3->([73,110,116]==s)=false)/\((3:Int)<=3->([66,111,111,108]==s)=false)/\((4:Int)<=3->([84,101,120,116]==s)=false)/\((5:Int)<=3->([65,110,121]==s)=false) from ⟨fun _=>HN.out.1 (by omega),fun _=>HN.out.2.1 (by omega),fun _=>hq,fun h=>absurd h (by omega),fun h=>absurd h (by omega)⟩);go_wp2
    go_roundw
    case rel=>exact ⟨3,rfl,by omega,by omega,HN2,trivial⟩
    case measure=>simp[intOf]}
   {have HF:Hid (wordB s=true):=Y1 (by unfold wordB; rw[hq]; simp);go_wp2;go_ret;exact ⟨by rw[HF.out]; rfl,rfl⟩}}
  {cases hq: ([84,101,120,116]==s)
   {have HN2:Hid (NotYet s 4):=Y1 (show ((1:Int)<=4->(([]:List UInt8)==s)=false)/\((2:Int)<=4->([73,110,116]==s)=false)/\((3:Int)<=4->([66,111,111,108]==s)=false)/\((4:Int)<=4->([84,101,120,116]==s)=false)/\((5:Int)<=4->([65,110,121]==s)=false) from ⟨fun _=>HN.out.1 (by omega),fun _=>HN.out.2.1 (by omega),fun _=>HN.out.2.2.1 (by omega),fun _=>hq,fun h=>absurd h (by omega)⟩);go_wp2
    go_roundw
    case rel=>exact ⟨4,rfl,by omega,by omega,HN2,trivial⟩
    case measure=>simp[intOf]}
   {have HF:Hid (wordB s=true):=Y1 (by unfold wordB; rw[hq]; simp);go_wp2;go_ret;exact ⟨by rw[HF.out]; rfl,rfl⟩}}
  {cases hq: ([65,110,121]==s)
   {have HN2:Hid (NotYet s 5):=Y1 (show ((1:Int)<=5->(([]:List UInt8)==s)=false)/\((2:Int)<=5->([73,110,116]==s)=false)/\((3:Int)<=5->([66,111,111,108]==s)=false)/\((4:Int)<=5->([84,101,120,116]==s)=false)/\((5:Int)<=5->([65,110,121]==s)=false) from ⟨fun _=>HN.out.1 (by omega),fun _=>HN.out.2.1 (by omega),fun _=>HN.out.2.2.1 (by omega),fun _=>HN.out.2.2.2.1 (by omega),fun _=>hq⟩);go_wp2
    go_roundw
    case rel=>exact ⟨5,rfl,by omega,by omega,HN2,trivial⟩
    case measure=>simp[intOf]}
   {have HF:Hid (wordB s=true):=Y1 (by unfold wordB; rw[hq]; simp);go_wp2;go_ret;exact ⟨by rw[HF.out]; rfl,rfl⟩}}
  {have HF:Hid (wordB s=false):=Y1 (by
    unfold wordB;obtain ⟨h0,h1,h2,h3,h4⟩:=HN.out;rw[h0 (by omega),h1 (by omega),h2 (by omega),h3 (by omega),h4 (by omega)]; rfl)
   go_wp2;go_ret;exact ⟨by rw[HF.out]; rfl,rfl⟩}
theorem Z1H {l:List UInt8} {b:Bool} (h: (l== [])=b):l.isEmpty=b:=by cases l <;> simp_all
theorem Z23 {l:List (List UInt8)}: ((l.length:Int)==0)=decide (l.length=0):=by rw[Bool.eq_iff_iff]; simp
theorem ZaV (t:Sh) (q:Ptr) (w:World) (hq:ShAt w w.heap.size q t) (hk:t.kind=9\/t.kind=10):
 Calls Tryz.prog 72 #[.agg (Y8 t q)] w
  fun e w'=>e= .returned (.bool (fits t))/\Below w.heap.size w w':=by
 have HS:=Y1 hq.small;have hB:=Z02 w t q;have HB:=Y1 hB;have hb0:=Z01 w (.cells (Y8 t q) 25);have HB0:=Y1 hb0;have HF:=Y1 (Z3s hk);have HO:Hid (ofOk t=(Lex.isName t.of_||(t.of_== []&&decide (t.kind=9)&& !plain t.name))):=Y1 rfl;have HPL:Hid (plain t.name=(t.name== [73,110,116]||t.name== [66,111,111,108]||t.name== [84,101,120,116]||t.name== [65,110,121])):=Y1 rfl;obtain ⟨h9,h10⟩: ((t.kind==9)=true\/(t.kind==9)=false/\(t.kind==10)=true)/\True:=⟨by rcases hk with h | h <;> simp[h],trivial⟩;have HD9:Hid (decide (t.kind=9)=(t.kind==9)):=Y1 (by rw[Bool.eq_iff_iff]; simp);clear hB hb0 hq h10 hk;rcases h9 with h9 | ⟨h9,h10⟩
 all_goals
  have H9:=Y1 h9;go_enter Tryz.func72,Tryz.ntmps72
  go_upto_region 1 with fail
  generalize hW0:w.alloc (.cells (Y8 t q) 25)=W0 at HB HB0 ⊢;clear hW0;obtain ⟨_,⟨c0,c1,c2,c3,c4⟩,_⟩:=HB.out
  go_upto_region 2 with fail
  go_cut [3] (fun p wx=>p= .bool (plain t.name)/\W0=wx)
  case first=>
   cases e1: (t.name== [73,110,116])
   {cases e2: (t.name== [66,111,111,108])
    {cases e3: (t.name== [84,101,120,116])
     {cases e4: (t.name== [65,110,121])
      all_goals
       have HE:Hid _:=Y1 (show plain t.name=_ from by rw[HPL.out,e1,e2,e3,e4])
       go_wp2_with fail
       go_meet
       exact ⟨by rw[HE.out]; rfl,rfl⟩}
     {have HE:Hid _:=Y1 (show plain t.name=_ from by rw[HPL.out,e1,e2,e3])
      go_wp2_with fail
      go_meet
      exact ⟨by rw[HE.out]; rfl,rfl⟩}}
    {have HE:Hid _:=Y1 (show plain t.name=_ from by rw[HPL.out,e1,e2])
     go_wp2_with fail
     go_meet
     exact ⟨by rw[HE.out]; rfl,rfl⟩}}
   {have HE:Hid _:=Y1 (show plain t.name=_ from by rw[HPL.out,e1])
    go_wp2_with fail
    go_meet
    exact ⟨by rw[HE.out]; rfl,rfl⟩}
  case rest=>
   obtain ⟨rfl,rfl⟩:=hcut;have hlo:=HS.out.o;have hln:=HS.out.n;generalize plain t.name=pl at HO ⊢
   go_upto_region 3 with fail
   go_cut [4] (fun o wx=>o= .bool (ofOk t)/\Below W0.heap.size W0 wx)
   case first=>
    have hw:=ZaH t.of_ hlo W0;have hblk:=HB.out.1;cases hn:Lex.isName t.of_
    {cases ho: (t.of_== [])
     {have HE:Hid (ofOk t=false):=Y1 (by rw[HO.out,hn,ho]; rfl);have hoe:=Z1H ho;rw[hn] at hw;clear hn ho
      go_wp2_with fail
      refine hw.mono ?_;rintro e w' ⟨rfl,hb'⟩;have c1':=(hb'.cell (p:=⟨w.heap.size,1,none⟩) hblk).trans c1
      go_wp2_with fail
      go_meet
      exact ⟨by (first | (rw[HE.out]; done) | (rw[HE.out]; rfl)),hb'⟩}
     {have HE:Hid (ofOk t=((t.kind==9)&& !pl)):=Y1 (by rw[HO.out,hn,ho,HD9.out]; rfl);rw[H9.out] at HE;have hoe:=Z1H ho;rw[hn] at hw;clear hn ho
      go_wp2_with fail
      refine hw.mono ?_;rintro e w' ⟨rfl,hb'⟩;have c1':=(hb'.cell (p:=⟨w.heap.size,1,none⟩) hblk).trans c1;have c0':=(hb'.cell (p:=⟨w.heap.size,0,none⟩) hblk).trans c0
      go_wp2_with fail
      go_meet
      exact ⟨by (first | (rw[HE.out]; done) | (rw[HE.out]; rfl)),hb'⟩}}
    {have HE:Hid (ofOk t=true):=Y1 (by rw[HO.out,hn]; rfl);rw[hn] at hw;clear hn
     go_wp2_with fail
     refine hw.mono ?_;rintro e w' ⟨rfl,hb'⟩
     go_wp2_with fail
     go_meet
     exact ⟨by (first | (rw[HE.out]; done) | (rw[HE.out]; rfl)),hb'⟩}
   case rest=>
    obtain ⟨rfl,hb'⟩:=hcut;have hbw:Below w.heap.size w _:=HB0.out.trans (hb'.mono HB0.out.size);obtain ⟨_,⟨d0,d1,d2,d3,d4⟩,_⟩:=HB.out.next hb';clear c0 c1 c2 c3 c4;have hw:=fun wx=>ZaT t.name hln wx;have hblk:=HB.out.1;generalize ofOk t=ok at HF ⊢;cases hn:Lex.isUpper t.name
    {rw[hn] at HF;simp only[hn] at hw;clear hn
     go_wp2_with fail
     refine (hw _).mono ?_;rintro e w' ⟨rfl,hb2⟩;go_wp2;go_ret;exact ⟨by rw[HF.out]; rfl,hbw.trans (hb2.mono hbw.size)⟩}
    {rw[hn] at HF;simp only[hn] at hw;clear hn;cases ok
     {go_wp2_with fail
      refine (hw _).mono ?_;rintro e w' ⟨rfl,hb2⟩;go_wp2;go_ret;exact ⟨by rw[HF.out]; rfl,hbw.trans (hb2.mono hbw.size)⟩}
     {have HX:=Y1 (HB.out.next hb');cases hz:decide (t.names.length=0)
      {have HF2:=HF;rw[hz] at HF2;have hz2: ((t.names.length:Int)==0)=false:=by rw[Z23]; exact hz
       have HZ:=Y1 hz;clear hz
       go_wp2_with fail
       refine (hw _).mono ?_;rintro e w' ⟨rfl,hb2⟩;obtain ⟨_,⟨e0,e1,e2,e3,e4⟩,_⟩:=HX.out.next hb2;go_wp2;go_ret;exact ⟨by rw[HF2.out]; rfl,hbw.trans (hb2.mono hbw.size)⟩}
      {have HF2:=HF;rw[hz] at HF2;have hz2: ((t.names.length:Int)==0)=true:=by rw[Z23]; exact hz
       clear hz
       go_wp2_with fail
       refine (hw _).mono ?_;rintro e w' ⟨rfl,hb2⟩;obtain ⟨_,⟨e0,e1,e2,e3,e4⟩,_⟩:=HX.out.next hb2;go_wp2;go_ret;exact ⟨Z0w (by rw[HF2.out,Bool.eq_iff_iff]; simp),hbw.trans (hb2.mono hbw.size)⟩}}}
end
end Go.Proofs.YtkhoflciahkphaaGreatDoor
namespace Shp
def nameOk (t:Sh) (wordB:List UInt8->Bool):Bool:=if t.of_= [] then Lex.isUpper t.name&& !wordB t.name else Lex.isName t.of_&&Lex.isUpper t.name
section
variable {t : Sh}
include t
theorem Z8e (h1:1<=t.kind) (h2:t.kind<=4):fits t=(bare t&&decide (t.names.length=0)&&decide (t.parts.length=0)):=by
 cases hb:bare t with
 | false=>rw[Z1e (by omega) hb]; rfl
 | true=>
  by_cases hz:0 < t.names.length
  {rw[Z1X (by omega) hb (by omega) hz,decide_eq_false (p:=t.names.length=0) (by omega)]; rfl}
  {rw[Z3t hb (by omega) (by omega) hz (by omega) (by omega),decide_eq_true h1,decide_eq_true h2,decide_eq_true (p:=t.names.length=0) (by omega)]}
theorem Z8f (h:t.kind=5):fits t=(bare t&&decide (t.names.length=0)&&decide (t.parts.length=1)):=by
 cases hb:bare t with
 | false=>rw[Z1e (by omega) hb]; rfl
 | true=>
  by_cases hz:0 < t.names.length
  {rw[Z1X (by omega) hb (by omega) hz,decide_eq_false (p:=t.names.length=0) (by omega)]; rfl}
  {rw[Z4R hb h hz,decide_eq_true (p:=t.names.length=0) (by omega)]; rfl}
theorem Z9h (h:t.kind=8):fits t=(bare t&&decide (t.names.length=0)&&decide (0 < t.parts.length)):=by
 cases hb:bare t with
 | false=>rw[Z1e (by omega) hb]; rfl
 | true=>
  by_cases hz:0 < t.names.length
  {rw[Z1X (by omega) hb (by omega) hz,decide_eq_false (p:=t.names.length=0) (by omega)]; rfl}
  {rw[Z5s hb h hz,decide_eq_true (p:=t.names.length=0) (by omega)]; rfl}
theorem Z9i (h:t.kind=6\/t.kind=7):fits t=(bare t&&decide (t.names.length=t.parts.length)&&areNames t.names):=by
 cases hb:bare t with
 | false=>rw[Z1e (by omega) hb]; rfl
 | true=>rw[Z2W hb h,Bool.true_and,Bool.and_comm]
theorem Z9j (h:t.kind < 1\/10 < t.kind):fits t=false:=by
 cases hb:bare t with
 | false=>rw[Z1e (by omega) hb]
 | true=>
  by_cases hz:0 < t.names.length
  {rw[Z1X (by omega) hb (by omega) hz]}
  {rw[Z3t hb (by omega) (by omega) hz (by omega) (by omega)];rcases h with h | h
   {rw[decide_eq_false (by omega)]; rfl}
   {rw[decide_eq_false (p:=t.kind<=4) (by omega),Bool.and_false]; rfl}}
theorem Z6Z (h:t.kind=10):fits t=(Lex.isName t.of_&&Lex.isUpper t.name&&decide (t.names.length=0)&&decide (t.parts.length=0)):=by
 rw[Z3s (Or.inr h)];unfold ofOk;rw[h,show decide ((10:Int)=9)=false from rfl,Bool.and_false,Bool.false_and,Bool.or_false,Bool.and_comm (Lex.isUpper t.name)]
end
end Shp
namespace Go.Proofs.YtkhoflciahkphaaGreatDoor
open Go.RowKit Shp
theorem Z9k:Lex.isUpper []=false:=rfl
theorem Z70 {s:List UInt8} (h:Lex.isUpper s=true):wordB s=plain s:=by
 have h0: ([]==s)=false:=by
  cases s with
  | nil=>rw[Z9k] at h; cases h
  | cons a l=>rfl
 have c: ∀a b:List UInt8,(a==b)=(b==a):=fun a b=>by rw[Bool.eq_iff_iff,beq_iff_eq,beq_iff_eq]; exact eq_comm
 unfold wordB plain;rw[h0,Bool.false_or,c [73,110,116],c [66,111,111,108],c [84,101,120,116],c [65,110,121]]
theorem Z8g {t:Sh} (h:t.kind=9):fits t=(nameOk t wordB&&decide (t.names.length=0)&&decide (t.parts.length=0)):=by
 rw[Z3s (Or.inl h)];congr 2;unfold ofOk nameOk;rw[h,show decide ((9:Int)=9)=true from rfl,Bool.and_true];by_cases ho:t.of_= []
 {rw[if_pos ho,ho];cases hu:Lex.isUpper t.name with
  | false=>rfl
  | true=>rw[Z70 hu]; rfl}
 {rw[if_neg ho,show (t.of_== [])=false from beq_eq_false_iff_ne.2 ho,Bool.false_and,Bool.or_false,Bool.and_comm]}
theorem Z3D (t:Sh) (q:Ptr) (w:World):
 Y9 98 #[.agg (Y8 t q)] w (.bool (bare t)):=by
 have HB:Hid (bare t=(t.of_== []&&t.name== [])):=Y1 rfl;have hb0:=Z01 w (.cells (Y8 t q) 25);have HB0:=Y1 hb0;clear hb0;obtain ⟨_,⟨c0,c1,c2,c3,c4⟩,_⟩:=Z02 w t q;cases h1: (t.of_== [])
 {have hoe:=Z1H h1;have HF:Hid (bare t=false):=Y1 (by rw[HB.out,h1]; rfl);clear h1;go_enter Tryz.func98,Tryz.ntmps98;go_wp2;go_ret;exact ⟨by rw[HF.out]; rfl,HB0.out⟩}
 {have hoe:=Z1H h1;cases h2: (t.name== [])
  all_goals
   have hne:=Z1H h2;have HF:Hid _:=Y1 (show bare t=_ from by rw[HB.out,h1,h2]);clear h1 h2;go_enter Tryz.func98,Tryz.ntmps98;go_wp2;go_ret;exact ⟨Z0w (by rw[HF.out]; rfl),HB0.out⟩}
theorem Z71 (t:Sh) (q:Ptr) (w:World) (hs:Small t q) (hg:WGlobs w):
 Y9 100 #[.agg (Y8 t q)] w (.bool (nameOk t wordB)):=by
 have HS:=Y1 hs;have HB:Hid (nameOk t wordB=if t.of_= [] then Lex.isUpper t.name&& !wordB t.name else Lex.isName t.of_&&Lex.isUpper t.name):=Y1 rfl;have hb0:=Z01 w (.cells (Y8 t q) 25);have hu:=fun W=>Z3X t.name HS.out.n W;have hn:=fun W=>Z2c t.of_ HS.out.o W;have hw:=Z63 t.name _ (hg.next hb0);have HB0:=Y1 hb0;clear hb0 hg hs;obtain ⟨_,⟨c0,c1,c2,c3,c4⟩,_⟩:=Z02 w t q;cases h1: (t.of_== [])
 {have hoe:=Z1H h1;have HF:Hid (nameOk t wordB=(Lex.isName t.of_&&Lex.isUpper t.name)):=Y1 (by rw[HB.out,if_neg (by simpa using h1)]);clear h1;cases h2:Lex.isName t.of_
  all_goals
   rw[h2] at HF;simp only[h2] at hn;clear h2;go_enter Tryz.func100,Tryz.ntmps100
   go_wp2_with fail
   refine (hn _).mono ?_;rintro e w' ⟨rfl,rfl⟩
  {go_wp2;go_ret;exact ⟨by rw[HF.out]; rfl,HB0.out⟩}
  {go_wp2_with fail
   refine (hu _).mono ?_;rintro e w' ⟨rfl,rfl⟩;go_wp2;go_ret;exact ⟨Z0w (by rw[HF.out]; rfl),HB0.out⟩}}
 {have hoe:=Z1H h1;have HF:Hid (nameOk t wordB=(Lex.isUpper t.name&& !wordB t.name)):=Y1 (by rw[HB.out,if_pos (by simpa using h1)]);clear h1;cases h2:Lex.isUpper t.name
  all_goals
   rw[h2] at HF;simp only[h2] at hu;clear h2;go_enter Tryz.func100,Tryz.ntmps100
   go_wp2_with fail
   refine (hu _).mono ?_;rintro e w' ⟨rfl,rfl⟩
  {go_wp2;go_ret;exact ⟨by rw[HF.out]; rfl,HB0.out⟩}
  {go_wp2_with fail
   refine hw.mono ?_;rintro e w' ⟨rfl,rfl⟩;go_wp2;go_ret;exact ⟨Z0w (by rw[HF.out]; rfl),HB0.out⟩}}
theorem Z7m {a b:Nat}: ((a:Int)==(b:Int))=decide (a=b):=by rw[Bool.eq_iff_iff,beq_iff_eq,decide_eq_true_eq]; omega
theorem Z0C {k n:Int} (m:Int) (h:k=n) (e: (n==m)=true): (k==m)=true:=by rw[h]; exact e
theorem Z0v {k n:Int} (m:Int) (h:k=n) (e: (n==m)=false): (k==m)=false:=by rw[h]; exact e
section
variable (t : Sh) (q : Ptr) (w : World) (hq : ShAt w w.heap.size q t) (hg : WGlobs w)
include t q w hq hg
theorem Zaa (hk:t.kind=1\/t.kind=2\/t.kind=3\/t.kind=4\/t.kind=5\/t.kind=8):
 Y9 89 #[.agg (Y8 t q)] w (.bool (fits t)):=by
 have HS:=Y1 hq.small;have HA:=Y1 hq.strs;have hB:=Z02 w t q;have HB:=Y1 hB;have hb0:=Z01 w (.cells (Y8 t q) 25);have HB0:=Y1 hb0;have HG:=Y1 (hg.next hb0);obtain ⟨_,⟨c0,c1,c2,c3,c4⟩,_⟩:=hB;rcases hk with hk | hk | hk | hk | hk | hk
 all_goals
  first | have k1:=Z0C 1 hk rfl | have k1:=Z0v 1 hk rfl
  first | have k2:=Z0C 2 hk rfl | have k2:=Z0v 2 hk rfl
  first | have k3:=Z0C 3 hk rfl | have k3:=Z0v 3 hk rfl
  first | have k4:=Z0C 4 hk rfl | have k4:=Z0v 4 hk rfl
  first | have k5:=Z0C 5 hk rfl | have k5:=Z0v 5 hk rfl
  first | have k6:=Z0C 6 hk rfl | have k6:=Z0v 6 hk rfl
  first | have k7:=Z0C 7 hk rfl | have k7:=Z0v 7 hk rfl
  first | have k8:=Z0C 8 hk rfl | have k8:=Z0v 8 hk rfl
  first | have k9:=Z0C 9 hk rfl | have k9:=Z0v 9 hk rfl
  first | have k10:=Z0C 10 hk rfl | have k10:=Z0v 10 hk rfl
  first | have HF:=Y1 (Z8f hk) | have HF:=Y1 (Z9h hk) | have HF:=Y1 (Z8e (t:=t) (by omega) (by omega))
  have hc:=Z3D t q (w.alloc (.cells (Y8 t q) 25));clear hk hg hq hb0;cases hb:bare t
  {rw[hb] at hc HF;clear hb;go_enter Tryz.func89,Tryz.ntmps89
   go_wp2_with fail
   refine hc.mono ?_;rintro e w' ⟨rfl,hb'⟩;go_wp2;go_ret;exact ⟨by rw[HF.out]; rfl,Z00 HB0.out hb'⟩}
  {rw[hb] at hc HF;clear hb;cases hz:decide (t.names.length=0)
   {rw[hz] at HF;have hz2: ((t.names.length:Int)==0)=false:=by rw[Z23]; exact hz
    clear hz;go_enter Tryz.func89,Tryz.ntmps89
    go_wp2_with fail
    refine hc.mono ?_;rintro e w' ⟨rfl,hb'⟩;obtain ⟨_,⟨c0,c1,c2,c3,c4⟩,_⟩:=HB.out.next hb';go_wp2;go_ret;exact ⟨by rw[HF.out]; rfl,Z00 HB0.out hb'⟩}
   {rw[hz] at HF;have hz2: ((t.names.length:Int)==0)=true:=by rw[Z23]; exact hz
    clear hz;go_enter Tryz.func89,Tryz.ntmps89
    go_wp2_with fail
    refine hc.mono ?_;rintro e w' ⟨rfl,hb'⟩;obtain ⟨_,⟨c0,c1,c2,c3,c4⟩,_⟩:=HB.out.next hb';go_wp2;go_ret;exact ⟨Z0w (by rw[HF.out,Bool.eq_iff_iff]; simp; try omega),Z00 HB0.out hb'⟩}}
theorem Zab (hk:t.kind=6\/t.kind=7) (hz:t.parts.length<=1000000):
 Y9 89 #[.agg (Y8 t q)] w (.bool (fits t)):=by
 have HS:=Y1 hq.small;have HA:=Y1 hq.strs;have hB:=Z02 w t q;have HB:=Y1 hB;have hb0:=Z01 w (.cells (Y8 t q) 25);have HB0:=Y1 hb0;have HG:=Y1 (hg.next hb0);have HZ:=Y1 hz;clear hz;obtain ⟨_,⟨c0,c1,c2,c3,c4⟩,_⟩:=hB;rcases hk with hk | hk
 all_goals
  first | have k1:=Z0C 1 hk rfl | have k1:=Z0v 1 hk rfl
  first | have k2:=Z0C 2 hk rfl | have k2:=Z0v 2 hk rfl
  first | have k3:=Z0C 3 hk rfl | have k3:=Z0v 3 hk rfl
  first | have k4:=Z0C 4 hk rfl | have k4:=Z0v 4 hk rfl
  first | have k5:=Z0C 5 hk rfl | have k5:=Z0v 5 hk rfl
  first | have k6:=Z0C 6 hk rfl | have k6:=Z0v 6 hk rfl
  first | have k7:=Z0C 7 hk rfl | have k7:=Z0v 7 hk rfl
  first | have k8:=Z0C 8 hk rfl | have k8:=Z0v 8 hk rfl
  first | have k9:=Z0C 9 hk rfl | have k9:=Z0v 9 hk rfl
  first | have k10:=Z0C 10 hk rfl | have k10:=Z0v 10 hk rfl
  have HF:=Y1 (Z9i (t:=t) (by first | exact Or.inl hk | exact Or.inr hk));have hc:=Z3D t q (w.alloc (.cells (Y8 t q) 25));clear hk hg hq hb0;cases hb:bare t
  {rw[hb] at hc HF;clear hb;go_enter Tryz.func89,Tryz.ntmps89
   go_wp2_with fail
   refine hc.mono ?_;rintro e w' ⟨rfl,hb'⟩;go_wp2;go_ret;exact ⟨by rw[HF.out]; rfl,Z00 HB0.out hb'⟩}
  {rw[hb] at hc HF;clear hb;cases hz:decide (t.names.length=t.parts.length)
   {rw[hz] at HF;have hz2: ((t.names.length:Int)==(t.parts.length:Int))=false:=by rw[Z7m]; exact hz
    clear hz;go_enter Tryz.func89,Tryz.ntmps89
    go_wp2_with fail
    refine hc.mono ?_;rintro e w' ⟨rfl,hb'⟩;obtain ⟨_,⟨c0,c1,c2,c3,c4⟩,_⟩:=HB.out.next hb';go_wp2;go_ret;exact ⟨by rw[HF.out]; rfl,Z00 HB0.out hb'⟩}
   {rw[hz] at HF;have hz2: ((t.names.length:Int)==(t.parts.length:Int))=true:=by rw[Z7m]; exact hz
    clear hz;have hlen:t.names.length<=1000000:=by have:=HZ.out; have h2:=beq_iff_eq.1 hz2; omega
    have HA0:=HA.out.next HB0.out;go_enter Tryz.func89,Tryz.ntmps89
    go_wp2_with fail
    refine hc.mono ?_;rintro e w1 ⟨rfl,hb'⟩;have hn:=Z6S q.A q.c t.names w1 (HA0.next hb') hlen HS.out.ns;obtain ⟨_,⟨c0,c1,c2,c3,c4⟩,_⟩:=HB.out.next hb';have hbw:=Z00 HB0.out hb';clear hc hb' HA0
    go_wp2_with fail
    refine hn.mono ?_;rintro e w' ⟨rfl,hb2⟩;go_wp2;go_ret;exact ⟨Z0w (by rw[HF.out]; rfl),Z00 hbw hb2⟩}}
theorem Zac (hk:t.kind=9):
 Y9 89 #[.agg (Y8 t q)] w (.bool (fits t)):=by
 have HS:=Y1 hq.small;have HA:=Y1 hq.strs;have hB:=Z02 w t q;have HB:=Y1 hB;have hb0:=Z01 w (.cells (Y8 t q) 25);have HB0:=Y1 hb0;have HG:=Y1 (hg.next hb0);obtain ⟨_,⟨c0,c1,c2,c3,c4⟩,_⟩:=hB;have k1:=Y3 1 hk rfl;have k2:=Y3 2 hk rfl;have k3:=Y3 3 hk rfl;have k4:=Y3 4 hk rfl;have k5:=Y3 5 hk rfl;have k6:=Y3 6 hk rfl;have k7:=Y3 7 hk rfl;have k8:=Y3 8 hk rfl;have k9:=Y4 9 hk rfl;have k10:=Y3 10 hk rfl;have HF:=Y1 (Z8g hk);have hc:=Z71 t q (w.alloc (.cells (Y8 t q) 25)) HS.out HG.out;clear hk hg hq hb0;cases hb:nameOk t wordB
 {rw[hb] at hc HF;clear hb;go_enter Tryz.func89,Tryz.ntmps89
  go_wp2_with fail
  refine hc.mono ?_;rintro e w' ⟨rfl,hb'⟩;go_wp2;go_ret;exact ⟨by rw[HF.out]; rfl,Z00 HB0.out hb'⟩}
 {rw[hb] at hc HF;clear hb;cases hz:decide (t.names.length=0)
  {rw[hz] at HF;have hz2: ((t.names.length:Int)==0)=false:=by rw[Z23]; exact hz
   clear hz;go_enter Tryz.func89,Tryz.ntmps89
   go_wp2_with fail
   refine hc.mono ?_;rintro e w' ⟨rfl,hb'⟩;obtain ⟨_,⟨c0,c1,c2,c3,c4⟩,_⟩:=HB.out.next hb';go_wp2;go_ret;exact ⟨by rw[HF.out]; rfl,Z00 HB0.out hb'⟩}
  {rw[hz] at HF;have hz2: ((t.names.length:Int)==0)=true:=by rw[Z23]; exact hz
   clear hz;go_enter Tryz.func89,Tryz.ntmps89
   go_wp2_with fail
   refine hc.mono ?_;rintro e w' ⟨rfl,hb'⟩;obtain ⟨_,⟨c0,c1,c2,c3,c4⟩,_⟩:=HB.out.next hb';go_wp2;go_ret;exact ⟨Z0w (by rw[HF.out,Bool.eq_iff_iff]; simp; try omega),Z00 HB0.out hb'⟩}}
theorem Z9U (hk:t.kind=10):
 Y9 89 #[.agg (Y8 t q)] w (.bool (fits t)):=by
 have HS:=Y1 hq.small;have HA:=Y1 hq.strs;have hB:=Z02 w t q;have HB:=Y1 hB;have hb0:=Z01 w (.cells (Y8 t q) 25);have HB0:=Y1 hb0;have HG:=Y1 (hg.next hb0);obtain ⟨_,⟨c0,c1,c2,c3,c4⟩,_⟩:=hB;have k1:=Y3 1 hk rfl;have k2:=Y3 2 hk rfl;have k3:=Y3 3 hk rfl;have k4:=Y3 4 hk rfl;have k5:=Y3 5 hk rfl;have k6:=Y3 6 hk rfl;have k7:=Y3 7 hk rfl;have k8:=Y3 8 hk rfl;have k9:=Y3 9 hk rfl;have k10:=Y4 10 hk rfl;have HF:=Y1 (Z6Z hk);have hn:=fun W=>Z2c t.of_ HS.out.o W;have hu:=fun W=>Z3X t.name HS.out.n W;clear hk hg hq hb0;cases h1:Lex.isName t.of_
 {rw[h1] at HF;simp only[h1] at hn;clear h1;go_enter Tryz.func89,Tryz.ntmps89
  go_wp2_with fail
  refine (hn _).mono ?_;rintro e w' ⟨rfl,rfl⟩;go_wp2;go_ret;exact ⟨by rw[HF.out]; rfl,HB0.out⟩}
 {rw[h1] at HF;simp only[h1] at hn;clear h1;cases h2:Lex.isUpper t.name
  {rw[h2] at HF;simp only[h2] at hu;clear h2;go_enter Tryz.func89,Tryz.ntmps89
   go_wp2_with fail
   refine (hn _).mono ?_;rintro e w' ⟨rfl,rfl⟩
   go_wp2_with fail
   refine (hu _).mono ?_;rintro e w' ⟨rfl,rfl⟩;go_wp2;go_ret;exact ⟨by rw[HF.out]; rfl,HB0.out⟩}
  {rw[h2] at HF;simp only[h2] at hu;clear h2;cases hz:decide (t.names.length=0)
   all_goals
    rw[hz] at HF;have hz2:=hz;rw[<-Z23] at hz2;clear hz;go_enter Tryz.func89,Tryz.ntmps89
    go_wp2_with fail
    refine (hn _).mono ?_;rintro e w' ⟨rfl,rfl⟩
    go_wp2_with fail
    refine (hu _).mono ?_;rintro e w' ⟨rfl,rfl⟩;go_wp2;go_ret;exact ⟨Z0w (by rw[HF.out,Bool.eq_iff_iff]; simp),HB0.out⟩}}
theorem Z8h (hk:t.kind < 1\/10 < t.kind):
 Y9 89 #[.agg (Y8 t q)] w (.bool (fits t)):=by
 have HS:=Y1 hq.small;have HA:=Y1 hq.strs;have hB:=Z02 w t q;have HB:=Y1 hB;have hb0:=Z01 w (.cells (Y8 t q) 25);have HB0:=Y1 hb0;have HG:=Y1 (hg.next hb0);obtain ⟨_,⟨c0,c1,c2,c3,c4⟩,_⟩:=hB;have k1: (t.kind==1)=false:=by rw[beq_eq_false_iff_ne]; omega
 have k2: (t.kind==2)=false:=by rw[beq_eq_false_iff_ne]; omega
 have k3: (t.kind==3)=false:=by rw[beq_eq_false_iff_ne]; omega
 have k4: (t.kind==4)=false:=by rw[beq_eq_false_iff_ne]; omega
 have k5: (t.kind==5)=false:=by rw[beq_eq_false_iff_ne]; omega
 have k6: (t.kind==6)=false:=by rw[beq_eq_false_iff_ne]; omega
 have k7: (t.kind==7)=false:=by rw[beq_eq_false_iff_ne]; omega
 have k8: (t.kind==8)=false:=by rw[beq_eq_false_iff_ne]; omega
 have k9: (t.kind==9)=false:=by rw[beq_eq_false_iff_ne]; omega
 have k10: (t.kind==10)=false:=by rw[beq_eq_false_iff_ne]; omega
 have HF:=Y1 (Z9j hk);clear hk hg hq hb0;go_enter Tryz.func89,Tryz.ntmps89;go_wp2;go_ret;exact ⟨by rw[HF.out]; rfl,HB0.out⟩
theorem Z8i (hz:t.parts.length<=1000000):
 Y9 89 #[.agg (Y8 t q)] w (.bool (fits t)):=by
 by_cases h:t.kind < 1\/10 < t.kind
 {exact Z8h t q w hq hg h}
 {have:t.kind=1\/t.kind=2\/t.kind=3\/t.kind=4\/t.kind=5\/t.kind=6\/t.kind=7\/t.kind=8\/t.kind=9\/t.kind=10:=by omega
  rcases this with h | h | h | h | h | h | h | h | h | h
  case inr.inr.inr.inr.inr.inr.inr.inr.inl=>exact Zac t q w hq hg h
  case inr.inr.inr.inr.inr.inr.inr.inr.inr=>exact Z9U t q w hq hg h
  all_goals first | exact Zaa t q w hq hg (by omega) | exact Zab t q w hq hg (by omega) hz}
end
end Go.Proofs.YtkhoflciahkphaaGreatDoor
namespace Go.Proofs.YtkhoflciahkphaaGreatDoor
section
open Go.RowKit Shp
def Z18 (p:Sh->Bool) (l:List Sh):Int:=match l.findIdx? p with
 | some i=>(i:Int)
 | none=> -1
theorem Z9l {p:Sh->Bool} {l:List Sh} {i:Nat} (hi:i < l.length) (h:p (l[i]'hi)=true) (hn: ∀j (hj:j < l.length),j < i->p (l[j]'hj)=false):Z18 p l=(i:Int):=by
 have:l.findIdx? p=some i:=List.findIdx?_eq_some_iff_getElem.2 ⟨hi,h,fun j hj=>by rw[hn j (by omega) hj]; simp⟩;unfold Z18; rw[this]
theorem Z72 {p:Sh->Bool} {l:List Sh} (hn: ∀j (hj:j < l.length),p (l[j]'hj)=false):Z18 p l= -1:=by
 have:l.findIdx? p=none:=List.findIdx?_eq_none_iff.2 (fun x hx=>by
  obtain ⟨j,hj,rfl⟩:=List.getElem_of_mem hx;exact hn j hj)
 unfold Z18; rw[this]
theorem Z8j (p:Sh->Bool) (l:List Sh):decide (0<=Z18 p l)=l.any p:=by
 unfold Z18;cases h:l.findIdx? p with
 | some i=>
  obtain ⟨hi,hp,_⟩:=List.findIdx?_eq_some_iff_getElem.1 h;show decide ((0:Int)<=(i:Int))=_;rw[decide_eq_true (by omega)];exact (List.any_eq_true.2 ⟨_,List.getElem_mem hi,hp⟩).symm
 | none=>
  have:=List.findIdx?_eq_none_iff.1 h;show false=_;symm;rw[List.any_eq_false];intro x hx; rw[this x hx]; simp
theorem Z9m (p:Sh->Bool) (l:List Sh): -1<=Z18 p l:=by
 unfold Z18;cases l.findIdx? p with
 | some i=>show (-1:Int)<=(i:Int); omega
 | none=>show (-1:Int)<= -1; omega
theorem Z5h (l:List Sh):l.any (fun p=> !right p)= !rights l:=by
 rw[Z2V];induction l with
 | nil=>rfl
 | cons a l ih=>simp[ih]
section
variable (P : Option Addr) (d : Nat) (l : List Sh) (g off : Nat) (qs : Nat -> Ptr) (w : World) (hl : l.length <= 1000000) (hp : l.length = 0 \/ P = some ⟨g, off, none⟩ /\ g < w.heap.size /\ (∀ i (h : i < l.length), Sh5 w g (off + i * 5) (l[i]'h) (qs i)) /\ ∀ i (h : i < l.length), ShAt w w.heap.size (qs i) (l[i]'h)) (hg : WGlobs w) (hf : ∀ x ∈ l, ∀ (q : Ptr) (w : World), ShAt w w.heap.size q x -> WGlobs w -> Y9 70 #[.agg (Y8 x q)] w (.bool (!right x)))
include P d l g off qs w hl hp hg hf
theorem Z9n:
 Y9 71 #[.slice P l.length d,.func (.func 70) #[] #[]] w (.int .i64 (Z18 (fun p=> !right p) l)):=by
 have HP:=Y1 hp;have HF:=Y1 hf;have HG:=Y1 hg;clear hg;clear hp hf;go_enter Tryz.func71,Tryz.ntmps71
 go_wp2_with fail
 go_loopw [8] (fun ii wr=> ∃i:Nat,ii= .int .i64 i/\i<=l.length/\Hid (∀j (h:j < l.length),j < i->(!right (l[j]'h))=false)/\Below w.heap.size w wr) (fun i _=>l.length - (intOf i).toNat)
 case atStart=>exact ⟨0,rfl,Nat.zero_le _,Y1 (fun j _ hj=>absurd hj (by omega)),Below.refl _ _⟩
 case round=>
  obtain ⟨i,rfl,hi,HN,hb⟩:=hrel;by_cases hlt:i < l.length
  {rcases HP.out with h0 | ⟨rfl,hg,hc,hr⟩
   {omega}
   {obtain ⟨x,hx⟩: ∃x,x=l[i]'hlt:=⟨_,rfl⟩;obtain ⟨p0,p1,p2,p3,p4⟩:=(hc i hlt).keep hg hb;have hat:ShAt wr wr.heap.size (qs i) x:=by rw[hx]; exact (hr i hlt).next hb
    have ihx:=HF.out l[i] (List.getElem_mem _) (qs i) wr;rw[<-hx] at p0 p1 p2 p3 p4 ihx;have IH:=ihx hat (HG.out.next hb);have HX:=Y1 hx;clear hx hc hr hat ihx;have hi1: (i:Int) < (l.length:Int):=by omega
    cases hox: !right x with
    | true=>
     rw[hox] at IH;have HV:Hid (Z18 (fun p=> !right p) l=(i:Int)):=Y1 (Z9l hlt (by show (!right _)=true; rw[<-HX.out]; exact hox) (fun j hj hji=>HN.out j hj hji));clear hox
     go_wp2_with fail
     refine IH.mono ?_;rintro e w' ⟨rfl,hb'⟩;go_wp2;go_ret;exact ⟨Z1x HV.out.symm,Z00 hb hb'⟩
    | false=>
     rw[hox] at IH;have HO:=Y1 hox;clear hox
     go_wp2_with fail
     refine IH.mono ?_;rintro e w' ⟨rfl,hb'⟩;go_wp2
     go_roundw
     case rel=>exact ⟨i+1,by go_num,by omega,Y1 (fun j hj hji=>by
      rcases Nat.lt_succ_iff_lt_or_eq.1 hji with h | rfl
      {exact HN.out j hj h}
      · rw[<-HX.out]; exact HO.out),Z00 hb hb'⟩
     case measure=>simp[intOf]; omega}}
  {have hi1: ¬(i:Int) < (l.length:Int):=by omega
   have HV:Hid (Z18 (fun p=> !right p) l= -1):=Y1 (Z72 (fun j hj=>HN.out j hj (by omega)));go_wp2;go_ret;exact ⟨Z1x HV.out.symm,hb⟩}
theorem Z64:
 Y9 47 #[.slice P l.length d,.func (.func 70) #[] #[]] w (.bool (l.any (fun p=> !right p))):=by
 have HI:=Z9n P d l g off qs w hl hp hg hf;have HV:=Y1 (Z8j (fun p=> !right p) l);have hge:=Z9m (fun p=> !right p) l;generalize Z18 (fun p=> !right p) l=r at HI HV hge;clear hp hf;go_enter Tryz.func47,Tryz.ntmps47
 go_wp2_with fail
 refine HI.mono ?_;rintro e w' ⟨rfl,hb'⟩;go_wp2;go_ret;exact ⟨Z0w HV.out,hb'⟩
end
theorem Zad {w:World} {q:Ptr} {t:Sh} (h:ShAt w w.heap.size q t): ∃(g off:Nat) (qs:Nat->Ptr),t.parts.length=0\/q.P=some ⟨g,off,none⟩/\g < w.heap.size/\(∀i (h:i < t.parts.length),Sh5 w g (off+i * 5) (t.parts[i]'h) (qs i))/\ ∀i (h:i < t.parts.length),ShAt w w.heap.size (qs i) (t.parts[i]'h):=by
 rcases h.part with h0 | ⟨g,off,qs,h1,h2,h3,h4⟩
 {exact ⟨0,0,fun _=>q,Or.inl h0⟩}
 {exact ⟨g,off,qs,Or.inr ⟨h1,h2,h3,h4⟩⟩}
theorem Z65 (t:Sh): ∀(q:Ptr) (w:World),ShAt w w.heap.size q t->WGlobs w->size t<=1000000->
 Y9 70 #[.agg (Y8 t q)] w (.bool (!right t)):=by
 induction t using Sh.ind with
 | h t ih=>
 intro q w hq hg hz;have hpl:t.parts.length<=1000000:=by have:=Z0O t.parts; rw[size_eq] at hz; omega
 have hb0:=Z01 w (.cells (Y8 t q) 25);have hf:=Z8i t q _ (hq.next hb0) (hg.next hb0) hpl;have HC:=Y1 (fun W (h:Below w.heap.size w W)=>by
  obtain ⟨g,off,qs,h1⟩:=Zad (hq.next h);exact Z64 q.P q.d t.parts g off qs W hpl h1 (hg.next h) (fun x hx q' w' hat hg'=>ih x hx q' w' hat hg' (by have:=Z1z hx; rw[size_eq] at hz; omega)))
 have HD:=Y1 (Z2U t);have HA:=Y1 (Z5h t.parts);have HB0:=Y1 hb0;have HB:=Y1 (Z02 w t q);obtain ⟨_,⟨c0,c1,c2,c3,c4⟩,_⟩:=HB.out;clear hb0 hq hg hz hpl ih;cases hft:fits t
 {have HF:Hid (right t=false):=Y1 (by rw[HD.out,hft]; rfl);rw[hft] at hf;clear hft;go_enter Tryz.func70,Tryz.ntmps70
  go_wp2_with fail
  refine hf.mono ?_;rintro e w' ⟨rfl,hb'⟩;go_wp2;go_ret;exact ⟨by rw[HF.out]; rfl,Z00 HB0.out hb'⟩}
 {have HF:Hid ((!right t)=t.parts.any (fun p=> !right p)):=Y1 (by rw[HD.out,hft,HA.out]; rfl);rw[hft] at hf;clear hft;go_enter Tryz.func70,Tryz.ntmps70
  go_wp2_with fail
  refine hf.mono ?_;rintro e w1 ⟨rfl,hb'⟩;have hbw:=Z00 HB0.out hb';have hc:=HC.out w1 hbw;obtain ⟨_,⟨d0,d1,d2,d3,d4⟩,_⟩:=HB.out.next hb';clear hf c0 c1 c2 c3 c4 hb'
  go_wp2_with fail
  refine hc.mono ?_;rintro e w' ⟨rfl,hb2⟩;go_wp2;go_ret;exact ⟨Z0w HF.out.symm,Z00 hbw hb2⟩}
structure UpC (cb B:Nat) (w w':World):Prop where
 os:w'.os=w.os
 tape:w'.tape=w.tape
 output:w'.output=w.output
 size:w.heap.size<=w'.heap.size
 block: ∀k,k < B->k≠cb->w'.heap[k]? =w.heap[k]?
 c1:w'.cell? ⟨cb,1,none⟩=w.cell? ⟨cb,1,none⟩
 f0:w'.frozen? ⟨cb,0,none⟩=w.frozen? ⟨cb,0,none⟩
theorem UpC.refl (cb B:Nat) (w:World):UpC cb B w w:=⟨rfl,rfl,rfl,Nat.le_refl _,fun _ _ _=>rfl,rfl,rfl⟩
theorem UpC.trans {cb B:Nat} {a b c:World} (h:UpC cb B a b) (k:UpC cb B b c):UpC cb B a c:=
 ⟨k.os.trans h.os,k.tape.trans h.tape,k.output.trans h.output,Nat.le_trans h.size k.size,fun i hi hn=>(k.block i hi hn).trans (h.block i hi hn),k.c1.trans h.c1,k.f0.trans h.f0⟩
theorem UpC.mono {cb B B':Nat} {w w':World} (h:UpC cb B w w') (hB:B'<=B):UpC cb B' w w':=⟨h.os,h.tape,h.output,h.size,fun k hk=>h.block k (Nat.lt_of_lt_of_le hk hB),h.c1,h.f0⟩
theorem UpC.below {cb B:Nat} {a w w':World} (h:UpC cb B a w) (hb:Below B w w') (hc:cb < B):UpC cb B a w':=
 h.trans ⟨hb.os,hb.tape,hb.output,hb.size,fun k hk _=>hb.block k hk,hb.cell (p:=⟨cb,1,none⟩) hc,hb.frozen (p:=⟨cb,0,none⟩) hc⟩
theorem UpC.set {cb B:Nat} {a w:World} (h:UpC cb B a w) (v:Value):UpC cb B a (w.setCell ⟨cb,0,none⟩ v):=
 h.trans ⟨rfl,rfl,rfl,by simp[World.setCell],fun k hk hn=>Below.heap_setCell _ _ _ _ hn,by simp[go_sem],by simp[go_sem]⟩
theorem UpC.next {cb:Nat} {a b c:World} (h:UpC cb a.heap.size a b) (k:UpC cb b.heap.size b c):UpC cb a.heap.size a c:=h.trans (k.mono h.size)
theorem UpC.cell {cb B:Nat} {w w':World} (h:UpC cb B w w') {g k:Nat} (hg:g < B) (hn:g≠cb):w'.cell? ⟨g,k,none⟩=w.cell? ⟨g,k,none⟩:=World.cell?_of_block (w:=w) (h.block g hg hn)
theorem UpC.toBelow {cb B:Nat} {w w':World} (h:UpC cb B w w') (hB:B<=cb):Below B w w':=⟨h.os,h.tape,h.output,h.size,fun k hk=>h.block k hk (by omega)⟩
structure Cnt (w:World) (cb p m:Nat):Prop where
 lt:cb < w.heap.size
 c0:w.cell? ⟨cb,0,none⟩=some (.int .i64 (p:Int))
 c1:m=400
 f0:w.frozen? ⟨cb,0,none⟩=false
theorem Cnt.below {w w':World} {cb p m:Nat} (h:Cnt w cb p m) (hb:Below w.heap.size w w'):Cnt w' cb p m:=
 ⟨Nat.lt_of_lt_of_le h.lt hb.size,(hb.cell (p:=⟨cb,0,none⟩) h.lt).trans h.c0,h.c1,(hb.frozen (p:=⟨cb,0,none⟩) h.lt).trans h.f0⟩
theorem Cnt.set {w:World} {cb p m:Nat} (h:Cnt w cb p m) (n:Nat):Cnt (w.setCell ⟨cb,0,none⟩ (.int .i64 (n:Int))) cb n m:=
 ⟨by simpa[World.setCell] using h.lt,by simp[go_sem,h.c0],h.c1,by simp[go_sem,h.f0]⟩
theorem ShAt.upc {w w':World} {B C cb:Nat} {q:Ptr} {t:Sh} (h:ShAt w B q t) (hu:UpC cb C w w') (h1:B<=cb) (h2:B<=C):ShAt w' B q t:=
 h.of (Nat.le_refl _) (fun g k hg=>hu.cell (by omega) (by omega))
theorem Z57 (t:Sh): ∀(q:Ptr) (B cb p m:Nat) (w:World),ShAt w B q t->B<=cb->Cnt w cb p m->p+size t<=m->m<=1000000->
 Calls Tryz.prog 88 #[.pointer (some ⟨cb,0,none⟩),.agg (Y8 t q)] w
  fun e w'=>e= .returned (.int .i64 (deep t:Int))/\UpC cb w.heap.size w w'/\Cnt w' cb (p+size t) m:=by
 induction t using Sh.ind with
 | h t ih=>
 intro q B cb p m w hq hBc hc hpm hm;have HQ:=Y1 hq;have HM:=Y1 hq.small.m;have HP:=Y1 hq.part;have HD:Hid (deep t=deeps t.parts+1):=Y1 (Z0d t);have HZ:Hid (size t=1+sizes t.parts):=Y1 (size_eq t);have HDS:=Y1 (Z1W t);have HPM:Hid (p+size t<=m):=Y1 hpm;have hlt:p < m:=by have:=HZ.out; omega
 have hpe: ((p:Int)==400)=false:=by rw[beq_eq_false_iff_ne]; have:=hc.c1; omega
 have hpi: (p:Int)<=1000000:=by omega
 have hb0:=Z01 w (.cells (Y8 t q) 25);have HC:=Y1 hc;have hB:=Z02 w t q;have HB:=Y1 hB;have HC1:=Y1 (hc.below hb0);have HU:=Y1 ((UpC.refl cb w.heap.size w).below hb0 hc.lt);have hcl:=hc.lt;obtain ⟨_,k0,k1,k2⟩:=hc.below hb0;clear k1;clear hb0 hc hB hpm hq;have hne:w.heap.size≠cb:=by omega
 have hne2:cb≠w.heap.size:=by omega
 go_enter Tryz.func88,Tryz.ntmps88
 go_wp2_with fail
 obtain ⟨W0,hW0⟩: ∃W0,W0=(w.setCell ⟨cb,0,none⟩ (.int .i64 ((p:Int)+1))).alloc (.cells (Y8 t q) 25):=⟨_,rfl⟩;have hsz0:W0.heap.size=w.heap.size+1:=by rw[hW0]; simp[World.setCell]
 have hU0:UpC cb w.heap.size w W0:=by
  rw[hW0];exact ((UpC.refl cb w.heap.size w).set _).below ((Z01 _ _).mono (by simp[World.setCell])) hcl
 have hC0:Cnt W0 cb (p+1) m:=by
  rw[hW0];exact (HC.out.set (p+1)).below (Z01 _ _)
 have hB0:Box5 W0 w.heap.size t q:=by
  have e: (w.setCell ⟨cb,0,none⟩ (.int .i64 ((p:Int)+1))).heap.size=w.heap.size:=by simp[World.setCell]
  have h5:=Z02 (w.setCell ⟨cb,0,none⟩ (.int .i64 ((p:Int)+1))) t q;rw[e] at h5;rw[hW0]; exact h5
 have HU0:=Y1 hU0;have HC0:=Y1 hC0;have HB0:=Y1 hB0;clear hU0 hC0 hB0;rw[<-hW0];have HSZ:=Y1 hsz0;clear hW0 k0 k2 HU HC1 HB hsz0
 go_loopw [5,24] (fun dd ii wr=> ∃i:Nat,ii= .int .i64 i/\i<=t.parts.length/\dd= .int .i64 (deeps (t.parts.take i):Int)/\Hid (UpC cb W0.heap.size W0 wr)/\Hid (Cnt wr cb (p+1+sizes (t.parts.take i)) m)) (fun _ i _=>t.parts.length - (intOf i).toNat)
 case atStart=>exact ⟨0,rfl,Nat.zero_le _,rfl,Y1 (UpC.refl _ _ _),HC0⟩
 case round=>
  obtain ⟨i,rfl,hi,rfl,HUR,HCR⟩:=hrel;have hmm:=HM.out;have htk:=Z7y t.parts i;have hds:=HDS.out;have hd2:deeps t.parts<=1000000:=by have:=HD.out; have:=HPM.out; omega
  by_cases hlt:i < t.parts.length
  {rcases HP.out with h0 | ⟨g,off,qs,hqP,hg,hc,hr⟩
   {omega}
   {have hur:UpC cb w.heap.size w wr:=HU0.out.next HUR.out;obtain ⟨x,hx⟩: ∃x,x=t.parts[i]:=⟨_,rfl⟩;have hgw:g < w.heap.size:=by omega
    obtain ⟨p0,p1,p2,p3,p4⟩:=(hc i hlt).of (w':=wr) (fun k=>hur.cell hgw (by omega));have hbx:=Z01 wr (.cells (Y8 x (qs i)) 25);have hat:ShAt (wr.alloc (.cells (Y8 x (qs i)) 25)) B (qs i) x:=by
     rw[hx];exact ((hr i hlt).upc hur hBc (by omega)).keep (Z01 wr _) (by have:=hur.size; omega)
    have hcx:=HCR.out.below hbx;have HN:Hid (sizes (t.parts.take (i+1))=sizes (t.parts.take i)+size x):=Y1 (by rw[hx]; exact Z25 hlt);have HE:Hid (deeps (t.parts.take (i+1))=max (deeps (t.parts.take i)) (deep x)):=Y1 (by rw[hx]; exact Z4i hlt);have ihx:=ih t.parts[i] (List.getElem_mem _) (qs i) B cb (p+1+sizes (t.parts.take i)) m (wr.alloc (.cells (Y8 x (qs i)) 25));rw[<-hx] at p0 p1 p2 p3 p4 ihx;have hdx:deep x<=1000000:=by rw[hx]; exact Nat.le_trans (Z0t (List.getElem_mem _)) hd2
    have hbd:p+1+sizes (t.parts.take i)+size x<=m:=by
     have:=Z4j t.parts (i+1);have:=HN.out;have:=HPM.out;have:=HZ.out;omega
    have IH:=ihx hat hBc hcx hbd hm;have HBX:=Y1 (HB0.out);clear hx hc hr hat ihx hcx hbd hd2 hur hbx ih;have hi1: (i:Int) < (t.parts.length:Int):=by omega
    obtain ⟨a,ha⟩: ∃a,a=deeps (t.parts.take i):=⟨_,rfl⟩;rw[<-ha] at HE htk ⊢;clear ha;rw[hqP];clear hqP
    go_wp2_with fail
    refine IH.mono ?_;rintro e w2 ⟨rfl,hu2,hc2⟩;have HU2:Hid (UpC cb W0.heap.size W0 w2):=Y1 ((HUR.out.below ((Z01 wr _).mono HUR.out.size) (by have:=HSZ.out; omega)).trans (hu2.mono (by have:=HUR.out.size; simp; omega)));have HC2:Hid (Cnt w2 cb (p+1+sizes (t.parts.take (i+1))) m):=Y1 (by rw[HN.out, <-Nat.add_assoc]; exact hc2);clear hu2 hc2 IH;by_cases hgt: (a:Int) < (deep x:Int)
    all_goals
     go_wp2
     go_roundw
     case rel=>exact ⟨i+1,by go_num,by omega,by rw[HE.out]; go_num,HU2,HC2⟩
     case measure=>simp[intOf]; omega}}
  {have HF:Hid (deep t=deeps (t.parts.take i)+1):=Y1 (by rw[HD.out,show i=t.parts.length from by omega,List.take_length]);have HG:Hid (p+size t=p+1+sizes (t.parts.take i)):=Y1 (by rw[HZ.out,show i=t.parts.length from by omega,List.take_length]; omega);have hi1: ¬(i:Int) < (t.parts.length:Int):=by omega
   go_wp2;go_ret;exact ⟨Z1x (by rw[HF.out]; go_num),HU0.out.next HUR.out,by rw[HG.out]; exact HCR.out⟩}
theorem Z73 (t:Sh): ∀(q:Ptr) (B cb p m:Nat) (w:World),ShAt w B q t->B<=cb->Cnt w cb p m->p<=m->m < p+size t->m<=1000000->
 Calls Tryz.prog 88 #[.pointer (some ⟨cb,0,none⟩),.agg (Y8 t q)] w
  fun e w'=>e= .panicked [{ v:= .iface 41 (.int .i64 3),recovered:=false }]/\UpC cb w.heap.size w w':=by
 induction t using Sh.ind with
 | h t ih=>
 intro q B cb p m w hq hBc hc hpm hov hm;have HQ:=Y1 hq;have HM:=Y1 hq.small.m;have HP:=Y1 hq.part;have HD:Hid (deep t=deeps t.parts+1):=Y1 (Z0d t);have HZ:Hid (size t=1+sizes t.parts):=Y1 (size_eq t);have HDS:=Y1 (Z1W t);have HOV:Hid (m < p+size t):=Y1 hov;have hpi: (p:Int)<=1000000:=by omega
 have hb0:=Z01 w (.cells (Y8 t q) 25);have HC:=Y1 hc;have hB:=Z02 w t q;have HB:=Y1 hB;have HC1:=Y1 (hc.below hb0);have HU:=Y1 ((UpC.refl cb w.heap.size w).below hb0 hc.lt);have hcl:=hc.lt;obtain ⟨_,k0,k1,k2⟩:=hc.below hb0;clear k1;clear hb0 hc hB hov hq;have hne:w.heap.size≠cb:=by omega
 have hne2:cb≠w.heap.size:=by omega
 by_cases hpm2:p=m
 {have hpe: ((p:Int)==400)=true:=by rw[beq_iff_eq]; have:=HC.out.c1; omega
  have HUX:=HU;clear hpm2 hpm ih;go_enter Tryz.func88,Tryz.ntmps88
  go_wp2_with fail
  exact ⟨rfl,rfl,HU.out⟩}
 have hlt:p < m:=by omega
 have hpe: ((p:Int)==400)=false:=by rw[beq_eq_false_iff_ne]; have:=HC.out.c1; omega
 clear hpm2;go_enter Tryz.func88,Tryz.ntmps88
 go_wp2_with fail
 obtain ⟨W0,hW0⟩: ∃W0,W0=(w.setCell ⟨cb,0,none⟩ (.int .i64 ((p:Int)+1))).alloc (.cells (Y8 t q) 25):=⟨_,rfl⟩;have hsz0:W0.heap.size=w.heap.size+1:=by rw[hW0]; simp[World.setCell]
 have hU0:UpC cb w.heap.size w W0:=by
  rw[hW0];exact ((UpC.refl cb w.heap.size w).set _).below ((Z01 _ _).mono (by simp[World.setCell])) hcl
 have hC0:Cnt W0 cb (p+1) m:=by
  rw[hW0];exact (HC.out.set (p+1)).below (Z01 _ _)
 have hB0:Box5 W0 w.heap.size t q:=by
  have e: (w.setCell ⟨cb,0,none⟩ (.int .i64 ((p:Int)+1))).heap.size=w.heap.size:=by simp[World.setCell]
  have h5:=Z02 (w.setCell ⟨cb,0,none⟩ (.int .i64 ((p:Int)+1))) t q;rw[e] at h5;rw[hW0]; exact h5
 have HU0:=Y1 hU0;have HC0:=Y1 hC0;have HB0:=Y1 hB0;clear hU0 hC0 hB0;rw[<-hW0];have HSZ:=Y1 hsz0;clear hW0 k0 k2 HU HC1 HB hsz0
 go_loopw [5,24] (fun dd ii wr=> ∃i:Nat,ii= .int .i64 i/\i<=t.parts.length/\dd= .int .i64 (deeps (t.parts.take i):Int)/\Hid (UpC cb W0.heap.size W0 wr)/\p+1+sizes (t.parts.take i)<=m/\Hid (Cnt wr cb (p+1+sizes (t.parts.take i)) m)) (fun _ i _=>t.parts.length - (intOf i).toNat)
 case atStart=>exact ⟨0,rfl,Nat.zero_le _,rfl,Y1 (UpC.refl _ _ _),by simp[sizes]; omega,HC0⟩
 case round=>
  obtain ⟨i,rfl,hi,rfl,HUR,hpi2,HCR⟩:=hrel;have hmm:=HM.out;have htk:deeps (t.parts.take i)<=1000000:=by have:=Z6l (t.parts.take i); omega
  by_cases hlt:i < t.parts.length
  {rcases HP.out with h0 | ⟨g,off,qs,hqP,hg,hc,hr⟩
   {omega}
   {have hur:UpC cb w.heap.size w wr:=HU0.out.next HUR.out;obtain ⟨x,hx⟩: ∃x,x=t.parts[i]:=⟨_,rfl⟩;have hgw:g < w.heap.size:=by omega
    obtain ⟨p0,p1,p2,p3,p4⟩:=(hc i hlt).of (w':=wr) (fun k=>hur.cell hgw (by omega));have hbx:=Z01 wr (.cells (Y8 x (qs i)) 25);have hat:ShAt (wr.alloc (.cells (Y8 x (qs i)) 25)) B (qs i) x:=by
     rw[hx];exact ((hr i hlt).upc hur hBc (by omega)).keep (Z01 wr _) (by have:=hur.size; omega)
    have hcx:=HCR.out.below hbx;have HN:Hid (sizes (t.parts.take (i+1))=sizes (t.parts.take i)+size x):=Y1 (by rw[hx]; exact Z25 hlt);have HE:Hid (deeps (t.parts.take (i+1))=max (deeps (t.parts.take i)) (deep x)):=Y1 (by rw[hx]; exact Z4i hlt);have ihx:=ih t.parts[i] (List.getElem_mem _) (qs i) B cb (p+1+sizes (t.parts.take i)) m (wr.alloc (.cells (Y8 x (qs i)) 25));rw[<-hx] at p0 p1 p2 p3 p4 ihx;have hml:=fun hbd=>Z57 x (qs i) B cb (p+1+sizes (t.parts.take i)) m (wr.alloc (.cells (Y8 x (qs i)) 25)) hat hBc hcx hbd hm;have hmo:=fun hbd=>ihx hat hBc hcx hpi2 hbd hm;have HSB:=Y1 hur;have HBX:=Y1 (HB0.out);clear hx hc hr hat ihx hcx hur hbx ih;have hi1: (i:Int) < (t.parts.length:Int):=by omega
    obtain ⟨a,ha⟩: ∃a,a=deeps (t.parts.take i):=⟨_,rfl⟩;rw[<-ha] at HE htk ⊢;clear ha;rw[hqP];clear hqP;by_cases hfit:m < p+1+sizes (t.parts.take i)+size x
    {have IH:=hmo hfit;clear hml hmo hfit
     go_wp2_with fail
     refine IH.mono ?_;rintro e w2 ⟨rfl,hu2⟩;have HU2:Hid (UpC cb w.heap.size w w2):=Y1 ((HSB.out.below ((Z01 wr _).mono HSB.out.size) hcl).trans (hu2.mono (by have:=HSB.out.size; simp; omega)));clear hu2 IH;go_wp2;exact ⟨rfl,rfl,HU2.out⟩}
    have IH:=hml (by omega);have hdx:deep x<=1000000:=by have:=Z1W x; omega
    have HF1:Hid (p+1+sizes (t.parts.take (i+1))<=m):=Y1 (by rw[HN.out]; omega);clear hml hmo hfit
    go_wp2_with fail
    refine IH.mono ?_;rintro e w2 ⟨rfl,hu2,hc2⟩;have HU2:Hid (UpC cb W0.heap.size W0 w2):=Y1 ((HUR.out.below ((Z01 wr _).mono HUR.out.size) (by have:=HSZ.out; omega)).trans (hu2.mono (by have:=HUR.out.size; simp; omega)));have HC2:Hid (Cnt w2 cb (p+1+sizes (t.parts.take (i+1))) m):=Y1 (by rw[HN.out, <-Nat.add_assoc]; exact hc2);clear hu2 hc2 IH;by_cases hgt: (a:Int) < (deep x:Int)
    all_goals
     go_wp2
     go_roundw
     case rel=>exact ⟨i+1,by go_num,by omega,by rw[HE.out]; go_num,HU2,HF1.out,HC2⟩
     case measure=>simp[intOf]; omega}}
  {exfalso;have:=HOV.out;rw[show i=t.parts.length from by omega,List.take_length] at hpi2;rw[HZ.out] at this;omega}
theorem Z8k (b c:Addr) (x y:Int) (u:TypeId) (pv:Value) (older:List PanicEntry) (w:World) (hb:w.cell? b=some (.int .i64 x)) (hc:w.cell? c=some (.int .i64 y)) (fb:w.frozen? b=false) (fc:w.frozen? c=false)
 (hbc:b≠c):
 CallsD Tryz.prog 87 #[.pointer (some b),.pointer (some c)] (.panicking ({ v:= .iface u pv,recovered:=false }::older)) w fun e u' w'=>
  e= .returned (.tuple #[])/\u'= .panicking ({ v:= .iface u pv,recovered:=true }::older)/\w'=(w.setCell b (.int .i64 401)).setCell c (.int .i64 0):=by
 have hc2: (w.setCell b (.int .i64 401)).cell? c=some (.int .i64 y):=(World.cell?_setCell_other _ _ _ _ hbc).trans hc;refine callsD_of_wpS Tryz.func87 rfl fun c₀ cs hu=> ?_;apply wpS_seq;apply wpS_region;simp[wpOpsS,go_sem,recoverD,hu,Tryz.ntmps87,Exit.thenS];refine wpS_cond (t:=true) (by simp[Act.eval,Array.replicate]) ?_;simp only[if_true];apply wpS_region;simp[wpOpsS,go_sem,hb,hc2,fb,fc,bodyPostS,results,Tryz.results87]
theorem Z8l (b c:Addr) (w:World):
 CallsD Tryz.prog 87 #[.pointer (some b),.pointer (some c)] .returning w fun e u' w'=>e= .returned (.tuple #[])/\u'= .returning/\w'=w:=by
 refine callsD_of_wpS Tryz.func87 rfl fun c₀ cs hu=> ?_;apply wpS_seq;apply wpS_region;simp[wpOpsS,go_sem,recoverD,hu,Tryz.ntmps87,Exit.thenS];refine wpS_cond (t:=false) (by simp[Act.eval,Array.replicate]) ?_;simp only[Bool.false_eq_true,if_false];refine wpS_of_wp (wp_skip ?_);cases c₀;simp_all [bodyPostS,results,Tryz.results87]
def mW (w:World) (t:Sh) (q:Ptr):World:=
 (((w.alloc (.cells (Y8 t q) 25)).alloc (.cells #[.int .i64 0] 3)).alloc (.cells #[.int .i64 0] 3)).alloc (.cells #[.int .i64 0] 66)
structure MW (w W:World) (x y:Int):Prop where
 bel:Below w.heap.size w W
 size:w.heap.size+4<=W.heap.size
 b:W.cell? ⟨w.heap.size+1,0,none⟩=some (.int .i64 x)
 c:W.cell? ⟨w.heap.size+1+1,0,none⟩=some (.int .i64 y)
 fb:W.frozen? ⟨w.heap.size+1,0,none⟩=false
 fc:W.frozen? ⟨w.heap.size+1+1,0,none⟩=false
theorem Z9o (w:World) (t:Sh) (q:Ptr):Cnt (mW w t q) (w.heap.size+1+1+1) 0 400:=by
 unfold mW;exact ⟨by simp,by simp[go_sem],rfl,by simp[go_sem]⟩
theorem Z5l (w:World) (t:Sh) (q:Ptr):MW w (mW w t q) 0 0:=by
 unfold mW;refine ⟨Z0i (Z0i (Z0i (Z01 _ _) _) _) _,by simp, ?_, ?_, ?_, ?_⟩ <;> simp[go_sem]
theorem MW.upc {w W W':World} {x y:Int} (h:MW w W x y) (hu:UpC (w.heap.size+1+1+1) W.heap.size W W'):MW w W' x y:=by
 have e: ∀g,g < w.heap.size+3->W'.heap[g]? =W.heap[g]? :=fun g hg=>hu.block g (by have:=h.size; omega) (by omega);refine ⟨h.bel.trans ⟨hu.os,hu.tape,hu.output,hu.size,fun k hk=>e k (by omega)⟩,Nat.le_trans h.size hu.size, ?_, ?_, ?_, ?_⟩
 {exact (World.cell?_of_block (w:=W) (e (w.heap.size+1) (by omega))).trans h.b}
 {exact (World.cell?_of_block (w:=W) (e (w.heap.size+1+1) (by omega))).trans h.c}
 {exact (World.frozen?_of_block (w:=W) (e (w.heap.size+1) (by omega))).trans h.fb}
 {exact (World.frozen?_of_block (w:=W) (e (w.heap.size+1+1) (by omega))).trans h.fc}
section
variable (t : Sh) (q : Ptr) (w : World) (hq : ShAt w w.heap.size q t)
include t q w hq
theorem Z66 (hov:400 < size t):
 Y9 69 #[.agg (Y8 t q)] w (.tuple #[.int .i64 401,.int .i64 0]):=by
 have hmf: ∀(fn:Fn) (first cap:Array Value) (w:World),(Instr.makeFunc fn first cap).run Tryz.prog w= .ok (.func fn first cap) w:=fun _ _ _ _=>rfl;have HL:=Y1 (Z73 t q w.heap.size _ 0 400 _ (hq.keep (Z5l w t q).bel (Nat.le_refl _)) (by omega) (Z9o w t q) (Nat.zero_le _) (by omega) (by omega));have HW:=Y1 (Z5l w t q);clear hq hov
 go_enter_defers Tryz.func69,Tryz.ntmps69
 go_wp2_with fail
 change Calls _ _ _ (mW w t q) _;generalize mW w t q=W at HL HW ⊢;refine HL.out.mono ?_;rintro e w2 ⟨rfl,hu⟩;obtain ⟨hbel,hsz,cb,cc,fb,fc⟩:=HW.out.upc hu;have HBEL:=Y1 hbel;clear hbel hu HL
 go_wp2_with fail
 refine leaves_cons (f:=87) (args:=#[.pointer (some ⟨w.heap.size+1,0,none⟩),.pointer (some ⟨w.heap.size+1+1,0,none⟩)]) (by simp) (by simp[go_sem]) ?_;refine (Z8k ⟨w.heap.size+1,0,none⟩ ⟨w.heap.size+1+1,0,none⟩ 0 0 41 _ [] _ cb cc fb fc (by simp)).mono ?_;rintro e u' w'' ⟨rfl,rfl,rfl⟩;simp[Leaves,settle,results,Tryz.results69,go_sem,cb,cc];exact (HBEL.out.setCell (p:=⟨w.heap.size+1,0,none⟩) (by simp) _).setCell (p:=⟨w.heap.size+1+1,0,none⟩) (by simp; omega) _
theorem Z8m (hov:size t<=400):
 Y9 69 #[.agg (Y8 t q)] w (.tuple #[.int .i64 (size t:Int),.int .i64 (deep t:Int)]):=by
 have hmf: ∀(fn:Fn) (first cap:Array Value) (w:World),(Instr.makeFunc fn first cap).run Tryz.prog w= .ok (.func fn first cap) w:=fun _ _ _ _=>rfl;have HL:=Y1 (Z57 t q w.heap.size _ 0 400 _ (hq.keep (Z5l w t q).bel (Nat.le_refl _)) (by omega) (Z9o w t q) (by omega) (by omega));have HW:=Y1 (Z5l w t q);clear hq hov
 go_enter_defers Tryz.func69,Tryz.ntmps69
 go_wp2_with fail
 change Calls _ _ _ (mW w t q) _;generalize mW w t q=W at HL HW ⊢;refine HL.out.mono ?_;rintro e w2 ⟨rfl,hu,hcn⟩;obtain ⟨hbel,hsz,cb,cc,fb,fc⟩:=HW.out.upc hu;have k0:=hcn.c0;have HBEL:=Y1 hbel;rw[Nat.zero_add] at k0;clear hbel hu HL hcn
 go_wp2_with fail
 have HB3:Hid (Below w.heap.size w (w2.setCell ⟨w.heap.size+1+1,0,none⟩ (.int .i64 (deep t:Int)))):=Y1 (HBEL.out.setCell (by simp; omega) _);have k3: (w2.setCell ⟨w.heap.size+1+1,0,none⟩ (.int .i64 (deep t:Int))).cell? ⟨w.heap.size+1+1+1,0,none⟩=some (.int .i64 (size t:Int)):=(World.cell?_setCell_other _ _ _ _ (fun e=>by have:=congrArg Addr.block e; simp at this)).trans k0;have b3: (w2.setCell ⟨w.heap.size+1+1,0,none⟩ (.int .i64 (deep t:Int))).cell? ⟨w.heap.size+1,0,none⟩=some (.int .i64 0):=(World.cell?_setCell_other _ _ _ _ (fun e=>by have:=congrArg Addr.block e; simp at this)).trans cb;have c3: (w2.setCell ⟨w.heap.size+1+1,0,none⟩ (.int .i64 (deep t:Int))).cell? ⟨w.heap.size+1+1,0,none⟩=some (.int .i64 (deep t:Int)):=by simp[go_sem,cc]
 have fb3: (w2.setCell ⟨w.heap.size+1+1,0,none⟩ (.int .i64 (deep t:Int))).frozen? ⟨w.heap.size+1,0,none⟩=false:=by rw[World.frozen?_setCell]; exact fb
 have fc3: (w2.setCell ⟨w.heap.size+1+1,0,none⟩ (.int .i64 (deep t:Int))).frozen? ⟨w.heap.size+1+1,0,none⟩=false:=by rw[World.frozen?_setCell]; exact fc
 generalize w2.setCell ⟨w.heap.size+1+1,0,none⟩ (.int .i64 (deep t:Int))=W3 at HB3 k3 b3 c3 fb3 fc3 ⊢;clear k0 cb cc fb fc hsz HBEL
 go_region
 all_goals
  go_wp2_with fail
  refine leaves_cons (f:=87) (args:=#[.pointer (some ⟨w.heap.size+1,0,none⟩),.pointer (some ⟨w.heap.size+1+1,0,none⟩)]) (by simp) (by simp[go_sem]) ?_;refine (Z8l ⟨w.heap.size+1,0,none⟩ ⟨w.heap.size+1+1,0,none⟩ _).mono ?_;rintro e u' w'' ⟨rfl,rfl,rfl⟩;simp[Leaves,settle,results,Tryz.results69,go_sem,b3,c3];exact ((HB3.out.setCell (p:=⟨w.heap.size+1,0,none⟩) (by simp) _).setCell (p:=⟨w.heap.size+1+1,0,none⟩) (by simp; omega) _).drew
end
def Z1I (m:Nat) (t:Sh):Int:=if m < size t then (m:Int)+1 else size t
def Z2g (m:Nat) (t:Sh):Int:=if m < size t then 0 else deep t
section
variable (t : Sh) (q : Ptr) (w : World) (hq : ShAt w w.heap.size q t)
include t q w hq
theorem Z3E:
 Y9 69 #[.agg (Y8 t q)] w (.tuple #[.int .i64 (Z1I 400 t),.int .i64 (Z2g 400 t)]):=by
 unfold Z1I Z2g;by_cases h:400 < size t
 {rw[if_pos h,if_pos h]; exact Z66 t q w hq h}
 {rw[if_neg h,if_neg h]; exact Z8m t q w hq (by omega)}
theorem Z1r (hg:WGlobs w):
 Y9 46 #[.agg (Y8 t q)] w (.int .i64 (check t)):=by
 have hb0:=Z01 w (.cells (Y8 t q) 25);have hm:=Z3E t q _ (hq.next hb0);have HC:Hid (check t=if 400 < size t then 3 else if 40 < deep t then 91 else if right t=false then 70 else 0):=Y1 rfl;have HB0:=Y1 hb0;have HB:=Y1 (Z02 w t q);have HQ:=Y1 hq;have HG:=Y1 hg;obtain ⟨_,⟨c0,c1,c2,c3,c4⟩,_⟩:=HB.out;clear hb0 hq hg;by_cases h4:400 < size t
 {have HF:Hid (check t=3):=Y1 (by rw[HC.out,if_pos h4]);have hx:Z1I 400 t=401:=by unfold Z1I; rw[if_pos h4]; rfl
  rw[hx] at hm;generalize Z2g 400 t=y at hm;clear h4 hx;go_enter Tryz.func46,Tryz.ntmps46
  go_wp2_with fail
  refine hm.mono ?_;rintro e w' ⟨rfl,hb'⟩;go_wp2;go_ret;exact ⟨Z1x HF.out.symm,Z00 HB0.out hb'⟩}
 {have hx:Z1I 400 t=(size t:Int):=by unfold Z1I; rw[if_neg h4]
  have hy:Z2g 400 t=(deep t:Int):=by unfold Z2g; rw[if_neg h4]
  rw[hx,hy] at hm;have h4': ¬(400:Int) < (size t:Int):=by omega
  by_cases h40:40 < deep t
  {have HF:Hid (check t=91):=Y1 (by rw[HC.out,if_neg h4,if_pos h40]);have h40': (40:Int) < (deep t:Int):=by omega
   clear h4 h40 hx hy;go_enter Tryz.func46,Tryz.ntmps46
   go_wp2_with fail
   refine hm.mono ?_;rintro e w' ⟨rfl,hb'⟩;go_wp2;go_ret;exact ⟨Z1x HF.out.symm,Z00 HB0.out hb'⟩}
  {have h40': ¬(40:Int) < (deep t:Int):=by omega
   have HF:Hid (check t=if right t=false then 70 else 0):=Y1 (by rw[HC.out,if_neg h4,if_neg h40]);have HZ:Hid (size t<=1000000):=Y1 (by omega);clear h4 h40 hx hy;go_enter Tryz.func46,Tryz.ntmps46
   go_wp2_with fail
   refine hm.mono ?_;rintro e w2 ⟨rfl,hb2⟩;have hbw:=Z00 HB0.out hb2;have HBW2:=Y1 hbw;have HB2:=Y1 (HB.out.next hb2);have hr:=Z65 t q w2 (HQ.out.next hbw) (HG.out.next hbw) HZ.out;clear hm hb2 hbw c0 c1 c2 c3 c4;obtain ⟨_,⟨c0,c1,c2,c3,c4⟩,_⟩:=HB2.out;cases hrt:right t
   all_goals
    rw[hrt] at hr HF;clear hrt
    go_wp2_with fail
    refine hr.mono ?_;rintro e w' ⟨rfl,hb'⟩;go_wp2;go_ret;exact ⟨Z1x (by rw[HF.out]; rfl),Z00 HBW2.out hb'⟩}}
theorem mayBe_walk (hg:WGlobs w):
 Y9 77 #[.agg (Y8 t q)] w (.bool (decide (check t=0))):=by
 have hb0:=Z01 w (.cells (Y8 t q) 25);have hm:=Z1r t q _ (hq.next hb0) (hg.next hb0);have HB0:=Y1 hb0;obtain ⟨_,⟨c0,c1,c2,c3,c4⟩,_⟩:=Z02 w t q;clear hb0 hq hg;go_enter Tryz.func77,Tryz.ntmps77
 go_wp2_with fail
 refine hm.mono ?_;rintro e w' ⟨rfl,hb'⟩;go_wp2;go_ret;exact ⟨Z0w (by rw[Bool.eq_iff_iff]; simp),Z00 HB0.out hb'⟩
end
end
section
open Go.RowKit Shp Go.Sort
theorem Z8n {t:Sh} (q:Ptr) (hr:right t=true):
 (.agg #[.int .i64 t.kind,.string ⟨t.of_.toArray⟩,.string ⟨t.name.toArray⟩,.slice q.A t.names.length q.c,.slice q.P t.parts.length q.d]:Value)= .agg #[.int .i64 (sorted t).kind,.string ⟨(sorted t).of_.toArray⟩,.string ⟨(sorted t).name.toArray⟩,.slice q.A (sorted t).names.length q.c,.slice q.P (sorted t).parts.length q.d]:=by
 obtain ⟨k1,k2,k3⟩:=Z2A t;obtain ⟨l1,l2⟩:=Z3T (t:=t) ((Z28 hr).imp id And.left);rw[k1,k2,k3,l1,l2]
theorem UpF.toBelow {F:List Nat} {w w':World} {B:Nat} (h:UpF F w w') (hF: ∀b∈F,B<=b) (hB:B<=w.heap.size):Below B w w':=
 ⟨h.os,h.tape,h.output,h.size,fun k hk=>h.block k (Nat.lt_of_lt_of_le hk hB) (fun hm=>by have:=hF k hm; omega)⟩
theorem Z58 (t:Sh) (q:Ptr) (w:World) (hq:ShAt w w.heap.size q t) (hg:WGlobs w) (hck:check t=0):
 Calls Tryz.prog 54 #[.agg (Y8 t q)] w fun e w'=> ∃q' F,e= .returned (.agg (Y8 (sorted t) q'))/\Own w' q' (sorted t) F/\(∀b∈F,w.heap.size<=b)/\Below w.heap.size w w':=by
 obtain ⟨hz,_,hr⟩:=Z05 hck;have HQ:=Y1 hq;have HG:=Y1 hg;have HR:=Y1 hr;have HCK:=Y1 hck;have HS:=Y1 (Z33 w t q);have HB:=Y1 (Zaj w t q);have HE:=Y1 (Z8S w t q);have HCP:=Y1 (Z6G t q (sW w t q) (hq.next (Z33 w t q)) hz hr);have HB0:=Y1 (Z02 w t q);obtain ⟨_,⟨c0,c1,c2,c3,c4⟩,_⟩:=HB0.out;clear hq hg hr hck;go_enter Tryz.func54,Tryz.ntmps54
 go_wp2_with fail
 clear c0 c1 c2 c3 c4 HB0;change Calls _ _ _ (sW w t q) _;generalize sW w t q=W at HS HB HE HCP ⊢;refine HCP.out.mono ?_;rintro e w1 ⟨q',F,rfl,ho,hnd,hF,hb1⟩;have HO:=Y1 ho;have HND:=Y1 hnd;have HF:=Y1 hF;have HS1:=Y1 (Z00 HS.out hb1);have HB1:=Y1 (HB.out.next hb1);have HE1:=Y1 (HE.out.next hb1);have HLF:=Y1 ho.lt;have hbw:=Z01 w1 (.cells (Y8 t q') 25);have HBW:=Y1 hbw;have HB2:=Y1 (HB1.out.next hbw);have HE2:=Y1 (HE1.out.next hbw);have HT2:=Y1 (Z02 w1 t q');have HO2:=Y1 (Z1B ho hbw);have HS2:=Y1 (Z00 HS1.out hbw);have hm:=mayBe_walk t q _ (HQ.out.next HS2.out) (HG.out.next HS2.out);rw[show decide (check t=0)=true from by rw[HCK.out]; rfl] at hm;have HM:=Y1 hm;obtain ⟨_,⟨c0,c1,c2,c3,c4⟩,_⟩:=HB2.out;clear ho hnd hF hb1 hbw hm HCP
 go_wp2_with fail
 refine HM.out.mono ?_;rintro e w3 ⟨rfl,hb3⟩;have HS3:=Y1 (Z00 HS2.out hb3);have HE3:=Y1 (HE2.out.next hb3);have HT3:=Y1 (HT2.out.next hb3);have HO3:=Y1 (Z1B HO2.out hb3);clear c0 c1 c2 c3 c4;obtain ⟨_,⟨c0,c1,c2,c3,c4⟩,_⟩:=HT3.out;have HW:=Y1 (Z4C t q' F w3 HO3.out HND.out HR.out hz);have hbl:w1.heap.size+1<=w3.heap.size:=by have:=hb3.size; simp at this; exact this
 have HLT:=Y1 hbl;clear hb3 HM hbl
 go_wp2_with fail
 refine HW.out.mono ?_;rintro e w4 ⟨rfl,hu,F',hp,ho⟩;have HLN:=Y1 (show w.heap.size+1∉F from fun hm=>by have:=HF.out _ hm; have:=HE.out.1; omega);have HLT2:=Y1 (show w1.heap.size∉F from fun hm=>by have:=HLF.out _ hm; omega);have HT4:=Y1 (HT3.out.same (hu.same HT3.out.1 HLT2.out) hu.size);have HE4:=Y1 (HE3.out.same (hu.same HE3.out.1 HLN.out) hu.size);have HS4:=Y1 (HS3.out.trans (hu.toBelow (fun b hb=>by have:=HF.out b hb; have:=HB.out.1; omega) HS3.out.size));have HO4:=Y1 ho;have HNF:=Y1 (show ∀b∈F',w.heap.size+1≠b from fun b hb e=>HLN.out (by rw[e]; exact hp.mem_iff.1 hb));have HGE:Hid (∀b∈F',w.heap.size<=b):=Y1 (fun b hb=>by have:=HF.out b (hp.mem_iff.1 hb); have:=HB.out.1; omega);clear hu hp ho HW c0 c1 c2 c3 c4;obtain ⟨_,⟨c0,c1,c2,c3,c4⟩,_⟩:=HT4.out;obtain ⟨_,⟨r0,r1,r2,r3,r4⟩,f0,f1,f2,f3,f4⟩:=HE4.out;simp only[Nat.zero_add] at c0 c1 c2 c3 c4 r0 r1 r2 r3 r4;have hne:w1.heap.size≠w.heap.size+1:=fun e=>by have:=HE1.out.1; omega
 go_wp2;refine bodyPost_ret (v:= .agg (Y8 t q')) (by simp[results,Tryz.results54,go_sem,r0,r1,r2,r3,r4]) rfl ?_;refine ⟨q',F',by rw[Z8n q' HR.out], ?_,fun b hb=>HGE.out b hb,Z4r HS4.out (by omega) _ _ _ _ _⟩;have h5:=Z5F HO4.out HNF.out (.int .i64 t.kind) (.string ⟨t.of_.toArray⟩) (.string ⟨t.name.toArray⟩) (.slice q'.A t.names.length q'.c) (.slice q'.P t.parts.length q'.d);exact h5
end
section
open Go.RowKit Shp
theorem Zb7 (t:Sh): ∀(q:Ptr) (w:World),ShAt w w.heap.size q t->deep t<=1000000->
 Calls Tryz.prog 49 #[.agg (Y8 t q)] w
  fun e w'=>e= .returned (.int .i64 (deep t:Int))/\Below w.heap.size w w':=by
 induction t using Sh.ind with
 | h t ih=>
 intro q w hq hd;have HM:=Y1 hq.small.m;have HP:=Y1 hq.part;have HD:Hid (deep t=deeps t.parts+1):=Y1 (Z0d t);have hd2:deeps t.parts<=1000000:=by have:=HD.out; omega
 have hB:=Z02 w t q;have HB:=Y1 hB;have hb0:=Z01 w (.cells (Y8 t q) 25);have HB0:=Y1 hb0;clear hB hb0 hq hd;go_enter Tryz.func49,Tryz.ntmps49
 go_wp2_with fail
 generalize hW0:w.alloc (.cells (Y8 t q) 25)=W0 at HB HB0 ⊢;clear hW0
 go_loopw [3,4] (fun nn ii wr=> ∃i:Nat,ii= .int .i64 i/\i<=t.parts.length/\nn= .int .i64 (deeps (t.parts.take i):Int)/\Below W0.heap.size W0 wr) (fun _ i _=>t.parts.length - (intOf i).toNat)
 case atStart=>exact ⟨0,rfl,Nat.zero_le _,rfl,Below.refl _ _⟩
 case round=>
  obtain ⟨i,rfl,hi,rfl,hb⟩:=hrel;have HBX:=Y1 (HB.out.next hb);have hm:=HM.out;obtain ⟨_,⟨_,_,_,_,c4⟩,_⟩:=HB.out.next hb;by_cases hlt:i < t.parts.length
  {rcases HP.out with h0 | ⟨g,off,qs,hqP,hg,hc,hr⟩
   {omega}
   {have hbw:Below w.heap.size w wr:=HB0.out.trans (hb.mono HB0.out.size);obtain ⟨x,hx⟩: ∃x,x=t.parts[i]:=⟨_,rfl⟩;obtain ⟨p0,p1,p2,p3,p4⟩:=(hc i hlt).keep hg hbw;have hat:ShAt wr wr.heap.size (qs i) x:=by rw[hx]; exact (hr i hlt).next hbw
    have ihx:=ih t.parts[i] (List.getElem_mem _) (qs i) wr;have hdx:deep x<=1000000:=by rw[hx]; exact Nat.le_trans (Z0t (List.getElem_mem _)) hd2
    have HN:Hid (deeps (t.parts.take (i+1))=max (deeps (t.parts.take i)) (deep x)):=Y1 (by rw[hx]; exact Z4i hlt);rw[<-hx] at p0 p1 p2 p3 p4 ihx;have IH:=ihx hat hdx;have htk:=Z7y t.parts i;rw[hqP] at c4;clear hx hc hr hat ihx hdx hd2 ih hqP;have hi1: (i:Int) < (t.parts.length:Int):=by omega
    generalize deeps (t.parts.take i)=a at HN htk ⊢;by_cases hgt: (a:Int) < (deep x:Int)
    all_goals
     go_wp2_with (refine IH.mono ?_; rintro e w' ⟨rfl,hb'⟩)
     go_wp2
     go_roundw
     case rel=>exact ⟨i+1,by go_num,by omega,by rw[HN.out]; go_num,hb.trans (hb'.mono hb.size)⟩
     case measure=>simp[intOf]; omega}}
  {have hie:i=t.parts.length:=by omega
   have HE:Hid (deeps (t.parts.take i)=deeps t.parts):=Y1 (by rw[hie,List.take_length]);have htk:=Z7y t.parts i;clear hie;go_wp2;go_ret;exact ⟨by rw[HE.out,HD.out]; go_num,HB0.out.trans (hb.mono HB0.out.size)⟩}
theorem ZaW {l:List Sh} {i m:Nat} (hi:i < l.length) (h:1+sizes (l.take i)<=m):min (1+sizes (l.take i)) (m+1)+sizeTo (m - min (1+sizes (l.take i)) (m+1)) (l[i]'hi)=min (1+sizes (l.take (i+1))) (m+1):=by
 rw[Z25 hi]; unfold sizeTo; omega
theorem Zb8 (t:Sh): ∀(q:Ptr) (m:Nat) (w:World),ShAt w w.heap.size q t->m<=1000000->
 Calls Tryz.prog 48 #[.agg (Y8 t q),.int .i64 (m:Int)] w
  fun e w'=>e= .returned (.int .i64 (sizeTo m t:Int))/\Below w.heap.size w w':=by
 induction t using Sh.ind with
 | h t ih=>
 intro q m w hq hmm;have HM:=Y1 hq.small.m;have HP:=Y1 hq.part;have HZ:Hid (size t=1+sizes t.parts):=Y1 (size_eq t);have hB:=Z02 w t q;have HB:=Y1 hB;have hb0:=Z01 w (.cells (Y8 t q) 25);have HB0:=Y1 hb0;clear hB hb0 hq;go_enter Tryz.func48,Tryz.ntmps48
 go_wp2_with fail
 generalize hW0:w.alloc (.cells (Y8 t q) 25)=W0 at HB HB0 ⊢;clear hW0
 go_loopw [5,6] (fun nn ii wr=> ∃i:Nat,ii= .int .i64 i/\i<=t.parts.length/\nn= .int .i64 ((min (1+sizes (t.parts.take i)) (m+1):Nat):Int)/\Below W0.heap.size W0 wr) (fun _ i _=>t.parts.length - (intOf i).toNat)
 case atStart=>exact ⟨0,rfl,Nat.zero_le _,by rw[List.take_zero]; show Value.int .i64 1= .int .i64 ((min (1+0) (m+1):Nat):Int); rw[Nat.min_eq_left (by omega)]; rfl,Below.refl _ _⟩
 case round=>
  obtain ⟨i,rfl,hi,rfl,hb⟩:=hrel;have hm:=HM.out;obtain ⟨_,⟨_,_,_,_,c4⟩,_⟩:=HB.out.next hb;obtain ⟨n,hn⟩: ∃n,n=min (1+sizes (t.parts.take i)) (m+1):=⟨_,rfl⟩;rw[<-hn];have HE:=Y1 hn;have hn1:1<=n:=by omega
  have hn2:n<=m+1:=by omega
  by_cases hlt:i < t.parts.length
  {have hi1: (i:Int) < (t.parts.length:Int):=by omega
   by_cases hnm:n<=m
   {rcases HP.out with h0 | ⟨g,off,qs,hqP,hg,hc,hr⟩
    {omega}
    {have hbw:Below w.heap.size w wr:=HB0.out.trans (hb.mono HB0.out.size);obtain ⟨x,hx⟩: ∃x,x=t.parts[i]:=⟨_,rfl⟩;obtain ⟨p0,p1,p2,p3,p4⟩:=(hc i hlt).keep hg hbw;have hat:ShAt wr wr.heap.size (qs i) x:=by rw[hx]; exact (hr i hlt).next hbw
     have ihx:=ih t.parts[i] (List.getElem_mem _) (qs i) (m - n) wr;have HN:Hid (n+sizeTo (m - n) x=min (1+sizes (t.parts.take (i+1))) (m+1)):=Y1 (by rw[hx,hn]; exact ZaW hlt (by omega));rw[<-hx] at p0 p1 p2 p3 p4 ihx;have IH:=ihx hat (by omega);rw[show ((m - n:Nat):Int)=(m:Int) - (n:Int) from by omega] at IH;rw[hqP] at c4;have hsz:sizeTo (m - n) x<=m - n+1:=Nat.min_le_right _ _;have d2:decide (n<=m)=true:=decide_eq_true (by omega);have d3:decide (i < t.parts.length)=true:=decide_eq_true (by omega);have hnm2: (n:Int)<=(m:Int):=by omega
     have hmm2: (m:Int)<=1000000:=by omega
     generalize sizeTo (m - n) x=z at IH HN hsz;have hz2: (n:Int)+(z:Int)<=1000001:=by omega
     clear hx hc hr hat ihx ih hqP hn
     go_wp2_with (refine IH.mono ?_; rintro e w' ⟨rfl,hb'⟩)
     go_roundw
     case rel=>exact ⟨i+1,by go_num,by omega,by rw[<-HN.out]; go_num,hb.trans (hb'.mono hb.size)⟩
     case measure=>simp[intOf]; omega}}
   {have HF:Hid (n=sizeTo m t):=Y1 (by
     have:=Z4j t.parts i;unfold sizeTo; have:=HZ.out; omega)
    have d2:decide (n<=m)=false:=decide_eq_false (by omega);have d3:decide (i < t.parts.length)=true:=decide_eq_true (by omega);clear hn;go_wp2;go_ret;exact ⟨by rw[<-HF.out]; rfl,HB0.out.trans (hb.mono HB0.out.size)⟩}}
  {have HF:Hid (n=sizeTo m t):=Y1 (by
    rw[show i=t.parts.length from by omega,List.take_length] at hn;unfold sizeTo; have:=HZ.out; omega)
   have d3:decide (i < t.parts.length)=false:=decide_eq_false (by omega);clear hn;go_wp2;go_ret;exact ⟨by rw[<-HF.out]; rfl,HB0.out.trans (hb.mono HB0.out.size)⟩}
end
end Go.Proofs.YtkhoflciahkphaaGreatDoor
