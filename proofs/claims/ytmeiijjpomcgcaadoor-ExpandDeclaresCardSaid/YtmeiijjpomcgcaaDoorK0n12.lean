/- What the proofs of ExpandDeclares want, part 12. -/
import Derived.RangeFuncNested
import Derived.OwnWalkIn
import Derived.TacticsInMore
import Derived.LoopNIn
import Derived.LoopIn
import Derived.Test.YtmeiijjpomcgcaaDoorK0n11
set_option linter.unusedVariables false
set_option linter.unusedSimpArgs false
set_option linter.unusedSectionVars false
set_option maxRecDepth 100000
set_option maxHeartbeats 16000000
namespace Go.Proofs.YtmeiijjpomcgcaaDoor
section
open Go.RowKit Shp
open Expd (Bd)
attribute [local go_sem] Oper.semAt_some
abbrev bdV (b:Bd) (q:Ptr):Value:= .agg #[.string ⟨b.of_.toArray⟩,.string ⟨b.name.toArray⟩,.int .i64 b.sh.kind,.string ⟨b.sh.of_.toArray⟩,.string ⟨b.sh.name.toArray⟩,.slice q.A b.sh.names.length q.c,.slice q.P b.sh.parts.length q.d]
structure Bk (w:World) (n0 h:Nat) (A:Option Addr) (c:Nat) (L:List Bd) (qs:Nat->Ptr) (g off:Nat):Prop where
 box:w.cell? ⟨h,0,none⟩=some (.slice A L.length c)
 n0h:n0<=h
 lt:h < w.heap.size
 at_:L.length=0\/A=some ⟨g,off,none⟩/\g < n0
 cells: ∀i (hi:i < L.length),BdAt w n0 g (off+i * 7) (L[i]'hi) (qs i)
 len:L.length<=1000
def BkK (n0 h:Nat) (w w':World):Prop:=Below n0 w w'/\w'.heap[h]? =w.heap[h]?
theorem BkK.trans {n0 h:Nat} {a b c:World} (x:BkK n0 h a b) (y:BkK n0 h b c):BkK n0 h a c:=⟨x.1.trans y.1,y.2.trans x.2⟩
theorem Bk.keep {w w':World} {n0 h:Nat} {A:Option Addr} {c:Nat} {L:List Bd} {qs:Nat->Ptr} {g off:Nat} (H:Bk w n0 h A c L qs g off) (k:BkK n0 h w w'):Bk w' n0 h A c L qs g off:=by
 have hsz:=k.1.size;refine ⟨(World.cell?_of_block (w:=w) k.2).trans H.box,H.n0h,Nat.lt_of_lt_of_le H.lt hsz,H.at_,fun i hi=> ?_,H.len⟩;have hg:g < n0:=by
  rcases H.at_ with h0 | h0
  {omega}
  {exact h0.2}
 exact (H.cells i hi).of (Nat.le_refl _) hg (fun g' k' h'=>k.1.cell (p:=⟨g',k',none⟩) h')
theorem Z62 (W:World) (A:Option Addr) (n c:Nat):Calls Tryd.prog 32 #[.slice A n c] W fun e W'=>e= .returned (.func (.func 51) #[] #[.pointer (some ⟨W.heap.size,0,none⟩)])/\W'.cell? ⟨W.heap.size,0,none⟩=some (.slice A n c)/\W'.heap.size=W.heap.size+1/\Below W.heap.size W W':=by
 go_enter Tryd.func32,Tryd.ntmps32;go_wp2;go_ret;exact ⟨rfl,by simp[go_sem],by simp,Z01 _ _⟩
def downTo (n k:Nat):List Nat:=(List.range n).reverse.take (n - k)
theorem Z9v {n k:Nat} (h:k<=n): (downTo n k).length=n - k:=by unfold downTo; rw[List.length_take,List.length_reverse,List.length_range]; omega
theorem Z9w (n:Nat):downTo n n= []:=by unfold downTo; simp
theorem Z30 (n:Nat):downTo n 0=(List.range n).reverse:=by unfold downTo; rw[Nat.sub_zero,List.take_of_length_le (by simp)]
theorem Z4t {n k:Nat} (h:k < n):downTo n k=downTo n (k+1)++ [k]:=by
 unfold downTo;rw[show n - k=(n - (k+1))+1 by omega,List.take_succ_eq_append_getElem (by simp; omega)];congr 2;rw[List.getElem_reverse];simp;omega
theorem ZbG (n:Nat) (hn:1<=n) (w:World) (n0 h:Nat) (A:Option Addr) (c:Nat) (L:List Bd) (qs:Nat->Ptr) (g off:Nat) (H:Bk w n0 h A c L qs g off):
 SeqStopsK Fence.wide n Tryd.prog 51 #[.pointer (some ⟨h,0,none⟩)] (fun i:Nat=>#[.int .i64 (i:Int),bdV (L.getD i ⟨[],[],⟨0,[],[],[],[]⟩⟩) (qs i)]) (BkK n0 h)
  (fun xs=>xs=(List.range L.length).reverse) (fun pre=> ∃k,k < L.length/\pre=downTo L.length k) L.length w:=by
 intro l J Jx W hb hJ hJx hY h0;have HW:Bk W n0 h A c L qs g off:=H.keep ⟨hb.mono (by have:=H.n0h; have:=H.lt; omega),hb.block h H.lt⟩;refine callsIn_of_wp Tryd.func51 rfl trivial ?_ rfl;simp only[Tryd.ntmps51,List.size_toArray,List.length_cons,List.length_nil,Nat.reduceAdd,Nat.reduceSub,Array.replicate_succ,Array.replicate_zero,List.push_toArray,List.append_toArray,List.nil_append,List.cons_append];have c0:=HW.box;have HL:=HW.len;have HH:=Y1 HW;clear hb hJ hJx HW H
 gi_wp2_with fail
 gi_loopw [3] (fun i wr=> ∃k:Nat,k<=L.length/\i= .int .i64 ((k:Int) - 1)/\J (downTo L.length k) wr/\Hid (Bk wr n0 h A c L qs g off)) (fun i _=>(intOf i+1).toNat)
 case atStart=>exact ⟨L.length,Nat.le_refl _,rfl,by rw[Z9w]; exact h0,HH⟩
 case round=>
  clear HH c0 h0;obtain ⟨k,hk,rfl,hJk,HB⟩:=hrel;have c0:=HB.out.box;rcases k with _ | k
  {gi_wp2
   go_end0
   exact ⟨⟨_,rfl⟩,Or.inl ⟨_,rfl,by rw[<-Z30]; exact hJk⟩⟩}
  {have hkl:k < L.length:=hk;have e1: ((k+1:Nat):Int) - 1=(k:Int):=by omega
   obtain ⟨x0,x1,⟨y0,y1,y2,y3,y4⟩,_⟩:=HB.out.cells k hkl;have hA:=HB.out.at_.resolve_left (by omega);rw[hA.1] at c0;have hD:L.getD k ⟨[],[],⟨0,[],[],[],[]⟩⟩=L[k]'hkl:=by simp[hkl]
   obtain ⟨fn,tmps,assign,body,hy,hR⟩:=hY (downTo L.length (k+1)) k wr hJk (by rw[Z9v hk]; omega);rw[hD] at hy;rw[<-Z4t hkl] at hR;obtain ⟨bk,hbk⟩: ∃bk,bk=L[k]'hkl:=⟨_,rfl⟩;rw[<-hbk] at x0 x1 y0 y1 y2 y3 y4 hy;rw[e1];change wr.cell? ⟨g,off+k * 7+3,none⟩=_ at y1;change wr.cell? ⟨g,off+k * 7+4,none⟩=_ at y2;change wr.cell? ⟨g,off+k * 7+5,none⟩=_ at y3;change wr.cell? ⟨g,off+k * 7+6,none⟩=_ at y4;clear hY hJk hD hbk e1 hA
   gi_wp2
   refine hR.mono ?_;rintro e W3 (⟨rfl,hJ3,hk3⟩ | ⟨rfl,hJx3⟩)
   {have hB3:=Y1 (HB.out.keep hk3);have HJ3:=Y1 hJ3;clear hk3 hJ3 c0 x0 x1 y0 y1 y2 y3 y4
    gi_wp2
    go_roundw
    case rel=>exact ⟨k,by omega,by go_num,HJ3.out,hB3⟩
    case measure=>simp[intOf]}
   {gi_wp2
    refine bodyPost_ret (results_none rfl _ _ _) rfl ?_;exact ⟨⟨_,rfl⟩,Or.inr ⟨_,⟨k,hkl,rfl⟩,hJx3⟩⟩}}
end
section
open Go.RowKit Shp
open Expd (Bd fill keys find)
theorem Pls.at_ {W:World} {B0 g i:Nat} {t:Sh} {pl:List Plc} (h:Pls W B0 g i t pl): ∀e∈pl,e.2.1 < B0/\ ∃(s:Sh) (q:Ptr),Sh5 W e.2.1 (e.2.2 * 5) s q/\s.kind=9/\(s.of_,s.name)=e.1:=by
 induction h with
 | name g i t q hk hp hg hs hsm hn=>intro e he; simp at he; subst he; exact ⟨hg,t,q,hs,hk,rfl⟩
 | node g i t q b pls hk hg hs hsm hn hp hr ih=>
  intro e he;obtain ⟨j,hj,he⟩:=List.mem_flatMap.1 he;exact ih j (List.mem_range.1 hj) e he
theorem ZbH (f:Nat->List Plc) (l:List Sh): (∀j (h:j < l.length),(f j).length<=size (l[j]'h))->((List.range l.length).flatMap f).length<=sizes l:=by
 intro h;have: ∀n,n<=l.length->((List.range n).flatMap f).length<=sizes (l.take n):=fun n=>by
  induction n with
  | zero=>intro _; simp
  | succ n ih=>
   intro hn;rw[List.range_succ,List.flatMap_append,List.length_append,Z1L (by omega)];have h1:=ih (by omega);have h2:=h n (by omega);simp;simp at h1;omega
 have h1:=this l.length (Nat.le_refl _)
 rwa [List.take_length] at h1
theorem Zca {W:World} {B0:Nat} {q:Ptr} {t:Sh} {F:List Nat} (h:Own W q t F): ∀(g i:Nat),g < B0->(∀b∈F,b < B0)->Sh5 W g (i * 5) t q->right t=true-> ∃pl,(∀W',(∀b∈F,∀k,W'.cell? ⟨b,k,none⟩=W.cell? ⟨b,k,none⟩)->(∀k,W'.cell? ⟨g,k,none⟩=W.cell? ⟨g,k,none⟩)->Pls W' B0 g i t pl)/\pl.length<=size t/\ ∀e∈pl,e.2.1=g\/e.2.1∈F:=by
 induction h with
 | mk q t F FN FP qs Fs hs hn hp hr hF ih=>
  subst hF;intro g i hg hF h5 hR;by_cases hk:t.kind=9
  {obtain ⟨h1,h2⟩:=Expd.name_bare hR hk;refine ⟨_,fun W' _ hc=> .name g i t q hk (by rw[h2]; rfl) hg (h5.of hc) hs (by rw[h1]; rfl),Z1V t, ?_⟩;intro e he; simp at he; subst he; exact Or.inl rfl}
  {have hN: ∀W':World,(∀b∈FN,∀k,W'.cell? ⟨b,k,none⟩=W.cell? ⟨b,k,none⟩)->t.names.length=0\/ ∃bn,q.A=some ⟨bn,0,none⟩/\bn < B0/\ ∀j (h:j < t.names.length),W'.cell? ⟨bn,j,none⟩=some (.string ⟨(t.names[j]'h).toArray⟩):=fun W' hW=>by
    rcases hn with ⟨h,_⟩ | ⟨b,h1,rfl,h3⟩
    {exact Or.inl h}
    {exact Or.inr ⟨b,h1,hF b (by simp),fun j hj=>(hW b (by simp) j).trans (h3.at_ j hj)⟩}
   rcases hp with ⟨h0,rfl⟩ | ⟨b,h1,rfl,hb⟩
   {refine ⟨_,fun W' hW hc=> .node g i t q 0 (fun _=> []) hk hg (h5.of hc) hs (hN W' (fun b hb=>hW b (by simp[hb]))) (Or.inl h0) (fun j hj=>absurd hj (by omega)), ?_, ?_⟩
    {simp[h0]}
    {simp[h0]}}
   {have hx:=fun j hj=>ih j hj b j (hF b (by simp)) (fun c hc=>hF c (List.mem_append_right _ (List.mem_flatMap.2 ⟨j,List.mem_range.2 hj,hc⟩))) (hb.at_ j hj) (Z05 hR (List.getElem_mem hj))
    let pls:Nat->List Plc:=fun j=>if h:j < t.parts.length then (hx j h).choose else []
    have hpl: ∀j (h:j < t.parts.length),(∀W',(∀c∈Fs j,∀k,W'.cell? ⟨c,k,none⟩=W.cell? ⟨c,k,none⟩)->(∀k,W'.cell? ⟨b,k,none⟩=W.cell? ⟨b,k,none⟩)->Pls W' B0 b j (t.parts[j]'h) (pls j))/\(pls j).length<=size (t.parts[j]'h)/\ ∀e∈pls j,e.2.1=b\/e.2.1∈Fs j:=fun j h=>by
     have:=(hx j h).choose_spec;simp only[pls,dif_pos h];exact this
    refine ⟨_,fun W' hW hc=> .node g i t q b pls hk hg (h5.of hc) hs (hN W' (fun c hc=>hW c (by simp[hc]))) (Or.inr ⟨h1,hF b (by simp)⟩) (fun j hj=>(hpl j hj).1 W' (fun c hc=>hW c (List.mem_append_right _ (List.mem_flatMap.2 ⟨j,List.mem_range.2 hj,hc⟩))) (hW b (by simp))), ?_, ?_⟩
    {rw[size_eq];have:=ZbH pls t.parts (fun j hj=>(hpl j hj).2.1);omega}
    {intro e he;obtain ⟨j,hj,he⟩:=List.mem_flatMap.1 he;have hj:=List.mem_range.1 hj;rcases (hpl j hj).2.2 e he with h | h
     {exact Or.inr (by rw[h]; simp)}
     {exact Or.inr (List.mem_append_right _ (List.mem_flatMap.2 ⟨j,List.mem_range.2 hj,h⟩))}}}}
abbrev Lk:=Ky->Option (Sh×Ptr)
structure FlI (b:Nat) (W wr:World) (ps:Ky->List (Nat×Nat)) (lk:Lk):Prop where
 os:wr.os=W.os
 tape:wr.tape=W.tape
 output:wr.output=W.output
 size:W.heap.size<=wr.heap.size
 block: ∀x,x < W.heap.size->x≠b->(∀k,(lk k).isSome=true-> ∀p∈ps k,p.1≠x)->wr.heap[x]? =W.heap[x]?
 cell: ∀g c,g < W.heap.size->g≠b->(∀k,(lk k).isSome=true-> ∀p∈ps k,¬(p.1=g/\p.2 * 5<=c/\c < p.2 * 5+5))->wr.cell? ⟨g,c,none⟩=W.cell? ⟨g,c,none⟩
 fz: ∀g c,g < W.heap.size->g≠b->wr.frozen? ⟨g,c,none⟩=W.frozen? ⟨g,c,none⟩
 ex: ∀g c,g < W.heap.size->g≠b->(∃v,W.cell? ⟨g,c,none⟩=some v)-> ∃v,wr.cell? ⟨g,c,none⟩=some v
 put: ∀k s q,lk k=some (s,q)-> ∀p∈ps k,Sh5 wr p.1 (p.2 * 5) s q
theorem FlI.refl (b:Nat) (W:World) (ps:Ky->List (Nat×Nat)):FlI b W W ps (fun _=>none):=⟨rfl,rfl,rfl,Nat.le_refl _,fun _ _ _ _=>rfl,fun _ _ _ _ _=>rfl,fun _ _ _ _=>rfl,fun _ _ _ _ h=>h,nofun⟩
theorem FlI.next {b:Nat} {W wr w':World} {ps:Ky->List (Nat×Nat)} {lk:Lk} (h:FlI b W wr ps lk) (hb:Below wr.heap.size wr w') (hp: ∀k,∀p∈ps k,p.1 < W.heap.size):FlI b W w' ps lk:=by
 have hz:=h.size;refine ⟨hb.os.trans h.os,hb.tape.trans h.tape,hb.output.trans h.output,Nat.le_trans hz hb.size,fun x h1 h2 h3=>(hb.block x (by omega)).trans (h.block x h1 h2 h3),fun g c h1 h2 h3=>(hb.cell (p:=⟨g,c,none⟩) (by show g < _; omega)).trans (h.cell g c h1 h2 h3),
  fun g c h1 h2=>(hb.frozen (p:=⟨g,c,none⟩) (by show g < _; omega)).trans (h.fz g c h1 h2),fun g c h1 h2 h3=> ?_,fun k s q hk p hpk=>(h.put k s q hk p hpk).of (fun c=>hb.cell (p:=⟨p.1,c,none⟩) (by have:=hp k p hpk; show p.1 < _; omega))⟩
 obtain ⟨v,hv⟩:=h.ex g c h1 h2 h3;exact ⟨v,(hb.cell (p:=⟨g,c,none⟩) (by show g < _; omega)).trans hv⟩
def Lk.add (lk:Lk) (k0:Ky) (x:Sh×Ptr):Lk:=fun k=>(lk k).or (if k=k0 then some x else none)
theorem Z3B {lk:Lk} {k0 k:Ky} {x:Sh×Ptr} (h: (lk k).isSome=true):lk.add k0 x k=lk k:=by
 unfold Lk.add; cases e:lk k with
 | none=>rw[e] at h; cases h
 | some y=>rfl
theorem Z3C {lk:Lk} {k0 k:Ky} {x:Sh×Ptr} (h:lk k=none):lk.add k0 x k=if k=k0 then some x else none:=by unfold Lk.add; rw[h]; rfl
theorem FlI.fill {b:Nat} {W wr w':World} {ps:Ky->List (Nat×Nat)} {lk:Lk} {k0:Ky} {s:Sh} {q:Ptr} (h:FlI b W wr ps lk) (hf:FlOut b wr w' (if (lk k0).isSome then [] else ps k0) s q)
 (hp: ∀k,∀p∈ps k,p.1 < W.heap.size/\p.1≠b) (far: ∀k k',k≠k'-> ∀p∈ps k,p∉ps k'):FlI b W w' ps (lk.add k0 (s,q)):=by
 have hz:=h.size;have old: ∀k,(lk k).isSome=true->(lk.add k0 (s,q) k).isSome=true:=fun k hk=>by rw[Z3B hk]; exact hk
 have new: ∀p∈(if (lk k0).isSome then [] else ps k0),p∈ps k0/\(lk.add k0 (s,q) k0).isSome=true:=fun p hpk=>by
  by_cases e: (lk k0).isSome=true
  {rw[if_pos e] at hpk; cases hpk}
  {rw[if_neg e] at hpk;rw[Z3C (by simpa using e),if_pos rfl];exact ⟨hpk,rfl⟩}
 refine ⟨hf.os.trans h.os,hf.tape.trans h.tape,hf.output.trans h.output,Nat.le_trans hz hf.size,fun x h1 h2 h3=> ?_,fun g c h1 h2 h3=> ?_,fun g c h1 h2=>(hf.fz g c (by omega) h2).trans (h.fz g c h1 h2),fun g c h1 h2 h3=>hf.ex g c (by omega) h2 (h.ex g c h1 h2 h3),fun k s' q' hk p hpk=> ?_⟩
 {exact (hf.block x (by omega) h2 (fun p hpk=>h3 k0 (new p hpk).2 p (new p hpk).1)).trans (h.block x h1 h2 (fun k hk=>h3 k (old k hk)))}
 {exact (hf.cell g c (by omega) h2 (fun p hpk=>h3 k0 (new p hpk).2 p (new p hpk).1)).trans (h.cell g c h1 h2 (fun k hk=>h3 k (old k hk)))}
 {by_cases e: (lk k).isSome=true
  {rw[Z3B e] at hk;have h5:=h.put k s' q' hk p hpk;have hp1:=hp k p hpk;have hne: ∀p'∈(if (lk k0).isSome then [] else ps k0),p'≠p:=fun p' hp' e'=>by
    by_cases e2:k=k0
    {subst e2; rw[if_pos e] at hp'; cases hp'}
    {exact far k k0 e2 p hpk (e'▸(new p' hp').1)}
   have hc: ∀j,j < 5->w'.cell? ⟨p.1,p.2 * 5+j,none⟩=wr.cell? ⟨p.1,p.2 * 5+j,none⟩:=fun j hj=>hf.cell p.1 (p.2 * 5+j) (by omega) hp1.2 (fun p' hp' ⟨h1,h2,h3⟩=>hne p' hp' (Prod.ext h1 (by omega)));obtain ⟨a0,a1,a2,a3,a4⟩:=h5;exact ⟨(hc 0 (by omega)).trans a0,(hc 1 (by omega)).trans a1,(hc 2 (by omega)).trans a2,(hc 3 (by omega)).trans a3,(hc 4 (by omega)).trans a4⟩}
  {rw[Z3C (by simpa using e)] at hk;by_cases e2:k=k0
   {subst e2;rw[if_pos rfl] at hk;cases hk;exact hf.put p (by rw[if_neg e]; exact hpk)}
   {rw[if_neg e2] at hk; cases hk}}}
theorem Z4I {W:World} {g o:Nat} {s t:Sh} {q q':Ptr} (h:Sh5 W g o s q) (k:Sh5 W g o t q'):s.kind=t.kind/\(s.of_,s.name)=(t.of_,t.name):=by
 obtain ⟨h0,h1,h2,_,_⟩:=h;obtain ⟨k0,k1,k2,_,_⟩:=k;rw[h0] at k0;rw[h1] at k1;rw[h2] at k2;simp at k0 k1 k2;exact ⟨k0,Prod.ext k1 k2⟩
structure FlR (B0:Nat) (W wr:World) (ps:Ky->List (Nat×Nat)) (lk:Lk):Prop where
 cell: ∀g c,g < B0->(∀k,(lk k).isSome=true-> ∀p∈ps k,¬(p.1=g/\p.2 * 5<=c/\c < p.2 * 5+5))->wr.cell? ⟨g,c,none⟩=W.cell? ⟨g,c,none⟩
 put: ∀k s q,lk k=some (s,q)-> ∀p∈ps k,Sh5 wr p.1 (p.2 * 5) s q
theorem FlI.read {b B0:Nat} {W wr:World} {ps:Ky->List (Nat×Nat)} {lk:Lk} (h:FlI b W wr ps lk) (hB:B0<=W.heap.size) (hb:B0<=b):FlR B0 W wr ps lk:=
 ⟨fun g c hg hp=>h.cell g c (by omega) (by omega) hp,h.put⟩
theorem ZaU {B0 BB:Nat} {W wr:World} {ps:Ky->List (Nat×Nat)} {lk:Lk} (h:FlR B0 W wr ps lk) (hBB:B0<=BB)
 (hpl: ∀k,∀p∈ps k,∃(s:Sh) (q:Ptr),Sh5 W p.1 (p.2 * 5) s q/\s.kind=9/\(s.of_,s.name)=k) (hsh: ∀k s q,lk k=some (s,q)->ShAt wr BB q s)
 {g i:Nat} {t:Sh} {pl:List Plc} (hP:Pls W B0 g i t pl): (∀e∈pl,e.2∈ps e.1)-> ∃q',Sh5 wr g (i * 5) (fill (fun o n=>(lk (o,n)).map Prod.fst) t) q'/\ShAt wr BB q' (fill (fun o n=>(lk (o,n)).map Prod.fst) t):=by
 induction hP with
 | name g i t q hk hp hg hs hsm hn=>
  intro hm;rw[Expd.fill_name hk];cases e:lk (t.of_,t.name) with
  | some x=>exact ⟨x.2,h.put _ x.1 x.2 e (g,i) (hm ((t.of_,t.name),g,i) (by simp)),hsh _ x.1 x.2 e⟩
  | none=>
   refine ⟨q, ?_,.mk q t 0 0 (fun _=>q) hsm (Or.inl (by rw[Z1w]; exact hn)) (Or.inl hp) (fun j hj=>absurd hj (by omega)) (fun j hj=>absurd hj (by omega))⟩;have hc: ∀j,j < 5->wr.cell? ⟨g,i * 5+j,none⟩=W.cell? ⟨g,i * 5+j,none⟩:=fun j hj=>h.cell g _ (by omega) (fun k hk' p hpk ⟨h1,h2,h3⟩=>by
    obtain ⟨s,q2,h5,_,h7⟩:=hpl k p hpk;have hi:p.2=i:=by omega
    rw[h1,hi] at h5;have:=(Z4I h5 hs).2;rw[<-h7,this,e] at hk';cases hk')
   obtain ⟨a0,a1,a2,a3,a4⟩:=hs;exact ⟨(hc 0 (by omega)).trans a0,(hc 1 (by omega)).trans a1,(hc 2 (by omega)).trans a2,(hc 3 (by omega)).trans a3,(hc 4 (by omega)).trans a4⟩
 | node g i t q b0 pls hk hg hs hsm hn hp hr ih=>
  intro hm;rw[Expd.fill_node hk];have hx:=fun j hj=>ih j hj (fun e he=>hm e (List.mem_flatMap.2 ⟨j,List.mem_range.2 hj,he⟩))
  let qs:Nat->Ptr:=fun j=>if h:j < t.parts.length then (hx j h).choose else q
  have hqs: ∀j (h:j < t.parts.length),Sh5 wr b0 (j * 5) (fill (fun o n=>(lk (o,n)).map Prod.fst) (t.parts[j]'h)) (qs j)/\ShAt wr BB (qs j) (fill (fun o n=>(lk (o,n)).map Prod.fst) (t.parts[j]'h)):=fun j h=>by
   have:=(hx j h).choose_spec;simp only[qs,dif_pos h];exact this
  have hl: (t.parts.map (fill (fun o n=>(lk (o,n)).map Prod.fst))).length=t.parts.length:=by simp
  refine ⟨q, ?_,.mk q _ b0 0 qs ⟨hsm.o,hsm.n,hsm.ns,hsm.l,by rw[hl]; exact hsm.m,hsm.c,by rw[hl]; exact hsm.d,hsm.A0,hsm.P0⟩ ?_ ?_ ?_ ?_⟩
  {have hc: ∀j,j < 5->wr.cell? ⟨g,i * 5+j,none⟩=W.cell? ⟨g,i * 5+j,none⟩:=fun j hj=>h.cell g _ (by omega) (fun k hk' p hpk ⟨h1,h2,h3⟩=>by
    obtain ⟨s,q2,h5,h6,_⟩:=hpl k p hpk;have hi:p.2=i:=by omega
    rw[h1,hi] at h5;exact hk ((Z4I h5 hs).1▸h6))
   obtain ⟨a0,a1,a2,a3,a4⟩:=hs;exact ⟨(hc 0 (by omega)).trans a0,(hc 1 (by omega)).trans a1,(hc 2 (by omega)).trans a2,(hc 3 (by omega)).trans a3,by rw[hl]; exact (hc 4 (by omega)).trans a4⟩}
  {rcases hn with hn | ⟨bn,h1,h2,h3⟩
   {exact Or.inl (by rw[Z1w]; exact hn)}
   {refine Or.inr ⟨bn,0,h1,by omega,fun j hj=> ?_⟩;rw[Z1w] at hj
    replace hj:j < t.names.length:=hj
    rw[Nat.zero_add];refine (h.cell bn j (by omega) (fun k hk' p hpk ⟨e1,e2,e3⟩=> ?_)).trans ((h3 j hj).trans (by simp[strs]));obtain ⟨s,q2,h5,_,_⟩:=hpl k p hpk;have e4:=h3 (p.2 * 5) (by omega);have e5:=h5.1;rw[e1,e4] at e5;cases e5}}
  {rw[hl]; exact hp.imp id (fun h=>⟨h.1,by omega⟩)}
  {intro j hj;rw[hl] at hj;rw[Nat.zero_add,List.getElem_map];exact (hqs j hj).1}
  {intro j hj;rw[hl] at hj;rw[List.getElem_map];exact (hqs j hj).2}
theorem ZbI (l:List Bd) (o n:List UInt8):find l o n=(l.reverse.find? (fun b=>decide ((b.of_,b.name)=(o,n)))).map Bd.sh:=by
 induction l with
 | nil=>rfl
 | cons b l ih=>
  rw[Expd.find_cons,ih,List.reverse_cons,List.find?_append];cases e:l.reverse.find? (fun b=>decide ((b.of_,b.name)=(o,n))) with
  | some x=>rfl
  | none=>
   by_cases h:b.of_=o/\b.name=n
   {simp[h.1,h.2]}
   {rw[if_neg h];have: ¬((b.of_,b.name)=(o,n)):=fun e=>h (by simpa using e);simp only[List.find?_cons,List.find?_nil,decide_eq_false this];rfl}
abbrev noBd:Bd:=⟨[],[],⟨0,[],[],[],[]⟩⟩
def lkL (L:List Bd) (qs:Nat->Ptr) (pre:List Nat):Lk:=fun k=>(pre.find? (fun i=>decide (((L.getD i noBd).of_,(L.getD i noBd).name)=k))).map fun i=>((L.getD i noBd).sh,qs i)
theorem ZbJ (L:List Bd) (qs:Nat->Ptr) (pre:List Nat) (i:Nat):lkL L qs (pre++ [i])=(lkL L qs pre).add ((L.getD i noBd).of_,(L.getD i noBd).name) ((L.getD i noBd).sh,qs i):=by
 funext k;unfold lkL Lk.add;simp only;rw[List.find?_append];cases e:pre.find? (fun i=>decide (((L.getD i noBd).of_,(L.getD i noBd).name)=k)) with
 | some x=>rfl
 | none=>
  by_cases h:k=((L.getD i noBd).of_,(L.getD i noBd).name)
  {rw[if_pos h];have: ((L.getD i noBd).of_,(L.getD i noBd).name)=k:=h.symm;simp only[List.find?_cons,decide_eq_true this];rfl}
  {rw[if_neg h];have: ¬(((L.getD i noBd).of_,(L.getD i noBd).name)=k):=fun e=>h e.symm;simp only[List.find?_cons,List.find?_nil,decide_eq_false this];rfl}
theorem Z73 (L:List Bd) (qs:Nat->Ptr) (o n:List UInt8): (lkL L qs (List.range L.length).reverse (o,n)).map Prod.fst=find L o n:=by
 have hL:L=(List.range L.length).map (fun i=>L.getD i noBd):=by
  refine List.ext_getElem (by simp) (fun i h1 h2=> ?_);simp[h1]
 rw[ZbI]
 conv=>rhs; rw[hL, <-List.map_reverse,List.find?_map]
 unfold lkL;rw[Option.map_map,Option.map_map];rfl
section
variable {L : List Bd} {qs : Nat -> Ptr}
include L qs
theorem Zcb {k:Nat} {x:Ky} (h: (lkL L qs (downTo L.length k) x).isSome=true):lkL L qs (List.range L.length).reverse x=lkL L qs (downTo L.length k) x:=by
 have e: (List.range L.length).reverse=downTo L.length k++(List.range L.length).reverse.drop (L.length - k):=by unfold downTo; rw[List.take_append_drop]
 rw[e];unfold lkL at h ⊢;rw[List.find?_append];cases e2: (downTo L.length k).find? (fun i=>decide (((L.getD i noBd).of_,(L.getD i noBd).name)=x)) with
 | some y=>rfl
 | none=>rw[e2] at h; cases h
theorem early {k:Nat} {t:Sh} (h: ∀x∈keys t,(lkL L qs (downTo L.length k) x).isSome=true):
 Expd.put (find L) t=some (fill (fun o n=>(lkL L qs (downTo L.length k) (o,n)).map Prod.fst) t):=by
 have h1:=Expd.put_some (f:=fun o n=>(lkL L qs (downTo L.length k) (o,n)).map Prod.fst) t (fun x hx=>by rw[Option.isSome_map]; exact h x hx);rw[<-h1];refine (Expd.put_like t (fun x hx=> ?_)).symm;rw[<-Z73 L qs,Zcb (h x hx)]
theorem late {t:Sh} {x:Ky} (hx:x∈keys t) (h:lkL L qs (List.range L.length).reverse x=none):Expd.put (find L) t=none:=
 Expd.put_none t hx (by rw[<-Z73 L qs]; rw[show ((x.1,x.2):Ky)=x from rfl,h]; rfl)
end
theorem FlI.grown {b:Nat} {V wr W':World} {ps:Ky->List (Nat×Nat)} {lk:Lk} {row:Option Nat} (h:FlI b V wr ps lk) (hg:wr.grownBy W' row) (hr: ∀r,row=some r->V.heap.size<=r) (hp: ∀k,∀p∈ps k,p.1 < V.heap.size):FlI b V W' ps lk:=by
 have hz:=h.size;have hbl: ∀x,x < V.heap.size->W'.heap[x]? =wr.heap[x]? :=fun x hx=>hg.block x (by omega) (fun e=>by have:=hr x e.symm; omega);have hc: ∀g c,g < V.heap.size->W'.cell? ⟨g,c,none⟩=wr.cell? ⟨g,c,none⟩:=fun g c hx=>World.cell?_of_block (w:=wr) (hbl g hx);have hf: ∀g c,g < V.heap.size->W'.frozen? ⟨g,c,none⟩=wr.frozen? ⟨g,c,none⟩:=fun g c hx=>hg.frozen_far ⟨g,c,none⟩ (by show g < _; omega) (fun e=>by have:=hr g e.symm; omega);refine ⟨hg.os.trans h.os,hg.tape.trans h.tape,hg.output.trans h.output,Nat.le_trans hz hg.size,fun x h1 h2 h3=>(hbl x h1).trans (h.block x h1 h2 h3),fun g c h1 h2 h3=>(hc g c h1).trans (h.cell g c h1 h2 h3),
  fun g c h1 h2=>(hf g c h1).trans (h.fz g c h1 h2),fun g c h1 h2 h3=> ?_,fun k s q hk p hpk=>(h.put k s q hk p hpk).of (fun c=>hc p.1 c (hp k p hpk))⟩
 obtain ⟨v,hv⟩:=h.ex g c h1 h2 h3;exact ⟨v,(hc g c h1).trans hv⟩
theorem Grp.grown {W W':World} {B b N:Nat} {S:List Ky} {m:Ky->Value} {ps:Ky->List (Nat×Nat)} {row:Option Nat} (h:Grp W B b N S m ps) (hg:W.grownBy W' row) (hb:some b≠row) (hm: ∀k∈S,∀x,(m k).ownBlock=some x->row≠some x):Grp W' B b N S m ps:=
 ⟨h.mp.kept hg hb,fun k hk=>(h.row k hk).kept hg (by
  cases e: (m k).ownBlock with
  | none=>simp
  | some x=>exact Or.inr (fun e2=>hm k hk x e e2.symm)),h.ne,h.no,h.far,h.len,h.bB,Nat.le_trans h.Bw hg.size⟩
structure FJ (V:World) (b B N:Nat) (S:List Ky) (m:Ky->Value) (ps:Ky->List (Nat×Nat)) (lk:Lk) (W:World):Prop where
 fi:FlI b V W ps lk
 gr:Grp W B b N (S.filter fun k=>(lk k).isNone) m (fun k=>if (lk k).isSome then [] else ps k)
structure F0 (V:World) (b B N:Nat) (S:List Ky) (m:Ky->Value) (ps:Ky->List (Nat×Nat)):Prop where
 gr:Grp V B b N S m ps
 bV:b < V.heap.size
 pl: ∀k,∀p∈ps k,p.1 < b
 nine: ∀k,∀p∈ps k,∃(s:Sh) (q:Ptr),Sh5 V p.1 (p.2 * 5) s q/\s.kind=9/\(s.of_,s.name)=k
 fz: ∀k,∀p∈ps k,∀c,V.frozen? ⟨p.1,c,none⟩=false
section
variable {V W W' : World} {b B N : Nat} {S : List Ky} {m : Ky -> Value} {ps : Ky -> List (Nat × Nat)} {lk : Lk}
section
variable (h : F0 V b B N S m ps)
include h
theorem F0.far: ∀k k',k≠k'-> ∀p∈ps k,p∉ps k':=fun k k' hne p hp hp'=>by
 obtain ⟨s,q,h1,_,h2⟩:=h.nine k p hp;obtain ⟨s',q',h3,_,h4⟩:=h.nine k' p hp';exact hne (h2▸h4▸(Z4I h1 h3).2)
theorem F0.lt: ∀k,∀p∈ps k,p.1 < V.heap.size:=fun k p hp=>Nat.lt_trans (h.pl k p hp) h.bV
theorem F0.start:FJ V b B N S m ps (fun _=>none) V:=by
 refine ⟨FlI.refl _ _ _, ?_⟩;have h1: (S.filter fun k=>((fun _=>none:Lk) k).isNone)=S:=by simp
 have h2: (fun k=>if ((fun _=>none:Lk) k).isSome then [] else ps k)=ps:=by funext k; simp
 rw[h1,h2];exact h.gr
end
theorem FJ.grown (h:FJ V b B N S m ps lk W) (h0:F0 V b B N S m ps) {row:Option Nat} (hg:W.grownBy W' row) (hr: ∀r,row=some r->V.heap.size<=r):FJ V b B N S m ps lk W':=
 ⟨h.fi.grown hg hr h0.lt,h.gr.grown hg (fun e=>by have:=hr b e.symm; have:=h0.bV; omega) (fun k hk x hx e=>by
  have h1:=((h0.gr.row k (List.mem_filter.1 hk).1).lt x hx).2;have:=hr x e;omega)⟩
section
variable (h : FJ V b B N S m ps lk W) (h0 : F0 V b B N S m ps)
include h h0
theorem FJ.next (hb:Below W.heap.size W W'):FJ V b B N S m ps lk W':=
 h.grown h0 (row:=none) ⟨hb.os,hb.tape,hb.output,hb.size,fun k h1 _=>hb.block k h1⟩ nofun
theorem FJ.step {k0:Ky} {s:Sh} {q:Ptr}
 (hg:Grp W' B b N ((S.filter fun k=>(lk k).isNone).filter (· ≠k0)) m (fun x=>if x=k0 then [] else if (lk x).isSome then [] else ps x)) (hf:FlOut b W W' (if (lk k0).isSome then [] else ps k0) s q):
 FJ V b B N S m ps (lk.add k0 (s,q)) W':=by
 refine ⟨h.fi.fill hf (fun k p hp=>⟨h0.lt k p hp,by have:=h0.pl k p hp; omega⟩) h0.far, ?_⟩;have key: ∀k,(lk.add k0 (s,q) k).isSome=true ↔ k=k0\/(lk k).isSome=true:=fun k=>by
  by_cases e: (lk k).isSome=true
  {rw[Z3B e]; exact ⟨Or.inr,fun _=>e⟩}
  {rw[Z3C (by simpa using e)];by_cases e2:k=k0
   {rw[if_pos e2]; exact ⟨fun _=>Or.inl e2,fun _=>rfl⟩}
   {rw[if_neg e2]; exact ⟨fun h=>(by cases h),fun h=>(e (h.resolve_left e2)).elim⟩}}
 have h1: (S.filter fun k=>(lk.add k0 (s,q) k).isNone)=(S.filter fun k=>(lk k).isNone).filter (· ≠k0):=by
  rw[List.filter_filter];refine List.filter_congr (fun k _=> ?_);have hk:=key k;cases e1:lk.add k0 (s,q) k <;> cases e2:lk k <;> rw[e1,e2] at hk <;> simp at hk ⊢ <;> first | exact hk | skip
 have h2: (fun k=>if (lk.add k0 (s,q) k).isSome then [] else ps k)=fun x=>if x=k0 then [] else if (lk x).isSome then [] else ps x:=by
  funext k;by_cases e: (lk.add k0 (s,q) k).isSome=true
  {rw[if_pos e];rcases (key k).1 e with h | h
   {rw[if_pos h]}
   {rw[if_pos h]; simp}}
  {rw[if_neg e,if_neg (fun h=>e ((key k).2 (Or.inl h))),if_neg (fun h=>e ((key k).2 (Or.inr h)))]}
 rw[h1,h2];exact hg
theorem FJ.asks (k0:Ky): ∀p∈(if (lk k0).isSome then [] else ps k0),p.1 < b/\(∀c,c < 5-> ∃v,W.cell? ⟨p.1,p.2 * 5+c,none⟩=some v)/\ ∀c,W.frozen? ⟨p.1,c,none⟩=false:=fun p hp=>by
 have hp:p∈ps k0:=by
  by_cases e: (lk k0).isSome=true
  {rw[if_pos e] at hp; cases hp}
  {rw[if_neg e] at hp; exact hp}
 have h1:=h0.pl k0 p hp;have h2:=h0.lt k0 p hp;refine ⟨h1,fun c hc=>h.fi.ex _ _ h2 (by omega) ?_,fun c=>(h.fi.fz _ _ h2 (by omega)).trans (h0.fz k0 p hp c)⟩;obtain ⟨s,q,⟨s0,s1,s2,s3,s4⟩,_⟩:=h0.nine k0 p hp
 match c,hc with
 | 0,_=>exact ⟨_,s0⟩
 | 1,_=>exact ⟨_,s1⟩
 | 2,_=>exact ⟨_,s2⟩
 | 3,_=>exact ⟨_,s3⟩
 | 4,_=>exact ⟨_,s4⟩
end
theorem FJ.block (h:FJ V b B N S m ps lk W) {x:Nat} (h1:x < V.heap.size) (h2:x≠b) (h3: ∀k,∀p∈ps k,p.1≠x):W.heap[x]? =V.heap[x]? :=h.fi.block x h1 h2 (fun k _=>h3 k)
theorem FJ.cell (h:FJ V b B N S m ps lk W) {x:Nat} (h1:x < V.heap.size) (h2:x≠b) (h3: ∀k,∀p∈ps k,p.1≠x) (c:Nat):W.cell? ⟨x,c,none⟩=V.cell? ⟨x,c,none⟩:=World.cell?_of_block (w:=V) (h.block h1 h2 h3)
end
theorem Z2H {A C:World} (B:Nat) (h:Below A.heap.size A C):KeepsFrom B A C:=⟨h.size,fun k o _ hk _=>(h.block k (Array.getElem?_eq_some_iff.1 hk).1).trans hk⟩
theorem Z5s {b B:Nat} {W W':World} {L:List (Nat×Nat)} {s:Sh} {q:Ptr} (h:FlOut b W W' L s q) (hb:b < B) (hL: ∀p∈L,p.1 < b):KeepsFrom B W W':=
 ⟨h.size,fun k o hB hk _=>(h.block k (Array.getElem?_eq_some_iff.1 hk).1 (by omega) (fun p hp=>by have:=hL p hp; omega)).trans hk⟩
theorem Zcw {W:World} {q:Ptr} {t:Sh} {F:List Nat} (h:Own W q t F): ∀b∈F,∀k,W.frozen? ⟨b,k,none⟩=false:=by
 induction h with
 | mk q t F FN FP qs Fs hs hn hp hr hF ih=>
  subst hF;intro b hb;rcases List.mem_append.1 hb with hb | hb
  {rcases List.mem_append.1 hb with hb | hb
   {rcases hn with ⟨_,rfl⟩ | ⟨c,_,rfl,h3⟩
    {cases hb}
    {simp at hb; subst hb; exact h3.fz}}
   {rcases hp with ⟨_,rfl⟩ | ⟨c,_,rfl,h3⟩
    {cases hb}
    {simp at hb; subst hb; exact h3.fz}}}
  {obtain ⟨j,hj,hb⟩:=List.mem_flatMap.1 hb;exact ih j (List.mem_range.1 hj) b hb}
theorem Z1A {pl:List Plc} {k:Ky} {p:Nat×Nat}:p∈more (fun _=> []) pl k ↔ (k,p)∈pl:=by
 unfold more;simp only[List.nil_append,List.mem_map,List.mem_filter,decide_eq_true_eq];constructor
 {rintro ⟨e,⟨h1,h2⟩,h3⟩; subst h2 h3; exact h1}
 {intro h; exact ⟨(k,p),⟨h,rfl⟩,rfl⟩}
theorem mkGrp (W:World) (ty:TypeId):Grp ((W.alloc (.map #[] 0)).alloc (.cells #[.map (some W.heap.size)] ty)) (W.heap.size+2) W.heap.size 0 [] (fun _=> .slice none 0 0) (fun _=> []):=by
 refine ⟨(Mp.made W _).same ?_,nofun,nofun,fun _ _=>rfl,nofun,fun _=>Nat.le_refl _,by omega,by simp⟩;exact Below.heap_alloc _ _ _ (by simp)
theorem ZcC {Wm V:World} {b B N h i:Nat} {S:List Ky} {m:Ky->Value} {t:Sh} {pl:List Plc} (hP:Pls Wm b h i t pl) (hb:Below b Wm V) (hG:Grp V B b N S m (more (fun _=> []) pl)) (hfz: ∀e∈pl,∀c,Wm.frozen? ⟨e.2.1,c,none⟩=false):
 F0 V b B N S m (more (fun _=> []) pl):=by
 have hPV:=hP.of (Nat.le_refl b) (fun g k hg=>hb.cell (p:=⟨g,k,none⟩) hg);refine ⟨hG,hG.mp.lt,fun k p hp=>(hP.at_ _ (Z1A.1 hp)).1,fun k p hp=> ?_,fun k p hp c=>(hb.frozen (p:=⟨p.1,c,none⟩) (hP.at_ _ (Z1A.1 hp)).1).trans (hfz _ (Z1A.1 hp) c)⟩;exact (hPV.at_ _ (Z1A.1 hp)).2
theorem answer {S:List Ky} {t:Sh} {L:List Bd} {qs:Nat->Ptr} {k:Nat} (hS: ∀x,x∈S ↔ x∈keys t) (h:k=0\/(S.filter fun x=>(lkL L qs (downTo L.length k) x).isNone)= []):
 decide ((S.filter fun x=>(lkL L qs (downTo L.length k) x).isNone)= [])=(Expd.put (find L) t).isSome/\((Expd.put (find L) t).isSome=true->Expd.put (find L) t=some (fill (fun o n=>(lkL L qs (downTo L.length k) (o,n)).map Prod.fst) t)):=by
 by_cases hc: (S.filter fun x=>(lkL L qs (downTo L.length k) x).isNone)= []
 {have he:=early (L:=L) (qs:=qs) (k:=k) (t:=t) (fun x hx=>by
   by_cases e: (lkL L qs (downTo L.length k) x).isSome=true
   {exact e}
   · have hm:x∈(S.filter fun x=>(lkL L qs (downTo L.length k) x).isNone):=List.mem_filter.2 ⟨(hS x).2 hx,by simpa using e⟩
     rw[hc] at hm;cases hm)
  rw[decide_eq_true hc,he];exact ⟨rfl,fun _=>rfl⟩}
 {have hk:=h.resolve_right hc;subst hk;obtain ⟨x,hx⟩:=List.exists_mem_of_ne_nil _ hc;obtain ⟨h1,h2⟩:=List.mem_filter.1 hx;rw[Z30] at h2;have hl:=late ((hS x).1 h1) (by simpa using h2);rw[decide_eq_false hc,hl];exact ⟨rfl,fun h=>by cases h⟩}
def Ans (S:List Ky) (t:Sh) (L:List Bd) (qs:Nat->Ptr) (k:Nat):Prop:=
 decide ((S.filter fun x=>(lkL L qs (downTo L.length k) x).isNone)= [])=(Expd.put (find L) t).isSome/\((Expd.put (find L) t).isSome=true->Expd.put (find L) t=some (fill (fun o n=>(lkL L qs (downTo L.length k) (o,n)).map Prod.fst) t))
theorem FJ.low {V W:World} {b B N:Nat} {S:List Ky} {m:Ky->Value} {ps:Ky->List (Nat×Nat)} {lk:Lk} (h:FJ V b B N S m ps lk W) {n0:Nat} (hn:n0<=V.heap.size) (hb:n0<=b) (hp: ∀k,∀p∈ps k,n0<=p.1):Below n0 V W:=
 ⟨h.fi.os,h.fi.tape,h.fi.output,h.fi.size,fun x hx=>h.block (by omega) (by omega) (fun k p hpk=>by have:=hp k p hpk; omega)⟩
theorem Z5M {V W:World} {b n0 h i:Nat} {t:Sh} {pl:List Plc} {L:List Bd} {qs:Nat->Ptr} {k:Nat}
 (hJ:FlR b V W (more (fun _=> []) pl) (lkL L qs (downTo L.length k))) (hbW:b<=W.heap.size) (hb:n0<=b) (hk: ∀j (hj:j < L.length),ShAt W n0 (qs j) (L[j]'hj).sh) (hP:Pls V b h i t pl):
 ∃q',Sh5 W h (i * 5) (fill (fun o n=>(lkL L qs (downTo L.length k) (o,n)).map Prod.fst) t) q'/\ShAt W W.heap.size q' (fill (fun o n=>(lkL L qs (downTo L.length k) (o,n)).map Prod.fst) t):=by
 refine ZaU hJ hbW (fun k p hp=>(hP.at_ _ (Z1A.1 hp)).2) (fun x s q e=> ?_) hP (fun e he=>Z1A.2 he);unfold lkL at e;obtain ⟨j,hj,e2⟩:=Option.map_eq_some_iff.1 e;have hjm:=List.mem_of_find?_eq_some hj;have hjl:j < L.length:=by
  unfold downTo at hjm;have:=List.mem_of_mem_take hjm;simpa using this
 have hd:L.getD j noBd=L[j]'hjl:=by simp[hjl]
 rw[hd] at e2;cases e2;exact (hk j hjl).of (by omega) (fun _ _ _=>rfl)
theorem ZbK {W W':World} {g o:Nat} {s:Sh} {q q':Ptr} (h:Sh5 W g o s q) (k:Sh5 W' g o s q') (hc: ∀c,W'.cell? ⟨g,c,none⟩=W.cell? ⟨g,c,none⟩):q'=q:=by
 obtain ⟨_,_,_,h3,h4⟩:=h;obtain ⟨_,_,_,k3,k4⟩:=k;rw[hc,h3] at k3;rw[hc,h4] at k4;cases q; cases q';simp at k3 k4;simp[k3,k4]
theorem Z46 {W Wc:World} {r D:Nat} {u:Sh} {q':Ptr} (hbd:Below W.heap.size W Wc) (hr:r < W.heap.size) (hD:W.heap[D]? =some (.deferred (some []))) (hz: ∀k,k < 5-> ∃v,Wc.cell? ⟨r,0+k,none⟩=some v) (hne:D≠r):
 (putAt Wc r 0 u q').heap[D]? =some (.deferred (some []))/\W.heap.size<=((putAt Wc r 0 u q').putObj D (.deferred none)).heap.size/\Sh5 ((putAt Wc r 0 u q').putObj D (.deferred none)) r 0 u q'/\
 (∀g c,g < W.heap.size->g≠r->((putAt Wc r 0 u q').putObj D (.deferred none)).cell? ⟨g,c,none⟩=W.cell? ⟨g,c,none⟩)/\ ∀n0,n0<=r->n0<=D->Below n0 W ((putAt Wc r 0 u q').putObj D (.deferred none)):=by
 have hDl:=(Array.getElem?_eq_some_iff.1 hD).1;have h1: (putAt Wc r 0 u q').heap[D]? =some (.deferred (some [])):=(Z5g _ _ _ _ _ (Ne.symm hne)).trans ((hbd.block D hDl).trans hD);have hs:=Z5f Wc r 0 u q';have hsz:=hbd.size;have H5:=Y1 (Z2k (s:=u) (q:=q') hz);have hXc:Hid (∀g c,g≠r->(putAt Wc r 0 u q').cell? ⟨g,c,none⟩=Wc.cell? ⟨g,c,none⟩):=Y1 (fun g c hg=>Z0Y _ _ _ _ _ (fun h=>hg h.1.symm));have hXb:Hid (∀n0,n0<=r->Below n0 W (putAt Wc r 0 u q')):=Y1 (fun n0 hn=>by
  have h0:Below n0 W Wc:=hbd.mono (by omega);unfold putAt;exact ((((h0.setCell (p:=⟨r,0,none⟩) hn _).setCell (p:=⟨r,1,none⟩) hn _).setCell (p:=⟨r,2,none⟩) hn _).setCell (p:=⟨r,3,none⟩) hn _).setCell (p:=⟨r,4,none⟩) hn _)
 generalize putAt Wc r 0 u q'=X at h1 hs H5 hXc hXb ⊢;have hg:=grownBy_putObj' X D (.deferred none);have h2: (X.putObj D (.deferred none)).heap[D]? =some (.deferred none):=by
  simp only[World.putObj,Array.getElem?_setIfInBounds];rw[if_pos True.intro,if_pos (by omega)]
 generalize X.putObj D (.deferred none)=Y at hg h2 ⊢;have hgz:=hg.size;have far: ∀g,g≠D->g < W.heap.size->Y.heap[g]? =X.heap[g]? :=fun g hgD hgl=>hg.block g (by omega) (fun e=>hgD (Option.some.inj e));refine ⟨h1,by omega,H5.out.of (fun c=>World.cell?_of_block (w:=X) (far r (Ne.symm hne) hr)),fun g c hgl hgr=> ?_,fun n0 hn hnD=> ?_⟩
 {by_cases e:g=D
  {subst e;simp[World.cell?,h2,hD]}
  {refine (World.cell?_of_block (w:=X) (far g e hgl)).trans ?_;exact (hXc.out g c hgr).trans (hbd.cell (p:=⟨g,c,none⟩) hgl)}}
 {have hb:=hXb.out n0 hn;exact ⟨hg.os.trans hb.os,hg.tape.trans hb.tape,hg.output.trans hb.output,Nat.le_trans hb.size hg.size,fun x hx=>(far x (by omega) (by omega)).trans (hb.block x hx)⟩}
end
end Go.Proofs.YtmeiijjpomcgcaaDoor
