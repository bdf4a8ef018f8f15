/- What the proofs of ExpandResolves want, part 6. -/
import Derived.RangeFuncNested
import Derived.OwnWalkIn
import Derived.TacticsInMore
import Derived.LoopNIn
import Derived.LoopIn
import Derived.Test.YtchklpedlbkgaaaDoorK0n5
set_option linter.unusedVariables false
set_option linter.unusedSimpArgs false
set_option linter.unusedSectionVars false
set_option maxRecDepth 100000
set_option maxHeartbeats 16000000
namespace Go.Proofs.YtchklpedlbkgaaaDoor
section
open Go.RowKit Shp
open Expd (keys)
abbrev Plc:=Ky×Nat×Nat
inductive Pls (W:World) (B0:Nat):Nat->Nat->Sh->List Plc->Prop
 | name (g i:Nat) (t:Sh) (q:Ptr) (hk:t.kind=9) (hp:t.parts.length=0) (hg:g < B0) (hs:Sh5 W g (i * 5) t q) (hsm:Small t q) (hn:t.names.length=0):Pls W B0 g i t [((t.of_,t.name),g,i)]
 | node (g i:Nat) (t:Sh) (q:Ptr) (b:Nat) (pls:Nat->List Plc) (hk: ¬t.kind=9) (hg:g < B0) (hs:Sh5 W g (i * 5) t q) (hsm:Small t q) (hn:t.names.length=0\/ ∃bn,q.A=some ⟨bn,0,none⟩/\bn < B0/\ ∀j (h:j < t.names.length),W.cell? ⟨bn,j,none⟩=some (.string ⟨(t.names[j]'h).toArray⟩)) (hp:t.parts.length=0\/q.P=some ⟨b,0,none⟩/\b < B0)
  (hr: ∀j (h:j < t.parts.length),Pls W B0 b j (t.parts[j]'h) (pls j)):Pls W B0 g i t ((List.range t.parts.length).flatMap pls)
theorem Pls.of {W W':World} {B0 B1 g i:Nat} {t:Sh} {pl:List Plc} (h:Pls W B0 g i t pl) (hB:B0<=B1) (hc: ∀g k,g < B0->W'.cell? ⟨g,k,none⟩=W.cell? ⟨g,k,none⟩):Pls W' B1 g i t pl:=by
 induction h with
 | name g i t q hk hp hg hs hsm hn=>exact .name g i t q hk hp (by omega) (hs.of (fun k=>hc g k hg)) hsm hn
 | node g i t q b pls hk hg hs hsm hn hp hr ih=>
  refine .node g i t q b pls hk (by omega) (hs.of (fun k=>hc g k hg)) hsm ?_ (hp.imp id (fun h=>⟨h.1,by omega⟩)) ih;rcases hn with h | ⟨bn,h1,h2,h3⟩
  {exact Or.inl h}
  {exact Or.inr ⟨bn,h1,by omega,fun j hj=>(hc bn j h2).trans (h3 j hj)⟩}
theorem Pls.keys {W:World} {B0 g i:Nat} {t:Sh} {pl:List Plc} (h:Pls W B0 g i t pl):pl.map Prod.fst=Expd.keys t:=by
 induction h with
 | name g i t q hk hp hg hs hsm hn=>rw[Expd.keys_name hk]; rfl
 | node g i t q b pls hk hg hs hsm hn hp hr ih=>
  rw[Expd.keys_node hk,List.map_flatMap];have:t.parts.flatMap Expd.keys=(List.range t.parts.length).flatMap fun j=>(pls j).map Prod.fst:=by
   conv=>lhs; rw[show t.parts=(List.range t.parts.length).attach.map (fun j=>t.parts[j.1]'(List.mem_range.1 j.2)) from by
    refine List.ext_getElem (by simp) (fun n h1 h2=>by simp)]
   rw[List.flatMap_map]
   conv=>rhs; rw[<-List.attach_map_subtype_val (List.range t.parts.length),List.flatMap_map]
   congr 1;funext j;exact (ih j.1 (List.mem_range.1 j.2)).symm
  rw[this]
def more (ps:Ky->List (Nat×Nat)) (pl:List Plc):Ky->List (Nat×Nat):=fun k=>ps k++(pl.filter (fun e=>e.1=k)).map Prod.snd
section
variable (ps : Ky -> List (Nat × Nat))
include ps
theorem ZaE:more ps []=ps:=by funext k; simp[more]
theorem Z79 (l m:List Plc):more ps (l++m)=more (more ps l) m:=by
 funext k; simp[more,List.append_assoc]
theorem ZaF (k:Ky) (p:Nat×Nat):more ps [(k,p)]=fun x=>if x=k then ps x++ [p] else ps x:=by
 funext x;unfold more;by_cases e:x=k
 {subst e; simp}
 {rw[if_neg e,List.filter_cons_of_neg (by simpa using fun h=>e h.symm)]; simp}
end
def NmFin (W0:World) (b N B:Nat) (S:List Ky) (m:Ky->Value) (ps:Ky->List (Nat×Nat)) (pl:List Plc) (W:World):Prop:=
 ∃S' m',Grp W B b (N+pl.length) S' m' (more ps pl)/\(∀x,x∈S' ↔ x∈S\/x∈pl.map Prod.fst)/\UpM b S m W0 S' m' W
theorem Z8m (W1:World) (B0:Nat) (g i:Nat) (t:Sh) (pl:List Plc) (h:Pls W1 B0 g i t pl): ∀(W:World) (B b N:Nat) (S:List Ky) (m:Ky->Value) (ps:Ky->List (Nat×Nat)),(∀g k,g < B0->W.cell? ⟨g,k,none⟩=W1.cell? ⟨g,k,none⟩)->B0<=b->Grp W B b N S m ps->N+pl.length<=1000->
 Calls Tryd.prog 31 #[.agg #[.map (some b)],plV (g,i)] W fun e W'=>e= .returned (.tuple #[])/\NmFin W b N B S m ps pl W':=by
 induction h with
 | name g i t q hk hp hg hs hsm hn=>
  intro W B b N S m ps hc hb hG hN;have hf:Fine (t.of_,t.name):=⟨hsm.o,hsm.n⟩;clear hsm hn;obtain ⟨s0,s1,s2,s3,s4⟩:=hs.of (fun k=>hc g k hg);have hb1:=Z00 W (.cells #[.map (some b)] 69);have hgW:g < W.heap.size:=by have:=hG.bB; have:=hG.Bw; omega
  have c0: (W.alloc (.cells #[.map (some b)] 69)).cell? ⟨W.heap.size,0,none⟩=some (.map (some b)):=by simp[go_sem]
  have hO:=Z9E (W.alloc (.cells #[.map (some b)] 69)).drew B b N S m ps (t.of_,t.name) (g,i) hf (hG.keep hb1.drew) (by simp at hN; omega);have HO:=Y1 hO;have HB1:=Y1 hb1;have HBw:=Y1 hG.Bw;have HGR:Hid (∀x,x < B-> ∀k∈S,(m k).ownBlock≠some x):=Y1 (fun x hx=>hG.notRow (Or.inl hx));have hbB:=hG.bB;have hk9:=Y4 9 hk rfl;rw[<-hb1.cell (p:=⟨g,i * 5,none⟩) hgW] at s0;rw[<-hb1.cell (p:=⟨g,i * 5+1,none⟩) hgW] at s1;rw[<-hb1.cell (p:=⟨g,i * 5+2,none⟩) hgW] at s2;rw[<-hb1.cell (p:=⟨g,i * 5+4,none⟩) hgW] at s4;clear hO hb1 hG hk hc hs s3;unfold plV;simp only;go_enter Tryd.func31,Tryd.ntmps31
  go_wp2_with fail
  generalize W.alloc (.cells #[.map (some b)] 69)=Wa at HO HB1 c0 s0 s1 s2 s4 ⊢
  go_still_tail 11,(by kernel_rfl)
  change wpList _ _ _ _ _ Wa.drew
  go_wp2_with fail
  refine HO.out.mono ?_;rintro e W2 ⟨rfl,hF⟩;obtain ⟨S',m',hG',hS',hU'⟩:=hF;have s4:=(hU'.cell (g:=g) (k:=i * 5+4) (by have h1:=HB1.out.size; show g < Wa.heap.size; omega) (by omega) (HGR.out g (by omega))).trans s4;have HG':=Y1 hG';have HS':=Y1 hS';have HU':=Y1 hU';have hp0: ¬(0:Int) < (t.parts.length:Int):=by omega
  clear hG' hS' hU' s0 s1 s2 hp
  go_wp2_with fail
  go_loopw [27] (fun c wr=>c= .int .i64 0/\wr=W2) (fun _ _=>0)
  case atStart=>exact ⟨rfl,rfl⟩
  case round=>
   obtain ⟨rfl,rfl⟩:=hrel;go_wp2;refine bodyPost_end (v:= .tuple #[]) (by simp[results,Tryd.results31,go_sem]) rfl ?_;refine ⟨rfl,S',m', ?_, ?_,(Z2l S m HB1.out.drew).trans HU'.out⟩
   {rw[ZaF]; exact HG'.out}
   {intro x; rw[HS'.out]; simp[or_comm]}
 | node g i t q b0 pls hk hg hs hsm hn hp hr ih=>
  intro W B b N S m ps hc hb hG hN;have hl:=hsm.m
  replace hp:=hp.imp id And.left
  clear hsm hn;obtain ⟨s0,s1,s2,s3,s4⟩:=hs.of (fun k=>hc g k hg);have hb1:=Z00 W (.cells #[.map (some b)] 69);have hbB:=hG.bB;have hBW:=hG.Bw;have hgW:g < W.heap.size:=by omega
  have c0: (W.alloc (.cells #[.map (some b)] 69)).cell? ⟨W.heap.size,0,none⟩=some (.map (some b)):=by simp[go_sem]
  have HB1:=Y1 hb1;have HG:=Y1 (hG.keep hb1);have hk9: (t.kind==9)=false:=by rw[beq_eq_false_iff_ne]; exact hk
  have hz1:W.heap.size+1=(W.alloc (.cells #[.map (some b)] 69)).heap.size:=by simp
  have HZ1:=Y1 hz1;rw[<-hb1.cell (p:=⟨g,i * 5,none⟩) hgW] at s0;rw[<-hb1.cell (p:=⟨g,i * 5+4,none⟩) hgW] at s4;have HS4:=Y1 s4;have HC0:=Y1 c0;have HP:=Y1 hp;have HIH:=Y1 ih;have HR:=Y1 hr;have HC:Hid (∀g k,g < B0->(W.alloc (.cells #[.map (some b)] 69)).cell? ⟨g,k,none⟩=W1.cell? ⟨g,k,none⟩):=Y1 (fun g k hgk=>(hb1.cell (p:=⟨g,k,none⟩) (by show g < _; omega)).trans (hc g k hgk));have HN:=Y1 hN;have HGR:Hid (∀x,x < B\/W.heap.size<=x-> ∀k∈S,(m k).ownBlock≠some x):=Y1 (fun x hx=>hG.notRow hx);clear hb1 hG hk hc hs s1 s2 s3 hp ih hr hz1 hN;unfold plV;simp only;go_enter Tryd.func31,Tryd.ntmps31
  go_wp2_with fail
  generalize W.alloc (.cells #[.map (some b)] 69)=Wa at HG HB1 HZ1 HC HS4 HC0 c0 s0 s4 ⊢
  go_loopw [27] (fun c wr=> ∃j:Nat,c= .int .i64 (j:Int)/\j<=t.parts.length/\Hid (∃S' m',Grp wr B b (N+((List.range j).flatMap pls).length) S' m' (more ps ((List.range j).flatMap pls))/\(∀x,x∈S' ↔ x∈S\/x∈((List.range j).flatMap pls).map Prod.fst)/\UpM b S m Wa S' m' wr)) (fun c _=>t.parts.length - (intOf c).toNat)
  case atStart=>
   refine ⟨0,rfl,Nat.zero_le _,Y1 ⟨S,m, ?_, ?_,UpM.refl _ _ _ _⟩⟩
   {simp only[List.range_zero,List.flatMap_nil,List.length_nil,Nat.add_zero,ZaE]; exact HG.out}
   {intro x; simp}
  case round=>
   obtain ⟨j,rfl,hj,HI⟩:=hrel;clear s0 s4 c0;obtain ⟨S',m',hG',hS',hU'⟩:=HI.out;have hzz:=HZ1.out;have c0:=(hU'.cell (g:=W.heap.size) (k:=0) (by omega) (by omega) (HGR.out W.heap.size (by omega))).trans HC0.out;have s4:=(hU'.cell (g:=g) (k:=i * 5+4) (by omega) (by omega) (HGR.out g (by omega))).trans HS4.out;have hsucc: ∀n,(List.range (n+1)).flatMap pls=(List.range n).flatMap pls++pls n:=fun n=>by rw[List.range_succ,List.flatMap_append]; simp
   by_cases hjn:j < t.parts.length
   {have hjn': (j:Int) < (t.parts.length:Int):=by omega
    have hq:q.P=some ⟨b0,0,none⟩:=HP.out.resolve_left (by omega);rw[hq] at s4;have hlen: ((List.range j).flatMap pls).length+(pls j).length<=((List.range t.parts.length).flatMap pls).length:=by
     have h1: ∀d,((List.range (j+1)).flatMap pls).length<=((List.range (j+1+d)).flatMap pls).length:=fun d=>by
      induction d with
      | zero=>exact Nat.le_refl _
      | succ d ihd=>rw[show j+1+(d+1)=(j+1+d)+1 from rfl,hsucc (j+1+d),List.length_append]; omega
     have h2:=h1 (t.parts.length - (j+1));rw[show j+1+(t.parts.length - (j+1))=t.parts.length by omega,hsucc j,List.length_append] at h2;exact h2
    have hdr:Below wr.heap.size wr wr.drew:=Y2.drew;have hIH:=HIH.out j hjn wr.drew B b (N+((List.range j).flatMap pls).length) S' m' (more ps ((List.range j).flatMap pls)) (fun g k hgk=>(hU'.cell (g:=g) (k:=k) (by omega) (by omega) (HGR.out g (by omega))).trans (HC.out g k hgk)) hb (hG'.keep hdr) (by have:=HN.out; omega);have IH:=Y1 hIH;have HU':=Y1 hU';have HS':=Y1 hS';have HDR:=Y1 hdr;have HSU:=Y1 hsucc;clear hIH hU' hS' hG' hdr hlen hsucc hq HI;unfold plV at IH;simp only at IH
    go_wp2_with fail
    go_still_tail 7,(by kernel_rfl)
    change wpList _ _ _ _ _ wr.drew
    go_wp2_with fail
    refine IH.out.mono ?_;rintro e w2 ⟨rfl,S2,m2,hG2,hS2,hU2⟩;have HG2:=Y1 hG2;have HS2:=Y1 hS2;have HU2:=Y1 hU2;clear hG2 hS2 hU2 IH;go_wp2
    go_roundw
    case rel=>
     refine ⟨j+1,by go_num,by omega,Y1 ⟨S2,m2, ?_, ?_,(HU'.out.trans (Z2l S' m' HDR.out)).trans HU2.out⟩⟩
     {rw[HSU.out,Z79,List.length_append, <-Nat.add_assoc]; exact HG2.out}
     {intro x;rw[HS2.out,HS'.out,HSU.out,List.map_append,List.mem_append,or_assoc]}
    case measure=>simp[intOf]; omega}
   {obtain rfl:j=t.parts.length:=by omega
    have HG':=Y1 hG';have HU':=Y1 hU';have HS':=Y1 hS';clear hG' hU' hS' hsucc HI;go_wp2;refine bodyPost_end (v:= .tuple #[]) (by simp[results,Tryd.results31,go_sem]) rfl ?_;exact ⟨rfl,S',m',HG'.out,HS'.out,(Z2l S m HB1.out).trans HU'.out⟩}
end
section
open Go.RowKit Shp
theorem Z3T (W:World) (b N:Nat) (S:List Ky) (m:Ky->Value) (h:Mp W b N S m):
 Calls Tryd.prog 33 #[.agg #[.map (some b)]] W fun e W'=>e= .returned (.bool (decide (S= [])))/\Below W.heap.size W W':=by
 have hb1:=Z00 W (.cells #[.map (some b)] 69);have HB1:=Y1 hb1;have hM:Mp (W.alloc (.cells #[.map (some b)] 69)) b N S m:=h.same (hb1.block b h.lt);have c0: (W.alloc (.cells #[.map (some b)] 69)).cell? ⟨W.heap.size,0,none⟩=some (.map (some b)):=by simp[go_sem]
 have HM:=Y1 hM;clear hb1 hM h;go_enter Tryd.func33,Tryd.ntmps33;go_wp2;rw[HM.out.len];go_wp2;go_ret;refine ⟨Z0j ?_,HB1.out⟩;rw[Bool.eq_iff_iff,beq_iff_eq,decide_eq_true_eq];cases S with
 | nil=>simp
 | cons a l=>simp; omega
structure FR (W wr:World) (L:List (Nat×Nat)) (s:Sh) (q:Ptr):Prop where
 os:wr.os=W.os
 tape:wr.tape=W.tape
 output:wr.output=W.output
 size:wr.heap.size=W.heap.size
 block: ∀x,(∀p∈L,p.1≠x)->wr.heap[x]? =W.heap[x]?
 cell: ∀g c,(∀p∈L,¬(p.1=g/\p.2 * 5<=c/\c < p.2 * 5+5))->wr.cell? ⟨g,c,none⟩=W.cell? ⟨g,c,none⟩
 fz: ∀g c,wr.frozen? ⟨g,c,none⟩=W.frozen? ⟨g,c,none⟩
 ex: ∀g c,(∃v,W.cell? ⟨g,c,none⟩=some v)-> ∃v,wr.cell? ⟨g,c,none⟩=some v
 put: ∀p∈L,Sh5 wr p.1 (p.2 * 5) s q
theorem FR.refl (W:World) (s:Sh) (q:Ptr):FR W W [] s q:=⟨rfl,rfl,rfl,rfl,fun _ _=>rfl,fun _ _ _=>rfl,fun _ _=>rfl,fun _ _ h=>h,nofun⟩
def putAt (W:World) (g o:Nat) (s:Sh) (q:Ptr):World:=
 ((((W.setCell ⟨g,o,none⟩ (.int .i64 s.kind)).setCell ⟨g,o+1,none⟩ (.string ⟨s.of_.toArray⟩)).setCell ⟨g,o+2,none⟩ (.string ⟨s.name.toArray⟩)).setCell ⟨g,o+3,none⟩ (.slice q.A s.names.length q.c)).setCell ⟨g,o+4,none⟩ (.slice q.P s.parts.length q.d)
theorem Z0M (W:World) (g o:Nat) (s:Sh) (q:Ptr) {g' c:Nat} (h: ¬(g=g'/\o<=c/\c < o+5)): (putAt W g o s q).cell? ⟨g',c,none⟩=W.cell? ⟨g',c,none⟩:=by
 have ne: ∀k,k < 5->(⟨g,o+k,none⟩:Addr)≠⟨g',c,none⟩:=fun k hk e=>by
  simp only[Addr.mk.injEq,and_true] at e;exact h ⟨e.1,by omega,by omega⟩
 unfold putAt;exact (World.cell?_setCell_other _ _ _ _ (ne 4 (by omega))).trans ((World.cell?_setCell_other _ _ _ _ (ne 3 (by omega))).trans ((World.cell?_setCell_other _ _ _ _ (ne 2 (by omega))).trans ((World.cell?_setCell_other _ _ _ _ (ne 1 (by omega))).trans (World.cell?_setCell_other _ _ _ _ (ne 0 (by omega))))))
theorem Z1Z {W:World} {g o:Nat} {s:Sh} {q:Ptr} (h: ∀k,k < 5-> ∃v,W.cell? ⟨g,o+k,none⟩=some v):Sh5 (putAt W g o s q) g o s q:=by
 obtain ⟨v0,h0⟩:=h 0 (by omega);obtain ⟨v1,h1⟩:=h 1 (by omega);obtain ⟨v2,h2⟩:=h 2 (by omega);obtain ⟨v3,h3⟩:=h 3 (by omega);obtain ⟨v4,h4⟩:=h 4 (by omega);have so: ∀(w:World) (j k:Nat) (v:Value),j≠k->(w.setCell ⟨g,o+j,none⟩ v).cell? ⟨g,o+k,none⟩=w.cell? ⟨g,o+k,none⟩:=fun w j k v hjk=>World.cell?_setCell_other _ _ _ _ (fun e=>by simp only[Addr.mk.injEq,true_and,and_true] at e; omega);have ss: ∀(w:World) (k:Nat) (v:Value) {u:Value},w.cell? ⟨g,o+k,none⟩=some u->(w.setCell ⟨g,o+k,none⟩ v).cell? ⟨g,o+k,none⟩=some v:=fun w k v u hu=>World.cell?_setCell_same _ _ _ hu;unfold putAt;refine ⟨?_, ?_, ?_, ?_, ?_⟩
 {exact (so _ 4 0 _ (by decide)).trans ((so _ 3 0 _ (by decide)).trans ((so _ 2 0 _ (by decide)).trans ((so _ 1 0 _ (by decide)).trans (ss _ 0 _ h0))))}
 {exact (so _ 4 1 _ (by decide)).trans ((so _ 3 1 _ (by decide)).trans ((so _ 2 1 _ (by decide)).trans (ss _ 1 _ ((so _ 0 1 _ (by decide)).trans h1))))}
 {exact (so _ 4 2 _ (by decide)).trans ((so _ 3 2 _ (by decide)).trans (ss _ 2 _ ((so _ 1 2 _ (by decide)).trans ((so _ 0 2 _ (by decide)).trans h2))))}
 {exact (so _ 4 3 _ (by decide)).trans (ss _ 3 _ ((so _ 2 3 _ (by decide)).trans ((so _ 1 3 _ (by decide)).trans ((so _ 0 3 _ (by decide)).trans h3))))}
 {exact ss _ 4 _ ((so _ 3 4 _ (by decide)).trans ((so _ 2 4 _ (by decide)).trans ((so _ 1 4 _ (by decide)).trans ((so _ 0 4 _ (by decide)).trans h4))))}
section
variable (W : World) (g o : Nat) (s : Sh) (q : Ptr)
include W g o s q
theorem Z9F:Below 0 W (putAt W g o s q):=
 ((((((Below.refl 0 W).setCell (p:=⟨g,o,none⟩) (Nat.zero_le _) _).setCell (p:=⟨g,o+1,none⟩) (Nat.zero_le _) _).setCell (p:=⟨g,o+2,none⟩) (Nat.zero_le _) _).setCell (p:=⟨g,o+3,none⟩) (Nat.zero_le _) _).setCell (p:=⟨g,o+4,none⟩) (Nat.zero_le _) _)
theorem Z4y: (putAt W g o s q).heap.size=W.heap.size:=by unfold putAt; simp only[World.size_setCell]
theorem ZaG (a:Addr): (putAt W g o s q).frozen? a=W.frozen? a:=by unfold putAt; simp only[World.frozen?_setCell]
theorem Z4z {x:Nat} (h:g≠x): (putAt W g o s q).heap[x]? =W.heap[x]? :=by
 unfold putAt;have hs: ∀(w:World) (k:Nat) (v:Value),(w.setCell ⟨g,k,none⟩ v).heap[x]? =w.heap[x]? :=fun w k v=>Below.heap_setCell w ⟨g,k,none⟩ v x (Ne.symm h);rw[hs,hs,hs,hs,hs]
end
theorem FR.snoc {W wr:World} {L:List (Nat×Nat)} {s:Sh} {q:Ptr} (h:FR W wr L s q) (p:Nat×Nat) (he: ∀k,k < 5-> ∃v,W.cell? ⟨p.1,p.2 * 5+k,none⟩=some v):FR W (putAt wr p.1 (p.2 * 5) s q) (L++ [p]) s q:=by
 have he': ∀k,k < 5-> ∃v,wr.cell? ⟨p.1,p.2 * 5+k,none⟩=some v:=fun k hk=>h.ex _ _ (he k hk);have hl:=Z9F wr p.1 (p.2 * 5) s q;refine ⟨hl.os.trans h.os,hl.tape.trans h.tape,hl.output.trans h.output,(Z4y _ _ _ _ _).trans h.size,fun x hx=> ?_,fun g c hc=> ?_,fun g c=> ?_,fun g c hv=> ?_,fun p' hp'=> ?_⟩
 {rw[Z4z _ _ _ _ _ (hx p (by simp))]; exact h.block x (fun p' hp'=>hx p' (by simp[hp']))}
 {rw[Z0M _ _ _ _ _ (hc p (by simp))]; exact h.cell g c (fun p' hp'=>hc p' (by simp[hp']))}
 {exact (ZaG _ _ _ _ _ _).trans (h.fz g c)}
 {by_cases e:p.1=g/\p.2 * 5<=c/\c < p.2 * 5+5
  {obtain ⟨rfl,h1,h2⟩:=e;have hp:=Z1Z (s:=s) (q:=q) he';obtain ⟨s0,s1,s2,s3,s4⟩:=hp;have:c=p.2 * 5\/c=p.2 * 5+1\/c=p.2 * 5+2\/c=p.2 * 5+3\/c=p.2 * 5+4:=by omega
   rcases this with rfl | rfl | rfl | rfl | rfl
   {exact ⟨_,s0⟩}
   {exact ⟨_,s1⟩}
   {exact ⟨_,s2⟩}
   {exact ⟨_,s3⟩}
   {exact ⟨_,s4⟩}}
  {rw[Z0M _ _ _ _ _ e]; exact h.ex g c hv}}
 {by_cases e:p'=p
  {subst e; exact Z1Z he'}
  {have hp2:p'∈L:=by simpa[e] using hp'
   obtain ⟨s0,s1,s2,s3,s4⟩:=h.put p' hp2;have ne: ∀c,p'.2 * 5<=c->c < p'.2 * 5+5-> ¬(p.1=p'.1/\p.2 * 5<=c/\c < p.2 * 5+5):=fun c h1 h2 h3=>e (by
    obtain ⟨h4,h5,h6⟩:=h3;exact Prod.ext h4.symm (by omega))
   exact ⟨(Z0M _ _ _ _ _ (ne _ (by omega) (by omega))).trans s0,(Z0M _ _ _ _ _ (ne _ (by omega) (by omega))).trans s1,(Z0M _ _ _ _ _ (ne _ (by omega) (by omega))).trans s2,(Z0M _ _ _ _ _ (ne _ (by omega) (by omega))).trans s3,(Z0M _ _ _ _ _ (ne _ (by omega) (by omega))).trans s4⟩}}
structure FlOut (b:Nat) (W W':World) (L:List (Nat×Nat)) (s:Sh) (q:Ptr):Prop where
 os:W'.os=W.os
 tape:W'.tape=W.tape
 output:W'.output=W.output
 size:W.heap.size<=W'.heap.size
 block: ∀x,x < W.heap.size->x≠b->(∀p∈L,p.1≠x)->W'.heap[x]? =W.heap[x]?
 cell: ∀g c,g < W.heap.size->g≠b->(∀p∈L,¬(p.1=g/\p.2 * 5<=c/\c < p.2 * 5+5))->W'.cell? ⟨g,c,none⟩=W.cell? ⟨g,c,none⟩
 fz: ∀g c,g < W.heap.size->g≠b->W'.frozen? ⟨g,c,none⟩=W.frozen? ⟨g,c,none⟩
 ex: ∀g c,g < W.heap.size->g≠b->(∃v,W.cell? ⟨g,c,none⟩=some v)-> ∃v,W'.cell? ⟨g,c,none⟩=some v
 put: ∀p∈L,Sh5 W' p.1 (p.2 * 5) s q
theorem FlOut.pre {b:Nat} {W0 W W':World} {L:List (Nat×Nat)} {s:Sh} {q:Ptr} (hb:Below W0.heap.size W0 W) (h:FlOut b W W' L s q):FlOut b W0 W' L s q:=by
 have hz:=hb.size;refine ⟨h.os.trans hb.os,h.tape.trans hb.tape,h.output.trans hb.output,Nat.le_trans hz h.size,fun x h1 h2 h3=>(h.block x (by omega) h2 h3).trans (hb.block x h1),fun g c h1 h2 h3=>(h.cell g c (by omega) h2 h3).trans (hb.cell (p:=⟨g,c,none⟩) h1),
  fun g c h1 h2=>(h.fz g c (by omega) h2).trans (hb.frozen (p:=⟨g,c,none⟩) h1),fun g c h1 h2 h3=>h.ex g c (by omega) h2 ?_,h.put⟩
 obtain ⟨v,hv⟩:=h3;exact ⟨v,(hb.cell (p:=⟨g,c,none⟩) h1).trans hv⟩
theorem Z61 {b:Nat} {W W1 W':World} {L:List (Nat×Nat)} {s:Sh} {q:Ptr} (h:FR W W1 L s q) (ht:W1.mapTurned W' b) (hL: ∀p∈L,p.1≠b):FlOut b W W' L s q:=by
 have hg:=ht.grown;have hz: ∀x,x < W.heap.size->x < W1.heap.size:=fun x hx=>by rw[h.size]; exact hx
 have hc: ∀g c,g < W.heap.size->g≠b->W'.cell? ⟨g,c,none⟩=W1.cell? ⟨g,c,none⟩:=fun g c h1 h2=>hg.cell_far ⟨g,c,none⟩ (hz g h1) (fun e=>h2 (Option.some.inj e));refine ⟨hg.os.trans h.os,hg.tape.trans h.tape,hg.output.trans h.output,by have:=hg.size; rw[h.size] at this; exact this,fun x h1 h2 h3=>(hg.block x (hz x h1) (fun e=>h2 (Option.some.inj e))).trans (h.block x h3),fun g c h1 h2 h3=>(hc g c h1 h2).trans (h.cell g c h3),
  fun g c h1 h2=>(hg.frozen_far ⟨g,c,none⟩ (hz g h1) (fun e=>h2 (Option.some.inj e))).trans (h.fz g c),fun g c h1 h2 h3=> ?_,fun p hp=> ?_⟩
 {obtain ⟨v,hv⟩:=h.ex g c h3;exact ⟨v,(hc g c h1 h2).trans hv⟩}
 {have h5:=h.put p hp;have hlt:p.1 < W.heap.size:=by
   have:=h5.1;rcases Nat.lt_or_ge p.1 W1.heap.size with h' | h'
   {rw[h.size] at h'; exact h'}
   {simp[World.cell?,Array.getElem?_eq_none h'] at this}
  exact h5.of (fun c=>hc p.1 c hlt (hL p hp))}
abbrev shV (s:Sh) (q:Ptr):Value:= .agg (Y8 s q)
def flW (W:World) (b:Nat) (k:Ky) (s:Sh) (q:Ptr):World:=
 ((W.alloc (.cells #[.map (some b)] 69)).alloc (.cells #[.string ⟨k.1.toArray⟩,.string ⟨k.2.toArray⟩] 76)).alloc (.cells (Y8 s q) 25)
section
variable (W : World) (b : Nat) (k : Ky) (s : Sh) (q : Ptr)
include W b k s q
theorem Z7E:Below W.heap.size W (flW W b k s q):=Z0d (Z0d (Z00 _ _) _) _
theorem ZaH: (flW W b k s q).heap.size=W.heap.size+3:=by simp[flW]
theorem Z53: (flW W b k s q).cell? ⟨W.heap.size,0,none⟩=some (.map (some b))/\(flW W b k s q).cell? ⟨W.heap.size+1,0,none⟩=some (.string ⟨k.1.toArray⟩)/\(flW W b k s q).cell? ⟨W.heap.size+1,1,none⟩=some (.string ⟨k.2.toArray⟩)/\Sh5 (flW W b k s q) (W.heap.size+2) 0 s q:=by
 refine ⟨by simp[flW,go_sem],by simp[flW,go_sem],by simp[flW,go_sem],by simp[flW,go_sem],by simp[flW,go_sem],by simp[flW,go_sem],by simp[flW,go_sem],by simp[flW,go_sem]⟩
end
theorem Z4A {W W1 W':World} {B b N:Nat} {S:List Ky} {m:Ky->Value} {ps:Ky->List (Nat×Nat)} {k:Ky} {s:Sh} {q:Ptr} (hG:Grp W B b N S m ps) (h:FR W W1 (ps k) s q) (hL: ∀p∈ps k,p.1 < b) (hM:Mp W' b N (S.filter (· ≠k)) m) (ht:W1.mapTurned W' b):
 Grp W' B b N (S.filter (· ≠k)) m (fun x=>if x=k then [] else ps x):=by
 have hbB:=hG.bB;have hmem: ∀x,x∈S.filter (· ≠k) ↔ x∈S/\x≠k:=fun x=>by simp[List.mem_filter]
 have hg1: ∀v:Value,∀xs n,W.ownsRow B 71 1 v n xs->W'.ownsRow B 71 1 v n xs:=fun v xs n hr=>by
  obtain ⟨h1,h2⟩:=hr;refine ⟨h1, ?_⟩;rcases h2 with h2 | ⟨g,cap,cur,e1,e2,e3,e4⟩
  {exact Or.inl h2}
  {refine Or.inr ⟨g,cap,cur,e1,e2, ?_,e4⟩;have hlt:g < W.heap.size:=(Array.getElem?_eq_some_iff.1 e3).1;exact (ht.grown.block g (by rw[h.size]; exact hlt) (fun e=>by have e5:g=b:=Option.some.inj e; omega)).trans ((h.block g (fun p hp=>by have:=hL p hp; omega)).trans e3)}
 refine ⟨hM,fun x hx=> ?_,fun x hx=> ?_,fun x hx=> ?_,fun x hx y hy hxy=> ?_,fun x=> ?_,hbB, ?_⟩
 {simp only[if_neg ((hmem x).1 hx).2]; exact hg1 _ _ _ (hG.row x ((hmem x).1 hx).1)}
 {simp only[if_neg ((hmem x).1 hx).2]; exact hG.ne x ((hmem x).1 hx).1}
 {by_cases e:x=k
  {simp only[if_pos e]}
  {simp only[if_neg e]; exact hG.no x (fun hS=>hx ((hmem x).2 ⟨hS,e⟩))}}
 {exact hG.far x ((hmem x).1 hx).1 y ((hmem y).1 hy).1 hxy}
 {have:=hG.len x;by_cases e:x=k
  {simp only[if_pos e]; simp}
  {simp only[if_neg e]; exact this}}
 {have:=ht.grown.size; have:=h.size; have:=hG.Bw; omega}
section
variable (W : World) (B b N : Nat) (S : List Ky) (m : Ky -> Value) (ps : Ky -> List (Nat × Nat)) (k : Ky) (s : Sh) (q : Ptr) (hk : Fine k)
include W B b N S m ps k s q hk
theorem Z9G (hG:Grp W B b N S m ps) (hS:k∉S):
 Calls Tryd.prog 34 #[.agg #[.map (some b)],keyV k,shV s q] W fun e W'=>e= .returned (.tuple #[])/\Grp W' B b N (S.filter (· ≠k)) m (fun x=>if x=k then [] else ps x)/\FlOut b W W' (ps k) s q:=by
 obtain ⟨c0,c1,c2,c3,c4,c5,c6,c7⟩:=Z53 W b k s q;have hlow:=Z7E W b k s q;have hG3:=hG.keep hlow;have HL:=Y1 hlow;have HG:=Y1 hG3;have hl:=hG3.mp.look hk;rw[if_neg hS] at hl;obtain ⟨W',hr,hM,ht⟩:=hG3.mp.del hk 0;have HF:Hid (Grp W' B b N (S.filter (· ≠k)) m (fun x=>if x=k then [] else ps x)/\FlOut b (flW W b k s q) W' (ps k) s q):=by
  have h0:=FR.refl (flW W b k s q) s q;rw[<-hG.no k hS] at h0;exact Y1 ⟨Z4A hG3 h0 (by rw[hG.no k hS]; nofun) hM ht,Z61 h0 ht (by rw[hG.no k hS]; nofun)⟩
 clear hlow hG3 hG hM ht hS;unfold keyV shV;unfold keyV at hl hr;go_enter Tryd.func34,Tryd.ntmps34
 go_wp2_with fail
 obtain ⟨W3,hW3⟩: ∃W3,flW W b k s q=W3:=⟨_,rfl⟩;rw[hW3] at hl hr c0 c1 c2 c3 c4 c5 c6 c7 HL HF;unfold flW at hW3;rw[hW3,hl];clear hW3
 go_wp2_with fail
 go_loopw [13] (fun c wr=>c= .int .i64 0/\wr=W3) (fun _ _=>0)
 case atStart=>exact ⟨rfl,rfl⟩
 case round=>
  obtain ⟨rfl,rfl⟩:=hrel;go_wp2;refine bodyPost_end (v:= .tuple #[]) (by simp[results,Tryd.results34,go_sem]) rfl ?_;exact ⟨rfl,HF.out.1,HF.out.2.pre HL.out⟩
theorem Z9H (hN:N<=1000) (hG:Grp W B b N S m ps) (hS:k∈S) (hL: ∀p∈ps k,p.1 < b/\(∀c,c < 5-> ∃v,W.cell? ⟨p.1,p.2 * 5+c,none⟩=some v)/\ ∀c,W.frozen? ⟨p.1,c,none⟩=false):
 Calls Tryd.prog 34 #[.agg #[.map (some b)],keyV k,shV s q] W fun e W'=>e= .returned (.tuple #[])/\Grp W' B b N (S.filter (· ≠k)) m (fun x=>if x=k then [] else ps x)/\FlOut b W W' (ps k) s q:=by
 obtain ⟨c0,c1,c2,c3,c4,c5,c6,c7⟩:=Z53 W b k s q;have hlow:=Z7E W b k s q;have hsz:=ZaH W b k s q;have hG3:=hG.keep hlow;have hbB:=hG.bB;have hBw:=hG.Bw;have hl:=hG3.mp.look hk;rw[if_pos hS] at hl;obtain ⟨gr,cr,hm,hgr1,hgr2,hcells⟩:=hG3.own hS;rw[hm] at hl;have hlen:=hG.len k;have hL3: ∀p∈ps k,p.1 < b/\(∀c,c < 5-> ∃v,(flW W b k s q).cell? ⟨p.1,p.2 * 5+c,none⟩=some v)/\ ∀c,(flW W b k s q).frozen? ⟨p.1,c,none⟩=false:=fun p hp=>by
  obtain ⟨h1,h2,h3⟩:=hL p hp;refine ⟨h1,fun c hc=> ?_,fun c=>(hlow.frozen (p:=⟨p.1,c,none⟩) (by show p.1 < _; omega)).trans (h3 c)⟩;obtain ⟨v,hv⟩:=h2 c hc;exact ⟨v,(hlow.cell (p:=⟨p.1,p.2 * 5+c,none⟩) (by show p.1 < _; omega)).trans hv⟩
 have HG:=Y1 hG3;have HL3:=Y1 hL3;have HLO:=Y1 hlow;have HCE:=Y1 hcells;have HS5:Hid (Sh5 (flW W b k s q) (W.heap.size+2) 0 s q):=Y1 ⟨c3,c4,c5,c6,c7⟩;have HC0:=Y1 c0;have HC12:=Y1 (And.intro c1 c2);have HZ:=Y1 hsz;have hgb:gr < W.heap.size:=by
  have:=(hG.row k hS).lt gr (by rw[hm]; rfl); exact this.2
 clear hlow hG3 hL3 hL hG hcells hm hsz;unfold keyV shV;unfold keyV at hl;go_enter Tryd.func34,Tryd.ntmps34
 go_wp2_with fail
 obtain ⟨W3,hW3⟩: ∃W3,flW W b k s q=W3:=⟨_,rfl⟩;rw[hW3] at hl c0 c1 c2 c3 c4 c5 c6 c7 HLO HG HL3 HCE HS5 HC0 HC12 HZ hgr2;unfold flW at hW3;rw[hW3,hl];clear hW3 hl c0 c1 c2 c3 c4 c5 c6 c7
 go_wp2_with fail
 go_loopw [13] (fun c wr=> ∃j:Nat,c= .int .i64 (j:Int)/\j<=(ps k).length/\Hid (FR W3 wr ((ps k).take j) s q)) (fun c _=>(ps k).length - (intOf c).toNat)
 case atStart=>exact ⟨0,rfl,Nat.zero_le _,Y1 (by rw[List.take_zero]; exact FR.refl _ _ _)⟩
 case round=>
  obtain ⟨j,rfl,hj,HI⟩:=hrel;have hz:=HZ.out;have far: ∀g c,b<=g->wr.cell? ⟨g,c,none⟩=W3.cell? ⟨g,c,none⟩:=fun g c hg=>HI.out.cell g c (fun p hp e=>by have:=(HL3.out p (List.mem_of_mem_take hp)).1; omega);by_cases hjn:j < (ps k).length
  {have hjn': (j:Int) < ((ps k).length:Int):=by omega
   obtain ⟨h1,h2,h3⟩:=HL3.out _ (List.getElem_mem hjn);have cr0:=(far gr j (by omega)).trans (HCE.out j hjn);obtain ⟨a0,a1,a2,a3,a4⟩:=HS5.out.of (w':=wr) (fun c=>far _ c (by omega));have hsn:=HI.out.snoc ((ps k)[j]'hjn) h2;rw[<-Z1o hjn] at hsn;have HSN:=Y1 hsn;obtain ⟨p,hp⟩: ∃p,p=(ps k)[j]'hjn:=⟨_,rfl⟩;rw[<-hp] at h1 h2 h3 cr0 HSN;unfold plV at cr0;obtain ⟨v0,x0⟩:=HI.out.ex _ _ (h2 0 (by omega));obtain ⟨v1,x1⟩:=HI.out.ex _ _ (h2 1 (by omega));obtain ⟨v2,x2⟩:=HI.out.ex _ _ (h2 2 (by omega));obtain ⟨v3,x3⟩:=HI.out.ex _ _ (h2 3 (by omega));obtain ⟨v4,x4⟩:=HI.out.ex _ _ (h2 4 (by omega));have z0:=(HI.out.fz p.1 (p.2 * 5)).trans (h3 _);have z1:=(HI.out.fz p.1 (p.2 * 5+1)).trans (h3 _);have z2:=(HI.out.fz p.1 (p.2 * 5+2)).trans (h3 _);have z3:=(HI.out.fz p.1 (p.2 * 5+3)).trans (h3 _);have z4:=(HI.out.fz p.1 (p.2 * 5+4)).trans (h3 _);simp only[Nat.add_zero,Nat.zero_add] at x0 a0 a1 a2 a3 a4;clear hsn h2 h3 far hz hp;go_wp2
   go_roundw
   case rel=>exact ⟨j+1,by go_num,by omega,HSN⟩
   case measure=>simp[intOf]; omega}
  {obtain rfl:j=(ps k).length:=by omega
   have hR:=HI.out;rw[List.take_length] at hR;have hbl:wr.heap[b]? =W3.heap[b]? :=hR.block b (fun p hp=>Nat.ne_of_lt (HL3.out p hp).1);obtain ⟨W',hr,hM,ht⟩:=(HG.out.mp.same hbl).del hk 0;have HF:Hid (Grp W' B b N (S.filter (· ≠k)) m (fun x=>if x=k then [] else ps x)/\FlOut b W3 W' (ps k) s q):=
    Y1 ⟨Z4A HG.out hR (fun p hp=>(HL3.out p hp).1) hM ht,Z61 hR ht (fun p hp=>Nat.ne_of_lt (HL3.out p hp).1)⟩
   have c0:=(far W.heap.size 0 (by omega)).trans HC0.out;have c1:=(far (W.heap.size+1) 0 (by omega)).trans HC12.out.1;have c2:=(far (W.heap.size+1) 1 (by omega)).trans HC12.out.2;unfold keyV at hr;clear hR hbl hM ht far hz HI;go_wp2;refine bodyPost_end (v:= .tuple #[]) (by simp[results,Tryd.results34,go_sem]) rfl ?_;exact ⟨rfl,HF.out.1,HF.out.2.pre HLO.out⟩}
theorem Z9I (hN:N<=1000) (hG:Grp W B b N S m ps) (hL: ∀p∈ps k,p.1 < b/\(∀c,c < 5-> ∃v,W.cell? ⟨p.1,p.2 * 5+c,none⟩=some v)/\ ∀c,W.frozen? ⟨p.1,c,none⟩=false):
 Calls Tryd.prog 34 #[.agg #[.map (some b)],keyV k,shV s q] W fun e W'=>e= .returned (.tuple #[])/\Grp W' B b N (S.filter (· ≠k)) m (fun x=>if x=k then [] else ps x)/\FlOut b W W' (ps k) s q:=by
 by_cases hS:k∈S
 {exact Z9H W B b N S m ps k s q hk hN hG hS hL}
 {exact Z9G W B b N S m ps k s q hk hG hS}
end
end
section
open Go.RowKit Shp
open Expd (Bd)
attribute [local go_sem] Oper.semAt_some
abbrev bdV (b:Bd) (q:Ptr):Value:= .agg #[.string ⟨b.of_.toArray⟩,.string ⟨b.name.toArray⟩,.int .i64 b.sh.kind,.string ⟨b.sh.of_.toArray⟩,.string ⟨b.sh.name.toArray⟩,.slice q.A b.sh.names.length q.c,.slice q.P b.sh.parts.length q.d]
structure Bk (w:World) (n0 h:Nat) (A:Option Addr) (c:Nat) (L:List Bd) (qs:Nat->Ptr) (g off:Nat):Prop where
 box:w.cell? ⟨h,0,none⟩=some (.slice A L.length c)
 n0h:n0<=h
 lt:h < w.heap.size
 at_:L.length=0\/A=some ⟨g,off,none⟩/\g < n0
 cells: ∀i (hi:i < L.length),BdAt w n0 g (off+i * 7) (L[i]'hi) (qs i)
 len:L.length<=1000
def BkK (n0 h:Nat) (w w':World):Prop:=Below n0 w w'/\w'.heap[h]? =w.heap[h]?
theorem BkK.trans {n0 h:Nat} {a b c:World} (x:BkK n0 h a b) (y:BkK n0 h b c):BkK n0 h a c:=⟨x.1.trans y.1,y.2.trans x.2⟩
theorem Bk.keep {w w':World} {n0 h:Nat} {A:Option Addr} {c:Nat} {L:List Bd} {qs:Nat->Ptr} {g off:Nat} (H:Bk w n0 h A c L qs g off) (k:BkK n0 h w w'):Bk w' n0 h A c L qs g off:=by
 have hsz:=k.1.size;refine ⟨(World.cell?_of_block (w:=w) k.2).trans H.box,H.n0h,Nat.lt_of_lt_of_le H.lt hsz,H.at_,fun i hi=> ?_,H.len⟩;have hg:g < n0:=by
  rcases H.at_ with h0 | h0
  {omega}
  {exact h0.2}
 exact (H.cells i hi).of (Nat.le_refl _) hg (fun g' k' h'=>k.1.cell (p:=⟨g',k',none⟩) h')
theorem Z5p (W:World) (A:Option Addr) (n c:Nat):Calls Tryd.prog 32 #[.slice A n c] W fun e W'=>e= .returned (.func (.func 51) #[] #[.pointer (some ⟨W.heap.size,0,none⟩)])/\W'.cell? ⟨W.heap.size,0,none⟩=some (.slice A n c)/\W'.heap.size=W.heap.size+1/\Below W.heap.size W W':=by
 go_enter Tryd.func32,Tryd.ntmps32;go_wp2;go_ret;exact ⟨rfl,by simp[go_sem],by simp,Z00 _ _⟩
def downTo (n k:Nat):List Nat:=(List.range n).reverse.take (n - k)
theorem Z8n {n k:Nat} (h:k<=n): (downTo n k).length=n - k:=by unfold downTo; rw[List.length_take,List.length_reverse,List.length_range]; omega
theorem Z8o (n:Nat):downTo n n= []:=by unfold downTo; simp
theorem Z2y (n:Nat):downTo n 0=(List.range n).reverse:=by unfold downTo; rw[Nat.sub_zero,List.take_of_length_le (by simp)]
theorem Z3U {n k:Nat} (h:k < n):downTo n k=downTo n (k+1)++ [k]:=by
 unfold downTo;rw[show n - k=(n - (k+1))+1 by omega,List.take_succ_eq_append_getElem (by simp; omega)];congr 2;rw[List.getElem_reverse];simp;omega
theorem ZaI (n:Nat) (hn:1<=n) (w:World) (n0 h:Nat) (A:Option Addr) (c:Nat) (L:List Bd) (qs:Nat->Ptr) (g off:Nat) (H:Bk w n0 h A c L qs g off):
 SeqStopsK Fence.wide n Tryd.prog 51 #[.pointer (some ⟨h,0,none⟩)] (fun i:Nat=>#[.int .i64 (i:Int),bdV (L.getD i ⟨[],[],⟨0,[],[],[],[]⟩⟩) (qs i)]) (BkK n0 h)
  (fun xs=>xs=(List.range L.length).reverse) (fun pre=> ∃k,k < L.length/\pre=downTo L.length k) L.length w:=by
 intro l J Jx W hb hJ hJx hY h0;have HW:Bk W n0 h A c L qs g off:=H.keep ⟨hb.mono (by have:=H.n0h; have:=H.lt; omega),hb.block h H.lt⟩;refine callsIn_of_wp Tryd.func51 rfl trivial ?_ rfl;simp only[Tryd.ntmps51,List.size_toArray,List.length_cons,List.length_nil,Nat.reduceAdd,Nat.reduceSub,Array.replicate_succ,Array.replicate_zero,List.push_toArray,List.append_toArray,List.nil_append,List.cons_append];have c0:=HW.box;have HL:=HW.len;have HH:=Y1 HW;clear hb hJ hJx HW H
 gi_wp2_with fail
 gi_loopw [3] (fun i wr=> ∃k:Nat,k<=L.length/\i= .int .i64 ((k:Int) - 1)/\J (downTo L.length k) wr/\Hid (Bk wr n0 h A c L qs g off)) (fun i _=>(intOf i+1).toNat)
 case atStart=>exact ⟨L.length,Nat.le_refl _,rfl,by rw[Z8o]; exact h0,HH⟩
 case round=>
  clear HH c0 h0;obtain ⟨k,hk,rfl,hJk,HB⟩:=hrel;have c0:=HB.out.box;rcases k with _ | k
  {gi_wp2
   go_end0
   exact ⟨⟨_,rfl⟩,Or.inl ⟨_,rfl,by rw[<-Z2y]; exact hJk⟩⟩}
  {have hkl:k < L.length:=hk;have e1: ((k+1:Nat):Int) - 1=(k:Int):=by omega
   obtain ⟨x0,x1,⟨y0,y1,y2,y3,y4⟩,_⟩:=HB.out.cells k hkl;have hA:=HB.out.at_.resolve_left (by omega);rw[hA.1] at c0;have hD:L.getD k ⟨[],[],⟨0,[],[],[],[]⟩⟩=L[k]'hkl:=by simp[hkl]
   obtain ⟨fn,tmps,assign,body,hy,hR⟩:=hY (downTo L.length (k+1)) k wr hJk (by rw[Z8n hk]; omega);rw[hD] at hy;rw[<-Z3U hkl] at hR;obtain ⟨bk,hbk⟩: ∃bk,bk=L[k]'hkl:=⟨_,rfl⟩;rw[<-hbk] at x0 x1 y0 y1 y2 y3 y4 hy;rw[e1];change wr.cell? ⟨g,off+k * 7+3,none⟩=_ at y1;change wr.cell? ⟨g,off+k * 7+4,none⟩=_ at y2;change wr.cell? ⟨g,off+k * 7+5,none⟩=_ at y3;change wr.cell? ⟨g,off+k * 7+6,none⟩=_ at y4;clear hY hJk hD hbk e1 hA
   gi_wp2
   refine hR.mono ?_;rintro e W3 (⟨rfl,hJ3,hk3⟩ | ⟨rfl,hJx3⟩)
   {have hB3:=Y1 (HB.out.keep hk3);have HJ3:=Y1 hJ3;clear hk3 hJ3 c0 x0 x1 y0 y1 y2 y3 y4
    gi_wp2
    go_roundw
    case rel=>exact ⟨k,by omega,by go_num,HJ3.out,hB3⟩
    case measure=>simp[intOf]}
   {gi_wp2
    refine bodyPost_ret (results_none rfl _ _ _) rfl ?_;exact ⟨⟨_,rfl⟩,Or.inr ⟨_,⟨k,hkl,rfl⟩,hJx3⟩⟩}}
end
section
open Go.RowKit Shp
open Expd (Bd fill keys find)
theorem Pls.at_ {W:World} {B0 g i:Nat} {t:Sh} {pl:List Plc} (h:Pls W B0 g i t pl): ∀e∈pl,e.2.1 < B0/\ ∃(s:Sh) (q:Ptr),Sh5 W e.2.1 (e.2.2 * 5) s q/\s.kind=9/\(s.of_,s.name)=e.1:=by
 induction h with
 | name g i t q hk hp hg hs hsm hn=>intro e he; simp at he; subst he; exact ⟨hg,t,q,hs,hk,rfl⟩
 | node g i t q b pls hk hg hs hsm hn hp hr ih=>
  intro e he;obtain ⟨j,hj,he⟩:=List.mem_flatMap.1 he;exact ih j (List.mem_range.1 hj) e he
theorem ZaJ (f:Nat->List Plc) (l:List Sh): (∀j (h:j < l.length),(f j).length<=size (l[j]'h))->((List.range l.length).flatMap f).length<=sizes l:=by
 intro h;have: ∀n,n<=l.length->((List.range n).flatMap f).length<=sizes (l.take n):=fun n=>by
  induction n with
  | zero=>intro _; simp
  | succ n ih=>
   intro hn;rw[List.range_succ,List.flatMap_append,List.length_append,Z1v (by omega)];have h1:=ih (by omega);have h2:=h n (by omega);simp;simp at h1;omega
 have h1:=this l.length (Nat.le_refl _)
 rwa [List.take_length] at h1
theorem Zb8 {W:World} {B0:Nat} {q:Ptr} {t:Sh} {F:List Nat} (h:Own W q t F): ∀(g i:Nat),g < B0->(∀b∈F,b < B0)->Sh5 W g (i * 5) t q->right t=true-> ∃pl,(∀W',(∀b∈F,∀k,W'.cell? ⟨b,k,none⟩=W.cell? ⟨b,k,none⟩)->(∀k,W'.cell? ⟨g,k,none⟩=W.cell? ⟨g,k,none⟩)->Pls W' B0 g i t pl)/\pl.length<=size t/\ ∀e∈pl,e.2.1=g\/e.2.1∈F:=by
 induction h with
 | mk q t F FN FP qs Fs hs hn hp hr hF ih=>
  subst hF;intro g i hg hF h5 hR;by_cases hk:t.kind=9
  {obtain ⟨h1,h2⟩:=Expd.name_bare hR hk;refine ⟨_,fun W' _ hc=> .name g i t q hk (by rw[h2]; rfl) hg (h5.of hc) hs (by rw[h1]; rfl),Z25 t, ?_⟩;intro e he; simp at he; subst he; exact Or.inl rfl}
  {have hN: ∀W':World,(∀b∈FN,∀k,W'.cell? ⟨b,k,none⟩=W.cell? ⟨b,k,none⟩)->t.names.length=0\/ ∃bn,q.A=some ⟨bn,0,none⟩/\bn < B0/\ ∀j (h:j < t.names.length),W'.cell? ⟨bn,j,none⟩=some (.string ⟨(t.names[j]'h).toArray⟩):=fun W' hW=>by
    rcases hn with ⟨h,_⟩ | ⟨b,h1,rfl,h3⟩
    {exact Or.inl h}
    {exact Or.inr ⟨b,h1,hF b (by simp),fun j hj=>(hW b (by simp) j).trans (h3.at_ j hj)⟩}
   rcases hp with ⟨h0,rfl⟩ | ⟨b,h1,rfl,hb⟩
   {refine ⟨_,fun W' hW hc=> .node g i t q 0 (fun _=> []) hk hg (h5.of hc) hs (hN W' (fun b hb=>hW b (by simp[hb]))) (Or.inl h0) (fun j hj=>absurd hj (by omega)), ?_, ?_⟩
    {simp[h0]}
    {simp[h0]}}
   {have hx:=fun j hj=>ih j hj b j (hF b (by simp)) (fun c hc=>hF c (List.mem_append_right _ (List.mem_flatMap.2 ⟨j,List.mem_range.2 hj,hc⟩))) (hb.at_ j hj) (Z04 hR (List.getElem_mem hj))
    let pls:Nat->List Plc:=fun j=>if h:j < t.parts.length then (hx j h).choose else []
    have hpl: ∀j (h:j < t.parts.length),(∀W',(∀c∈Fs j,∀k,W'.cell? ⟨c,k,none⟩=W.cell? ⟨c,k,none⟩)->(∀k,W'.cell? ⟨b,k,none⟩=W.cell? ⟨b,k,none⟩)->Pls W' B0 b j (t.parts[j]'h) (pls j))/\(pls j).length<=size (t.parts[j]'h)/\ ∀e∈pls j,e.2.1=b\/e.2.1∈Fs j:=fun j h=>by
     have:=(hx j h).choose_spec;simp only[pls,dif_pos h];exact this
    refine ⟨_,fun W' hW hc=> .node g i t q b pls hk hg (h5.of hc) hs (hN W' (fun c hc=>hW c (by simp[hc]))) (Or.inr ⟨h1,hF b (by simp)⟩) (fun j hj=>(hpl j hj).1 W' (fun c hc=>hW c (List.mem_append_right _ (List.mem_flatMap.2 ⟨j,List.mem_range.2 hj,hc⟩))) (hW b (by simp))), ?_, ?_⟩
    {rw[size_eq];have:=ZaJ pls t.parts (fun j hj=>(hpl j hj).2.1);omega}
    {intro e he;obtain ⟨j,hj,he⟩:=List.mem_flatMap.1 he;have hj:=List.mem_range.1 hj;rcases (hpl j hj).2.2 e he with h | h
     {exact Or.inr (by rw[h]; simp)}
     {exact Or.inr (List.mem_append_right _ (List.mem_flatMap.2 ⟨j,List.mem_range.2 hj,h⟩))}}}}
abbrev Lk:=Ky->Option (Sh×Ptr)
structure FlI (b:Nat) (W wr:World) (ps:Ky->List (Nat×Nat)) (lk:Lk):Prop where
 os:wr.os=W.os
 tape:wr.tape=W.tape
 output:wr.output=W.output
 size:W.heap.size<=wr.heap.size
 block: ∀x,x < W.heap.size->x≠b->(∀k,(lk k).isSome=true-> ∀p∈ps k,p.1≠x)->wr.heap[x]? =W.heap[x]?
 cell: ∀g c,g < W.heap.size->g≠b->(∀k,(lk k).isSome=true-> ∀p∈ps k,¬(p.1=g/\p.2 * 5<=c/\c < p.2 * 5+5))->wr.cell? ⟨g,c,none⟩=W.cell? ⟨g,c,none⟩
 fz: ∀g c,g < W.heap.size->g≠b->wr.frozen? ⟨g,c,none⟩=W.frozen? ⟨g,c,none⟩
 ex: ∀g c,g < W.heap.size->g≠b->(∃v,W.cell? ⟨g,c,none⟩=some v)-> ∃v,wr.cell? ⟨g,c,none⟩=some v
 put: ∀k s q,lk k=some (s,q)-> ∀p∈ps k,Sh5 wr p.1 (p.2 * 5) s q
theorem FlI.refl (b:Nat) (W:World) (ps:Ky->List (Nat×Nat)):FlI b W W ps (fun _=>none):=⟨rfl,rfl,rfl,Nat.le_refl _,fun _ _ _ _=>rfl,fun _ _ _ _ _=>rfl,fun _ _ _ _=>rfl,fun _ _ _ _ h=>h,nofun⟩
theorem FlI.next {b:Nat} {W wr w':World} {ps:Ky->List (Nat×Nat)} {lk:Lk} (h:FlI b W wr ps lk) (hb:Below wr.heap.size wr w') (hp: ∀k,∀p∈ps k,p.1 < W.heap.size):FlI b W w' ps lk:=by
 have hz:=h.size;refine ⟨hb.os.trans h.os,hb.tape.trans h.tape,hb.output.trans h.output,Nat.le_trans hz hb.size,fun x h1 h2 h3=>(hb.block x (by omega)).trans (h.block x h1 h2 h3),fun g c h1 h2 h3=>(hb.cell (p:=⟨g,c,none⟩) (by show g < _; omega)).trans (h.cell g c h1 h2 h3),
  fun g c h1 h2=>(hb.frozen (p:=⟨g,c,none⟩) (by show g < _; omega)).trans (h.fz g c h1 h2),fun g c h1 h2 h3=> ?_,fun k s q hk p hpk=>(h.put k s q hk p hpk).of (fun c=>hb.cell (p:=⟨p.1,c,none⟩) (by have:=hp k p hpk; show p.1 < _; omega))⟩
 obtain ⟨v,hv⟩:=h.ex g c h1 h2 h3;exact ⟨v,(hb.cell (p:=⟨g,c,none⟩) (by show g < _; omega)).trans hv⟩
def Lk.add (lk:Lk) (k0:Ky) (x:Sh×Ptr):Lk:=fun k=>(lk k).or (if k=k0 then some x else none)
theorem Z36 {lk:Lk} {k0 k:Ky} {x:Sh×Ptr} (h: (lk k).isSome=true):lk.add k0 x k=lk k:=by
 unfold Lk.add; cases e:lk k with
 | none=>rw[e] at h; cases h
 | some y=>rfl
theorem Z37 {lk:Lk} {k0 k:Ky} {x:Sh×Ptr} (h:lk k=none):lk.add k0 x k=if k=k0 then some x else none:=by unfold Lk.add; rw[h]; rfl
theorem FlI.fill {b:Nat} {W wr w':World} {ps:Ky->List (Nat×Nat)} {lk:Lk} {k0:Ky} {s:Sh} {q:Ptr} (h:FlI b W wr ps lk) (hf:FlOut b wr w' (if (lk k0).isSome then [] else ps k0) s q)
 (hp: ∀k,∀p∈ps k,p.1 < W.heap.size/\p.1≠b) (far: ∀k k',k≠k'-> ∀p∈ps k,p∉ps k'):FlI b W w' ps (lk.add k0 (s,q)):=by
 have hz:=h.size;have old: ∀k,(lk k).isSome=true->(lk.add k0 (s,q) k).isSome=true:=fun k hk=>by rw[Z36 hk]; exact hk
 have new: ∀p∈(if (lk k0).isSome then [] else ps k0),p∈ps k0/\(lk.add k0 (s,q) k0).isSome=true:=fun p hpk=>by
  by_cases e: (lk k0).isSome=true
  {rw[if_pos e] at hpk; cases hpk}
  {rw[if_neg e] at hpk;rw[Z37 (by simpa using e),if_pos rfl];exact ⟨hpk,rfl⟩}
 refine ⟨hf.os.trans h.os,hf.tape.trans h.tape,hf.output.trans h.output,Nat.le_trans hz hf.size,fun x h1 h2 h3=> ?_,fun g c h1 h2 h3=> ?_,fun g c h1 h2=>(hf.fz g c (by omega) h2).trans (h.fz g c h1 h2),fun g c h1 h2 h3=>hf.ex g c (by omega) h2 (h.ex g c h1 h2 h3),fun k s' q' hk p hpk=> ?_⟩
 {exact (hf.block x (by omega) h2 (fun p hpk=>h3 k0 (new p hpk).2 p (new p hpk).1)).trans (h.block x h1 h2 (fun k hk=>h3 k (old k hk)))}
 {exact (hf.cell g c (by omega) h2 (fun p hpk=>h3 k0 (new p hpk).2 p (new p hpk).1)).trans (h.cell g c h1 h2 (fun k hk=>h3 k (old k hk)))}
 {by_cases e: (lk k).isSome=true
  {rw[Z36 e] at hk;have h5:=h.put k s' q' hk p hpk;have hp1:=hp k p hpk;have hne: ∀p'∈(if (lk k0).isSome then [] else ps k0),p'≠p:=fun p' hp' e'=>by
    by_cases e2:k=k0
    {subst e2; rw[if_pos e] at hp'; cases hp'}
    {exact far k k0 e2 p hpk (e'▸(new p' hp').1)}
   have hc: ∀j,j < 5->w'.cell? ⟨p.1,p.2 * 5+j,none⟩=wr.cell? ⟨p.1,p.2 * 5+j,none⟩:=fun j hj=>hf.cell p.1 (p.2 * 5+j) (by omega) hp1.2 (fun p' hp' ⟨h1,h2,h3⟩=>hne p' hp' (Prod.ext h1 (by omega)));obtain ⟨a0,a1,a2,a3,a4⟩:=h5;exact ⟨(hc 0 (by omega)).trans a0,(hc 1 (by omega)).trans a1,(hc 2 (by omega)).trans a2,(hc 3 (by omega)).trans a3,(hc 4 (by omega)).trans a4⟩}
  {rw[Z37 (by simpa using e)] at hk;by_cases e2:k=k0
   {subst e2;rw[if_pos rfl] at hk;cases hk;exact hf.put p (by rw[if_neg e]; exact hpk)}
   {rw[if_neg e2] at hk; cases hk}}}
theorem Z49 {W:World} {g o:Nat} {s t:Sh} {q q':Ptr} (h:Sh5 W g o s q) (k:Sh5 W g o t q'):s.kind=t.kind/\(s.of_,s.name)=(t.of_,t.name):=by
 obtain ⟨h0,h1,h2,_,_⟩:=h;obtain ⟨k0,k1,k2,_,_⟩:=k;rw[h0] at k0;rw[h1] at k1;rw[h2] at k2;simp at k0 k1 k2;exact ⟨k0,Prod.ext k1 k2⟩
structure FlR (B0:Nat) (W wr:World) (ps:Ky->List (Nat×Nat)) (lk:Lk):Prop where
 cell: ∀g c,g < B0->(∀k,(lk k).isSome=true-> ∀p∈ps k,¬(p.1=g/\p.2 * 5<=c/\c < p.2 * 5+5))->wr.cell? ⟨g,c,none⟩=W.cell? ⟨g,c,none⟩
 put: ∀k s q,lk k=some (s,q)-> ∀p∈ps k,Sh5 wr p.1 (p.2 * 5) s q
theorem FlI.read {b B0:Nat} {W wr:World} {ps:Ky->List (Nat×Nat)} {lk:Lk} (h:FlI b W wr ps lk) (hB:B0<=W.heap.size) (hb:B0<=b):FlR B0 W wr ps lk:=
 ⟨fun g c hg hp=>h.cell g c (by omega) (by omega) hp,h.put⟩
theorem Z9J {B0 BB:Nat} {W wr:World} {ps:Ky->List (Nat×Nat)} {lk:Lk} (h:FlR B0 W wr ps lk) (hBB:B0<=BB)
 (hpl: ∀k,∀p∈ps k,∃(s:Sh) (q:Ptr),Sh5 W p.1 (p.2 * 5) s q/\s.kind=9/\(s.of_,s.name)=k) (hsh: ∀k s q,lk k=some (s,q)->ShAt wr BB q s)
 {g i:Nat} {t:Sh} {pl:List Plc} (hP:Pls W B0 g i t pl): (∀e∈pl,e.2∈ps e.1)-> ∃q',Sh5 wr g (i * 5) (fill (fun o n=>(lk (o,n)).map Prod.fst) t) q'/\ShAt wr BB q' (fill (fun o n=>(lk (o,n)).map Prod.fst) t):=by
 induction hP with
 | name g i t q hk hp hg hs hsm hn=>
  intro hm;rw[Expd.fill_name hk];cases e:lk (t.of_,t.name) with
  | some x=>exact ⟨x.2,h.put _ x.1 x.2 e (g,i) (hm ((t.of_,t.name),g,i) (by simp)),hsh _ x.1 x.2 e⟩
  | none=>
   refine ⟨q, ?_,.mk q t 0 0 (fun _=>q) hsm (Or.inl (by rw[Z1h]; exact hn)) (Or.inl hp) (fun j hj=>absurd hj (by omega)) (fun j hj=>absurd hj (by omega))⟩;have hc: ∀j,j < 5->wr.cell? ⟨g,i * 5+j,none⟩=W.cell? ⟨g,i * 5+j,none⟩:=fun j hj=>h.cell g _ (by omega) (fun k hk' p hpk ⟨h1,h2,h3⟩=>by
    obtain ⟨s,q2,h5,_,h7⟩:=hpl k p hpk;have hi:p.2=i:=by omega
    rw[h1,hi] at h5;have:=(Z49 h5 hs).2;rw[<-h7,this,e] at hk';cases hk')
   obtain ⟨a0,a1,a2,a3,a4⟩:=hs;exact ⟨(hc 0 (by omega)).trans a0,(hc 1 (by omega)).trans a1,(hc 2 (by omega)).trans a2,(hc 3 (by omega)).trans a3,(hc 4 (by omega)).trans a4⟩
 | node g i t q b0 pls hk hg hs hsm hn hp hr ih=>
  intro hm;rw[Expd.fill_node hk];have hx:=fun j hj=>ih j hj (fun e he=>hm e (List.mem_flatMap.2 ⟨j,List.mem_range.2 hj,he⟩))
  let qs:Nat->Ptr:=fun j=>if h:j < t.parts.length then (hx j h).choose else q
  have hqs: ∀j (h:j < t.parts.length),Sh5 wr b0 (j * 5) (fill (fun o n=>(lk (o,n)).map Prod.fst) (t.parts[j]'h)) (qs j)/\ShAt wr BB (qs j) (fill (fun o n=>(lk (o,n)).map Prod.fst) (t.parts[j]'h)):=fun j h=>by
   have:=(hx j h).choose_spec;simp only[qs,dif_pos h];exact this
  have hl: (t.parts.map (fill (fun o n=>(lk (o,n)).map Prod.fst))).length=t.parts.length:=by simp
  refine ⟨q, ?_,.mk q _ b0 0 qs ⟨hsm.o,hsm.n,hsm.ns,hsm.l,by rw[hl]; exact hsm.m,hsm.c,by rw[hl]; exact hsm.d,hsm.A0,hsm.P0⟩ ?_ ?_ ?_ ?_⟩
  {have hc: ∀j,j < 5->wr.cell? ⟨g,i * 5+j,none⟩=W.cell? ⟨g,i * 5+j,none⟩:=fun j hj=>h.cell g _ (by omega) (fun k hk' p hpk ⟨h1,h2,h3⟩=>by
    obtain ⟨s,q2,h5,h6,_⟩:=hpl k p hpk;have hi:p.2=i:=by omega
    rw[h1,hi] at h5;exact hk ((Z49 h5 hs).1▸h6))
   obtain ⟨a0,a1,a2,a3,a4⟩:=hs;exact ⟨(hc 0 (by omega)).trans a0,(hc 1 (by omega)).trans a1,(hc 2 (by omega)).trans a2,(hc 3 (by omega)).trans a3,by rw[hl]; exact (hc 4 (by omega)).trans a4⟩}
  {rcases hn with hn | ⟨bn,h1,h2,h3⟩
   {exact Or.inl (by rw[Z1h]; exact hn)}
   {refine Or.inr ⟨bn,0,h1,by omega,fun j hj=> ?_⟩;rw[Z1h] at hj
    replace hj:j < t.names.length:=hj
    rw[Nat.zero_add];refine (h.cell bn j (by omega) (fun k hk' p hpk ⟨e1,e2,e3⟩=> ?_)).trans ((h3 j hj).trans (by simp[strs]));obtain ⟨s,q2,h5,_,_⟩:=hpl k p hpk;have e4:=h3 (p.2 * 5) (by omega);have e5:=h5.1;rw[e1,e4] at e5;cases e5}}
  {rw[hl]; exact hp.imp id (fun h=>⟨h.1,by omega⟩)}
  {intro j hj;rw[hl] at hj;rw[Nat.zero_add,List.getElem_map];exact (hqs j hj).1}
  {intro j hj;rw[hl] at hj;rw[List.getElem_map];exact (hqs j hj).2}
theorem ZaK (l:List Bd) (o n:List UInt8):find l o n=(l.reverse.find? (fun b=>decide ((b.of_,b.name)=(o,n)))).map Bd.sh:=by
 induction l with
 | nil=>rfl
 | cons b l ih=>
  rw[Expd.find_cons,ih,List.reverse_cons,List.find?_append];cases e:l.reverse.find? (fun b=>decide ((b.of_,b.name)=(o,n))) with
  | some x=>rfl
  | none=>
   by_cases h:b.of_=o/\b.name=n
   {simp[h.1,h.2]}
   {rw[if_neg h];have: ¬((b.of_,b.name)=(o,n)):=fun e=>h (by simpa using e);simp only[List.find?_cons,List.find?_nil,decide_eq_false this];rfl}
abbrev noBd:Bd:=⟨[],[],⟨0,[],[],[],[]⟩⟩
def lkL (L:List Bd) (qs:Nat->Ptr) (pre:List Nat):Lk:=fun k=>(pre.find? (fun i=>decide (((L.getD i noBd).of_,(L.getD i noBd).name)=k))).map fun i=>((L.getD i noBd).sh,qs i)
theorem ZaL (L:List Bd) (qs:Nat->Ptr) (pre:List Nat) (i:Nat):lkL L qs (pre++ [i])=(lkL L qs pre).add ((L.getD i noBd).of_,(L.getD i noBd).name) ((L.getD i noBd).sh,qs i):=by
 funext k;unfold lkL Lk.add;simp only;rw[List.find?_append];cases e:pre.find? (fun i=>decide (((L.getD i noBd).of_,(L.getD i noBd).name)=k)) with
 | some x=>rfl
 | none=>
  by_cases h:k=((L.getD i noBd).of_,(L.getD i noBd).name)
  {rw[if_pos h];have: ((L.getD i noBd).of_,(L.getD i noBd).name)=k:=h.symm;simp only[List.find?_cons,decide_eq_true this];rfl}
  {rw[if_neg h];have: ¬(((L.getD i noBd).of_,(L.getD i noBd).name)=k):=fun e=>h e.symm;simp only[List.find?_cons,List.find?_nil,decide_eq_false this];rfl}
theorem Z62 (L:List Bd) (qs:Nat->Ptr) (o n:List UInt8): (lkL L qs (List.range L.length).reverse (o,n)).map Prod.fst=find L o n:=by
 have hL:L=(List.range L.length).map (fun i=>L.getD i noBd):=by
  refine List.ext_getElem (by simp) (fun i h1 h2=> ?_);simp[h1]
 rw[ZaK]
 conv=>rhs; rw[hL, <-List.map_reverse,List.find?_map]
 unfold lkL;rw[Option.map_map,Option.map_map];rfl
section
variable {L : List Bd} {qs : Nat -> Ptr}
include L qs
theorem Zb9 {k:Nat} {x:Ky} (h: (lkL L qs (downTo L.length k) x).isSome=true):lkL L qs (List.range L.length).reverse x=lkL L qs (downTo L.length k) x:=by
 have e: (List.range L.length).reverse=downTo L.length k++(List.range L.length).reverse.drop (L.length - k):=by unfold downTo; rw[List.take_append_drop]
 rw[e];unfold lkL at h ⊢;rw[List.find?_append];cases e2: (downTo L.length k).find? (fun i=>decide (((L.getD i noBd).of_,(L.getD i noBd).name)=x)) with
 | some y=>rfl
 | none=>rw[e2] at h; cases h
theorem early {k:Nat} {t:Sh} (h: ∀x∈keys t,(lkL L qs (downTo L.length k) x).isSome=true):
 Expd.put (find L) t=some (fill (fun o n=>(lkL L qs (downTo L.length k) (o,n)).map Prod.fst) t):=by
 have h1:=Expd.put_some (f:=fun o n=>(lkL L qs (downTo L.length k) (o,n)).map Prod.fst) t (fun x hx=>by rw[Option.isSome_map]; exact h x hx);rw[<-h1];refine (Expd.put_like t (fun x hx=> ?_)).symm;rw[<-Z62 L qs,Zb9 (h x hx)]
theorem late {t:Sh} {x:Ky} (hx:x∈keys t) (h:lkL L qs (List.range L.length).reverse x=none):Expd.put (find L) t=none:=
 Expd.put_none t hx (by rw[<-Z62 L qs]; rw[show ((x.1,x.2):Ky)=x from rfl,h]; rfl)
end
end
end Go.Proofs.YtchklpedlbkgaaaDoor
