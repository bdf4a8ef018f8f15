/- What the proofs of ParseTypes want, part 19. -/
import Derived.Test.YtgndehppmaacaaaGreatDoorK0n18
set_option linter.unusedVariables false
set_option linter.unusedSimpArgs false
set_option linter.unusedSectionVars false
set_option maxRecDepth 100000
set_option maxHeartbeats 16000000
namespace Go.Proofs.YtgndehppmaacaaaGreatDoor
open Go.RowKit Tms
open Shp (Sh)
theorem Zdb {F:List Nat} {a b c:World} {row:Option Nat} (h:UpT F a b) (d:b.grownBy c row):UpT (row.toList++F) a c:=
 ⟨d.os.trans h.os,d.tape.trans h.tape,d.output.trans h.output,Nat.le_trans h.size d.size,fun x h1 h2=>(d.block x (Nat.lt_of_lt_of_le h1 h.size) (fun e=>h2 (by simp[<-e]))).trans (h.block x h1 (fun hx=>h2 (by simp[hx])))⟩
structure FJ (w:World) (k:Int) (AN:Option Addr) (cn:Nat) (ns:List (List UInt8)) (AP:Option Addr) (cp:Nat) (L:List ES) (W:World):Prop where
 up:Below w.heap.size w W
 zz:ZcD W w.heap.size
 xx:Box2 W (w.heap.size+1) 0 0
 hB:w.heap.size+3<=W.heap.size
 c0:W.cell? ⟨w.heap.size+2,0,none⟩=some (.int .i64 k)
 c1:W.cell? ⟨w.heap.size+2,1,none⟩=some (.string ⟨#[]⟩)
 c2:W.cell? ⟨w.heap.size+2,2,none⟩=some (.string ⟨#[]⟩)
 c3:W.cell? ⟨w.heap.size+2,3,none⟩=some (.slice AN ns.length cn)
 c4:W.cell? ⟨w.heap.size+2,4,none⟩=some (.slice AP L.length cp)
 fz: ∀j,W.frozen? ⟨w.heap.size+2,j,none⟩=false
 rN:Row W (w.heap.size+3) 9 1 cN AN cn ns
 rP:Row W (w.heap.size+3) 28 5 cS AP cp L
 ne:rowT AN=none\/rowT AN≠rowT AP
 is: ∀x∈L,x.Is W/\w.heap.size+3<=x.lo
 far: ∀x∈L,∀b,rowT AN=some b\/rowT AP=some b->b < x.lo\/x.hi<=b
 sm: ∀n∈ns,n.length<=1000000
structure Aw (tb:Nat) (AN AP:Option Addr) (L:List ES) (W:World):Prop where
 lt:tb < W.heap.size
 nr: ∀b,rowT AN=some b\/rowT AP=some b->b≠tb
 nx: ∀x∈L,tb < x.lo\/x.hi<=tb
section
variable {w W W1 W2 W' : World} {k : Int} {AN AP : Option Addr} {cn cp tb : Nat} {ns : List (List UInt8)} {L : List ES}
section
variable (h : FJ w k AN cn ns AP cp L W)
include h
theorem FJ.keep {F:List Nat} (a:UpT F W W') (d: ∀b∈F,w.heap.size+3<=b/\(∀c,rowT AN=some c\/rowT AP=some c->c≠b)/\ ∀x∈L,b < x.lo\/x.hi<=b):FJ w k AN cn ns AP cp L W':=by
 have g:=h.hB;have f:=a.same (b:=w.heap.size+2) (by omega) (fun hx=>by have:=(d _ hx).1; omega);exact ⟨ZcL h.up a (fun x hx=>by have:=(d x hx).1; omega) h.up.size,h.zz.upT a (fun hx=>by have:=(d _ hx).1; omega),h.xx.upT a (fun hx=>by have:=(d _ hx).1; omega),Nat.le_trans g a.size,
  (f.1 0).trans h.c0,(f.1 1).trans h.c1,(f.1 2).trans h.c2,(f.1 3).trans h.c3,(f.1 4).trans h.c4,fun j=>(f.2 j).trans (h.fz j),
  h.rN.up a (fun x hx e=>(d x hx).2.1 x (Or.inl e) rfl),h.rP.up a (fun x hx e=>(d x hx).2.1 x (Or.inr e) rfl),h.ne,fun x hx=>⟨New.up (h.is x hx).1 a (fun b hb=>(d b hb).2.2 x hx),(h.is x hx).2⟩,h.far,h.sm⟩
theorem FJ.new (a:Below W.heap.size W W'):FJ w k AN cn ns AP cp L W':=h.keep (F:= []) (ZcF a) (by simp)
theorem FJ.box (a:Aw tb AN AP L W) (c:w.heap.size+3<=tb) (d:UpT [tb] W W'):FJ w k AN cn ns AP cp L W':=
 h.keep d (fun b hb=>by simp at hb; subst hb; exact ⟨c,a.nr,a.nx⟩)
theorem FJ.away (d:W.heap.size<=tb) (c:tb < W'.heap.size):Aw tb AN AP L W':=
 ⟨c,fun b a=>by
  rcases a with a | a
  {have:=h.rN.lt _ a; omega}
  · have:=h.rP.lt _ a; omega,fun x hx=>Or.inr (by have:=(h.is x hx).1.hi_; omega)⟩
end
theorem Aw.on (h:Aw tb AN AP L W) (a:W.heap.size<=W'.heap.size):Aw tb AN AP L W':=⟨Nat.lt_of_lt_of_le h.lt a,h.nr,h.nx⟩
section
variable (h : FJ w k AN cn ns AP cp L W) (hb : Below W.heap.size W W1)
include h hb
theorem FJ.name {x:List UInt8} (l:x.length<=1000000) {g c:Nat} (z:W1.grownBy W2 (rowT AN))
 (p:W2.ownsRow (w.heap.size+3) 9 1 (.slice (some ⟨g,0,none⟩) (ns.length+1) c) (ns.length+1) (ns.flatMap cN++cN x)) (s:rowT AN=some g\/g=W1.heap.size):
 FJ w k (some ⟨g,0,none⟩) c (ns++ [x]) AP cp L (W2.setCell ⟨w.heap.size+2,3,none⟩ (.slice (some ⟨g,0,none⟩) (ns.length+1) c))/\(rowT AN=some g\/W.heap.size<=g):=by
 have v:=h.hB;have C:=hb.size;have d:rowT AN=some g\/W.heap.size<=g:=s.imp id (fun e=>by omega);have A:w.heap.size+3<=g:=by
  rcases d with e | e
  {exact (h.rN.lt _ e).1}
  {omega}
 have q:UpT ((rowT AN).toList) W W2:=by have:=Zdb (ZcF (F:= []) hb) z; simpa using this
 have i:UpT ((w.heap.size+2)::(rowT AN).toList) W (W2.setCell ⟨w.heap.size+2,3,none⟩ (.slice (some ⟨g,0,none⟩) (ns.length+1) c)):=(q.mono (fun x l _=>by simp[l])).set _ (Or.inr (by simp)) _;have r: ∀b,b∈(rowT AN).toList->rowT AN=some b:=fun b hb=>by simpa using hb
 have t: ∀b∈(w.heap.size+2)::(rowT AN).toList,w.heap.size+2<=b:=fun b hb=>by
  rcases List.mem_cons.1 hb with e | e
  {omega}
  {have:=(h.rN.lt _ (r b e)).1; omega}
 have u:=q.same (b:=w.heap.size+2) (by omega) (fun l=>by have:=(h.rN.lt _ (r _ l)).1; omega);have f: ∀j,j≠3->(W2.setCell ⟨w.heap.size+2,3,none⟩ (.slice (some ⟨g,0,none⟩) (ns.length+1) c)).cell? ⟨w.heap.size+2,j,none⟩=W.cell? ⟨w.heap.size+2,j,none⟩:=fun j hj=>(soc9 (Or.inr (Ne.symm hj))).trans (u.1 j);have m: ∀b,rowT AN=some b->rowT AP≠some b:=fun b a e2=>by
  rcases h.ne with e | e
  {rw[e] at a; cases a}
  {exact e (a.trans e2.symm)}
 refine ⟨⟨ZcL h.up i (fun b hb=>by have:=t b hb; omega) h.up.size,h.zz.upT i (fun l=>by have:=t _ l; omega),h.xx.upT i (fun l=>by have:=t _ l; omega),Nat.le_trans v i.size,
  (f 0 (by decide)).trans h.c0,(f 1 (by decide)).trans h.c1,(f 2 (by decide)).trans h.c2, ?_,(f 4 (by decide)).trans h.c4,fun j=>fro9.trans ((u.2 j).trans (h.fz j)), ?_, ?_, ?_,fun y hy=>⟨New.up (h.is y hy).1 i (fun b hb=> ?_),(h.is y hy).2⟩,fun y hy b hb=> ?_,fun n o=> ?_⟩,d⟩
 {rw[List.length_append];exact ZeA ((u.1 3).trans h.c3)}
 {have B:Row W2 (w.heap.size+3) 9 1 cN (some ⟨g,0,none⟩) c (ns++ [x]):=by
   unfold Row;rw[List.length_append,List.flatMap_append];simpa using p
  exact B.set _ (fun e=>by
   have e:g=w.heap.size+2:=by simpa[rowT] using e
   omega) _}
 {refine h.rP.up i (fun b hb e=> ?_);rcases List.mem_cons.1 hb with a | a
  {have:=(h.rP.lt _ e).1; omega}
  {exact m _ (r b a) e}}
 {right;intro e;have e:rowT AP=some g:=e.symm;rcases d with a | a
  {exact m _ a e}
  {have:=(h.rP.lt _ e).2; omega}}
 {rcases List.mem_cons.1 hb with a | a
  {have:=(h.is y hy).2; omega}
  {exact h.far y hy b (Or.inl (r b a))}}
 {rcases hb with hb | hb
  {have e:g=b:=by simpa[rowT] using hb
   subst e;rcases d with a | a
   {exact h.far y hy _ (Or.inl a)}
   {have:=(h.is y hy).1.hi_; omega}}
  {exact h.far y hy b (Or.inr hb)}}
 {rcases List.mem_append.1 o with o | o
  {exact h.sm n o}
  {rw[List.mem_singleton.1 o]; exact l}}
theorem FJ.part {x:ES} (m:x.Is W) (t:w.heap.size+3<=x.lo) (p: ∀b,rowT AN=some b\/rowT AP=some b->b < x.lo\/x.hi<=b) {g c:Nat} (B:W1.grownBy W2 (rowT AP))
 (q:W2.ownsRow (w.heap.size+3) 28 5 (.slice (some ⟨g,0,none⟩) (L.length+1) c) (L.length+1) (L.flatMap cS++cS x)) (s:rowT AP=some g\/g=W1.heap.size):
 FJ w k AN cn ns (some ⟨g,0,none⟩) c (L++ [x]) (W2.setCell ⟨w.heap.size+2,4,none⟩ (.slice (some ⟨g,0,none⟩) (L.length+1) c))/\(rowT AP=some g\/W.heap.size<=g):=by
 have A:=h.hB;have E:=hb.size;have i:rowT AP=some g\/W.heap.size<=g:=s.imp id (fun e=>by omega);have C:w.heap.size+3<=g:=by
  rcases i with e | e
  {exact (h.rP.lt _ e).1}
  {omega}
 have r:UpT ((rowT AP).toList) W W2:=by have:=Zdb (ZcF (F:= []) hb) B; simpa using this
 have d:UpT ((w.heap.size+2)::(rowT AP).toList) W (W2.setCell ⟨w.heap.size+2,4,none⟩ (.slice (some ⟨g,0,none⟩) (L.length+1) c)):=(r.mono (fun x m _=>by simp[m])).set _ (Or.inr (by simp)) _;have n: ∀b,b∈(rowT AP).toList->rowT AP=some b:=fun b hb=>by simpa using hb
 have u: ∀b∈(w.heap.size+2)::(rowT AP).toList,w.heap.size+2<=b:=fun b hb=>by
  rcases List.mem_cons.1 hb with e | e
  {omega}
  {have:=(h.rP.lt _ (n b e)).1; omega}
 have v:=r.same (b:=w.heap.size+2) (by omega) (fun m=>by have:=(h.rP.lt _ (n _ m)).1; omega);have l: ∀j,j≠4->(W2.setCell ⟨w.heap.size+2,4,none⟩ (.slice (some ⟨g,0,none⟩) (L.length+1) c)).cell? ⟨w.heap.size+2,j,none⟩=W.cell? ⟨w.heap.size+2,j,none⟩:=fun j hj=>(soc9 (Or.inr (Ne.symm hj))).trans (v.1 j);have o: ∀b,rowT AP=some b->rowT AN≠some b:=fun b a e2=>by
  rcases h.ne with e | e
  {rw[e] at e2; cases e2}
  {exact e (e2.trans a.symm)}
 refine ⟨⟨ZcL h.up d (fun b hb=>by have:=u b hb; omega) h.up.size,h.zz.upT d (fun m=>by have:=u _ m; omega),h.xx.upT d (fun m=>by have:=u _ m; omega),Nat.le_trans A d.size,
  (l 0 (by decide)).trans h.c0,(l 1 (by decide)).trans h.c1,(l 2 (by decide)).trans h.c2,(l 3 (by decide)).trans h.c3, ?_,fun j=>fro9.trans ((v.2 j).trans (h.fz j)), ?_, ?_, ?_,fun y f=> ?_,fun y f b hb=> ?_,h.sm⟩,i⟩
 {rw[List.length_append];exact ZeA ((v.1 4).trans h.c4)}
 {refine h.rN.up d (fun b hb e=> ?_);rcases List.mem_cons.1 hb with a | a
  {have:=(h.rN.lt _ e).1; omega}
  {exact o _ (n b a) e}}
 {have D:Row W2 (w.heap.size+3) 28 5 cS (some ⟨g,0,none⟩) c (L++ [x]):=by
   unfold Row;rw[List.length_append,List.flatMap_append];simpa using q
  exact D.set _ (fun e=>by
   have e:g=w.heap.size+2:=by simpa[rowT] using e
   omega) _}
 {right;intro (e:rowT AN=some g);rcases i with a | a
  {exact o _ a e}
  {have:=(h.rN.lt _ e).2; omega}}
 {rcases List.mem_append.1 f with f | f
  {refine ⟨New.up (h.is y f).1 d (fun b hb=> ?_),(h.is y f).2⟩;rcases List.mem_cons.1 hb with a | a
   {have:=(h.is y f).2; omega}
   {exact h.far y f b (Or.inr (n b a))}}
  {rw[List.mem_singleton.1 f];refine ⟨New.up m d (fun b hb=> ?_),t⟩;rcases List.mem_cons.1 hb with a | a
   {omega}
   {exact p b (Or.inr (n b a))}}}
 {have key: ∀z:ES,(∀b,rowT AN=some b\/rowT AP=some b->b < z.lo\/z.hi<=b)->z.hi<=W.heap.size->b < z.lo\/z.hi<=b:=fun z hz hh=>by
   rcases hb with hb | hb
   {exact hz b (Or.inl hb)}
   {have e:g=b:=by simpa[rowT] using hb
    subst e;rcases i with a | a
    {exact hz _ (Or.inr a)}
    {omega}}
  rcases List.mem_append.1 f with f | f
  {exact key y (h.far y f) (h.is y f).1.hi_}
  {rw[List.mem_singleton.1 f]; exact key x p m.hi_}}
end
theorem FJ.start (w:World) (k:Int):FJ w k none 0 [] none 0 [] ((aW w).alloc (.cells #[.int .i64 k,.string ⟨#[]⟩,.string ⟨#[]⟩,.slice none 0 0,.slice none 0 0] 28)):=by
 have a:=Z01 (aW w) (.cells #[.int .i64 k,.string ⟨#[]⟩,.string ⟨#[]⟩,.slice none 0 0,.slice none 0 0] 28);have h: (aW w).heap.size=w.heap.size+2:=by simp[aW]
 obtain ⟨b,c,d,e,f,g,i⟩:=ZcK (aW w) (.int .i64 k) (.string ⟨#[]⟩) (.string ⟨#[]⟩) (.slice none 0 0) (.slice none 0 0) 28;rw[h] at b c d e f g i;exact ⟨Z03 (ZcH w) a,(Zd3 w).next a,(Zdg w).next a,by omega,b,c,d,e,f,g,Row.start _ _ _ _ _,Row.start _ _ _ _ _,Or.inl rfl,by simp,by simp,by simp⟩
theorem FJ.fin (h:FJ w k AN cn ns AP cp L W) (a:ns.length<=1000000) (b:L.length<=1000000): (⟨⟨k,[],[],ns,L.map ES.t⟩,⟨AN,cn,AP,cp⟩,w.heap.size+3,W.heap.size⟩:ES).Is W:=
 Zfq h.rN h.rP h.is h.sm (by simp) (by simp) a b
end
end Go.Proofs.YtgndehppmaacaaaGreatDoor
namespace Go.Proofs.YtgndehppmaacaaaGreatDoor
section
open Go.RowKit Prs
open Shp (Sh)
section
variable {w W W' : World} {k : Int} {AN AP : Option Addr} {cn cp tb ob fb : Nat} {ns : List (List UInt8)} {L : List ES}
section
variable (h : FJ w k AN cn ns AP cp L W)
include h
theorem FJ.obs (b:ob=w.heap.size+2) (a:fb=w.heap.size+1): (ob < W.heap.size/\W.cell? ⟨ob,0,none⟩=some (.int .i64 k)/\W.cell? ⟨ob,1,none⟩=some (.string ⟨#[]⟩)/\W.cell? ⟨ob,2,none⟩=some (.string ⟨#[]⟩)/\
 W.cell? ⟨ob,3,none⟩=some (.slice AN ns.length cn)/\W.cell? ⟨ob,4,none⟩=some (.slice AP L.length cp)/\W.frozen? ⟨ob,3,none⟩=false/\W.frozen? ⟨ob,4,none⟩=false)/\Box2 W fb 0 0:=by
 subst b a;have:=h.hB;exact ⟨⟨by omega,h.c0,h.c1,h.c2,h.c3,h.c4,h.fz 3,h.fz 4⟩,h.xx⟩
theorem Zdx (d:fb=w.heap.size+1) (c:UpT [w.heap.size,fb] W W') {f:Flt} (a:f.1≠0) (j:Int):
 DTy w (.error f) (.returned (.tuple #[.agg #[.int .i64 k,.string ⟨#[]⟩,.string ⟨#[]⟩,.slice AN ns.length cn,.slice AP L.length cp],.int .i64 j,.agg #[.int .i64 f.1,.int .i64 f.2]])) W':=by
 have:=Zdo (W:=w) (W':=W') (f:=f) ⟨⟨k,[],[],ns,L.map ES.t⟩,⟨AN,cn,AP,cp⟩,0,0⟩ j a (ZcL h.up c (fun b hb=>by rcases (by simpa using hb:b=w.heap.size\/b=fb) with e | e <;> omega) h.up.size);simpa[valS,Y8] using this
theorem Zgr (f:fb=w.heap.size+1) (a:UpT [w.heap.size,fb] W W') (c:ns.length<=1000000) (d:L.length<=1000000) (j:Nat):
 DTy w (.ok (⟨k,[],[],ns,L.map ES.t⟩,j)) (.returned (.tuple #[.agg #[.int .i64 k,.string ⟨#[]⟩,.string ⟨#[]⟩,.slice AN ns.length cn,.slice AP L.length cp],.int .i64 (j:Int),.agg #[.int .i64 0,.int .i64 0]])) W':=by
 refine ⟨ZcL h.up a (fun b hb=>by rcases (by simpa using hb:b=w.heap.size\/b=fb) with e | e <;> omega) h.up.size,_, ?_,rfl,New.up (h.fin c d) a (fun b hb=> ?_), ?_⟩
 {simp[valS,Y8]}
 {show b < w.heap.size+3\/_;rcases (by simpa using hb:b=w.heap.size\/b=fb) with e | e <;> omega}
 {show w.heap.size<=w.heap.size+3;omega}
end
theorem Aw.next {a c:Option Addr} {L':List ES} (h:Aw tb AN AP L W) (f: ∀b,rowT a=some b->rowT AN=some b\/W.heap.size<=b) (g: ∀b,rowT c=some b->rowT AP=some b\/W.heap.size<=b) (j: ∀x∈L',x∈L\/tb < x.lo) (l:W.heap.size<=W'.heap.size):Aw tb a c L' W':=by
 have i:=h.lt;refine ⟨Nat.lt_of_lt_of_le i l,fun b d=> ?_,fun x hx'=> ?_⟩
 {rcases d with d | d
  {rcases f b d with e | e
   {exact h.nr b (Or.inl e)}
   {omega}}
  {rcases g b d with e | e
   {exact h.nr b (Or.inr e)}
   {omega}}}
 {rcases j x hx' with e | e
  {exact h.nx x e}
  {exact Or.inl e}}
section
variable (h : FJ w k AN cn ns AP cp L W) {W1 W2 : World} (hb : Below W.heap.size W W1)
include h W1 W2 hb
theorem FJ.up_name (b:W1.grownBy W2 (rowT AN)) (v:Value):UpT ((w.heap.size+2)::(rowT AN).toList) W (W2.setCell ⟨w.heap.size+2,3,none⟩ v):=by
 have a:UpT ((rowT AN).toList) W W2:=by have:=Zdb (ZcF (F:= []) hb) b; simpa using this
 exact (a.mono (fun x hx _=>by simp[hx])).set _ (Or.inr (by simp)) _
theorem FJ.up_part (b:W1.grownBy W2 (rowT AP)) (v:Value):UpT ((w.heap.size+2)::(rowT AP).toList) W (W2.setCell ⟨w.heap.size+2,4,none⟩ v):=by
 have a:UpT ((rowT AP).toList) W W2:=by have:=Zdb (ZcF (F:= []) hb) b; simpa using this
 exact (a.mono (fun x hx _=>by simp[hx])).set _ (Or.inr (by simp)) _
end
end
theorem ZoP {l:List Tk} {i:Nat} {ns:List (List UInt8)} {x:List UInt8×Nat} (h:Prs.fresh l i ns= .ok x):i < l.length/\x=((Prs.look l i).t.text,i+1):=by
 unfold Prs.fresh at h;split at h
 {next hk=>
  split at h
  {cases h}
  {refine ⟨?_,(Except.ok.inj h).symm⟩;rcases Nat.lt_or_ge i l.length with a | a
   {exact a}
   {rw[ZfJ (by omega)] at hk; cases hk}}}
 {cases h}
theorem ZgU (m:Nat) (l:List Tk) (i:Nat) (k:Int) (b e:List UInt8) (ns:List (List UInt8)) (ps:List Sh):Prs.fields (m+1) l i k b e ns ps=Prs.andThen (Prs.fresh l i ns) fun x=>Prs.andThen (Prs.need l x.2 [58]) fun j=>Prs.andThen (Prs.shp m l j) fun s=>
 if sign l s.2 e then .ok (⟨k,[],[],ns++ [x.1],ps++ [s.1]⟩,s.2+1) else Prs.andThen (Prs.need l s.2 b) fun j=>Prs.fields m l j k b e (ns++ [x.1]) (ps++ [s.1]):=by
 conv=>lhs; unfold Prs.fields
theorem need_ok {l:List Tk} {i j:Nat} {s:List UInt8} (h:Prs.need l i s= .ok j):i < l.length/\j=i+1:=by
 unfold need at h;split at h
 {next hs=>exact ⟨(sign_kinds hs).2.2,(Except.ok.inj h).symm⟩}
 {cases h}
theorem Zin (A:Option Addr) (c:Nat) (l:List Tk) (n:Nat) (hl:l.length<=100000) (x7: ∀b∈l,b.t.text.length<=1000000) (q9: ∀m j y,j<=l.length->Prs.shp m l j= .ok y->j<=y.2/\y.2<=l.length) (hS: ∀m,m < n->ShOk A c l m):FlOk A c l n:=by
 intro i0 k b e w C1 hn h;obtain ⟨h7,l0⟩: ∃h7,h7=fieldsO n l i0 k b e:=⟨_,rfl⟩;rw[<-l0];have v2:=Y1 l0;have g9:=Y1 h;have t3:=FJ.start w k;unfold aW at t3;have A0:=Y1 t3;obtain ⟨fb,w7⟩: ∃fb,fb=w.heap.size+1:=⟨_,rfl⟩;obtain ⟨ob,x6⟩: ∃ob,ob=w.heap.size+2:=⟨_,rfl⟩;have z:=Y1 w7;have B:=Y1 x6;have hne:w.heap.size≠fb:=by omega
 have hno:w.heap.size≠ob:=by omega
 have h0:fb≠ob:=by omega
 have A6:=Y1 x7;have u9:=Y1 q9;obtain ⟨i1,d2,d9,e2,e3⟩:=ZcW Zf9;obtain ⟨i2,q5,x8,y5,l6⟩:=ZcW Zhe;have z8:=Y1 (And.intro d2 (And.intro d9 (And.intro e2 e3)));have z9:=Y1 (And.intro q5 (And.intro x8 (And.intro y5 l6)));clear h l0 d2 d9 e2 e3 q5 x8 y5 l6 w7 x6 t3 x7 q9;go_enter Tryz.func57,Tryz.ntmps57
 go_wp2_with fail
 rw[show w.heap.size+1+1=ob from by have:=B.out; omega,show w.heap.size+1=fb from z.out.symm]
 go_loopw [1,14] (fun ai ni wr=> ∃(i nn m:Nat) (AN:Option Addr) (cn:Nat) (ns:List (List UInt8)) (AP:Option Addr) (cp:Nat) (L:List ES),ai= .int .i64 i/\ni= .int .i64 nn/\i<=l.length/\Hid (FJ w k AN cn ns AP cp L wr)/\Hid (2 * (l.length - i)+1<=m/\m<=n)/\Hid (nn<=i/\ns.length=L.length/\ns.length<=nn/\(nn=0->ns= []/\L= []))/\Hid (h7=if nn=0/\sign l i e=true then .ok (⟨k,[],[],[],[]⟩,i+1) else Prs.fields m l i k b e ns (L.map ES.t))) (fun ai _ _=>l.length+1 - (intOf ai).toNat)
 case atStart=>
  refine ⟨i0,0,n,none,0,[],none,0,[],rfl,rfl,C1,A0,Y1 ⟨hn,Nat.le_refl _⟩,Y1 ⟨Nat.zero_le _,rfl,Nat.le_refl _,fun _=>⟨rfl,rfl⟩⟩,Y1 ?_⟩;rw[v2.out]; unfold fieldsO;simp
 case round=>
  obtain ⟨i,nn,m,AN,cn,ns,AP,cp,L,rfl,rfl,hi,HJ,HM,c8,V⟩:=hrel;have n0:=Y1 (ZcM A c l i e (by omega) (by omega) wr (g9.out.on HJ.out.up));by_cases hA:nn=0/\sign l i e=true
  {obtain ⟨rfl,a8⟩:=hA;obtain ⟨rfl,rfl⟩:=c8.out.2.2.2 rfl;rw[a8] at n0;have f9:Hid (h7= .ok (⟨k,[],[],[],[]⟩,i+1)):=Y1 (by rw[V.out,if_pos ⟨rfl,a8⟩]);clear V a8
   go_wp2_with fail
   refine n0.out.mono ?_;rintro e V1 ⟨rfl,o⟩;have Y:=Y1 (HJ.out.new o);clear o;obtain ⟨⟨H,c0,c1,c2,c3,c4,cf3,q⟩,p⟩:=Y.out.obs B.out z.out;obtain ⟨p0,x0,x1,v0,P⟩:=p;obtain ⟨q0,⟨z0,z1,z2,z3,z4⟩,y0,y1,y2,y3,Q⟩:=Y.out.zz;go_wp2;refine bodyPost_ret (v:= .tuple #[.agg #[.int .i64 k,.string ⟨#[]⟩,.string ⟨#[]⟩,.slice AN ([]:List (List UInt8)).length cn,.slice AP ([]:List ES).length cp],.int .i64 ((i:Int)+1),.agg #[.int .i64 0,.int .i64 0]]) (by simp[results,Tryz.results57,go_sem,q0,z0,z1,z2,z3,z4,p0,x0,x1,hne,hno,h0]) rfl ?_;rw[f9.out];refine Zgr Y.out z.out ?_ (by simp) (by simp) (i+1)
   repeat' (with_reducible first | refine UpT.drew ?_ | refine UpT.alloc ?_ _ | refine UpT.set ?_ _ (Or.inr ?_) _ | exact UpT.refl _ _)
   all_goals simp}
  {have f9:Hid (h7=Prs.fields m l i k b e ns (L.map ES.t)):=Y1 (by rw[V.out,if_neg hA]);have C0:sign l i e=false\/(sign l i e=true/\(0:Int) < (nn:Int)):=by
    cases a8:sign l i e with
    | false=>exact Or.inl rfl
    | true=>exact Or.inr ⟨rfl,by have:nn≠0:=fun e=>hA ⟨e,a8⟩; omega⟩
   obtain ⟨m,rfl⟩: ∃m',m=m'+1:=⟨m - 1,by have:=HM.out.1; omega⟩;clear V hA;have V:=f9;clear f9
   go_wp2_with fail
   refine n0.out.mono ?_;rintro e V1 ⟨rfl,o⟩;have Y:=Y1 (HJ.out.new o);have u6:=Y1 (Zk6 A AN c cn l i ns (by omega) (by omega) (by have:=c8.out; omega) V1 (g9.out.on Y.out.up) (Row.strs Y.out.rN (Nat.le_refl _) (fun b _ _=>⟨fun _=>rfl,fun _=>rfl⟩)));clear o HJ n0;obtain ⟨⟨H,c0,c1,c2,c3,c4,cf3,q⟩,p⟩:=Y.out.obs B.out z.out;obtain ⟨p0,x0,x1,v0,P⟩:=p;obtain ⟨q0,⟨z0,z1,z2,z3,z4⟩,y0,y1,y2,y3,Q⟩:=Y.out.zz;rcases C0 with a8 | ⟨a8,E6⟩
   all_goals rw[a8]
   all_goals clear a8
   all_goals go_wp2_with fail
   all_goals (
    refine u6.out.mono ?_;rintro e d ⟨v,rfl,⟨s,j,f,rfl,a7⟩,o⟩;have g6:=Y.out.new o;have G:=Z01 d (.cells #[.int .i64 f.1,.int .i64 f.2] 31);have j9:=g6.new G;have l5:=ZcG d f.1 f.2;have s9:=g6.away (tb:=d.heap.size) (Nat.le_refl _) (show d.heap.size < (d.alloc (.cells #[.int .i64 f.1,.int .i64 f.2] 31)).heap.size by simp);have S:Hid (w.heap.size+3<=d.heap.size):=Y1 g6.hB;have n1:w.heap.size≠d.heap.size:=by have:=S.out; omega
    have n2:fb≠d.heap.size:=by have:=S.out; have:=z.out; omega
    have n3:ob≠d.heap.size:=by have:=S.out; have:=B.out; omega
    obtain ⟨V3,n8⟩: ∃W,d.alloc (.cells #[.int .i64 f.1,.int .i64 f.2] 31)=W:=⟨_,rfl⟩;rw[n8] at j9 l5 s9;have i4:=Y1 j9;have g0:=Y1 l5;have r2:=Y1 s9;clear o g6 G j9 l5 s9 u6 Y;clear H c0 c1 c2 c3 c4 cf3 q p0 x0 x1 v0 P q0 z0 z1 z2 z3 z4 y0 y1 y2 y3 Q;obtain ⟨⟨H,c0,c1,c2,c3,c4,cf3,q⟩,p⟩:=i4.out.obs B.out z.out;obtain ⟨p0,x0,x1,v0,P⟩:=p;obtain ⟨q0,⟨z0,z1,z2,z3,z4⟩,y0,y1,y2,y3,Q⟩:=i4.out.zz;obtain ⟨tl,I,J,C,D⟩:=g0.out;cases e9:Prs.fresh l i ns with
    | error g=>
     rw[e9] at a7;obtain ⟨rfl,d1⟩:=a7;have a3:=Y1 d1;have e0: (f.1==0)=false:=by simpa using d1
     have e1: (f.1 !=0)=true:=by simpa using d1
     have HR:Hid (Prs.fields (m+1) l i k b e ns (L.map ES.t)= .error f):=Y1 (by rw[ZgU,e9]; rfl);clear d1 e9
     go_wp2_with fail
     go_region
     all_goals go_wp2
     all_goals refine bodyPost_ret (v:= .tuple #[.agg #[.int .i64 k,.string ⟨#[]⟩,.string ⟨#[]⟩,.slice AN ns.length cn,.slice AP L.length cp],.int .i64 j,.agg #[.int .i64 f.1,.int .i64 f.2]]) (by simp[results,Tryz.results57,go_sem,q0,z0,z1,z2,z3,z4,p0,x0,x1,hne,hno,h0]) rfl ?_
     all_goals
      rw[V.out,HR.out];refine Zdx i4.out z.out ?_ a3.out _
      repeat' (with_reducible first | refine UpT.drew ?_ | refine UpT.alloc ?_ _ | refine UpT.set ?_ _ (Or.inr ?_) _ | exact UpT.refl _ _)
      all_goals simp
    | ok x=>
     rw[e9] at a7;obtain ⟨rfl,rfl,rfl⟩:=a7;obtain ⟨w8,o6⟩:=ZoP e9;have v5:=Y1 (And.intro w8 o6);have A8:Hid (x.1.length<=1000000):=Y1 (by rw[o6]; exact ZeW A6.out i);have m6:Hid (Prs.fields (m+1) l i k b e ns (L.map ES.t)=Prs.andThen (Prs.need l x.2 [58]) fun j=>Prs.andThen (Prs.shp m l j) fun s=>if sign l s.2 e then .ok (⟨k,[],[],ns++ [x.1],L.map ES.t++ [s.1]⟩,s.2+1) else Prs.andThen (Prs.need l s.2 b) fun j=>Prs.fields m l j k b e (ns++ [x.1]) (L.map ES.t++ [s.1])):=Y1 (by rw[ZgU,e9]; rfl);have C3:x.2<=1000001:=by rw[o6]; show i+1<=_; omega
     simp only at I J g0 n8;clear tl I J C D;obtain ⟨tl,I,J,C,D⟩:=g0.out;have a:UpT [d.heap.size] V3 ((V3.setCell ⟨d.heap.size,0,none⟩ (.int .i64 0)).setCell ⟨d.heap.size,1,none⟩ (.int .i64 0)):=((UpT.refl _ _).set _ (Or.inr (by simp)) _).set _ (Or.inr (by simp)) _;have u:Box2 ((V3.setCell ⟨d.heap.size,0,none⟩ (.int .i64 0)).setCell ⟨d.heap.size,1,none⟩ (.int .i64 0)) d.heap.size 0 0:=⟨by simpa[World.setCell] using tl,by simp[go_sem,I,J],by simp[go_sem,I,J],by simp[go_sem,C],by simp[go_sem,D]⟩;have t:=i4.out.box r2.out S.out a;have r:=r2.out.on a.size;obtain ⟨VS,s2⟩: ∃W,(V3.setCell ⟨d.heap.size,0,none⟩ (.int .i64 0)).setCell ⟨d.heap.size,1,none⟩ (.int .i64 0)=W:=⟨_,rfl⟩;rw[s2] at a u t r;have A4:=Y1 a;have d0:=Y1 u;have i5:=Y1 t;have m0:=Y1 r;clear a u t r;have HN:=Y1 (ZdK A c l x.2 [58] (by omega) (by omega) VS (g9.out.on i5.out.up));clear e9 w8 o6 C3 A4 i4 g0 r2;clear H c0 c1 c2 c3 c4 cf3 q p0 x0 x1 v0 P q0 z0 z1 z2 z3 z4 y0 y1 y2 y3 Q;obtain ⟨sl,s0,s1,f4,f5⟩:=d0.out
     go_wp2_with fail
     cases d6:Prs.need l x.2 [58] with
     | error f=>
      rw[d6] at HN;have a3:=Y1 (ZeX d6);have e1: (f.1 !=0)=true:=by simpa using a3.out
      have HR:Hid (Prs.fields (m+1) l i k b e ns (L.map ES.t)= .error f):=Y1 (by rw[m6.out,d6]; rfl);clear d6 m6;refine HN.out.mono ?_;rintro e V4 ⟨rfl,o⟩;simp only[needV];have e4:=Y1 (i5.out.new o);have j0:=Y1 (d0.out.next o);have i3:=Y1 (m0.out.on o.size);clear o s2 i5 d0 m0;clear tl I J C D;clear sl s0 s1 f4 f5 n8;obtain ⟨⟨H,c0,c1,c2,c3,c4,cf3,q⟩,p⟩:=e4.out.obs B.out z.out;obtain ⟨p0,x0,x1,v0,P⟩:=p;obtain ⟨q0,⟨z0,z1,z2,z3,z4⟩,y0,y1,y2,y3,Q⟩:=e4.out.zz;obtain ⟨tl,I,J,C,D⟩:=j0.out;have a:UpT [d.heap.size] V4 ((V4.setCell ⟨d.heap.size,0,none⟩ (.int .i64 f.1)).setCell ⟨d.heap.size,1,none⟩ (.int .i64 f.2)):=((UpT.refl _ _).set _ (Or.inr (by simp)) _).set _ (Or.inr (by simp)) _;have u:Box2 ((V4.setCell ⟨d.heap.size,0,none⟩ (.int .i64 f.1)).setCell ⟨d.heap.size,1,none⟩ (.int .i64 f.2)) d.heap.size f.1 f.2:=⟨by simpa[World.setCell] using tl,by simp[go_sem,I,J],by simp[go_sem,I,J],by simp[go_sem,C],by simp[go_sem,D]⟩;have t:=e4.out.box i3.out S.out a;have r:=i3.out.on a.size;obtain ⟨V5,n9⟩: ∃W,(V4.setCell ⟨d.heap.size,0,none⟩ (.int .i64 f.1)).setCell ⟨d.heap.size,1,none⟩ (.int .i64 f.2)=W:=⟨_,rfl⟩;rw[n9] at a u t r;have v4:=Y1 a;have a0:=Y1 u;have a4:=Y1 t;have r3:=Y1 r;clear a u t r;clear H c0 c1 c2 c3 c4 cf3 q p0 x0 x1 v0 P q0 z0 z1 z2 z3 z4 y0 y1 y2 y3 Q;obtain ⟨⟨H,c0,c1,c2,c3,c4,cf3,q⟩,p⟩:=a4.out.obs B.out z.out;obtain ⟨p0,x0,x1,v0,P⟩:=p;obtain ⟨q0,⟨z0,z1,z2,z3,z4⟩,y0,y1,y2,y3,Q⟩:=a4.out.zz;obtain ⟨tl,I,J,C,D⟩:=a0.out
      go_wp2_with fail
      go_region
      all_goals go_wp2
      all_goals refine bodyPost_ret (v:= .tuple #[.agg #[.int .i64 k,.string ⟨#[]⟩,.string ⟨#[]⟩,.slice AN ns.length cn,.slice AP L.length cp],.int .i64 (x.2:Int),.agg #[.int .i64 f.1,.int .i64 f.2]]) (by simp[results,Tryz.results57,go_sem,q0,z0,z1,z2,z3,z4,p0,x0,x1,hne,hno,h0]) rfl ?_
      all_goals
       rw[V.out,HR.out];refine Zdx a4.out z.out ?_ a3.out _
       repeat' (with_reducible first | refine UpT.drew ?_ | refine UpT.alloc ?_ _ | refine UpT.set ?_ _ (Or.inr ?_) _ | exact UpT.refl _ _)
       all_goals simp
     | ok j2=>
      rw[d6] at HN;obtain ⟨x2,x3⟩:=need_ok d6;have f8:=Y1 (And.intro x2 x3);have m7:Hid (Prs.fields (m+1) l i k b e ns (L.map ES.t)=Prs.andThen (Prs.shp m l j2) fun s=>if sign l s.2 e then .ok (⟨k,[],[],ns++ [x.1],L.map ES.t++ [s.1]⟩,s.2+1) else Prs.andThen (Prs.need l s.2 b) fun j=>Prs.fields m l j k b e (ns++ [x.1]) (L.map ES.t++ [s.1])):=Y1 (by rw[m6.out,d6]; rfl);clear d6 m6 x2 x3;refine HN.out.mono ?_;rintro e V4 ⟨rfl,o⟩;simp only[needV];have e4:=Y1 (i5.out.new o);have j0:=Y1 (d0.out.next o);have i3:=Y1 (m0.out.on o.size);clear o s2 i5 d0 m0;clear tl I J C D;clear sl s0 s1 f4 f5 n8;obtain ⟨⟨H,c0,c1,c2,c3,c4,cf3,q⟩,p⟩:=e4.out.obs B.out z.out;obtain ⟨p0,x0,x1,v0,P⟩:=p;obtain ⟨q0,⟨z0,z1,z2,z3,z4⟩,y0,y1,y2,y3,Q⟩:=e4.out.zz;obtain ⟨tl,I,J,C,D⟩:=j0.out;have a:UpT [d.heap.size] V4 ((V4.setCell ⟨d.heap.size,0,none⟩ (.int .i64 0)).setCell ⟨d.heap.size,1,none⟩ (.int .i64 0)):=((UpT.refl _ _).set _ (Or.inr (by simp)) _).set _ (Or.inr (by simp)) _;have u:Box2 ((V4.setCell ⟨d.heap.size,0,none⟩ (.int .i64 0)).setCell ⟨d.heap.size,1,none⟩ (.int .i64 0)) d.heap.size 0 0:=⟨by simpa[World.setCell] using tl,by simp[go_sem,I,J],by simp[go_sem,I,J],by simp[go_sem,C],by simp[go_sem,D]⟩;have t:=e4.out.box i3.out S.out a;have r:=i3.out.on a.size;obtain ⟨V5,n9⟩: ∃W,(V4.setCell ⟨d.heap.size,0,none⟩ (.int .i64 0)).setCell ⟨d.heap.size,1,none⟩ (.int .i64 0)=W:=⟨_,rfl⟩;rw[n9] at a u t r;have v4:=Y1 a;have a0:=Y1 u;have a4:=Y1 t;have r3:=Y1 r;clear a u t r;clear v4;clear H c0 c1 c2 c3 c4 cf3 q p0 x0 x1 v0 P q0 z0 z1 z2 z3 z4 y0 y1 y2 y3 Q;obtain ⟨sl,s0,s1,f4,f5⟩:=a0.out;have r8:=Y1 (hS m (by have:=HM.out.2; omega) j2 V5 (by have:=f8.out; omega) (by obtain ⟨h1,h2⟩:=f8.out; obtain ⟨h3,h4⟩:=v5.out; rw[h4] at h1 h2; have:=HM.out.1; simp only at h1 h2; omega) (g9.out.on a4.out.up))
      go_wp2_with fail
      refine r8.out.mono ?_;rintro e Z ⟨o,hd⟩;have n4:Hid (d.heap.size < V5.heap.size):=Y1 a0.out.1;have r7:Hid (∀b,rowT AN=some b\/rowT AP=some b->b < V5.heap.size):=Y1 (fun b o=>by
       rcases o with o | o
       {exact (a4.out.rN.lt _ o).2}
       · exact (a4.out.rP.lt _ o).2)
      have O:=Y1 (a4.out.new o);have a1:=Y1 (a0.out.next o);have l8:=Y1 (r3.out.on o.size);clear o n9 a4 a0 r3;clear tl I J C D;clear sl s0 s1 f4 f5;obtain ⟨⟨H,c0,c1,c2,c3,c4,cf3,q⟩,p⟩:=O.out.obs B.out z.out;obtain ⟨p0,x0,x1,v0,P⟩:=p;obtain ⟨q0,⟨z0,z1,z2,z3,z4⟩,y0,y1,y2,y3,Q⟩:=O.out.zz;cases f1:Prs.shp m l j2 with
      | error f=>
       rw[f1] at hd;obtain ⟨y,j,rfl,d1⟩:=hd;have a3:=Y1 d1;have e1: (f.1 !=0)=true:=by simpa using d1
       have HR:Hid (Prs.fields (m+1) l i k b e ns (L.map ES.t)= .error f):=Y1 (by rw[m7.out,f1]; rfl);clear d1 f1 m7 r8;simp only[valS];have G:=Z01 Z (.cells (Y8 y.t y.q) 28);have f0:=O.out.new G;have X:=a1.out.next G;have e8:=l8.out.on G.size;obtain ⟨V7,o0⟩: ∃W,Z.alloc (.cells (Y8 y.t y.q) 28)=W:=⟨_,rfl⟩;rw[o0] at G f0 X e8;have b8:=Y1 f0;have g3:=Y1 X;have g7:=Y1 e8;have m1:w.heap.size≠Z.heap.size:=by have:=O.out.hB; omega
       have m2:fb≠Z.heap.size:=by have:=O.out.hB; have:=z.out; omega
       have m3:ob≠Z.heap.size:=by have:=O.out.hB; have:=B.out; omega
       have m4:d.heap.size≠Z.heap.size:=by have:=a1.out.1; omega
       clear G f0 X e8 O a1 l8;clear H c0 c1 c2 c3 c4 cf3 q p0 x0 x1 v0 P q0 z0 z1 z2 z3 z4 y0 y1 y2 y3 Q;obtain ⟨⟨H,c0,c1,c2,c3,c4,cf3,q⟩,p⟩:=b8.out.obs B.out z.out;obtain ⟨p0,x0,x1,v0,P⟩:=p;obtain ⟨q0,⟨z0,z1,z2,z3,z4⟩,y0,y1,y2,y3,Q⟩:=b8.out.zz;obtain ⟨tl,I,J,C,D⟩:=g3.out;have a:UpT [d.heap.size] V7 ((V7.setCell ⟨d.heap.size,0,none⟩ (.int .i64 f.1)).setCell ⟨d.heap.size,1,none⟩ (.int .i64 f.2)):=((UpT.refl _ _).set _ (Or.inr (by simp)) _).set _ (Or.inr (by simp)) _;have u:Box2 ((V7.setCell ⟨d.heap.size,0,none⟩ (.int .i64 f.1)).setCell ⟨d.heap.size,1,none⟩ (.int .i64 f.2)) d.heap.size f.1 f.2:=⟨by simpa[World.setCell] using tl,by simp[go_sem,I,J],by simp[go_sem,I,J],by simp[go_sem,C],by simp[go_sem,D]⟩;have t:=b8.out.box g7.out S.out a;have r:=g7.out.on a.size;obtain ⟨V8,o1⟩: ∃W,(V7.setCell ⟨d.heap.size,0,none⟩ (.int .i64 f.1)).setCell ⟨d.heap.size,1,none⟩ (.int .i64 f.2)=W:=⟨_,rfl⟩;rw[o1] at a u t r;have j1:=Y1 a;have c9:=Y1 u;have T:=Y1 t;have l9:=Y1 r;clear a u t r;clear H c0 c1 c2 c3 c4 cf3 q p0 x0 x1 v0 P q0 z0 z1 z2 z3 z4 y0 y1 y2 y3 Q;obtain ⟨⟨H,c0,c1,c2,c3,c4,cf3,q⟩,p⟩:=T.out.obs B.out z.out;obtain ⟨p0,x0,x1,v0,P⟩:=p;obtain ⟨q0,⟨z0,z1,z2,z3,z4⟩,y0,y1,y2,y3,Q⟩:=T.out.zz;obtain ⟨tl,I,J,C,D⟩:=c9.out
       go_wp2_with fail
       go_region
       all_goals go_wp2
       all_goals refine bodyPost_ret (v:= .tuple #[.agg #[.int .i64 k,.string ⟨#[]⟩,.string ⟨#[]⟩,.slice AN ns.length cn,.slice AP L.length cp],.int .i64 j,.agg #[.int .i64 f.1,.int .i64 f.2]]) (by simp[results,Tryz.results57,go_sem,q0,z0,z1,z2,z3,z4,p0,x0,x1,hne,hno,h0]) rfl ?_
       all_goals
        rw[V.out,HR.out];refine Zdx T.out z.out ?_ a3.out _
        repeat' (with_reducible first | refine UpT.drew ?_ | refine UpT.alloc ?_ _ | refine UpT.set ?_ _ (Or.inr ?_) _ | exact UpT.refl _ _)
        all_goals simp
      | ok y=>
       rw[f1] at hd;obtain ⟨E,rfl,ht,w9,t5⟩:=hd;have r6:Hid (Prs.fields (m+1) l i k b e ns (L.map ES.t)=if sign l y.2 e then .ok (⟨k,[],[],ns++ [x.1],(L++ [E]).map ES.t⟩,y.2+1) else Prs.andThen (Prs.need l y.2 b) fun j=>Prs.fields m l j k b e (ns++ [x.1]) ((L++ [E]).map ES.t)):=Y1 (by rw[m7.out,f1,List.map_append,List.map_singleton,ht]; rfl);have v6:Hid (j2<=y.2/\y.2<=l.length):=Y1 (u9.out _ _ _ (by have:=f8.out; omega) f1);have g8:Hid (V5.heap.size<=E.lo):=Y1 t5;have r5:=Y1 w9;clear f1 m7 ht r8 t5 w9;simp only[valS];have G:=Z01 Z (.cells (Y8 E.t E.q) 28);have f0:=O.out.new G;have X:=a1.out.next G;have e8:=l8.out.on G.size;obtain ⟨k0,k1,k2,k3,k4,kf,kl⟩:=ZcK Z (.int .i64 E.t.kind) (.string ⟨E.t.of_.toArray⟩) (.string ⟨E.t.name.toArray⟩) (.slice E.q.A E.t.names.length E.q.c) (.slice E.q.P E.t.parts.length E.q.d) 28;have j8:E.Is (Z.alloc (.cells (Y8 E.t E.q) 28)):=New.below r5.out G;have o5:YV5 (Z.alloc (.cells (Y8 E.t E.q) 28)) Z.heap.size E:=⟨kl,k0,k1,k2,k3,k4⟩;have t2:Aw Z.heap.size AN AP L (Z.alloc (.cells (Y8 E.t E.q) 28)):=O.out.away (Nat.le_refl _) kl;have A7:Hid (E.hi<=Z.heap.size):=Y1 r5.out.hi_;obtain ⟨V7,o0⟩: ∃W,Z.alloc (.cells (Y8 E.t E.q) 28)=W:=⟨_,rfl⟩;rw[o0] at G f0 X e8 j8 o5 t2;have b8:=Y1 f0;have g3:=Y1 X;have g7:=Y1 e8;have o9:=Y1 j8;have p7:=Y1 o5;have o7:=Y1 t2;have C8:Hid (Z.heap.size < V7.heap.size):=Y1 o5.lt;clear j8 o5 t2 k0 k1 k2 k3 k4 kf kl r5;have m1:w.heap.size≠Z.heap.size:=by have:=O.out.hB; omega
       have m2:fb≠Z.heap.size:=by have:=O.out.hB; have:=z.out; omega
       have m3:ob≠Z.heap.size:=by have:=O.out.hB; have:=B.out; omega
       have m4:d.heap.size≠Z.heap.size:=by have:=a1.out.1; omega
       clear G f0 X e8 O a1 l8;clear H c0 c1 c2 c3 c4 cf3 q p0 x0 x1 v0 P q0 z0 z1 z2 z3 z4 y0 y1 y2 y3 Q;obtain ⟨⟨H,c0,c1,c2,c3,c4,cf3,q⟩,p⟩:=b8.out.obs B.out z.out;obtain ⟨p0,x0,x1,v0,P⟩:=p;obtain ⟨q0,⟨z0,z1,z2,z3,z4⟩,y0,y1,y2,y3,Q⟩:=b8.out.zz;obtain ⟨tl,I,J,C,D⟩:=g3.out;have a:UpT [d.heap.size] V7 ((V7.setCell ⟨d.heap.size,0,none⟩ (.int .i64 0)).setCell ⟨d.heap.size,1,none⟩ (.int .i64 0)):=((UpT.refl _ _).set _ (Or.inr (by simp)) _).set _ (Or.inr (by simp)) _;have u:Box2 ((V7.setCell ⟨d.heap.size,0,none⟩ (.int .i64 0)).setCell ⟨d.heap.size,1,none⟩ (.int .i64 0)) d.heap.size 0 0:=⟨by simpa[World.setCell] using tl,by simp[go_sem,I,J],by simp[go_sem,I,J],by simp[go_sem,C],by simp[go_sem,D]⟩;have t:=b8.out.box g7.out S.out a;have r:=g7.out.on a.size;obtain ⟨V8,o1⟩: ∃W,(V7.setCell ⟨d.heap.size,0,none⟩ (.int .i64 0)).setCell ⟨d.heap.size,1,none⟩ (.int .i64 0)=W:=⟨_,rfl⟩;rw[o1] at a u t r;have j1:=Y1 a;have c9:=Y1 u;have T:=Y1 t;have l9:=Y1 r;clear a u t r;have l3:=p7.out.upT j1.out (by simpa using (fun h=>m4 h.symm));have q4:=o7.out.on j1.out.size;have q6:E.Is V8:=New.up o9.out j1.out (by simp; have:=g8.out; have:=n4.out; omega);have i9:=Y1 l3;have o8:=Y1 q4;have p1:=Y1 q6;have A5:Hid (Z.heap.size < V8.heap.size):=Y1 l3.lt;clear l3 q4 q6 p7 o7 o9 j1 b8 g3 g7;clear H c0 c1 c2 c3 c4 cf3 q p0 x0 x1 v0 P q0 z0 z1 z2 z3 z4 y0 y1 y2 y3 Q;obtain ⟨⟨H,c0,c1,c2,c3,c4,cf3,q⟩,p⟩:=T.out.obs B.out z.out;obtain ⟨p0,x0,x1,v0,P⟩:=p;obtain ⟨q0,⟨z0,z1,z2,z3,z4⟩,y0,y1,y2,y3,Q⟩:=T.out.zz;obtain ⟨sl,s0,s1,f4,f5⟩:=c9.out;obtain ⟨yl,b0,b1,b2,b3,b4⟩:=i9.out;have l1: (V8.alloc (.cells #[.string ⟨x.1.toArray⟩] 9)).ownsRow (w.heap.size+3) 9 1 (.slice AN ns.length cn) ns.length (ns.flatMap cN):=T.out.rN.below (Z01 V8 (.cells #[.string ⟨x.1.toArray⟩] 9))
       have i7:=Y1 l1;have t4:ns.length<=100000:=by have:=c8.out; omega
       have B7:=T.out.hB;obtain ⟨d2,d9,e2,e3⟩:=z8.out;clear l1
       go_wp2_with (at_builtin; refine Hid.out ?_)
       refine Y1 ?_;refine wpList_append_lies _ rfl _ _ 25 rfl (w.heap.size+3) 9 i1 (.string ByteArray.empty) 1 16 Tryz.underlying25 d2 d9 e2 e3 rfl (by decide) (.slice AN ns.length cn) ns.length (ns.flatMap cN) rfl i7.out ⟨V8.heap.size,0,none⟩ 1 1 (cN x.1) rfl rfl (fun j v hv=>by rw[Z0d,Nat.zero_add]; rcases j with _ | j <;> (simp[cN] at hv; try (subst hv; simp[go_sem]))) (ZpP _) (by decide) (by unfold maxLen; omega) (by omega) (by simp; omega) _ rfl ?_;intro g1 g4 w1 k8 M j6 x4;rw[ZcQ] at M j6;have o2:=Z01 V8 (.cells #[.string ⟨x.1.toArray⟩] 9);have h5:=T.out.name o2 A8.out M k8 j6;have f2:=T.out.up_name o2 M (.slice (some ⟨g1,0,none⟩) (ns.length+1) g4);have t8:UpT ((rowT AN).toList) V8 w1:=by have:=Zdb (ZcF (F:= []) o2) M; simpa using this
       have t6:=t8.same (b:=ob) H (fun hx=>by have:=(T.out.rN.lt _ (by simpa using hx)).1; have:=B.out; omega);have d3:=(t6.1 3).trans c3;have B5:=(t6.2 3).trans cf3;have dl:ob < w1.heap.size:=Nat.lt_of_lt_of_le H t8.size;rw[<-B.out] at h5 f2;obtain ⟨V9,w5⟩: ∃W,w1.setCell ⟨ob,3,none⟩ (.slice (some ⟨g1,0,none⟩) (ns.length+1) g4)=W:=⟨_,rfl⟩;rw[w5] at h5 f2;obtain ⟨h5,k5⟩:=h5;have o4: ∀b,b∈ob::(rowT AN).toList->b=ob\/rowT AN=some b:=fun b o=>by simpa using o
       have q7:E.Is V9:=New.up p1.out f2 (fun b o=>by
        rcases o4 b o with e | e
        {have:=g8.out; have:=n4.out; have:=S.out; have:=B.out; omega}
        · have:=r7.out b (Or.inl e); have:=g8.out; omega)
       have r0:=i9.out.upT f2 (fun hx=>by
        rcases o4 _ hx with e | e
        {exact m3 e.symm}
        · exact o8.out.nr _ (Or.inl e) rfl)
       have r1:=c9.out.upT f2 (fun hx=>by
        rcases o4 _ hx with e | e
        {exact n3 e.symm}
        · exact l9.out.nr _ (Or.inl e) rfl)
       have k7: ∀b,rowT (some ⟨g1,0,none⟩:Option Addr)=some b->rowT AN=some b\/V8.heap.size<=b:=fun b o=>by
        have e:g1=b:=by simpa[rowT] using o
        subst e; exact k5
       have w6:Aw d.heap.size (some ⟨g1,0,none⟩) AP L V9:=l9.out.next k7 (fun b o=>Or.inl o) (fun x hx=>Or.inl hx) f2.size;have b9:=Y1 h5;have p6:=Y1 q7;have p8:=Y1 r0;have p9:=Y1 r1;have r4:=Y1 w6;have u7:Hid (∀b,rowT (some ⟨g1,0,none⟩:Option Addr)=some b\/rowT AP=some b->b < E.lo\/E.hi<=b):=Y1 (fun b o=>by
        have hh:=A7.out; have h8:=A5.out; have t5:=g8.out;rcases o with o | o
        {rcases k7 b o with e | e
         {have:=r7.out b (Or.inl e); omega}
         {omega}}
        · have:=r7.out b (Or.inr o); omega)
       clear H c0 c1 c2 c3 c4 cf3 q p0 x0 x1 v0 P q0 z0 z1 z2 z3 z4 y0 y1 y2 y3 Q;clear tl I J C D sl s0 s1 f4 f5 yl b0 b1 b2 b3 b4 o0 k8 M j6 x4 o2 h5 f2 t8 t6 k5 o4 q7 r0 r1 k7 w6 d2 d9 e2 e3 t4 B7 i7 T c9 i9 l9 o8 p1 o1;obtain ⟨⟨H,c0,c1,c2,c3,c4,cf3,q⟩,p⟩:=b9.out.obs B.out z.out;obtain ⟨p0,x0,x1,v0,P⟩:=p;obtain ⟨q0,⟨z0,z1,z2,z3,z4⟩,y0,y1,y2,y3,Q⟩:=b9.out.zz;obtain ⟨yl,b0,b1,b2,b3,b4⟩:=p8.out;have l2: (V9.alloc (.cells (Y8 E.t E.q) 28)).ownsRow (w.heap.size+3) 28 5 (.slice AP L.length cp) L.length (L.flatMap cS):=b9.out.rP.below (Z01 V9 (.cells (Y8 E.t E.q) 28));have i8:=Y1 l2;have t4:L.length<=100000:=by have:=c8.out; omega
       have B8:=b9.out.hB;obtain ⟨d2,d9,e2,e3⟩:=z9.out;clear l2
       go_wp2_with (at_builtin; refine Hid.out ?_)
       refine Y1 ?_;refine wpList_append_lies _ rfl _ _ 26 rfl (w.heap.size+3) 28 i2 (.agg #[.int .i64 0,.string ByteArray.empty,.string ByteArray.empty,.slice none 0 0,.slice none 0 0]) 5 88 Tryz.underlying26 d2 d9 e2 e3 rfl (by decide) (.slice AP L.length cp) L.length (L.flatMap cS) rfl i8.out ⟨V9.heap.size,0,none⟩ 1 1 (cS E) rfl rfl (fun j v hv=>by rw[Z0d,Nat.zero_add]; rcases j with _ | _ | _ | _ | _ | j <;> (simp[cS] at hv; try (subst hv; simp[go_sem]))) (Zg6 _) (by decide) (by unfold maxLen; omega) (by omega) (by simp; omega) _ rfl ?_;intro g2 g5 w2 k9 N j7 x5;rw[ZcQ] at N j7;have o3:=Z01 V9 (.cells (Y8 E.t E.q) 28);have a2:=b9.out.part o3 p6.out (by have:=g8.out; have:=n4.out; have:=S.out; omega) u7.out N k9 j7;have d7:=b9.out.up_part o3 N (.slice (some ⟨g2,0,none⟩) (L.length+1) g5);have t9:UpT ((rowT AP).toList) V9 w2:=by have:=Zdb (ZcF (F:= []) o3) N; simpa using this
       have t7:=t9.same (b:=ob) H (fun hx=>by have:=(b9.out.rP.lt _ (by simpa using hx)).1; have:=B.out; omega);have d4:=(t7.1 4).trans c4;have w0:=(t7.2 4).trans q;have w3:ob < w2.heap.size:=Nat.lt_of_lt_of_le H t9.size;rw[<-B.out] at a2 d7;obtain ⟨v7,j4⟩: ∃W,w2.setCell ⟨ob,4,none⟩ (.slice (some ⟨g2,0,none⟩) (L.length+1) g5)=W:=⟨_,rfl⟩;rw[j4] at a2 d7;obtain ⟨a2,k6⟩:=a2;have q8: ∀b,b∈ob::(rowT AP).toList->b=ob\/rowT AP=some b:=fun b o=>by simpa using o
       have l4:=p9.out.upT d7 (fun hx=>by
        rcases q8 _ hx with e | e
        {exact n3 e.symm}
        · exact r4.out.nr _ (Or.inr e) rfl)
       have q3:Aw d.heap.size (some ⟨g1,0,none⟩) (some ⟨g2,0,none⟩) (L++ [E]) v7:=r4.out.next (fun b o=>Or.inl o) (fun b o=>by
        have e:g2=b:=by simpa[rowT] using o
        subst e; exact k6) (fun x hx=>by
        rcases List.mem_append.1 hx with hx | hx
        {exact Or.inl hx}
        · rw[List.mem_singleton.1 hx]; exact Or.inr (by have:=g8.out; have:=n4.out; omega)) d7.size
       have b6:=Y1 a2;have e5:=Y1 l4;have h9:=Y1 q3;clear H c0 c1 c2 c3 c4 cf3 q p0 x0 x1 v0 P q0 z0 z1 z2 z3 z4 y0 y1 y2 y3 Q;clear yl b0 b1 b2 b3 b4 d3 B5 dl k9 N j7 x5 o3 a2 d7 t9 t7 k6 q8 l4 q3 d2 d9 e2 e3 t4 B8 i8 b9 p9 p8 r4 p6 u7 w5;have l6:=v6.out.2;have m9:=Y1 (ZcM A c l y.2 e (by omega) (by omega) v7 (g9.out.on b6.out.up));cases h6:sign l y.2 e with
       | true=>
        rw[h6] at m9;have HR:Hid (Prs.fields (m+1) l i k b e ns (L.map ES.t)= .ok (⟨k,[],[],ns++ [x.1],(L++ [E]).map ES.t⟩,y.2+1)):=Y1 (by rw[r6.out,h6]; rfl);clear h6
        go_wp2_with fail
        refine m9.out.mono ?_;rintro e v8 ⟨rfl,o⟩;have K:=Y1 (b6.out.new o);clear o b6 e5 h9 j4 d4 w0 w3;obtain ⟨⟨H,c0,c1,c2,c3,c4,cf3,q⟩,p⟩:=K.out.obs B.out z.out;obtain ⟨p0,x0,x1,v0,P⟩:=p;obtain ⟨q0,⟨z0,z1,z2,z3,z4⟩,y0,y1,y2,y3,Q⟩:=K.out.zz;go_wp2;refine bodyPost_ret (v:= .tuple #[.agg #[.int .i64 k,.string ⟨#[]⟩,.string ⟨#[]⟩,.slice (some ⟨g1,0,none⟩:Option Addr) (ns++ [x.1]).length g4,.slice (some ⟨g2,0,none⟩:Option Addr) (L++ [E]).length g5],.int .i64 ((y.2:Int)+1),.agg #[.int .i64 0,.int .i64 0]]) (by simp[results,Tryz.results57,go_sem,q0,z0,z1,z2,z3,z4,p0,x0,x1,hne,hno,h0]) rfl ?_;rw[V.out,HR.out];refine Zgr K.out z.out ?_ (by have:=c8.out; simp; omega) (by have:=c8.out; simp; omega) (y.2+1)
        repeat' (with_reducible first | refine UpT.drew ?_ | refine UpT.alloc ?_ _ | refine UpT.set ?_ _ (Or.inr ?_) _ | exact UpT.refl _ _)
        all_goals simp
       | false=>
        rw[h6] at m9;have m8:Hid (Prs.fields (m+1) l i k b e ns (L.map ES.t)=Prs.andThen (Prs.need l y.2 b) fun j=>Prs.fields m l j k b e (ns++ [x.1]) ((L++ [E]).map ES.t)):=Y1 (by rw[r6.out,h6]; rfl);clear h6 r6
        go_wp2_with fail
        refine m9.out.mono ?_;rintro e v8 ⟨rfl,o⟩;have K:=Y1 (b6.out.new o);have a5:=Y1 (e5.out.next o);have f6:=Y1 (h9.out.on o.size);clear o b6 e5 h9 j4 d4 w0 w3;have m5:=Y1 (ZdK A c l y.2 b (by omega) (by omega) v8 (g9.out.on K.out.up))
        go_wp2_with fail
        cases d5:Prs.need l y.2 b with
        | error f=>
         rw[d5] at m5;have a3:=Y1 (ZeX d5);have e1: (f.1 !=0)=true:=by simpa using a3.out
         have HR:Hid (Prs.fields (m+1) l i k b e ns (L.map ES.t)= .error f):=Y1 (by rw[m8.out,d5]; rfl);clear d5 m8 l6;refine m5.out.mono ?_;rintro e a6 ⟨rfl,o⟩;simp only[needV];have B9:True:=trivial;have u8:=K;have q1:=a5;have u5:=f6;clear K a5 f6;have U:=Y1 (u8.out.new o);have e6:=Y1 (q1.out.next o);have b5:=Y1 (u5.out.on o.size);clear o B9 u8 q1 u5;obtain ⟨⟨H,c0,c1,c2,c3,c4,cf3,q⟩,p⟩:=U.out.obs B.out z.out;obtain ⟨p0,x0,x1,v0,P⟩:=p;obtain ⟨q0,⟨z0,z1,z2,z3,z4⟩,y0,y1,y2,y3,Q⟩:=U.out.zz;obtain ⟨tl,I,J,C,D⟩:=e6.out;have a:UpT [d.heap.size] a6 ((a6.setCell ⟨d.heap.size,0,none⟩ (.int .i64 f.1)).setCell ⟨d.heap.size,1,none⟩ (.int .i64 f.2)):=((UpT.refl _ _).set _ (Or.inr (by simp)) _).set _ (Or.inr (by simp)) _;have u:Box2 ((a6.setCell ⟨d.heap.size,0,none⟩ (.int .i64 f.1)).setCell ⟨d.heap.size,1,none⟩ (.int .i64 f.2)) d.heap.size f.1 f.2:=⟨by simpa[World.setCell] using tl,by simp[go_sem,I,J],by simp[go_sem,I,J],by simp[go_sem,C],by simp[go_sem,D]⟩;have t:=U.out.box b5.out S.out a;have r:=b5.out.on a.size;obtain ⟨A9,j5⟩: ∃W,(a6.setCell ⟨d.heap.size,0,none⟩ (.int .i64 f.1)).setCell ⟨d.heap.size,1,none⟩ (.int .i64 f.2)=W:=⟨_,rfl⟩;rw[j5] at a u t r;have v3:=Y1 a;have e7:=Y1 u;have b7:=Y1 t;have u4:=Y1 r;clear a u t r;clear H c0 c1 c2 c3 c4 cf3 q p0 x0 x1 v0 P q0 z0 z1 z2 z3 z4 y0 y1 y2 y3 Q;obtain ⟨⟨H,c0,c1,c2,c3,c4,cf3,q⟩,p⟩:=b7.out.obs B.out z.out;obtain ⟨p0,x0,x1,v0,P⟩:=p;obtain ⟨q0,⟨z0,z1,z2,z3,z4⟩,y0,y1,y2,y3,Q⟩:=b7.out.zz;obtain ⟨tl,I,J,C,D⟩:=e7.out
         go_wp2_with fail
         go_region
         all_goals go_wp2
         all_goals refine bodyPost_ret (v:= .tuple #[.agg #[.int .i64 k,.string ⟨#[]⟩,.string ⟨#[]⟩,.slice (some ⟨g1,0,none⟩:Option Addr) (ns++ [x.1]).length g4,.slice (some ⟨g2,0,none⟩:Option Addr) (L++ [E]).length g5],.int .i64 (y.2:Int),.agg #[.int .i64 f.1,.int .i64 f.2]]) (by simp[results,Tryz.results57,go_sem,q0,z0,z1,z2,z3,z4,p0,x0,x1,hne,hno,h0]) rfl ?_
         all_goals
          rw[V.out,HR.out];refine Zdx b7.out z.out ?_ a3.out _
          repeat' (with_reducible first | refine UpT.drew ?_ | refine UpT.alloc ?_ _ | refine UpT.set ?_ _ (Or.inr ?_) _ | exact UpT.refl _ _)
          all_goals simp
        | ok j3=>
         rw[d5] at m5;obtain ⟨j9,C2⟩:=need_ok d5;have HR:Hid (Prs.fields (m+1) l i k b e ns (L.map ES.t)=Prs.fields m l j3 k b e (ns++ [x.1]) ((L++ [E]).map ES.t)):=Y1 (by rw[m8.out,d5]; rfl);clear d5 m8;refine m5.out.mono ?_;rintro e a6 ⟨rfl,o⟩;simp only[needV];have U:=Y1 (K.out.new o);have e6:=Y1 (a5.out.next o);have b5:=Y1 (f6.out.on o.size);clear o K a5 f6;obtain ⟨⟨H,c0,c1,c2,c3,c4,cf3,q⟩,p⟩:=U.out.obs B.out z.out;obtain ⟨p0,x0,x1,v0,P⟩:=p;obtain ⟨q0,⟨z0,z1,z2,z3,z4⟩,y0,y1,y2,y3,Q⟩:=U.out.zz;obtain ⟨tl,I,J,C,D⟩:=e6.out;have a:UpT [d.heap.size] a6 ((a6.setCell ⟨d.heap.size,0,none⟩ (.int .i64 0)).setCell ⟨d.heap.size,1,none⟩ (.int .i64 0)):=((UpT.refl _ _).set _ (Or.inr (by simp)) _).set _ (Or.inr (by simp)) _;have u:Box2 ((a6.setCell ⟨d.heap.size,0,none⟩ (.int .i64 0)).setCell ⟨d.heap.size,1,none⟩ (.int .i64 0)) d.heap.size 0 0:=⟨by simpa[World.setCell] using tl,by simp[go_sem,I,J],by simp[go_sem,I,J],by simp[go_sem,C],by simp[go_sem,D]⟩;have t:=U.out.box b5.out S.out a;have r:=b5.out.on a.size;obtain ⟨A9,j5⟩: ∃W,(a6.setCell ⟨d.heap.size,0,none⟩ (.int .i64 0)).setCell ⟨d.heap.size,1,none⟩ (.int .i64 0)=W:=⟨_,rfl⟩;rw[j5] at a u t r;have v3:=Y1 a;have e7:=Y1 u;have b7:=Y1 t;have u4:=Y1 r;clear a u t r;have f7:Hid (i+3<=j3/\j3<=l.length):=Y1 (by have h1:=v5.out; have h2:=f8.out; have h3:=v6.out; rw[h1.2] at h2; simp only at h2; omega);have A3:Hid (h7=if nn+1=0/\sign l j3 e=true then .ok (⟨k,[],[],[],[]⟩,j3+1) else Prs.fields m l j3 k b e (ns++ [x.1]) ((L++ [E]).map ES.t)):=Y1 (by rw[if_neg (by omega),V.out,HR.out]);have A1:Hid (nn+1<=j3/\(ns++ [x.1]).length=(L++ [E]).length/\(ns++ [x.1]).length<=nn+1/\(nn+1=0->ns++ [x.1]= []/\L++ [E]= [])):=Y1 (by have:=c8.out; have:=f7.out; exact ⟨by omega,by simp; omega,by simp; omega,fun e=>by omega⟩)
         have A2:Hid (2 * (l.length - j3)+1<=m/\m<=n):=Y1 (by have:=HM.out; have:=f7.out; omega);have E8:nn<=100000:=by have:=c8.out; omega
         clear j9 C2 l6;clear H c0 c1 c2 c3 c4 cf3 q p0 x0 x1 v0 P q0 z0 z1 z2 z3 z4 y0 y1 y2 y3 Q;obtain ⟨sl,s0,s1,f4,f5⟩:=e7.out;go_wp2
         go_roundw
         case rel=>exact ⟨j3,nn+1,m,_,_,_,_,_,_,rfl,by go_num,f7.out.2,b7,A2,A1,A3⟩
         case measure=>have:=f7.out; simp[intOf]; omega)}
end
end Go.Proofs.YtgndehppmaacaaaGreatDoor
namespace Prs
section
open Go.Proofs.YtgndehppmaacaaaGreatDoor (Tk)
open Shp (Sh)
section
variable {l : List Tk}
include l
theorem ZeY {i:Nat} {k:Int} (h: (look l i).t.kind=k) (b:k≠0):i < l.length:=by
 rcases Nat.lt_or_ge i l.length with a | a
 {exact a}
 {rw[ZfJ (by omega)] at h; exact absurd h.symm b}
theorem Zeq {i j:Nat} {s:List UInt8} (h:need l i s= .ok j):i < l.length/\j=i+1:=by
 unfold need at h;split at h
 {next hs=>exact ⟨(sign_kinds hs).2.2,(Except.ok.inj h).symm⟩}
 {cases h}
theorem Znu {i:Nat} {k:Int} (a:k≠0) {x:List UInt8×Nat} (h:kind l i k= .ok x):i < l.length/\x.2=i+1:=by
 unfold kind at h;split at h
 {next hs=>exact ⟨ZeY hs a,by rw[<-Except.ok.inj h]⟩}
 {cases h}
theorem Znv {i:Nat} {ns:List (List UInt8)} {x:List UInt8×Nat} (h:fresh l i ns= .ok x):i < l.length/\x.2=i+1:=by
 unfold fresh at h;split at h
 {next hk=>
  split at h
  {cases h}
  {exact ⟨ZeY hk (by decide),by rw[<-Except.ok.inj h]⟩}}
 {cases h}
end
theorem Zdi {α β:Type} {x:Except Flt α} {f:α->Except Flt β} {y:β} (h:andThen x f= .ok y): ∃a,x= .ok a/\f a= .ok y:=by
 cases x with
 | ok a=>exact ⟨a,rfl,h⟩
 | error e=>cases h
theorem ZkZ (l:List Tk): ∀n,(∀i y,shp n l i= .ok y->i < y.2/\y.2<=l.length)/\(∀i k b e ns ps y,fields n l i k b e ns ps= .ok y->i < y.2/\y.2<=l.length)/\
 (∀i ps y,from_ n l i ps= .ok y->i < y.2/\y.2<=l.length)/\(∀i ps y,arrow n l i ps= .ok y->i < y.2/\y.2<=l.length)
 | 0=>⟨fun i y h=>(by unfold shp at h; cases h),fun i k b e ns ps y h=>(by unfold fields at h; cases h),fun i ps y h=>(by unfold from_ at h; cases h),fun i ps y h=>(by unfold arrow at h; cases h)⟩
 | n+1=>by
  obtain ⟨g,m,o,p⟩:=ZkZ l n;refine ⟨fun i y h=> ?_,fun i k b e ns ps y h=> ?_,fun i ps y h=> ?_,fun i ps y h=> ?_⟩
  {unfold shp at h;split at h
   {next hk=>obtain rfl:=Except.ok.inj h; have:=ZeY hk (by decide); exact ⟨Nat.lt_succ_self _,this⟩}
   {split at h
    {obtain ⟨j,h1,f⟩:=Zdi h;obtain ⟨s,h3,h4⟩:=Zdi f;obtain rfl:=Except.ok.inj h4;have a:=Zeq h1;have b:=Znu (by decide) h3;simp only;omega}
    {split at h
     {obtain ⟨s,h1,f⟩:=Zdi h;obtain ⟨j,h3,h4⟩:=Zdi f;obtain rfl:=Except.ok.inj h4;have a:=g _ _ h1;have b:=Zeq h3;simp only;omega}
     {split at h
      {split at h
       {next hs=>obtain rfl:=Except.ok.inj h; have:=(sign_kinds hs).2.2; simp only; omega}
       {have:=m _ _ _ _ _ _ _ h; omega}}
      {split at h
       {split at h
        {next hs=>obtain rfl:=Except.ok.inj h; have:=(sign_kinds hs).2.2; simp only; omega}
        {have:=m _ _ _ _ _ _ _ h; omega}}
       {split at h
        {split at h
         {have:=p _ _ _ h; omega}
         {have:=o _ _ _ h; omega}}
        {cases h}}}}}}}
  {unfold fields at h;obtain ⟨x,h1,h⟩:=Zdi h;obtain ⟨j,f,h⟩:=Zdi h;obtain ⟨s,h3,h⟩:=Zdi h;have a:=Znv h1;have b:=Zeq f;have c:=g _ _ h3;split at h
   {next hs=>obtain rfl:=Except.ok.inj h; have:=(sign_kinds hs).2.2; simp only; omega}
   {obtain ⟨q,h4,h⟩:=Zdi h;have d:=Zeq h4;have:=m _ _ _ _ _ _ _ h;omega}}
  {unfold from_ at h;obtain ⟨s,h3,h⟩:=Zdi h;have c:=g _ _ h3;split at h
   {have:=p _ _ _ h; omega}
   {obtain ⟨q,h4,h⟩:=Zdi h;have d:=Zeq h4;have:=o _ _ _ h;omega}}
  {unfold arrow at h;obtain ⟨j,h1,h⟩:=Zdi h;obtain ⟨s,h3,h⟩:=Zdi h;obtain rfl:=Except.ok.inj h;have b:=Zeq h1;have c:=g _ _ h3;simp only;omega}
theorem ZhZ {l:List Tk} {n i:Nat} {y:Sh×Nat} (h:shp n l i= .ok y):i < y.2/\y.2<=l.length:=(ZkZ l n).1 i y h
end
end Prs
