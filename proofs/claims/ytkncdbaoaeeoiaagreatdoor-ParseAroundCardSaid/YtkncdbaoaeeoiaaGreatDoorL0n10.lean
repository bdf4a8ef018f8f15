/- What the proofs of ParseAround want, part 10. -/
import Derived.Test.YtkncdbaoaeeoiaaGreatDoorL0n9
set_option linter.unusedVariables false
set_option linter.unusedSimpArgs false
set_option linter.unusedSectionVars false
set_option maxRecDepth 100000
set_option maxHeartbeats 16000000
namespace Go.Proofs.YtkncdbaoaeeoiaaGreatDoor
open Go.RowKit Tms
open Shp (Sh)
open Pso (St Ok Goes betw loop want)
open Prs (sign)
structure JS (W1:World) (bp ob:Nat) (k:Int) (AN:Option Addr) (cn:Nat) (ns:List (List UInt8)) (AP:Option Addr) (cp:Nat) (L:List ES) (W:World):Prop where
 up:UpT [bp,ob] W1 W
 lt:ob < W1.heap.size
 bpob:bp < ob
 c0:W.cell? ⟨ob,0,none⟩=some (.int .i64 k)
 c1:W.cell? ⟨ob,1,none⟩=some (.string ⟨#[]⟩)
 c2:W.cell? ⟨ob,2,none⟩=some (.string ⟨#[]⟩)
 c3:W.cell? ⟨ob,3,none⟩=some (.slice AN ns.length cn)
 c4:W.cell? ⟨ob,4,none⟩=some (.slice AP L.length cp)
 fz: ∀j,W.frozen? ⟨ob,j,none⟩=false
 rN:Row W W1.heap.size 9 1 cN AN cn ns
 rP:Row W W1.heap.size 43 5 cS AP cp L
 ne:rowT AN=none\/rowT AN≠rowT AP
 is: ∀x∈L,x.Is W/\W1.heap.size<=x.lo
 far: ∀x∈L,∀b,rowT AN=some b\/rowT AP=some b->b < x.lo\/x.hi<=b
 sm: ∀n∈ns,n.length<=1000000
section
variable {W1 W W' : World} {bp ob : Nat} {k : Int} {AN AP : Option Addr} {cn cp : Nat} {ns : List (List UInt8)} {L : List ES}
section
variable (h : JS W1 bp ob k AN cn ns AP cp L W)
include h
theorem JS.keep (c:UpT [bp] W W'):JS W1 bp ob k AN cn ns AP cp L W':=by
 have g:=h.up.size;have f:=h.lt;have d:=h.bpob;have a:=c.same (b:=ob) (by omega) (by simp; omega);refine ⟨h.up.trans (c.mono (fun x hx _=>by simp at hx; simp[hx])),f,d,(a.1 0).trans h.c0,(a.1 1).trans h.c1,(a.1 2).trans h.c2,(a.1 3).trans h.c3,(a.1 4).trans h.c4,fun j=>(a.2 j).trans (h.fz j),
  h.rN.up c (fun x hx=>by simp at hx; subst hx; intro e; have:=h.rN.lt _ e; omega),h.rP.up c (fun x hx=>by simp at hx; subst hx; intro e; have:=h.rP.lt _ e; omega),h.ne,fun x hx=>⟨New.up (h.is x hx).1 c (by simp; have:=(h.is x hx).2; omega),(h.is x hx).2⟩,h.far,h.sm⟩
theorem JS.goodN {A:Option Addr} {c a:Nat} {l:List Tk} {τ:St} {Q:EN->Prop} (b:ns.length<=900000): (⟨W,bp,A,c,l,τ,ob,3,W1.heap.size,AN,cn,enOf ns,Q,a⟩:PtxA).Good:=
 ⟨by rw[Z0S]; exact h.c3,h.fz 3,Nat.lt_of_lt_of_le h.lt h.up.size,h.bpob,Z8r h.rN,h.lt,Nat.lt_trans h.bpob h.lt,h.up.size,by rw[Z0S]; exact b⟩
end
theorem JS.named {A:Option Addr} {c g m z:Nat} {l:List Tk} {τ:St} {Q:EN->Prop} {u:Nat->Value} {x:EN} (h:JS W1 bp ob k AN cn ns AP cp L W) (G:x.t.length<=1000000) (p: (⟨W,bp,A,c,l,τ,ob,3,W1.heap.size,AN,cn,enOf ns,Q,z⟩:PtxA).Post (fun _=>true) u W' x g m):JS W1 bp ob k (some ⟨g,0,none⟩) m (ns++ [x.t]) AP cp L W':=by
 have H:=h.up.size;have F:=h.lt;have C:=h.bpob;have B: ∀b,rowT AN=some b->W1.heap.size<=b/\b < W.heap.size:=fun b hb=>h.rN.lt b hb;have t: ∀b,rowT AP=some b->W1.heap.size<=b/\b < W.heap.size:=fun b hb=>h.rP.lt b hb;have r:UpT (bp::ob::(rowT AN).toList) W W':=p.up;have o:rowT AN=some g\/W.heap.size<=g:=p.new;have a: ∀j,j≠3->W'.cell? ⟨ob,j,none⟩=W.cell? ⟨ob,j,none⟩:=p.rest;have D:W'.cell? ⟨ob,3,none⟩=some (.slice (some ⟨g,0,none⟩) (ns.length+1) m):=by have:=p.cell; simpa[Z0S] using this
 have E: ∀j,W'.frozen? ⟨ob,j,none⟩=W.frozen? ⟨ob,j,none⟩:=p.fz;have w:Row W' W1.heap.size 9 1 cN (some ⟨g,0,none⟩) m (ns++ [x.t]):=by
  have d:=p.row;unfold Row;rw[List.length_append,List.flatMap_append, <-Z54];simp only[Z0S] at d;have s:cNN x=cN x.t:=rfl;rw[s] at d;simpa using d
 have f: ∀y,y∈bp::ob::(rowT AN).toList->y=bp\/y=ob\/rowT AN=some y:=fun y hy=>by simpa using hy
 refine ⟨⟨r.os.trans h.up.os,r.tape.trans h.up.tape,r.output.trans h.up.output,Nat.le_trans h.up.size r.size,fun y d s=> ?_⟩,F,C,(a 0 (by omega)).trans h.c0,(a 1 (by omega)).trans h.c1,(a 2 (by omega)).trans h.c2, ?_,(a 4 (by omega)).trans h.c4,fun j=>(E j).trans (h.fz j),w, ?_,Or.inr ?_,fun y hy=>⟨New.up (h.is y hy).1 r (fun b hb=> ?_),(h.is y hy).2⟩,fun y hy b hb=> ?_,fun n v=> ?_⟩
 {rw[r.block y (by omega) (fun hy=> ?_)]
  {exact h.up.block y d s}
  {simp at s;rcases f _ hy with e | e | e
   {exact s.1 e}
   {exact s.2 e}
   {have:=B _ e; omega}}}
 {rw[List.length_append]; exact D}
 {refine h.rP.up r (fun y hy e=> ?_);have d:=t _ e;rcases f _ hy with i | i | i
  {omega}
  {omega}
  {rcases h.ne with q | q
   {rw[q] at i; cases i}
   {exact q (i.trans e.symm)}}}
 {intro e;have i:rowT AP=some g:=e.symm;rcases o with d | d
  {rcases h.ne with q | q
   {rw[q] at d; cases d}
   {exact q (d.trans i.symm)}}
  {have:=t _ i; omega}}
 {have d:=h.is y hy;rcases f _ hb with e | e | e
  {omega}
  {omega}
  {exact h.far y hy b (Or.inl e)}}
 {rcases hb with e | e
  {have i:g=b:=Option.some.inj e;rcases o with d | d
   {exact h.far y hy b (Or.inl (i▸d))}
   {right; have:=(h.is y hy).1.hi_; omega}}
  {exact h.far y hy b (Or.inr e)}}
 {rcases List.mem_append.1 v with v | v
  {exact h.sm n v}
  {have e:n=x.t:=by simpa using v
   rw[e]; exact G}}
def JS.ctx (W1:World) (bp ob:Nat) (AP:Option Addr) (cp:Nat) (L:List ES) (W:World) (A:Option Addr) (c:Nat) (l:List Tk) (τ:St) (R:ES->Prop):CtxS:=⟨W,bp,A,c,l,τ,ob,4,W1.heap.size,AP,cp,L,R⟩
theorem JS.good (h:JS W1 bp ob k AN cn ns AP cp L W) {A:Option Addr} {c:Nat} {l:List Tk} {τ:St} {R:ES->Prop} (a:L.length<=900000): (JS.ctx W1 bp ob AP cp L W A c l τ R).Good:=
 ⟨h.c4,h.fz 4,Nat.lt_of_lt_of_le h.lt h.up.size,h.bpob,h.rP,h.lt,Nat.lt_trans h.bpob h.lt,h.up.size,a⟩
theorem JS.part {A:Option Addr} {c g i:Nat} {l:List Tk} {τ:St} {R:ES->Prop} {u:Nat->Value} {x:ES} (h:JS W1 bp ob k AN cn ns AP cp L W) (p: (JS.ctx W1 bp ob AP cp L W A c l τ R).PostX (fun _=>true) u W' x g i):JS W1 bp ob k AN cn ns (some ⟨g,0,none⟩) i (L++ [x]) W':=by
 have F:=h.up.size;have D:=h.lt;have z:=h.bpob;have q: ∀b,rowT AN=some b->W1.heap.size<=b/\b < W.heap.size:=fun b hb=>h.rN.lt b hb;have w: ∀b,rowT AP=some b->W1.heap.size<=b/\b < W.heap.size:=fun b hb=>h.rP.lt b hb;have r:UpT (bp::ob::(rowT AP).toList) W W':=p.up;have n:rowT AP=some g\/W.heap.size<=g:=p.new;have E:W.heap.size<=x.lo:=p.lo;have d: ∀j,j≠4->W'.cell? ⟨ob,j,none⟩=W.cell? ⟨ob,j,none⟩:=p.rest;have B:W'.cell? ⟨ob,4,none⟩=some (.slice (some ⟨g,0,none⟩) (L.length+1) i):=by have:=p.cell; simpa[JS.ctx] using this
 have C: ∀j,W'.frozen? ⟨ob,j,none⟩=W.frozen? ⟨ob,j,none⟩:=p.fz;have v:W'.ownsRow W1.heap.size 43 5 (.slice (some ⟨g,0,none⟩) (L.length+1) i) (L.length+1) (L.flatMap cS++cS x):=by have:=p.row; simpa[JS.ctx] using this
 have f: ∀y,y∈bp::ob::(rowT AP).toList->y=bp\/y=ob\/rowT AP=some y:=fun y a=>by simpa using a
 refine ⟨⟨r.os.trans h.up.os,r.tape.trans h.up.tape,r.output.trans h.up.output,Nat.le_trans h.up.size r.size,fun y m h2=> ?_⟩,D,z,(d 0 (by omega)).trans h.c0,(d 1 (by omega)).trans h.c1,(d 2 (by omega)).trans h.c2,(d 3 (by omega)).trans h.c3, ?_,fun j=>(C j).trans (h.fz j), ?_, ?_, ?_,fun y a=> ?_,fun y a b hb=> ?_,h.sm⟩
 {rw[r.block y (by omega) (fun a=> ?_)]
  {exact h.up.block y m h2}
  {simp at h2;rcases f _ a with e | e | e
   {exact h2.1 e}
   {exact h2.2 e}
   {have:=w _ e; omega}}}
 {rw[List.length_append]; exact B}
 {refine h.rN.up r (fun y a e=> ?_);have m:=q _ e;rcases f _ a with s | s | s
  {omega}
  {omega}
  {rcases h.ne with o | o
   {rw[o] at e; cases e}
   {exact o (e.trans s.symm)}}}
 {unfold Row; rw[List.length_append,List.flatMap_append]; simpa using v}
 {rcases h.ne with o | o
  {exact Or.inl o}
  {refine Or.inr (fun e=> ?_);have s:rowT AN=some g:=e;rcases n with m | m
   {exact o (s.trans m.symm)}
   {have:=q _ s; omega}}}
 {rcases List.mem_append.1 a with a | a
  {refine ⟨New.up (h.is y a).1 r (fun b hb=> ?_),(h.is y a).2⟩;have m:=h.is y a;rcases f _ hb with e | e | e
   {omega}
   {omega}
   {exact h.far y a b (Or.inr e)}}
  {obtain rfl:y=x:=by simpa using a
   exact ⟨p.is,by omega⟩}}
 {have t:rowT (some (⟨g,0,none⟩:Addr))=some b->g=b:=fun e=>Option.some.inj e;rcases List.mem_append.1 a with a | a
  {rcases hb with e | e
   {exact h.far y a b (Or.inl e)}
   {obtain rfl:=t e;rcases n with m | m
    {exact h.far y a g (Or.inr m)}
    {right; have:=(h.is y a).1.hi_; omega}}}
  {obtain rfl:y=x:=by simpa using a
   rcases hb with e | e
   {left; have:=q _ e; omega}
   {obtain rfl:=t e; exact p.far}}}
end
end Go.Proofs.YtkncdbaoaeeoiaaGreatDoor
namespace Go.Proofs.YtkncdbaoaeeoiaaGreatDoor
section
open Go.RowKit Tms
open Shp (Sh)
open Pso (St Ok Goes betw loop want)
open Prs (sign)
def TyIs (bp:Nat) (A:Option Addr) (c:Nat) (l:List Tk) (r:Sh×St) (W:World) (e:Ending) (W':World):Prop:=
 ∃x:ES,e= .returned (valS x)/\PAt W' bp A c l r.2/\UpT [bp] W W'/\x.Is W'/\W.heap.size<=x.lo/\x.t=r.1
def TyC (bp:Nat) (A:Option Addr) (c:Nat) (l:List Tk) (m:Nat):Prop:= ∀(W:World) (τ:St),Ok l τ->l.length - τ.1 < m->PAt W bp A c l τ->
 Calls Tryz.prog 72 #[.pointer (some ⟨bp,0,none⟩)] W (TyIs bp A c l (Pso.anyT l m τ) W)
structure PBox (W1:World) (pb bp ob:Nat):Prop where
 c:W1.cell? ⟨pb,0,none⟩=some (.pointer (some ⟨bp,0,none⟩))
 lt:pb < W1.heap.size
 ne:pb≠bp
 no:pb≠ob
theorem PBox.on {W1 W:World} {pb bp b:Nat} (h:PBox W1 pb bp b) (a:UpT [bp,b] W1 W):W.cell? ⟨pb,0,none⟩=some (.pointer (some ⟨bp,0,none⟩))/\pb < W.heap.size:=
 ⟨((a.same h.lt (by simp[h.ne,h.no])).1 _).trans h.c,Nat.lt_of_lt_of_le h.lt a.size⟩
theorem Z0q {l:List Tk} (d: ∀b∈l,b.t.text.length<=1000000) (σ:St) (k:Int) (c:k≠0) (e:List UInt8->Bool): (Pso.textOf l σ k e).1.length<=1000000:=by
 unfold Pso.textOf;split
 {next h=>
  simp only[Bool.and_eq_true,decide_eq_true_eq] at h;have a:=Pso.kind_lt (l:=l) (i:=σ.1) (by rw[h.1]; exact c);simp only;rw[Prs.look_in a]; exact d _ (List.getElem_mem _)}
 {simp}
def JF (W1:World) (bp ob:Nat) (k:Int) (r:Nat) (W:World) (a:List (List UInt8)×List Sh):Prop:=
 ∃AN cn AP cp L,JS W1 bp ob k AN cn a.1 AP cp L W/\a.2=L.map ES.t/\a.1.length<=r/\L.length<=r
theorem JF.keep {W1 W W':World} {bp b r:Nat} {k:Int} {a:List (List UInt8)×List Sh} (h:JF W1 bp b k r W a) (e:UpT [bp] W W'):JF W1 bp b k r W' a:=by
 obtain ⟨AN,cn,AP,cp,L,c,d⟩:=h;exact ⟨AN,cn,AP,cp,L,c.keep e,d⟩
theorem Zbk (bp:Nat) (A:Option Addr) (c:Nat) (l:List Tk) (m:Nat) (hl:l.length<=5000) (ht: ∀b∈l,b.t.text.length<=1000000) (hT:TyC bp A c l m) (W1:World) (pb D:Nat) (k:Int) (C:PBox W1 pb bp D):
 Reads bp A c l 135 (.pointer (some ⟨D,0,none⟩)) (.pointer (some ⟨pb,0,none⟩)) (JF W1 bp D k) (Pso.fieldsR l (Pso.anyT l m)) m:=by
 intro r w τ a hr hτ hm hP hJ;obtain ⟨ns,ss⟩:=a;obtain ⟨AN,cn,AP,cp,L,s,hs,t,M⟩:=hJ;simp only at s hs t;have HF:Hid (Pso.fieldsR l (Pso.anyT l m) τ (ns,ss)=((Pso.anyT l m (want l (Pso.another l τ ns).2 [58])).2,(ns++ [(Pso.name l τ).1],ss++ [(Pso.anyT l m (want l (Pso.another l τ ns).2 [58])).1]))):=Y1 rfl;rw[HF.out];have T:=Y1 (fun (W:World) (hW:Below w.heap.size w W)=>Z2b bp A c l τ W1.heap.size AN cn ns (by omega) hτ.1 ht (by omega) W (hP.below hW) (s.rN.below hW) (Nat.lt_trans s.bpob s.lt));have j:=Z0q ht τ 1 (by decide) Lex.isName;change (Pso.name l τ).1.length<=1000000 at j;have n:=Pso.to_another hτ ns;obtain ⟨z,hz⟩: ∃z,z=(Pso.another l τ ns).2:=⟨_,rfl⟩;obtain ⟨S,B⟩: ∃S,S=(Pso.name l τ).1:=⟨_,rfl⟩;rw[<-hz, <-B] at T ⊢;rw[<-B] at j;rw[<-hz] at n;have Q:=Pso.to_want n.1 [58];obtain ⟨hc,I⟩:=C.on s.up;have X:=Y1 s;have F:=Y1 n;have G:=Y1 Q;have HT:=Y1 hT;have d:=Y1 C;have H:=Y1 (And.intro hs (And.intro t M));have HM:=Y1 hm;have U:=Y1 j;clear HF hP s n Q hT hz B C hs t M hτ hm j;go_enter Tryz.func135,Tryz.ntmps135
 go_wp2_with fail
 refine prgA _ 2 0 1 43 3 91 ⟨w,bp,A,c,l,z,D,3,W1.heap.size,AN,cn,enOf ns,(fun x=>x.t=S),92⟩ (X.out.goodN (by have:=H.out.2.1; omega)) pb hc I d.out.ne
  (fun u=> { tmps:=#[.pointer (some ⟨D,0,none⟩),.pointer (some ⟨pb,0,none⟩),u 0,u 1,u 2,u 3,u 4,u 5,u 6,u 7,u 8,u 9,u 10,u 11,u 12,u 13,u 14,undef,undef,undef,undef,undef,undef,undef,undef,undef,undef,undef,undef,undef,undef],defers:= [] }) (fun _=>undef)
  ⟨fun i o h u v=>by
   rcases i with _ | _ | _ | _ | _ | _ | _ | _ | _ | _ | _ | _ | _ | _ | _ | _ | i
   all_goals first | (cases h; rfl) | exact absurd h (by simp[plnA]),fun _=>rfl,fun _=>rfl,fun _=>rfl,fun _=>rfl,fun _=>rfl,fun _=>rfl,fun _=>rfl,fun _=>rfl,fun _=>rfl,fun _=>rfl,fun _=>rfl,fun _=>rfl,fun _=>rfl,fun _=>rfl,fun _=>rfl,fun _=>rfl,fun _=>rfl⟩
  (fun W=>by go_simp <;> rfl) (enters_of Tryz.func91 (by kernel_rfl) rfl) (fun W hW=>by
   show Calls Tryz.prog _ #[.pointer (some ⟨bp,0,none⟩),.slice AN (enOf ns).length cn,.func (.func 92) #[.pointer (some ⟨bp,0,none⟩)] #[]] W _;rw[Z0S];exact (T.out W hW).mono (fun e W' h=>⟨⟨S,W'.heap.size,W'.heap.size⟩,h.1,h.2.1,h.2.2,⟨Nat.le_refl _,fun _ _ _=>trivial⟩,h.2.2.size,rfl⟩)) (fun u w1 x g cn' p=> ?_)
 have hx:x.t=S:=p.r;have f:=Y1 (X.out.named (by rw[hx]; exact U.out) p);have E:=Y1 (show PAt w1 bp A c l z from p.par);rw[hx] at f;clear p hx X T hc I;obtain ⟨Y,J⟩:=d.out.on f.out.up
 go_wp2_with fail
 refine (Z0d bp A c l z [58] (by omega) F.out.1.1 w1 E.out).mono ?_;rintro e w2 ⟨v2,rfl,N,P⟩;have V:=Y1 N;have q:=Y1 (f.out.keep P);clear N P E f Y J;obtain ⟨Z,K⟩:=d.out.on q.out.up
 go_wp2_with fail
 refine regS _ 22 0 1 43 4 72 (JS.ctx W1 bp D AP cp L w2 A c l (Pso.anyT l m (want l z [58])).2 (fun x=>x.t=(Pso.anyT l m (want l z [58])).1)) (q.out.good (by have:=H.out.2.2; omega)) pb Z K d.out.ne
  (fun w0=> { tmps:=#[.pointer (some ⟨D,0,none⟩),.pointer (some ⟨pb,0,none⟩),u 0,u 1,u 2,u 3,u 4,u 5,u 6,u 7,u 8,u 9,u 10,u 11,u 12,u 13,u 14,.pointer (some ⟨bp,0,none⟩),.pointer (some ⟨bp,0,none⟩),.pointer (some ⟨bp,0,none⟩),.slice (some ⟨w1.heap.size,0,none⟩) 1 1,.string v2,w0 0,w0 1,w0 2,w0 3,w0 4,w0 5,w0 6,w0 7,w0 9],defers:= [] }) (fun _=>undef)
  ⟨fun i o h u v=>by
   rcases i with _ | _ | _ | _ | _ | _ | _ | _ | _ | _ | _ | i
   all_goals first | (cases h; rfl) | exact absurd h (by simp[opsS]),fun _=>rfl,fun _=>rfl,fun _=>rfl,fun _=>rfl,fun _=>rfl,fun _=>rfl,fun _=>rfl,fun _=>rfl,fun _=>rfl,fun _=>rfl,fun _=>rfl⟩
  (fun W=>by go_simp; rfl) (enters_of Tryz.func72 (by kernel_rfl) rfl) (fun W hW=>HT.out W _ G.out.1 (by have:=F.out.2.1; have:=G.out.2.1; have:=HM.out; omega) (V.out.below hW)) (fun w0 W y g' cp' p=> ?_)
 have hy:y.t=(Pso.anyT l m (want l z [58])).1:=p.r;have O:PAt W bp A c l (Pso.anyT l m (want l z [58])).2:=p.par
 go_end0
 refine ⟨rfl,O,_,_,_,_,_,q.out.part p, ?_, ?_, ?_⟩
 {rw[List.map_append, <-H.out.1, <-hy]; rfl}
 {have:=H.out.2.1; rw[List.length_append]; simp; omega}
 {have:=H.out.2.2; rw[List.length_append]; simp; omega}
def JP (W1:World) (bp ob:Nat) (k:Int) (r:Nat) (W:World) (a:List Sh):Prop:=
 ∃AP cp L,JS W1 bp ob k none 0 [] AP cp L W/\a=L.map ES.t/\L.length<=r
theorem JP.keep {W1 W W':World} {bp b r:Nat} {k:Int} {a:List Sh} (h:JP W1 bp b k r W a) (e:UpT [bp] W W'):JP W1 bp b k r W' a:=by
 obtain ⟨AP,cp,L,c,d⟩:=h;exact ⟨AP,cp,L,c.keep e,d⟩
theorem ZcS (bp:Nat) (A:Option Addr) (c:Nat) (l:List Tk) (m:Nat) (H:l.length<=5000) (B:TyC bp A c l m) (W1:World) (pb j:Nat) (k:Int) (b:PBox W1 pb bp j):
 Reads bp A c l 136 (.pointer (some ⟨j,0,none⟩)) (.pointer (some ⟨pb,0,none⟩)) (JP W1 bp j k) (Pso.partsR l (Pso.anyT l m)) m:=by
 intro r w τ a hr hτ hm hP hJ;obtain ⟨AP,cp,L,t,C,f⟩:=hJ;have z:Hid (Pso.partsR l (Pso.anyT l m) τ a=((Pso.anyT l m τ).2,a++ [(Pso.anyT l m τ).1])):=Y1 rfl;rw[z.out];obtain ⟨y,e⟩:=b.on t.up;have d:=Y1 t;have F:=Y1 B;have q:=Y1 b;have s:=Y1 (And.intro C f);have D:=Y1 hm;have n:=Y1 hP;have E:=Y1 hτ;clear z hP B b C f hτ hm t;go_enter Tryz.func136,Tryz.ntmps136;refine regS _ 2 0 1 43 4 72 (JS.ctx W1 bp j AP cp L w A c l (Pso.anyT l m τ).2 (fun x=>x.t=(Pso.anyT l m τ).1)) (d.out.good (by have:=s.out.2; omega)) pb y e q.out.ne
  (fun u=> { tmps:=#[.pointer (some ⟨j,0,none⟩),.pointer (some ⟨pb,0,none⟩),u 0,u 1,u 2,u 3,u 4,u 5,u 6,u 7,u 9],defers:= [] }) (fun _=>undef)
  ⟨fun i o h u v=>by
   rcases i with _ | _ | _ | _ | _ | _ | _ | _ | _ | _ | _ | i
   all_goals first | (cases h; rfl) | exact absurd h (by simp[opsS]),fun _=>rfl,fun _=>rfl,fun _=>rfl,fun _=>rfl,fun _=>rfl,fun _=>rfl,fun _=>rfl,fun _=>rfl,fun _=>rfl,fun _=>rfl,fun _=>rfl⟩
  (fun W=>by go_simp; rfl) (enters_of Tryz.func72 (by kernel_rfl) rfl) (fun W hW=>F.out W _ E.out D.out (n.out.below hW)) (fun u W x g' cp' p=> ?_)
 have G:x.t=(Pso.anyT l m τ).1:=p.r;have g:PAt W bp A c l (Pso.anyT l m τ).2:=p.par
 go_end0
 refine ⟨rfl,g,_,_,_,d.out.part p, ?_, ?_⟩
 {rw[List.map_append, <-s.out.1, <-G]; rfl}
 {have:=s.out.2; rw[List.length_append]; simp; omega}
end
section
open Go.RowKit Shp
theorem Z2j (l:List (List UInt8)): (strs l).length=l.length:=by simp[strs]
structure TxR (W:World) (g:Nat) (ts:List (List UInt8)):Prop where
 lt:g < W.heap.size
 at_: ∀j (h:j < ts.length),W.cell? ⟨g,j,none⟩=some (.string ⟨(ts[j]'h).toArray⟩)
 fz: ∀o,W.frozen? ⟨g,o,none⟩=false
theorem TxR.keep {W W':World} {g B:Nat} {ts:List (List UInt8)} (h:TxR W g ts) (b:g < B) (a:Below B W W'):TxR W' g ts:=
 ⟨Nat.lt_of_lt_of_le h.lt a.size,fun j hj=>(a.cell (p:=⟨g,j,none⟩) b).trans (h.at_ j hj),fun o=>(a.frozen (p:=⟨g,o,none⟩) b).trans (h.fz o)⟩
theorem TxR.next {W W':World} {g:Nat} {ts:List (List UInt8)} (h:TxR W g ts) (a:Below W.heap.size W W'):TxR W' g ts:=h.keep h.lt a
end
section
open Go.RowKit Tms
open Shp (Sh)
theorem Row.strs {W W':World} {B:Nat} {A:Option Addr} {c:Nat} {l:List (List UInt8)} (h:Row W B 9 1 cN A c l) (k:W.heap.size<=W'.heap.size) (j: ∀b,B<=b->b < W.heap.size->SameT W W' b):Strs W' W'.heap.size A (strs l):=by
 rcases h.names with d | ⟨g,rfl,e,a,f⟩
 {exact Or.inl (by rw[Z2j]; exact d)}
 {refine Or.inr ⟨g,0,rfl,Nat.lt_of_lt_of_le a k,fun i hi=> ?_⟩;rw[Z2j] at hi;rw[Nat.zero_add,(j g e a).1 i,f i hi];simp[_root_.Go.Proofs.YtkncdbaoaeeoiaaGreatDoor.strs]}
section
variable {α : Type} {W : World} {B : Nat} {e : TypeId} {m : Nat} {cf : α -> List Value} {A : Option Addr} {c : Nat} {l : List α} (h : Row W B e m cf A c l)
include α W B e m cf A c l h
theorem Row.cap:l.length<=c/\(A=none->c=0):=by
 rcases h.form with ⟨a,b,d⟩ | ⟨g,a,b⟩
 {exact ⟨by omega,fun _=>d⟩}
 {exact ⟨b,fun h=>by rw[a] at h; cases h⟩}
theorem Row.read (d: ∀x,(cf x).length=m):l.length=0\/ ∃g,A=some ⟨g,0,none⟩/\B<=g/\g < W.heap.size/\ ∀i (hi:i < l.length) k,k < m->W.cell? ⟨g,i * m+k,none⟩=(cf (l[i]'hi))[k]? :=by
 rcases h.form with ⟨_,a,_⟩ | ⟨g,rfl,_⟩
 {exact Or.inl a}
 {refine Or.inr ⟨g,rfl,(h.lt g rfl).1,(h.lt g rfl).2,fun i hi k hk=> ?_⟩;have b: (i+1) * m<=l.length * m:=Nat.mul_le_mul_right m hi;rw[Nat.add_mul] at b;rw[World.ownsRow.cellAt h (i * m+k) (by omega)];exact Zav d hi hk}
end
theorem Row.shs {W W':World} {B:Nat} {A:Option Addr} {c:Nat} {L:List ES} (h:Row W B 43 5 cS A c L) (p: ∀x∈L,x.Is W/\B<=x.lo) (l:W.heap.size<=W'.heap.size) (f: ∀b,B<=b->b < W.heap.size->SameT W W' b):
 (L.map ES.t).length=0\/ ∃(g off:Nat) (rs:Nat->Ptr),A=some ⟨g,off,none⟩/\g < W'.heap.size/\(∀i (h:i < (L.map ES.t).length),Sh5 W' g (off+i * 5) ((L.map ES.t)[i]'h) (rs i))/\ ∀i (h:i < (L.map ES.t).length),ShAt W' W'.heap.size (rs i) ((L.map ES.t)[i]'h):=by
 rcases h.read Z8m with m | ⟨g,rfl,n,e,o⟩
 {exact Or.inl (by rw[List.length_map]; exact m)}
 {have a: ∀i (hi:i < L.length),(L.map ES.q).getD i ⟨none,0,none,0⟩=(L[i]'hi).q:=fun i hi=>by simp[hi]
  refine Or.inr ⟨g,0,fun i=>(L.map ES.q).getD i ⟨none,0,none,0⟩,rfl,Nat.lt_of_lt_of_le e l,fun i hi=> ?_,fun i hi=> ?_⟩
  {rw[List.length_map] at hi;have d: ∀k,k < 5->W'.cell? ⟨g,i * 5+k,none⟩=(cS (L[i]'hi))[k]? :=fun k hk=>((f g n e).1 _).trans (o i hi k hk);show Sh5 W' g (0+i * 5) _ ((L.map ES.q).getD i ⟨none,0,none,0⟩);rw[a i hi,Nat.zero_add,List.getElem_map];exact ⟨d 0 (by omega),d 1 (by omega),d 2 (by omega),d 3 (by omega),d 4 (by omega)⟩}
  {rw[List.length_map] at hi;show ShAt W' W'.heap.size ((L.map ES.q).getD i ⟨none,0,none,0⟩) _;rw[a i hi,List.getElem_map];have j:=p _ (List.getElem_mem hi);exact j.1.at_ W' l (fun b k1 k2=>f b (by omega) (Nat.lt_of_lt_of_le k2 j.1.hi_))}}
theorem Z67 {W:World} {B:Nat} {k:Int} {o n:List UInt8} {AN:Option Addr} {cn:Nat} {ns:List (List UInt8)} {AP:Option Addr} {cp:Nat} {L:List ES} (a:Row W B 9 1 cN AN cn ns) (b:Row W B 43 5 cS AP cp L)
 (p: ∀x∈L,x.Is W/\B<=x.lo) (q: ∀n∈ns,n.length<=1000000) (s:o.length<=1000000) (r:n.length<=1000000) (j:ns.length<=1000000) (l:L.length<=1000000):
 (⟨⟨k,o,n,ns,L.map ES.t⟩,⟨AN,cn,AP,cp⟩,B,W.heap.size⟩:ES).Is W:=by
 refine ⟨Nat.le_refl _,fun W' hz hs=> ?_⟩;have m:Shp.Sh.names ⟨k,o,n,ns,L.map ES.t⟩=ns:=rfl;have S:Small ⟨k,o,n,ns,L.map ES.t⟩ ⟨AN,cn,AP,cp⟩:=⟨by simp only; omega,by simp only; omega,fun x hx=>by have:=q x hx; omega,by simp only; omega,by simp only[List.length_map]; omega,a.cap.1,by simp only[List.length_map]; exact b.cap.1,a.cap.2,b.cap.2⟩;rcases b.shs p hz hs with c | ⟨g,off,rs,d,e,f,h⟩
 {exact .mk _ _ 0 0 (fun _=>⟨none,0,none,0⟩) S (a.strs hz hs) (Or.inl c) (fun i hi=>absurd hi (by simp only; omega)) (fun i hi=>absurd hi (by simp only; omega))}
 {exact .mk _ _ g off rs S (a.strs hz hs) (Or.inr ⟨d,e⟩) f h}
theorem Z32 (W:World) (k:Int) {o n:List UInt8} (b:o.length<=1000000) (a:n.length<=1000000): (⟨⟨k,o,n,[],[]⟩,⟨none,0,none,0⟩,W.heap.size,W.heap.size⟩:ES).Is W:=
 Z67 (L:= []) (Row.start _ _ _ _ _) (Row.start _ _ _ _ _) (by simp) (by simp) b a (by simp) (by simp)
end
section
open Go.RowKit Tms
open Shp (Sh)
open Pso (St Ok Goes betw loop want)
open Prs (sign)
theorem end5 {w W:World} {bp:Nat} {A:Option Addr} {c:Nat} {l:List Tk} {τ:St} {x:ES} (j:PAt W bp A c l τ) (a:UpT [bp] w W) (n:x.Is W) {rb:Nat} (m:w.heap.size<=rb) (b:rb < x.lo\/x.hi<=rb) (k:bp < w.heap.size) (d e f g i:Value):
 PAt (((((W.setCell ⟨rb,0,none⟩ d).setCell ⟨rb,1,none⟩ e).setCell ⟨rb,2,none⟩ f).setCell ⟨rb,3,none⟩ g).setCell ⟨rb,4,none⟩ i) bp A c l τ/\
 UpT [bp] w (((((W.setCell ⟨rb,0,none⟩ d).setCell ⟨rb,1,none⟩ e).setCell ⟨rb,2,none⟩ f).setCell ⟨rb,3,none⟩ g).setCell ⟨rb,4,none⟩ i)/\
 x.Is (((((W.setCell ⟨rb,0,none⟩ d).setCell ⟨rb,1,none⟩ e).setCell ⟨rb,2,none⟩ f).setCell ⟨rb,3,none⟩ g).setCell ⟨rb,4,none⟩ i):=by
 have h:bp < rb:=by omega
 have u:UpT [rb] W (((((W.setCell ⟨rb,0,none⟩ d).setCell ⟨rb,1,none⟩ e).setCell ⟨rb,2,none⟩ f).setCell ⟨rb,3,none⟩ g).setCell ⟨rb,4,none⟩ i):=
  (((((UpT.refl _ _).set _ (Or.inr (by simp)) _).set _ (Or.inr (by simp)) _).set _ (Or.inr (by simp)) _).set _ (Or.inr (by simp)) _).set _ (Or.inr (by simp)) _
 refine ⟨j.keep u (by simp; exact h),⟨u.os.trans a.os,u.tape.trans a.tape,u.output.trans a.output,Nat.le_trans a.size u.size,fun y h1 h2=> ?_⟩,New.up n u (by simp; exact b)⟩;rw[u.block y (Nat.lt_of_lt_of_le h1 a.size) (by simp; omega)];exact a.block y h1 h2
theorem Z6B (n:List UInt8) (k:n.length<=1000000) (w:World):
 Y9 103 #[.string ⟨n.toArray⟩] w (.agg #[.int .i64 (Prs.upper [] n).kind,.string ⟨(Prs.upper [] n).of_.toArray⟩,.string ⟨(Prs.upper [] n).name.toArray⟩,.slice none 0 0,.slice none 0 0]):=by
 have f:=Y1 (Z01 w (.cells Yb 43));have e:Hid (Prs.upper [] n=if n= [73,110,116] then ⟨1,[],[],[],[]⟩ else if n= [66,111,111,108] then ⟨2,[],[],[],[]⟩ else if n= [84,101,120,116] then ⟨3,[],[],[],[]⟩ else if n= [65,110,121] then ⟨4,[],[],[],[]⟩ else ⟨9,[],n,[],[]⟩):=Y1 (by unfold Prs.upper; simp);rw[e.out];clear e;by_cases a:n= [73,110,116]
 {subst a;simp only[if_true];go_enter Tryz.func103,Tryz.ntmps103;go_wp2;refine bodyPost_ret (v:= .agg #[.int .i64 1,.string ⟨#[]⟩,.string ⟨#[]⟩,.slice none 0 0,.slice none 0 0]) (by simp[results,Tryz.results103,go_sem]) rfl ?_;exact ⟨rfl,Z01 _ _⟩}
 {rw[if_neg a];have g: (n== [73,110,116])=false:=by simpa using a
  by_cases b:n= [66,111,111,108]
  {subst b;simp only[if_true];go_enter Tryz.func103,Tryz.ntmps103;go_wp2;refine bodyPost_ret (v:= .agg #[.int .i64 2,.string ⟨#[]⟩,.string ⟨#[]⟩,.slice none 0 0,.slice none 0 0]) (by simp[results,Tryz.results103,go_sem]) rfl ?_;exact ⟨rfl,Z01 _ _⟩}
  {rw[if_neg b];have h: (n== [66,111,111,108])=false:=by simpa using b
   by_cases c:n= [84,101,120,116]
   {subst c;simp only[if_true];go_enter Tryz.func103,Tryz.ntmps103;go_wp2;refine bodyPost_ret (v:= .agg #[.int .i64 3,.string ⟨#[]⟩,.string ⟨#[]⟩,.slice none 0 0,.slice none 0 0]) (by simp[results,Tryz.results103,go_sem]) rfl ?_;exact ⟨rfl,Z01 _ _⟩}
   {rw[if_neg c];have i: (n== [84,101,120,116])=false:=by simpa using c
    by_cases d:n= [65,110,121]
    {subst d;simp only[if_true];go_enter Tryz.func103,Tryz.ntmps103;go_wp2;refine bodyPost_ret (v:= .agg #[.int .i64 4,.string ⟨#[]⟩,.string ⟨#[]⟩,.slice none 0 0,.slice none 0 0]) (by simp[results,Tryz.results103,go_sem]) rfl ?_;exact ⟨rfl,Z01 _ _⟩}
    {rw[if_neg d];have j: (n== [65,110,121])=false:=by simpa using d
     clear a b c d;go_enter Tryz.func103,Tryz.ntmps103;go_wp2;refine bodyPost_ret (v:= .agg #[.int .i64 9,.string ⟨#[]⟩,.string ⟨n.toArray⟩,.slice none 0 0,.slice none 0 0]) (by simp[results,Tryz.results103,go_sem]) rfl ?_;exact ⟨rfl,Z01 _ _⟩}}}}
theorem res5 {w W0 W:World} {bp rb:Nat} {d e g h i:Value} (n:Below w.heap.size w W0) (m: (W0.cell? ⟨rb,0,none⟩=some d/\W0.cell? ⟨rb,1,none⟩=some e/\W0.cell? ⟨rb,2,none⟩=some g/\W0.cell? ⟨rb,3,none⟩=some h/\W0.cell? ⟨rb,4,none⟩=some i/\(∀j,W0.frozen? ⟨rb,j,none⟩=false)/\rb < W0.heap.size)) (o:rb=w.heap.size) (c:UpT [bp] W0 W) (l:bp < w.heap.size):
 W.cell? ⟨rb,0,none⟩=some d/\W.cell? ⟨rb,1,none⟩=some e/\W.cell? ⟨rb,2,none⟩=some g/\W.cell? ⟨rb,3,none⟩=some h/\W.cell? ⟨rb,4,none⟩=some i/\W.frozen? ⟨rb,0,none⟩=false/\W.frozen? ⟨rb,1,none⟩=false/\W.frozen? ⟨rb,2,none⟩=false/\W.frozen? ⟨rb,3,none⟩=false/\W.frozen? ⟨rb,4,none⟩=false/\rb < W.heap.size:=by
 obtain ⟨k,c1,c2,c3,c4,f,b⟩:=m;have a:=c.same b (by simp; omega);exact ⟨(a.1 0).trans k,(a.1 1).trans c1,(a.1 2).trans c2,(a.1 3).trans c3,(a.1 4).trans c4,(a.2 0).trans (f 0),(a.2 1).trans (f 1),(a.2 2).trans (f 2),(a.2 3).trans (f 3),(a.2 4).trans (f 4),Nat.lt_of_lt_of_le b c.size⟩
theorem Z0t (w:World) (a b c d e:Value) (t:TypeId): ((w.alloc (.cells #[a,b,c,d,e] t)).cell? ⟨w.heap.size,0,none⟩=some a/\(w.alloc (.cells #[a,b,c,d,e] t)).cell? ⟨w.heap.size,1,none⟩=some b/\(w.alloc (.cells #[a,b,c,d,e] t)).cell? ⟨w.heap.size,2,none⟩=some c/\
 (w.alloc (.cells #[a,b,c,d,e] t)).cell? ⟨w.heap.size,3,none⟩=some d/\(w.alloc (.cells #[a,b,c,d,e] t)).cell? ⟨w.heap.size,4,none⟩=some e/\(∀j,(w.alloc (.cells #[a,b,c,d,e] t)).frozen? ⟨w.heap.size,j,none⟩=false)/\w.heap.size < (w.alloc (.cells #[a,b,c,d,e] t)).heap.size):=by
 refine ⟨?_, ?_, ?_, ?_, ?_,fun j=> ?_, ?_⟩ <;> simp[go_sem]
theorem Z68 (bp:Nat) (A:Option Addr) (c:Nat) (l:List Tk) (σ:St) (hl:l.length<=5000) (Q:Ok l σ) (u: ∀b∈l,b.t.text.length<=1000000) (w:World) (h:PAt w bp A c l σ):
 Calls Tryz.prog 102 #[.pointer (some ⟨bp,0,none⟩)] w (TyIs bp A c l (Pso.othersT l σ) w):=by
 have M:Hid (Pso.othersT l σ=(⟨9,(Pso.name l σ).1,(Pso.upperN l (want l (Pso.name l σ).2 [47])).1,[],[]⟩,(Pso.upperN l (want l (Pso.name l σ).2 [47])).2)):=Y1 rfl;rw[M.out];have hb0:=Z01 w (.cells Yb 43);have z:=Y1 (Z1a bp A c l σ (by omega) Q.1 u _ (h.below hb0));have I:=Pso.to_name Q;have N:=Pso.to_want I.1 [47];have i:=Z0q u σ 1 (by decide) Lex.isName;have j:=Z0q u (want l (Pso.name l σ).2 [47]) 2 (by decide) Lex.isUpper;have H:=Y1 (fun (w:World) (h:PAt w bp A c l (Pso.name l σ).2)=>Z0d bp A c l (Pso.name l σ).2 [47] (by omega) I.1.1 w h);have a:=Y1 (fun (w:World) (h:PAt w bp A c l (want l (Pso.name l σ).2 [47]))=>Z2B bp A c l (want l (Pso.name l σ).2 [47]) (by omega) N.1.1 u w h);change (Pso.name l σ).1.length<=1000000 at i;change (Pso.upperN l (want l (Pso.name l σ).2 [47])).1.length<=1000000 at j;have q:=h.lt;have k:=Y1 hb0;obtain ⟨y,P⟩: ∃y,y=Pso.upperN l (want l (Pso.name l σ).2 [47]):=⟨_,rfl⟩;rw[<-P] at a j ⊢;obtain ⟨x,O⟩: ∃x,x=Pso.name l σ:=⟨_,rfl⟩;rw[<-O] at z H a i ⊢;clear M h I N hb0 O P;go_enter Tryz.func102,Tryz.ntmps102
 go_wp2_with fail
 refine z.out.mono ?_;rintro e T ⟨rfl,r,d⟩;have m:=Y1 r;have D:=Y1 d;have o:=Y1 ((Z05 (F:= [bp]) k.out).trans d);have U:w.heap.size+1<=T.heap.size:=by have:=d.size; simpa using this
 clear r d z
 go_wp2_with fail
 refine (H.out T m.out).mono ?_;rintro e w2 ⟨S,rfl,s,f⟩;have n:=Y1 s;have E:=Y1 (D.out.trans f);have p:=Y1 (o.out.trans f);have V:=f.size;clear s f H o m
 go_wp2_with fail
 refine (a.out w2 n.out).mono ?_;rintro e L ⟨rfl,t,g⟩;have B:=Y1 t;have G:=Y1 (E.out.trans g);have C:=Y1 (p.out.trans g);have W:=g.size;obtain ⟨X,Y,Z,r3,r4,g0,g1,g2,g3,g4,K⟩:=res5 k.out (Z0t w _ _ _ _ _ _) rfl G.out q;clear t g a p n;go_wp2;refine bodyPost_ret (v:=valS ⟨⟨9,x.1,y.1,[],[]⟩,⟨none,0,none,0⟩,L.heap.size,L.heap.size⟩) (by simp[results,Tryz.results102,go_sem,valS,X,Y,Z,r3,r4,K]) rfl ?_;have J:=end5 B.out C.out (Z32 L 9 i j) (rb:=w.heap.size) (Nat.le_refl _) (Or.inl (by simp only; omega)) q;refine ⟨_,rfl,(J _ _ _ _ _).1,(J _ _ _ _ _).2.1,(J _ _ _ _ _).2.2,by simp only; omega,rfl⟩
theorem Row.one {W:World} {B:Nat} (x:ES) (a:B<=W.heap.size):Row (W.alloc (.cells (Y8 x.t x.q) 43)) B 43 5 cS (some ⟨W.heap.size,0,none⟩) 1 [x]:=by
 have:=World.ownsRow_lit (base:=B) (e:=43) (size:=5) W (Y8 x.t x.q) 1 a (by decide) rfl;exact this
theorem Z7t (bp:Nat) (A:Option Addr) (c:Nat) (l:List Tk) (m:Nat) (σ:St) (hl:l.length<=5000) (hσ:Ok l σ) (hT:TyC bp A c l m) (hm:l.length - σ.1 < m) (w:World) (h:PAt w bp A c l σ):
 Calls Tryz.prog 99 #[.pointer (some ⟨bp,0,none⟩)] w (TyIs bp A c l (Pso.listT l (Pso.anyT l m) σ) w):=by
 have Z:Hid (Pso.listT l (Pso.anyT l m) σ=(⟨5,[],[],[],[(Pso.anyT l m σ).1]⟩,want l (Pso.anyT l m σ).2 [93])):=Y1 rfl;rw[Z.out];have hb0:=Z01 w (.cells Yb 43);have N:=Y1 (hT _ σ hσ hm (h.below hb0));have h1:=Pso.to_anyT m σ hσ;have Q:=Y1 (fun (w:World) (h:PAt w bp A c l (Pso.anyT l m σ).2) (b:Nat) (hb:b=w.heap.size)=>Z0d bp A c l (Pso.anyT l m σ).2 [93] (by omega) h1.1.1 w h hb);have D:=h.lt;have t:=Y1 hb0;obtain ⟨y,hy⟩: ∃y,y=Pso.anyT l m σ:=⟨_,rfl⟩;rw[<-hy] at N Q ⊢;clear Z h h1 hb0 hy hT;go_enter Tryz.func99,Tryz.ntmps99
 go_wp2_with fail
 refine N.out.mono ?_;rintro e r ⟨x,rfl,H,q,hx,E,M⟩;have i:=Y1 (H.alloc (.cells (Y8 x.t x.q) 43));have b3:w.heap.size+1<=r.heap.size:=by have:=q.size; simpa using this
 have G:w.heap.size+1<=x.lo:=by simpa using E
 have j:=Y1 (q.alloc (.cells (Y8 x.t x.q) 43));have p:=Y1 (show x.Is _ from New.below hx (Z01 r (.cells (Y8 x.t x.q) 43)));have g:=Y1 (Z0t r (.int .i64 x.t.kind) (.string ⟨x.t.of_.toArray⟩) (.string ⟨x.t.name.toArray⟩) (.slice x.q.A x.t.names.length x.q.c) (.slice x.q.P x.t.parts.length x.q.d) 43);have T:=Y1 M;clear H q hx E M N;simp only[valS]
 go_wp2_with fail
 have C:=Y1 (show r.heap.size+1=(r.alloc (.cells (Y8 x.t x.q) 43)).heap.size by simp);generalize r.alloc (.cells (Y8 x.t x.q) 43)=W1 at i j p g C ⊢;refine (Q.out W1 i.out _ C.out).mono ?_;rintro e d ⟨a7,rfl,I,a⟩;have O:=Y1 I;have u:=Y1 (j.out.trans a);have P:=Y1 ((Z05 (F:= [bp]) t.out).trans u.out);have X:=a.size;have S:=Y1 (show x.Is d from New.up p.out a (by simp; omega));obtain ⟨r0,r1,r2,r3,r4,g0,g1,g2,g3,g4,V⟩:=res5 t.out (Z0t w _ _ _ _ _ _) rfl u.out D;obtain ⟨c0,c1,c2,c3,c4,cf,U⟩:=g.out;have s:=a.same U (by simp; omega);have x0:=(s.1 0).trans c0;have x1:=(s.1 1).trans c1;have x2:=(s.1 2).trans c2;have x3:=(s.1 3).trans c3;have x4:=(s.1 4).trans c4;have xl:r.heap.size < d.heap.size:=Nat.lt_of_lt_of_le U X;clear I a Q s c0 c1 c2 c3 c4 cf U i j p g;go_wp2;have hE:=end5 O.out P.out S.out (rb:=w.heap.size) (Nat.le_refl _) (Or.inl (by omega)) D (.int .i64 5) (.string ⟨#[]⟩) (.string ⟨#[]⟩) (.slice none 0 0) (.slice (some ⟨d.heap.size,0,none⟩) 1 1);refine bodyPost_ret (v:=valS ⟨⟨5,[],[],[],[x.t]⟩,⟨none,0,some ⟨d.heap.size,0,none⟩,1⟩,w.heap.size+1,d.heap.size+1⟩) (by simp[results,Tryz.results99,go_sem,valS,r0,r1,r2,r3,r4,V]) rfl ?_;generalize hW: ((((d.setCell ⟨w.heap.size,0,none⟩ (.int .i64 5)).setCell ⟨w.heap.size,1,none⟩ (.string ⟨#[]⟩)).setCell ⟨w.heap.size,2,none⟩ (.string ⟨#[]⟩)).setCell ⟨w.heap.size,3,none⟩ (.slice none 0 0)).setCell ⟨w.heap.size,4,none⟩ (.slice (some ⟨d.heap.size,0,none⟩) 1 1)=Wp at hE ⊢;have K:Wp.heap.size=d.heap.size:=by rw[<-hW]; simp[World.setCell]
 obtain ⟨e1,e2,e3⟩:=hE;have J:=Row.one (W:=Wp) (B:=w.heap.size+1) x (by omega);have L: (Wp.alloc (.cells (Y8 x.t x.q) 43)).heap.size=d.heap.size+1:=by simp[K]
 have f:=Z67 (k:=5) (o:= []) (n:= []) (Row.start _ _ _ _ _) J (fun z hz=>by
  have Y:z=x:=by simpa using hz
  rw[Y];exact ⟨New.below e3 (Z01 _ _),G⟩) (by simp) (by simp) (by simp) (by simp) (by simp)
 rw[K,L] at f;exact ⟨_,rfl,e1.alloc _,e2.alloc _,f,by simp only; omega,by rw[<-T.out]⟩
def clW (w:World) (bp:Nat) (k:Int):World:=((w.alloc (.cells #[.pointer (some ⟨bp,0,none⟩)] 59)).alloc (.cells Yb 43)).alloc (.cells #[.int .i64 k,.string ⟨#[]⟩,.string ⟨#[]⟩,.slice none 0 0,.slice none 0 0] 43)
theorem Z49 (w:World) (bp:Nat) (k:Int): (clW w bp k).heap.size=w.heap.size+3:=by simp[clW]
theorem Z3k (w:World) (bp:Nat) (k:Int):Below w.heap.size w (clW w bp k):=Z03 (Z03 (Z01 _ _) _) _
section
variable {w : World} {bp : Nat} (k : Int) (h : bp < w.heap.size)
include w bp k h
theorem Z55:PBox (clW w bp k) w.heap.size bp (w.heap.size+2):=by
 refine ⟨?_,by rw[Z49]; omega,by omega,by omega⟩;simp[clW,go_sem]
theorem ZcT:JS (clW w bp k) bp (w.heap.size+2) k none 0 [] none 0 [] (clW w bp k):=by
 have e:w.heap.size+2=((w.alloc (.cells #[.pointer (some ⟨bp,0,none⟩)] 59)).alloc (.cells Yb 43)).heap.size:=by simp
 refine ⟨UpT.refl _ _,by rw[Z49]; omega,by omega, ?_, ?_, ?_, ?_, ?_,fun j=> ?_,Row.start _ _ _ _ _,Row.start _ _ _ _ _,Or.inl rfl,by simp,by simp,by simp⟩
 all_goals
  rw[e];simp[clW,go_sem]
end
theorem Zay (w:World) (bp:Nat) (k:Int): (clW w bp k).cell? ⟨w.heap.size+1,0,none⟩=some (.int .i64 0)/\(clW w bp k).cell? ⟨w.heap.size+1,1,none⟩=some (.string ⟨#[]⟩)/\(clW w bp k).cell? ⟨w.heap.size+1,2,none⟩=some (.string ⟨#[]⟩)/\(clW w bp k).cell? ⟨w.heap.size+1,3,none⟩=some (.slice none 0 0)/\(clW w bp k).cell? ⟨w.heap.size+1,4,none⟩=some (.slice none 0 0)/\(∀j,(clW w bp k).frozen? ⟨w.heap.size+1,j,none⟩=false):=by
 refine ⟨?_, ?_, ?_, ?_, ?_,fun j=> ?_⟩ <;> simp[clW,go_sem]
theorem UpT.drop {w W1 W:World} {bp b:Nat} (h:UpT [bp,b] W1 W) (a:Below w.heap.size w W1) (c:w.heap.size<=b):UpT [bp] w W:=
 ⟨h.os.trans a.os,h.tape.trans a.tape,h.output.trans a.output,Nat.le_trans a.size h.size,fun k hk hn=>(h.block k (Nat.lt_of_lt_of_le hk a.size) (by simp at hn ⊢; omega)).trans (a.block k hk)⟩
theorem Z3l (bp:Nat) (A:Option Addr) (c:Nat) (l:List Tk) (m:Nat) (σ:St) (k:Int) (o s e:List UInt8) (X:l.length<=5000) (ht: ∀b∈l,b.t.text.length<=1000000) (hσ:Ok l σ) (K:TyC bp A c l m) (M:l.length - (want l σ o).1 < m) (w:World) (h:PAt w bp A c l σ):
 Calls Tryz.prog 100 #[.pointer (some ⟨bp,0,none⟩),.int .i64 k,.string ⟨o.toArray⟩,.string ⟨s.toArray⟩,.string ⟨e.toArray⟩] w (TyIs bp A c l (Pso.fieldsT l (Pso.anyT l m) σ k o s e) w):=by
 have J:Hid (Pso.fieldsT l (Pso.anyT l m) σ k o s e=(⟨k,[],[],(betw l o s e (Pso.fieldsR l (Pso.anyT l m)) σ ([],[])).2.1,(betw l o s e (Pso.fieldsR l (Pso.anyT l m)) σ ([],[])).2.2⟩,(betw l o s e (Pso.fieldsR l (Pso.anyT l m)) σ ([],[])).1)):=Y1 rfl;rw[J.out];have g:=h.lt;have D:=Y1 (Z15 bp A c l o s e 135 (enters_of Tryz.func135 (by kernel_rfl) rfl) (.pointer (some ⟨w.heap.size+2,0,none⟩)) (.pointer (some ⟨w.heap.size,0,none⟩)) (JF (clW w bp k) bp (w.heap.size+2) k) (Pso.fieldsR l (Pso.anyT l m)) m (by omega) (Pso.goes_fields (Pso.to_anyT m)) (fun r W W' a h hu=>h.keep hu)
  (Zbk bp A c l m X ht K (clW w bp k) w.heap.size (w.heap.size+2) k (Z55 k g)) σ ([],[]) (clW w bp k) hσ M (h.below (Z3k w bp k)) ⟨none,0,none,0,[],ZcT k g,rfl,by simp,by simp⟩)
 obtain ⟨y,P⟩: ∃y,y=betw l o s e (Pso.fieldsR l (Pso.anyT l m)) σ ([],[]):=⟨_,rfl⟩;rw[<-P] at D ⊢;have j:=Y1 (Z3k w bp k);have p:=Y1 (Zay w bp k);have q:=Y1 (Z49 w bp k);have F:=Y1 (Z55 k g).c;clear J h P K M;go_enter Tryz.func100,Tryz.ntmps100
 go_wp2_with fail
 change Calls _ _ _ (clW w bp k) _;generalize clW w bp k=W1 at D j p q F ⊢;refine D.out.mono ?_;rintro e1 I ⟨rfl,C,r,N,AN,cn,AP,cp,L,f,O,z,B⟩;have E:=Y1 C;have u:=Y1 f;have V:=Y1 O;have t:=Y1 (And.intro N (And.intro z B));have c0:=f.c0;have c1:=f.c1;have c2:=f.c2;have c3:=f.c3;have c4:=f.c4;have a2:=f.up.size;have a1:=q.out;have Z:w.heap.size+2 < I.heap.size:=by omega
 have d:=f.up.same (b:=w.heap.size+1) (by omega) (by simp; omega);obtain ⟨Q,q1,S,T,U,i⟩:=p.out;have r0:=(d.1 0).trans Q;have r1:=(d.1 1).trans q1;have r2:=(d.1 2).trans S;have r3:=(d.1 3).trans T;have r4:=(d.1 4).trans U;have g0:=(d.2 0).trans (i 0);have g1:=(d.2 1).trans (i 1);have g2:=(d.2 2).trans (i 2);have g3:=(d.2 3).trans (i 3);have g4:=(d.2 4).trans (i 4);have H:w.heap.size+1 < I.heap.size:=by omega
 clear C f O z B N d Q q1 S T U i D;go_wp2;refine bodyPost_ret (v:=valS ⟨⟨k,[],[],y.2.1,L.map ES.t⟩,⟨AN,cn,AP,cp⟩,W1.heap.size,I.heap.size⟩) (by simp[results,Tryz.results100,go_sem,valS,r0,r1,r2,r3,r4,H]) rfl ?_;have Y:=Z67 (k:=k) (o:= []) (n:= []) u.out.rN u.out.rP u.out.is u.out.sm (by simp) (by simp) (by have:=t.out; omega) (by have:=t.out; omega);have G:=end5 E.out (UpT.drop u.out.up j.out (by omega)) Y (rb:=w.heap.size+1) (by omega) (Or.inl (by simp only; omega)) g;exact ⟨_,rfl,(G _ _ _ _ _).1,(G _ _ _ _ _).2.1,(G _ _ _ _ _).2.2,by simp only; omega,by rw[V.out]⟩
theorem Zaz {α:Type} {l:List Tk} {o s e:List UInt8} {f:St->α->St×α} (d:Goes l f) {σ:St} (a:α) (h:Ok l σ): (want l σ o).1<=(betw l o s e f σ a).1.1:=by
 unfold betw;have g:=Pso.to_want h o;simp only;split
 {exact Nat.le_succ _}
 {have b:=d _ a g.1;have c:=Pso.to_loop (s:=s) d (l.length+1) _ (f (want l σ o) a).2 b.1;exact ((b.trans c).trans (Pso.to_want c.1 e)).2.1}
theorem Z8s (bp:Nat) (A:Option Addr) (c:Nat) (l:List Tk) (m:Nat) (σ:St) (hl:l.length<=5000) (hσ:Ok l σ) (Z:TyC bp A c l m) (hm:l.length - (want l σ [40]).1 < m) (w:World) (h:PAt w bp A c l σ):
 Calls Tryz.prog 101 #[.pointer (some ⟨bp,0,none⟩)] w (TyIs bp A c l (Pso.funT l (Pso.anyT l m) σ) w):=by
 have HF:Hid (Pso.funT l (Pso.anyT l m) σ=(⟨8,[],[],[],(betw l [40] [44] [41] (Pso.partsR l (Pso.anyT l m)) σ []).2++ [(Pso.anyT l m (want l (betw l [40] [44] [41] (Pso.partsR l (Pso.anyT l m)) σ []).1 [45,62])).1]⟩,(Pso.anyT l m (want l (betw l [40] [44] [41] (Pso.partsR l (Pso.anyT l m)) σ []).1 [45,62])).2)):=Y1 rfl;rw[HF.out];have z:=h.lt;have U:=Y1 (Z15 bp A c l [40] [44] [41] 136 (enters_of Tryz.func136 (by kernel_rfl) rfl) (.pointer (some ⟨w.heap.size+2,0,none⟩)) (.pointer (some ⟨w.heap.size,0,none⟩)) (JP (clW w bp 8) bp (w.heap.size+2) 8) (Pso.partsR l (Pso.anyT l m)) m (by omega) (Pso.goes_parts (Pso.to_anyT m)) (fun r W W' a h hu=>h.keep hu)
  (ZcS bp A c l m hl Z (clW w bp 8) w.heap.size (w.heap.size+2) 8 (Z55 8 z)) σ [] (clW w bp 8) hσ hm (h.below (Z3k w bp 8)) ⟨none,0,[],ZcT 8 z,rfl,by simp⟩)
 have j:=Pso.to_betw (o:= [40]) (s:= [44]) (e:= [41]) (Pso.goes_parts (Pso.to_anyT m)) [] hσ;have K: (want l σ [40]).1<=(betw l [40] [44] [41] (Pso.partsR l (Pso.anyT l m)) σ []).1.1:=Zaz (Pso.goes_parts (Pso.to_anyT m)) [] hσ;obtain ⟨y,hy⟩: ∃y,y=betw l [40] [44] [41] (Pso.partsR l (Pso.anyT l m)) σ []:=⟨_,rfl⟩;rw[<-hy] at U j K ⊢;have f:=Pso.to_want j.1 [45,62];have b8:=Y1 j.1;have a5:=Y1 f;have HW:=Y1 (fun (w:World) (h:PAt w bp A c l y.1)=>Z0d bp A c l y.1 [45,62] (by omega) j.1.1 w h);have HT:=Y1 (fun (W:World) (h:PAt W bp A c l (want l y.1 [45,62]))=>Z W _ f.1 (by have:=f.2.1; omega) h);have E:=Y1 (Z3k w bp 8);have F:=Y1 (Zay w bp 8);have G:=Y1 (Z49 w bp 8);have q:=Y1 (Z55 8 z);clear HF h hy Z hm j f K;go_enter Tryz.func101,Tryz.ntmps101
 go_wp2_with fail
 change Calls _ _ _ (clW w bp 8) _;generalize clW w bp 8=W1 at U E F G q ⊢;refine U.out.mono ?_;rintro e1 w2 ⟨rfl,P,r,hr,AP,cp,L,g,hs,O⟩;have I:=Y1 P;have B:=Y1 g;have HX:=Y1 hs;have H:=Y1 (And.intro hr O);obtain ⟨a0,M⟩:=q.out.on g.up;clear P g hs O hr U
 go_wp2_with fail
 refine (HW.out w2 I.out).mono ?_;rintro e1 w3 ⟨T,rfl,Q,S⟩;have J:=Y1 Q;have t:=Y1 (B.out.keep S);clear Q S B I a0 M HW;obtain ⟨a1,N⟩:=q.out.on t.out.up
 go_wp2_with fail
 refine regS _ 15 3 1 43 4 72 (JS.ctx W1 bp (w.heap.size+2) AP cp L w3 A c l (Pso.anyT l m (want l y.1 [45,62])).2 (fun x=>x.t=(Pso.anyT l m (want l y.1 [45,62])).1)) (t.out.good (by have:=H.out; omega)) w.heap.size a1 N q.out.ne
  (fun u=> { tmps:=#[.pointer (some ⟨bp,0,none⟩),.pointer (some ⟨w.heap.size,0,none⟩),.pointer (some ⟨w.heap.size+1,0,none⟩),.pointer (some ⟨w.heap.size+1+1,0,none⟩),.agg #[.int .i64 8,.string ⟨#[]⟩,.string ⟨#[]⟩,.slice none 0 0,.slice none 0 0],.pointer (some ⟨bp,0,none⟩),.pointer (some ⟨bp,0,none⟩),.pointer (some ⟨bp,0,none⟩),.func (.func 136) #[] #[.pointer (some ⟨w.heap.size+1+1,0,none⟩),.pointer (some ⟨w.heap.size,0,none⟩)],.tuple #[],.pointer (some ⟨bp,0,none⟩),.pointer (some ⟨bp,0,none⟩),.pointer (some ⟨bp,0,none⟩),.slice (some ⟨w2.heap.size,0,none⟩) 1 1,.string T,u 0,u 1,u 2,u 3,u 4,u 5,u 6,u 7,u 9,undef],defers:= [] }) (fun _=>undef)
  ⟨fun i o h u v=>by
   rcases i with _ | _ | _ | _ | _ | _ | _ | _ | _ | _ | _ | i
   all_goals first | (cases h; rfl) | exact absurd h (by simp[opsS]),fun _=>rfl,fun _=>rfl,fun _=>rfl,fun _=>rfl,fun _=>rfl,fun _=>rfl,fun _=>rfl,fun _=>rfl,fun _=>rfl,fun _=>rfl,fun _=>rfl⟩
  (fun W=>by go_simp; rfl) (enters_of Tryz.func72 (by kernel_rfl) rfl) (fun W hW=>HT.out W (J.out.below hW)) (fun u w4 x g' cp' p=> ?_)
 have hx:x.t=(Pso.anyT l m (want l y.1 [45,62])).1:=p.r;have C:PAt w4 bp A c l (Pso.anyT l m (want l y.1 [45,62])).2:=p.par;have g:=t.out.part p;have V:=Y1 C;have B:=Y1 g;have X:=Y1 hx;have c0:=g.c0;have c1:=g.c1;have c2:=g.c2;have c3:=g.c3;have c4:=g.c4;have d3:=g.up.size;have d2:=G.out;have d1:w.heap.size+2 < w4.heap.size:=by omega
 have d:=g.up.same (b:=w.heap.size+1) (by omega) (by simp; omega);obtain ⟨q0,q1,q2,q3,q4,D⟩:=F.out;have r0:=(d.1 0).trans q0;have r1:=(d.1 1).trans q1;have r2:=(d.1 2).trans q2;have r3:=(d.1 3).trans q3;have r4:=(d.1 4).trans q4;have g0:=(d.2 0).trans (D 0);have g1:=(d.2 1).trans (D 1);have g2:=(d.2 2).trans (D 2);have g3:=(d.2 3).trans (D 3);have g4:=(d.2 4).trans (D 4);have a2:w.heap.size+1 < w4.heap.size:=by omega
 clear p hx C g d q0 q1 q2 q3 q4 D t J;go_wp2;refine bodyPost_ret (v:=valS ⟨⟨8,[],[],[],(L++ [x]).map ES.t⟩,⟨none,0,some ⟨g',0,none⟩,cp'⟩,W1.heap.size,w4.heap.size⟩) (by simp[results,Tryz.results101,go_sem,valS,r0,r1,r2,r3,r4,a2]) rfl ?_;have hn:=Z67 (k:=8) (o:= []) (n:= []) B.out.rN B.out.rP B.out.is B.out.sm (by simp) (by simp) (by simp) (by have:=H.out; simp; omega);have Y:=end5 V.out (UpT.drop B.out.up E.out (by omega)) hn (rb:=w.heap.size+1) (by omega) (Or.inl (by simp only; omega)) z;exact ⟨_,rfl,(Y _ _ _ _ _).1,(Y _ _ _ _ _).2.1,(Y _ _ _ _ _).2.2,by simp only; omega,by rw[HX.out, <-X.out,List.map_append]; rfl⟩
end
end Go.Proofs.YtkncdbaoaeeoiaaGreatDoor
