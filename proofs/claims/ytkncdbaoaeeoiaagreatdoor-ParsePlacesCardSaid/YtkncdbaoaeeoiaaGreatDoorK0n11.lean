/- What the proofs of ParsePlaces want, part 11. -/
import Derived.Test.YtkncdbaoaeeoiaaGreatDoorK0n10
set_option linter.unusedVariables false
set_option linter.unusedSimpArgs false
set_option linter.unusedSectionVars false
set_option maxRecDepth 100000
set_option maxHeartbeats 16000000
namespace Go.Proofs.YtkncdbaoaeeoiaaGreatDoor
open Go.RowKit Tms
open Shp (Sh)
open Pso (St Ok Goes betw loop want)
open Prs (sign)
structure JS (W1:World) (bp ob:Nat) (k:Int) (AN:Option Addr) (cn:Nat) (ns:List (List UInt8)) (AP:Option Addr) (cp:Nat) (L:List ES) (W:World):Prop where
 up:UpT [bp,ob] W1 W
 lt:ob < W1.heap.size
 bpob:bp < ob
 c0:W.cell? ⟨ob,0,none⟩=some (.int .i64 k)
 c1:W.cell? ⟨ob,1,none⟩=some (.string ⟨#[]⟩)
 c2:W.cell? ⟨ob,2,none⟩=some (.string ⟨#[]⟩)
 c3:W.cell? ⟨ob,3,none⟩=some (.slice AN ns.length cn)
 c4:W.cell? ⟨ob,4,none⟩=some (.slice AP L.length cp)
 fz: ∀j,W.frozen? ⟨ob,j,none⟩=false
 rN:Row W W1.heap.size 9 1 cN AN cn ns
 rP:Row W W1.heap.size 43 5 cS AP cp L
 ne:rowT AN=none\/rowT AN≠rowT AP
 is: ∀x∈L,x.Is W/\W1.heap.size<=x.lo
 far: ∀x∈L,∀b,rowT AN=some b\/rowT AP=some b->b < x.lo\/x.hi<=b
 sm: ∀n∈ns,n.length<=1000000
section
variable {W1 W W' : World} {bp ob : Nat} {k : Int} {AN AP : Option Addr} {cn cp : Nat} {ns : List (List UInt8)} {L : List ES}
section
variable (h : JS W1 bp ob k AN cn ns AP cp L W)
include h
theorem JS.keep (hu:UpT [bp] W W'):JS W1 bp ob k AN cn ns AP cp L W':=by
 have hz:=h.up.size;have hlt:=h.lt;have hbo:=h.bpob;have ho:=hu.same (b:=ob) (by omega) (by simp; omega);refine ⟨h.up.trans (hu.mono (fun x hx _=>by simp at hx; simp[hx])),hlt,hbo,(ho.1 0).trans h.c0,(ho.1 1).trans h.c1,(ho.1 2).trans h.c2,(ho.1 3).trans h.c3,(ho.1 4).trans h.c4,fun j=>(ho.2 j).trans (h.fz j),
  h.rN.up hu (fun x hx=>by simp at hx; subst hx; intro e; have:=h.rN.lt _ e; omega),h.rP.up hu (fun x hx=>by simp at hx; subst hx; intro e; have:=h.rP.lt _ e; omega),h.ne,fun x hx=>⟨New.up (h.is x hx).1 hu (by simp; have:=(h.is x hx).2; omega),(h.is x hx).2⟩,h.far,h.sm⟩
theorem JS.goodN {A:Option Addr} {c fnN:Nat} {l:List Tk} {τ:St} {Q:EN->Prop} (hl:ns.length<=900000): (⟨W,bp,A,c,l,τ,ob,3,W1.heap.size,AN,cn,enOf ns,Q,fnN⟩:PtxA).Good:=
 ⟨by rw[Z0S]; exact h.c3,h.fz 3,Nat.lt_of_lt_of_le h.lt h.up.size,h.bpob,Z8r h.rN,h.lt,Nat.lt_trans h.bpob h.lt,h.up.size,by rw[Z0S]; exact hl⟩
end
theorem JS.named {A:Option Addr} {c g cn' fnN:Nat} {l:List Tk} {τ:St} {Q:EN->Prop} {u:Nat->Value} {x:EN} (h:JS W1 bp ob k AN cn ns AP cp L W) (hx:x.t.length<=1000000) (p: (⟨W,bp,A,c,l,τ,ob,3,W1.heap.size,AN,cn,enOf ns,Q,fnN⟩:PtxA).Post (fun _=>true) u W' x g cn'):JS W1 bp ob k (some ⟨g,0,none⟩) cn' (ns++ [x.t]) AP cp L W':=by
 have hz:=h.up.size;have hlt:=h.lt;have hbo:=h.bpob;have hAN: ∀b,rowT AN=some b->W1.heap.size<=b/\b < W.heap.size:=fun b hb=>h.rN.lt b hb;have hAP: ∀b,rowT AP=some b->W1.heap.size<=b/\b < W.heap.size:=fun b hb=>h.rP.lt b hb;have hu:UpT (bp::ob::(rowT AN).toList) W W':=p.up;have hnew:rowT AN=some g\/W.heap.size<=g:=p.new;have hrest: ∀j,j≠3->W'.cell? ⟨ob,j,none⟩=W.cell? ⟨ob,j,none⟩:=p.rest;have hc3:W'.cell? ⟨ob,3,none⟩=some (.slice (some ⟨g,0,none⟩) (ns.length+1) cn'):=by have:=p.cell; simpa[Z0S] using this
 have hfz: ∀j,W'.frozen? ⟨ob,j,none⟩=W.frozen? ⟨ob,j,none⟩:=p.fz;have hrow:Row W' W1.heap.size 9 1 cN (some ⟨g,0,none⟩) cn' (ns++ [x.t]):=by
  have h1:=p.row;unfold Row;rw[List.length_append,List.flatMap_append, <-Z54];simp only[Z0S] at h1;have h2:cNN x=cN x.t:=rfl;rw[h2] at h1;simpa using h1
 have hmem: ∀y,y∈bp::ob::(rowT AN).toList->y=bp\/y=ob\/rowT AN=some y:=fun y hy=>by simpa using hy
 refine ⟨⟨hu.os.trans h.up.os,hu.tape.trans h.up.tape,hu.output.trans h.up.output,Nat.le_trans h.up.size hu.size,fun y h1 h2=> ?_⟩,hlt,hbo,(hrest 0 (by omega)).trans h.c0,(hrest 1 (by omega)).trans h.c1,(hrest 2 (by omega)).trans h.c2, ?_,(hrest 4 (by omega)).trans h.c4,fun j=>(hfz j).trans (h.fz j),hrow, ?_,Or.inr ?_,fun y hy=>⟨New.up (h.is y hy).1 hu (fun b hb=> ?_),(h.is y hy).2⟩,fun y hy b hb=> ?_,fun n hn=> ?_⟩
 {rw[hu.block y (by omega) (fun hy=> ?_)]
  {exact h.up.block y h1 h2}
  {simp at h2;rcases hmem _ hy with e | e | e
   {exact h2.1 e}
   {exact h2.2 e}
   {have:=hAN _ e; omega}}}
 {rw[List.length_append]; exact hc3}
 {refine h.rP.up hu (fun y hy e=> ?_);have h1:=hAP _ e;rcases hmem _ hy with e2 | e2 | e2
  {omega}
  {omega}
  {rcases h.ne with h3 | h3
   {rw[h3] at e2; cases e2}
   {exact h3 (e2.trans e.symm)}}}
 {intro e;have e2:rowT AP=some g:=e.symm;rcases hnew with h1 | h1
  {rcases h.ne with h3 | h3
   {rw[h3] at h1; cases h1}
   {exact h3 (h1.trans e2.symm)}}
  {have:=hAP _ e2; omega}}
 {have h1:=h.is y hy;rcases hmem _ hb with e | e | e
  {omega}
  {omega}
  {exact h.far y hy b (Or.inl e)}}
 {rcases hb with e | e
  {have e2:g=b:=Option.some.inj e;rcases hnew with h1 | h1
   {exact h.far y hy b (Or.inl (e2▸h1))}
   {right; have:=(h.is y hy).1.hi_; omega}}
  {exact h.far y hy b (Or.inr e)}}
 {rcases List.mem_append.1 hn with hn | hn
  {exact h.sm n hn}
  {have e:n=x.t:=by simpa using hn
   rw[e]; exact hx}}
def JS.ctx (W1:World) (bp ob:Nat) (AP:Option Addr) (cp:Nat) (L:List ES) (W:World) (A:Option Addr) (c:Nat) (l:List Tk) (τ:St) (R:ES->Prop):CtxS:=⟨W,bp,A,c,l,τ,ob,4,W1.heap.size,AP,cp,L,R⟩
theorem JS.good (h:JS W1 bp ob k AN cn ns AP cp L W) {A:Option Addr} {c:Nat} {l:List Tk} {τ:St} {R:ES->Prop} (hl:L.length<=900000): (JS.ctx W1 bp ob AP cp L W A c l τ R).Good:=
 ⟨h.c4,h.fz 4,Nat.lt_of_lt_of_le h.lt h.up.size,h.bpob,h.rP,h.lt,Nat.lt_trans h.bpob h.lt,h.up.size,hl⟩
theorem JS.part {A:Option Addr} {c g cp':Nat} {l:List Tk} {τ:St} {R:ES->Prop} {u:Nat->Value} {x:ES} (h:JS W1 bp ob k AN cn ns AP cp L W) (p: (JS.ctx W1 bp ob AP cp L W A c l τ R).PostX (fun _=>true) u W' x g cp'):JS W1 bp ob k AN cn ns (some ⟨g,0,none⟩) cp' (L++ [x]) W':=by
 have hz:=h.up.size;have hlt:=h.lt;have hbo:=h.bpob;have hAN: ∀b,rowT AN=some b->W1.heap.size<=b/\b < W.heap.size:=fun b hb=>h.rN.lt b hb;have hAP: ∀b,rowT AP=some b->W1.heap.size<=b/\b < W.heap.size:=fun b hb=>h.rP.lt b hb;have hu:UpT (bp::ob::(rowT AP).toList) W W':=p.up;have hnew:rowT AP=some g\/W.heap.size<=g:=p.new;have hlo:W.heap.size<=x.lo:=p.lo;have hrest: ∀j,j≠4->W'.cell? ⟨ob,j,none⟩=W.cell? ⟨ob,j,none⟩:=p.rest;have hc4:W'.cell? ⟨ob,4,none⟩=some (.slice (some ⟨g,0,none⟩) (L.length+1) cp'):=by have:=p.cell; simpa[JS.ctx] using this
 have hfz: ∀j,W'.frozen? ⟨ob,j,none⟩=W.frozen? ⟨ob,j,none⟩:=p.fz;have hrow:W'.ownsRow W1.heap.size 43 5 (.slice (some ⟨g,0,none⟩) (L.length+1) cp') (L.length+1) (L.flatMap cS++cS x):=by have:=p.row; simpa[JS.ctx] using this
 have hmem: ∀y,y∈bp::ob::(rowT AP).toList->y=bp\/y=ob\/rowT AP=some y:=fun y hy=>by simpa using hy
 refine ⟨⟨hu.os.trans h.up.os,hu.tape.trans h.up.tape,hu.output.trans h.up.output,Nat.le_trans h.up.size hu.size,fun y h1 h2=> ?_⟩,hlt,hbo,(hrest 0 (by omega)).trans h.c0,(hrest 1 (by omega)).trans h.c1,(hrest 2 (by omega)).trans h.c2,(hrest 3 (by omega)).trans h.c3, ?_,fun j=>(hfz j).trans (h.fz j), ?_, ?_, ?_,fun y hy=> ?_,fun y hy b hb=> ?_,h.sm⟩
 {rw[hu.block y (by omega) (fun hy=> ?_)]
  {exact h.up.block y h1 h2}
  {simp at h2;rcases hmem _ hy with e | e | e
   {exact h2.1 e}
   {exact h2.2 e}
   {have:=hAP _ e; omega}}}
 {rw[List.length_append]; exact hc4}
 {refine h.rN.up hu (fun y hy e=> ?_);have h1:=hAN _ e;rcases hmem _ hy with e2 | e2 | e2
  {omega}
  {omega}
  {rcases h.ne with h3 | h3
   {rw[h3] at e; cases e}
   {exact h3 (e.trans e2.symm)}}}
 {unfold Row; rw[List.length_append,List.flatMap_append]; simpa using hrow}
 {rcases h.ne with h3 | h3
  {exact Or.inl h3}
  {refine Or.inr (fun e=> ?_);have e2:rowT AN=some g:=e;rcases hnew with h1 | h1
   {exact h3 (e2.trans h1.symm)}
   {have:=hAN _ e2; omega}}}
 {rcases List.mem_append.1 hy with hy | hy
  {refine ⟨New.up (h.is y hy).1 hu (fun b hb=> ?_),(h.is y hy).2⟩;have h1:=h.is y hy;rcases hmem _ hb with e | e | e
   {omega}
   {omega}
   {exact h.far y hy b (Or.inr e)}}
  {obtain rfl:y=x:=by simpa using hy
   exact ⟨p.is,by omega⟩}}
 {have hbg:rowT (some (⟨g,0,none⟩:Addr))=some b->g=b:=fun e=>Option.some.inj e;rcases List.mem_append.1 hy with hy | hy
  {rcases hb with e | e
   {exact h.far y hy b (Or.inl e)}
   {obtain rfl:=hbg e;rcases hnew with h1 | h1
    {exact h.far y hy g (Or.inr h1)}
    {right; have:=(h.is y hy).1.hi_; omega}}}
  {obtain rfl:y=x:=by simpa using hy
   rcases hb with e | e
   {left; have:=hAN _ e; omega}
   {obtain rfl:=hbg e; exact p.far}}}
end
end Go.Proofs.YtkncdbaoaeeoiaaGreatDoor
namespace Go.Proofs.YtkncdbaoaeeoiaaGreatDoor
section
open Go.RowKit Tms
open Shp (Sh)
open Pso (St Ok Goes betw loop want)
open Prs (sign)
def TyIs (bp:Nat) (A:Option Addr) (c:Nat) (l:List Tk) (r:Sh×St) (W:World) (e:Ending) (W':World):Prop:=
 ∃x:ES,e= .returned (valS x)/\PAt W' bp A c l r.2/\UpT [bp] W W'/\x.Is W'/\W.heap.size<=x.lo/\x.t=r.1
def TyC (bp:Nat) (A:Option Addr) (c:Nat) (l:List Tk) (m:Nat):Prop:= ∀(W:World) (τ:St),Ok l τ->l.length - τ.1 < m->PAt W bp A c l τ->
 Calls Tryz.prog 72 #[.pointer (some ⟨bp,0,none⟩)] W (TyIs bp A c l (Pso.anyT l m τ) W)
structure PBox (W1:World) (pb bp ob:Nat):Prop where
 c:W1.cell? ⟨pb,0,none⟩=some (.pointer (some ⟨bp,0,none⟩))
 lt:pb < W1.heap.size
 ne:pb≠bp
 no:pb≠ob
theorem PBox.on {W1 W:World} {pb bp ob:Nat} (h:PBox W1 pb bp ob) (hu:UpT [bp,ob] W1 W):W.cell? ⟨pb,0,none⟩=some (.pointer (some ⟨bp,0,none⟩))/\pb < W.heap.size:=
 ⟨((hu.same h.lt (by simp[h.ne,h.no])).1 _).trans h.c,Nat.lt_of_lt_of_le h.lt hu.size⟩
theorem Z0q {l:List Tk} (ht: ∀b∈l,b.t.text.length<=1000000) (σ:St) (k:Int) (hk:k≠0) (ok:List UInt8->Bool): (Pso.textOf l σ k ok).1.length<=1000000:=by
 unfold Pso.textOf;split
 {next h=>
  simp only[Bool.and_eq_true,decide_eq_true_eq] at h;have h1:=Pso.kind_lt (l:=l) (i:=σ.1) (by rw[h.1]; exact hk);simp only;rw[Prs.look_in h1]; exact ht _ (List.getElem_mem _)}
 {simp}
def JF (W1:World) (bp ob:Nat) (k:Int) (r:Nat) (W:World) (a:List (List UInt8)×List Sh):Prop:=
 ∃AN cn AP cp L,JS W1 bp ob k AN cn a.1 AP cp L W/\a.2=L.map ES.t/\a.1.length<=r/\L.length<=r
theorem JF.keep {W1 W W':World} {bp ob r:Nat} {k:Int} {a:List (List UInt8)×List Sh} (h:JF W1 bp ob k r W a) (hu:UpT [bp] W W'):JF W1 bp ob k r W' a:=by
 obtain ⟨AN,cn,AP,cp,L,h1,h2⟩:=h;exact ⟨AN,cn,AP,cp,L,h1.keep hu,h2⟩
theorem Zbk (bp:Nat) (A:Option Addr) (c:Nat) (l:List Tk) (m:Nat) (hl:l.length<=5000) (ht: ∀b∈l,b.t.text.length<=1000000) (hT:TyC bp A c l m) (W1:World) (pb ob:Nat) (k:Int) (hpb:PBox W1 pb bp ob):
 Reads bp A c l 135 (.pointer (some ⟨ob,0,none⟩)) (.pointer (some ⟨pb,0,none⟩)) (JF W1 bp ob k) (Pso.fieldsR l (Pso.anyT l m)) m:=by
 intro r w τ a hr hτ hm hP hJ;obtain ⟨ns,ss⟩:=a;obtain ⟨AN,cn,AP,cp,L,hS,hs,hn1,hn2⟩:=hJ;simp only at hS hs hn1;have HF:Hid (Pso.fieldsR l (Pso.anyT l m) τ (ns,ss)=((Pso.anyT l m (want l (Pso.another l τ ns).2 [58])).2,(ns++ [(Pso.name l τ).1],ss++ [(Pso.anyT l m (want l (Pso.another l τ ns).2 [58])).1]))):=Y1 rfl;rw[HF.out];have HA:=Y1 (fun (W:World) (hW:Below w.heap.size w W)=>Z2b bp A c l τ W1.heap.size AN cn ns (by omega) hτ.1 ht (by omega) W (hP.below hW) (hS.rN.below hW) (Nat.lt_trans hS.bpob hS.lt));have hnl:=Z0q ht τ 1 (by decide) Lex.isName;change (Pso.name l τ).1.length<=1000000 at hnl;have hτ1:=Pso.to_another hτ ns;obtain ⟨z,hz⟩: ∃z,z=(Pso.another l τ ns).2:=⟨_,rfl⟩;obtain ⟨nm,hnm⟩: ∃nm,nm=(Pso.name l τ).1:=⟨_,rfl⟩;rw[<-hz, <-hnm] at HA ⊢;rw[<-hnm] at hnl;rw[<-hz] at hτ1;have hτ2:=Pso.to_want hτ1.1 [58];obtain ⟨hc,hlt⟩:=hpb.on hS.up;have HS:=Y1 hS;have HT1:=Y1 hτ1;have HT2:=Y1 hτ2;have HT:=Y1 hT;have HPB:=Y1 hpb;have HX:=Y1 (And.intro hs (And.intro hn1 hn2));have HM:=Y1 hm;have HNL:=Y1 hnl;clear HF hP hS hτ1 hτ2 hT hz hnm hpb hs hn1 hn2 hτ hm hnl;go_enter Tryz.func135,Tryz.ntmps135
 go_wp2_with fail
 refine prgA _ 2 0 1 43 3 91 ⟨w,bp,A,c,l,z,ob,3,W1.heap.size,AN,cn,enOf ns,(fun x=>x.t=nm),92⟩ (HS.out.goodN (by have:=HX.out.2.1; omega)) pb hc hlt HPB.out.ne
  (fun u=> { tmps:=#[.pointer (some ⟨ob,0,none⟩),.pointer (some ⟨pb,0,none⟩),u 0,u 1,u 2,u 3,u 4,u 5,u 6,u 7,u 8,u 9,u 10,u 11,u 12,u 13,u 14,undef,undef,undef,undef,undef,undef,undef,undef,undef,undef,undef,undef,undef,undef],defers:= [] }) (fun _=>undef)
  ⟨fun i o h u v=>by
   rcases i with _ | _ | _ | _ | _ | _ | _ | _ | _ | _ | _ | _ | _ | _ | _ | _ | i
   all_goals first | (cases h; rfl) | exact absurd h (by simp[plnA]),fun _=>rfl,fun _=>rfl,fun _=>rfl,fun _=>rfl,fun _=>rfl,fun _=>rfl,fun _=>rfl,fun _=>rfl,fun _=>rfl,fun _=>rfl,fun _=>rfl,fun _=>rfl,fun _=>rfl,fun _=>rfl,fun _=>rfl,fun _=>rfl,fun _=>rfl⟩
  (fun W=>by go_simp <;> rfl) (enters_of Tryz.func91 (by kernel_rfl) rfl) (fun W hW=>by
   show Calls Tryz.prog _ #[.pointer (some ⟨bp,0,none⟩),.slice AN (enOf ns).length cn,.func (.func 92) #[.pointer (some ⟨bp,0,none⟩)] #[]] W _;rw[Z0S];exact (HA.out W hW).mono (fun e W' h=>⟨⟨nm,W'.heap.size,W'.heap.size⟩,h.1,h.2.1,h.2.2,⟨Nat.le_refl _,fun _ _ _=>trivial⟩,h.2.2.size,rfl⟩)) (fun u w1 x g cn' p=> ?_)
 have hx:x.t=nm:=p.r;have HS1:=Y1 (HS.out.named (by rw[hx]; exact HNL.out) p);have HP1:=Y1 (show PAt w1 bp A c l z from p.par);rw[hx] at HS1;clear p hx HS HA hc hlt;obtain ⟨hc1,hlt1⟩:=HPB.out.on HS1.out.up
 go_wp2_with fail
 refine (Z0d bp A c l z [58] (by omega) HT1.out.1.1 w1 HP1.out).mono ?_;rintro e w2 ⟨v2,rfl,hp2,hu2⟩;have HP2:=Y1 hp2;have HS2:=Y1 (HS1.out.keep hu2);clear hp2 hu2 HP1 HS1 hc1 hlt1;obtain ⟨hc2,hlt2⟩:=HPB.out.on HS2.out.up
 go_wp2_with fail
 refine regS _ 22 0 1 43 4 72 (JS.ctx W1 bp ob AP cp L w2 A c l (Pso.anyT l m (want l z [58])).2 (fun x=>x.t=(Pso.anyT l m (want l z [58])).1)) (HS2.out.good (by have:=HX.out.2.2; omega)) pb hc2 hlt2 HPB.out.ne
  (fun w0=> { tmps:=#[.pointer (some ⟨ob,0,none⟩),.pointer (some ⟨pb,0,none⟩),u 0,u 1,u 2,u 3,u 4,u 5,u 6,u 7,u 8,u 9,u 10,u 11,u 12,u 13,u 14,.pointer (some ⟨bp,0,none⟩),.pointer (some ⟨bp,0,none⟩),.pointer (some ⟨bp,0,none⟩),.slice (some ⟨w1.heap.size,0,none⟩) 1 1,.string v2,w0 0,w0 1,w0 2,w0 3,w0 4,w0 5,w0 6,w0 7,w0 9],defers:= [] }) (fun _=>undef)
  ⟨fun i o h u v=>by
   rcases i with _ | _ | _ | _ | _ | _ | _ | _ | _ | _ | _ | i
   all_goals first | (cases h; rfl) | exact absurd h (by simp[opsS]),fun _=>rfl,fun _=>rfl,fun _=>rfl,fun _=>rfl,fun _=>rfl,fun _=>rfl,fun _=>rfl,fun _=>rfl,fun _=>rfl,fun _=>rfl,fun _=>rfl⟩
  (fun W=>by go_simp; rfl) (enters_of Tryz.func72 (by kernel_rfl) rfl) (fun W hW=>HT.out W _ HT2.out.1 (by have:=HT1.out.2.1; have:=HT2.out.2.1; have:=HM.out; omega) (HP2.out.below hW)) (fun w0 W y g' cp' p=> ?_)
 have hy:y.t=(Pso.anyT l m (want l z [58])).1:=p.r;have hpar:PAt W bp A c l (Pso.anyT l m (want l z [58])).2:=p.par
 go_end0
 refine ⟨rfl,hpar,_,_,_,_,_,HS2.out.part p, ?_, ?_, ?_⟩
 {rw[List.map_append, <-HX.out.1, <-hy]; rfl}
 {have:=HX.out.2.1; rw[List.length_append]; simp; omega}
 {have:=HX.out.2.2; rw[List.length_append]; simp; omega}
def JP (W1:World) (bp ob:Nat) (k:Int) (r:Nat) (W:World) (a:List Sh):Prop:=
 ∃AP cp L,JS W1 bp ob k none 0 [] AP cp L W/\a=L.map ES.t/\L.length<=r
theorem JP.keep {W1 W W':World} {bp ob r:Nat} {k:Int} {a:List Sh} (h:JP W1 bp ob k r W a) (hu:UpT [bp] W W'):JP W1 bp ob k r W' a:=by
 obtain ⟨AP,cp,L,h1,h2⟩:=h;exact ⟨AP,cp,L,h1.keep hu,h2⟩
theorem ZcS (bp:Nat) (A:Option Addr) (c:Nat) (l:List Tk) (m:Nat) (hl:l.length<=5000) (hT:TyC bp A c l m) (W1:World) (pb ob:Nat) (k:Int) (hpb:PBox W1 pb bp ob):
 Reads bp A c l 136 (.pointer (some ⟨ob,0,none⟩)) (.pointer (some ⟨pb,0,none⟩)) (JP W1 bp ob k) (Pso.partsR l (Pso.anyT l m)) m:=by
 intro r w τ a hr hτ hm hP hJ;obtain ⟨AP,cp,L,hS,hs,hn2⟩:=hJ;have HF:Hid (Pso.partsR l (Pso.anyT l m) τ a=((Pso.anyT l m τ).2,a++ [(Pso.anyT l m τ).1])):=Y1 rfl;rw[HF.out];obtain ⟨hc2,hlt2⟩:=hpb.on hS.up;have HS2:=Y1 hS;have HT:=Y1 hT;have HPB:=Y1 hpb;have HX:=Y1 (And.intro hs hn2);have HM:=Y1 hm;have HP2:=Y1 hP;have HO:=Y1 hτ;clear HF hP hT hpb hs hn2 hτ hm hS;go_enter Tryz.func136,Tryz.ntmps136;refine regS _ 2 0 1 43 4 72 (JS.ctx W1 bp ob AP cp L w A c l (Pso.anyT l m τ).2 (fun x=>x.t=(Pso.anyT l m τ).1)) (HS2.out.good (by have:=HX.out.2; omega)) pb hc2 hlt2 HPB.out.ne
  (fun u=> { tmps:=#[.pointer (some ⟨ob,0,none⟩),.pointer (some ⟨pb,0,none⟩),u 0,u 1,u 2,u 3,u 4,u 5,u 6,u 7,u 9],defers:= [] }) (fun _=>undef)
  ⟨fun i o h u v=>by
   rcases i with _ | _ | _ | _ | _ | _ | _ | _ | _ | _ | _ | i
   all_goals first | (cases h; rfl) | exact absurd h (by simp[opsS]),fun _=>rfl,fun _=>rfl,fun _=>rfl,fun _=>rfl,fun _=>rfl,fun _=>rfl,fun _=>rfl,fun _=>rfl,fun _=>rfl,fun _=>rfl,fun _=>rfl⟩
  (fun W=>by go_simp; rfl) (enters_of Tryz.func72 (by kernel_rfl) rfl) (fun W hW=>HT.out W _ HO.out HM.out (HP2.out.below hW)) (fun u W x g' cp' p=> ?_)
 have hx:x.t=(Pso.anyT l m τ).1:=p.r;have hpar:PAt W bp A c l (Pso.anyT l m τ).2:=p.par
 go_end0
 refine ⟨rfl,hpar,_,_,_,HS2.out.part p, ?_, ?_⟩
 {rw[List.map_append, <-HX.out.1, <-hx]; rfl}
 {have:=HX.out.2; rw[List.length_append]; simp; omega}
end
section
open Go.RowKit Shp
theorem Z2j (l:List (List UInt8)): (strs l).length=l.length:=by simp[strs]
structure TxR (W:World) (g:Nat) (ts:List (List UInt8)):Prop where
 lt:g < W.heap.size
 at_: ∀j (h:j < ts.length),W.cell? ⟨g,j,none⟩=some (.string ⟨(ts[j]'h).toArray⟩)
 fz: ∀o,W.frozen? ⟨g,o,none⟩=false
theorem TxR.keep {W W':World} {g B:Nat} {ts:List (List UInt8)} (h:TxR W g ts) (hg:g < B) (hb:Below B W W'):TxR W' g ts:=
 ⟨Nat.lt_of_lt_of_le h.lt hb.size,fun j hj=>(hb.cell (p:=⟨g,j,none⟩) hg).trans (h.at_ j hj),fun o=>(hb.frozen (p:=⟨g,o,none⟩) hg).trans (h.fz o)⟩
theorem TxR.next {W W':World} {g:Nat} {ts:List (List UInt8)} (h:TxR W g ts) (hb:Below W.heap.size W W'):TxR W' g ts:=h.keep h.lt hb
end
section
open Go.RowKit Tms
open Shp (Sh)
theorem Row.strs {W W':World} {B:Nat} {A:Option Addr} {c:Nat} {l:List (List UInt8)} (h:Row W B 9 1 cN A c l) (hz:W.heap.size<=W'.heap.size) (hs: ∀b,B<=b->b < W.heap.size->SameT W W' b):Strs W' W'.heap.size A (strs l):=by
 rcases h.names with h0 | ⟨g,rfl,h1,h2,h3⟩
 {exact Or.inl (by rw[Z2j]; exact h0)}
 {refine Or.inr ⟨g,0,rfl,Nat.lt_of_lt_of_le h2 hz,fun i hi=> ?_⟩;rw[Z2j] at hi;rw[Nat.zero_add,(hs g h1 h2).1 i,h3 i hi];simp[_root_.Go.Proofs.YtkncdbaoaeeoiaaGreatDoor.strs]}
section
variable {α : Type} {W : World} {B : Nat} {e : TypeId} {m : Nat} {cf : α -> List Value} {A : Option Addr} {c : Nat} {l : List α} (h : Row W B e m cf A c l)
include α W B e m cf A c l h
theorem Row.cap:l.length<=c/\(A=none->c=0):=by
 rcases h.form with ⟨h1,h2,h3⟩ | ⟨g,h1,h2⟩
 {exact ⟨by omega,fun _=>h3⟩}
 {exact ⟨h2,fun h=>by rw[h1] at h; cases h⟩}
theorem Row.read (hm: ∀x,(cf x).length=m):l.length=0\/ ∃g,A=some ⟨g,0,none⟩/\B<=g/\g < W.heap.size/\ ∀i (hi:i < l.length) k,k < m->W.cell? ⟨g,i * m+k,none⟩=(cf (l[i]'hi))[k]? :=by
 rcases h.form with ⟨_,h0,_⟩ | ⟨g,rfl,_⟩
 {exact Or.inl h0}
 {refine Or.inr ⟨g,rfl,(h.lt g rfl).1,(h.lt g rfl).2,fun i hi k hk=> ?_⟩;have h1: (i+1) * m<=l.length * m:=Nat.mul_le_mul_right m hi;rw[Nat.add_mul] at h1;rw[World.ownsRow.cellAt h (i * m+k) (by omega)];exact Zav hm hi hk}
end
theorem Row.shs {W W':World} {B:Nat} {A:Option Addr} {c:Nat} {L:List ES} (h:Row W B 43 5 cS A c L) (is: ∀x∈L,x.Is W/\B<=x.lo) (hz:W.heap.size<=W'.heap.size) (hs: ∀b,B<=b->b < W.heap.size->SameT W W' b):
 (L.map ES.t).length=0\/ ∃(g off:Nat) (rs:Nat->Ptr),A=some ⟨g,off,none⟩/\g < W'.heap.size/\(∀i (h:i < (L.map ES.t).length),Sh5 W' g (off+i * 5) ((L.map ES.t)[i]'h) (rs i))/\ ∀i (h:i < (L.map ES.t).length),ShAt W' W'.heap.size (rs i) ((L.map ES.t)[i]'h):=by
 rcases h.read Z8m with h0 | ⟨g,rfl,h1,h2,h3⟩
 {exact Or.inl (by rw[List.length_map]; exact h0)}
 {have hget: ∀i (hi:i < L.length),(L.map ES.q).getD i ⟨none,0,none,0⟩=(L[i]'hi).q:=fun i hi=>by simp[hi]
  refine Or.inr ⟨g,0,fun i=>(L.map ES.q).getD i ⟨none,0,none,0⟩,rfl,Nat.lt_of_lt_of_le h2 hz,fun i hi=> ?_,fun i hi=> ?_⟩
  {rw[List.length_map] at hi;have hc: ∀k,k < 5->W'.cell? ⟨g,i * 5+k,none⟩=(cS (L[i]'hi))[k]? :=fun k hk=>((hs g h1 h2).1 _).trans (h3 i hi k hk);show Sh5 W' g (0+i * 5) _ ((L.map ES.q).getD i ⟨none,0,none,0⟩);rw[hget i hi,Nat.zero_add,List.getElem_map];exact ⟨hc 0 (by omega),hc 1 (by omega),hc 2 (by omega),hc 3 (by omega),hc 4 (by omega)⟩}
  {rw[List.length_map] at hi;show ShAt W' W'.heap.size ((L.map ES.q).getD i ⟨none,0,none,0⟩) _;rw[hget i hi,List.getElem_map];have hx:=is _ (List.getElem_mem hi);exact hx.1.at_ W' hz (fun b k1 k2=>hs b (by omega) (Nat.lt_of_lt_of_le k2 hx.1.hi_))}}
theorem Z67 {W:World} {B:Nat} {k:Int} {o n:List UInt8} {AN:Option Addr} {cn:Nat} {ns:List (List UInt8)} {AP:Option Addr} {cp:Nat} {L:List ES} (rN:Row W B 9 1 cN AN cn ns) (rP:Row W B 43 5 cS AP cp L)
 (is: ∀x∈L,x.Is W/\B<=x.lo) (sm: ∀n∈ns,n.length<=1000000) (ho:o.length<=1000000) (hn:n.length<=1000000) (hl1:ns.length<=1000000) (hl2:L.length<=1000000):
 (⟨⟨k,o,n,ns,L.map ES.t⟩,⟨AN,cn,AP,cp⟩,B,W.heap.size⟩:ES).Is W:=by
 refine ⟨Nat.le_refl _,fun W' hz hs=> ?_⟩;have hsm:Shp.Sh.names ⟨k,o,n,ns,L.map ES.t⟩=ns:=rfl;have S:Small ⟨k,o,n,ns,L.map ES.t⟩ ⟨AN,cn,AP,cp⟩:=⟨by simp only; omega,by simp only; omega,fun x hx=>by have:=sm x hx; omega,by simp only; omega,by simp only[List.length_map]; omega,rN.cap.1,by simp only[List.length_map]; exact rP.cap.1,rN.cap.2,rP.cap.2⟩;rcases rP.shs is hz hs with h0 | ⟨g,off,rs,h1,h2,h3,h4⟩
 {exact .mk _ _ 0 0 (fun _=>⟨none,0,none,0⟩) S (rN.strs hz hs) (Or.inl h0) (fun i hi=>absurd hi (by simp only; omega)) (fun i hi=>absurd hi (by simp only; omega))}
 {exact .mk _ _ g off rs S (rN.strs hz hs) (Or.inr ⟨h1,h2⟩) h3 h4}
theorem Z32 (W:World) (k:Int) {o n:List UInt8} (ho:o.length<=1000000) (hn:n.length<=1000000): (⟨⟨k,o,n,[],[]⟩,⟨none,0,none,0⟩,W.heap.size,W.heap.size⟩:ES).Is W:=
 Z67 (L:= []) (Row.start _ _ _ _ _) (Row.start _ _ _ _ _) (by simp) (by simp) ho hn (by simp) (by simp)
end
section
open Go.RowKit Tms
open Shp (Sh)
open Pso (St Ok Goes betw loop want)
open Prs (sign)
theorem end5 {w W:World} {bp:Nat} {A:Option Addr} {c:Nat} {l:List Tk} {τ:St} {x:ES} (hP:PAt W bp A c l τ) (hu:UpT [bp] w W) (hx:x.Is W) {rb:Nat} (hrb:w.heap.size<=rb) (hfar:rb < x.lo\/x.hi<=rb) (hbw:bp < w.heap.size) (v0 v1 v2 v3 v4:Value):
 PAt (((((W.setCell ⟨rb,0,none⟩ v0).setCell ⟨rb,1,none⟩ v1).setCell ⟨rb,2,none⟩ v2).setCell ⟨rb,3,none⟩ v3).setCell ⟨rb,4,none⟩ v4) bp A c l τ/\
 UpT [bp] w (((((W.setCell ⟨rb,0,none⟩ v0).setCell ⟨rb,1,none⟩ v1).setCell ⟨rb,2,none⟩ v2).setCell ⟨rb,3,none⟩ v3).setCell ⟨rb,4,none⟩ v4)/\
 x.Is (((((W.setCell ⟨rb,0,none⟩ v0).setCell ⟨rb,1,none⟩ v1).setCell ⟨rb,2,none⟩ v2).setCell ⟨rb,3,none⟩ v3).setCell ⟨rb,4,none⟩ v4):=by
 have h:bp < rb:=by omega
 have u:UpT [rb] W (((((W.setCell ⟨rb,0,none⟩ v0).setCell ⟨rb,1,none⟩ v1).setCell ⟨rb,2,none⟩ v2).setCell ⟨rb,3,none⟩ v3).setCell ⟨rb,4,none⟩ v4):=
  (((((UpT.refl _ _).set _ (Or.inr (by simp)) _).set _ (Or.inr (by simp)) _).set _ (Or.inr (by simp)) _).set _ (Or.inr (by simp)) _).set _ (Or.inr (by simp)) _
 refine ⟨hP.keep u (by simp; exact h),⟨u.os.trans hu.os,u.tape.trans hu.tape,u.output.trans hu.output,Nat.le_trans hu.size u.size,fun y h1 h2=> ?_⟩,New.up hx u (by simp; exact hfar)⟩;rw[u.block y (Nat.lt_of_lt_of_le h1 hu.size) (by simp; omega)];exact hu.block y h1 h2
theorem Z6B (n:List UInt8) (hn:n.length<=1000000) (w:World):
 Y9 103 #[.string ⟨n.toArray⟩] w (.agg #[.int .i64 (Prs.upper [] n).kind,.string ⟨(Prs.upper [] n).of_.toArray⟩,.string ⟨(Prs.upper [] n).name.toArray⟩,.slice none 0 0,.slice none 0 0]):=by
 have HB:=Y1 (Z01 w (.cells Yb 43));have HU:Hid (Prs.upper [] n=if n= [73,110,116] then ⟨1,[],[],[],[]⟩ else if n= [66,111,111,108] then ⟨2,[],[],[],[]⟩ else if n= [84,101,120,116] then ⟨3,[],[],[],[]⟩ else if n= [65,110,121] then ⟨4,[],[],[],[]⟩ else ⟨9,[],n,[],[]⟩):=Y1 (by unfold Prs.upper; simp);rw[HU.out];clear HU;by_cases h1:n= [73,110,116]
 {subst h1;simp only[if_true];go_enter Tryz.func103,Tryz.ntmps103;go_wp2;refine bodyPost_ret (v:= .agg #[.int .i64 1,.string ⟨#[]⟩,.string ⟨#[]⟩,.slice none 0 0,.slice none 0 0]) (by simp[results,Tryz.results103,go_sem]) rfl ?_;exact ⟨rfl,Z01 _ _⟩}
 {rw[if_neg h1];have e1: (n== [73,110,116])=false:=by simpa using h1
  by_cases h2:n= [66,111,111,108]
  {subst h2;simp only[if_true];go_enter Tryz.func103,Tryz.ntmps103;go_wp2;refine bodyPost_ret (v:= .agg #[.int .i64 2,.string ⟨#[]⟩,.string ⟨#[]⟩,.slice none 0 0,.slice none 0 0]) (by simp[results,Tryz.results103,go_sem]) rfl ?_;exact ⟨rfl,Z01 _ _⟩}
  {rw[if_neg h2];have e2: (n== [66,111,111,108])=false:=by simpa using h2
   by_cases h3:n= [84,101,120,116]
   {subst h3;simp only[if_true];go_enter Tryz.func103,Tryz.ntmps103;go_wp2;refine bodyPost_ret (v:= .agg #[.int .i64 3,.string ⟨#[]⟩,.string ⟨#[]⟩,.slice none 0 0,.slice none 0 0]) (by simp[results,Tryz.results103,go_sem]) rfl ?_;exact ⟨rfl,Z01 _ _⟩}
   {rw[if_neg h3];have e3: (n== [84,101,120,116])=false:=by simpa using h3
    by_cases h4:n= [65,110,121]
    {subst h4;simp only[if_true];go_enter Tryz.func103,Tryz.ntmps103;go_wp2;refine bodyPost_ret (v:= .agg #[.int .i64 4,.string ⟨#[]⟩,.string ⟨#[]⟩,.slice none 0 0,.slice none 0 0]) (by simp[results,Tryz.results103,go_sem]) rfl ?_;exact ⟨rfl,Z01 _ _⟩}
    {rw[if_neg h4];have e4: (n== [65,110,121])=false:=by simpa using h4
     clear h1 h2 h3 h4;go_enter Tryz.func103,Tryz.ntmps103;go_wp2;refine bodyPost_ret (v:= .agg #[.int .i64 9,.string ⟨#[]⟩,.string ⟨n.toArray⟩,.slice none 0 0,.slice none 0 0]) (by simp[results,Tryz.results103,go_sem]) rfl ?_;exact ⟨rfl,Z01 _ _⟩}}}}
theorem res5 {w W0 W:World} {bp rb:Nat} {v0 v1 v2 v3 v4:Value} (hb:Below w.heap.size w W0) (hc: (W0.cell? ⟨rb,0,none⟩=some v0/\W0.cell? ⟨rb,1,none⟩=some v1/\W0.cell? ⟨rb,2,none⟩=some v2/\W0.cell? ⟨rb,3,none⟩=some v3/\W0.cell? ⟨rb,4,none⟩=some v4/\(∀j,W0.frozen? ⟨rb,j,none⟩=false)/\rb < W0.heap.size)) (hr:rb=w.heap.size) (hu:UpT [bp] W0 W) (hbw:bp < w.heap.size):
 W.cell? ⟨rb,0,none⟩=some v0/\W.cell? ⟨rb,1,none⟩=some v1/\W.cell? ⟨rb,2,none⟩=some v2/\W.cell? ⟨rb,3,none⟩=some v3/\W.cell? ⟨rb,4,none⟩=some v4/\W.frozen? ⟨rb,0,none⟩=false/\W.frozen? ⟨rb,1,none⟩=false/\W.frozen? ⟨rb,2,none⟩=false/\W.frozen? ⟨rb,3,none⟩=false/\W.frozen? ⟨rb,4,none⟩=false/\rb < W.heap.size:=by
 obtain ⟨c0,c1,c2,c3,c4,f,hl⟩:=hc;have hs:=hu.same hl (by simp; omega);exact ⟨(hs.1 0).trans c0,(hs.1 1).trans c1,(hs.1 2).trans c2,(hs.1 3).trans c3,(hs.1 4).trans c4,(hs.2 0).trans (f 0),(hs.2 1).trans (f 1),(hs.2 2).trans (f 2),(hs.2 3).trans (f 3),(hs.2 4).trans (f 4),Nat.lt_of_lt_of_le hl hu.size⟩
theorem Z0t (w:World) (v0 v1 v2 v3 v4:Value) (t:TypeId): ((w.alloc (.cells #[v0,v1,v2,v3,v4] t)).cell? ⟨w.heap.size,0,none⟩=some v0/\(w.alloc (.cells #[v0,v1,v2,v3,v4] t)).cell? ⟨w.heap.size,1,none⟩=some v1/\(w.alloc (.cells #[v0,v1,v2,v3,v4] t)).cell? ⟨w.heap.size,2,none⟩=some v2/\
 (w.alloc (.cells #[v0,v1,v2,v3,v4] t)).cell? ⟨w.heap.size,3,none⟩=some v3/\(w.alloc (.cells #[v0,v1,v2,v3,v4] t)).cell? ⟨w.heap.size,4,none⟩=some v4/\(∀j,(w.alloc (.cells #[v0,v1,v2,v3,v4] t)).frozen? ⟨w.heap.size,j,none⟩=false)/\w.heap.size < (w.alloc (.cells #[v0,v1,v2,v3,v4] t)).heap.size):=by
 refine ⟨?_, ?_, ?_, ?_, ?_,fun j=> ?_, ?_⟩ <;> simp[go_sem]
theorem Z68 (bp:Nat) (A:Option Addr) (c:Nat) (l:List Tk) (σ:St) (hl:l.length<=5000) (hσ:Ok l σ) (ht: ∀b∈l,b.t.text.length<=1000000) (w:World) (h:PAt w bp A c l σ):
 Calls Tryz.prog 102 #[.pointer (some ⟨bp,0,none⟩)] w (TyIs bp A c l (Pso.othersT l σ) w):=by
 have HF:Hid (Pso.othersT l σ=(⟨9,(Pso.name l σ).1,(Pso.upperN l (want l (Pso.name l σ).2 [47])).1,[],[]⟩,(Pso.upperN l (want l (Pso.name l σ).2 [47])).2)):=Y1 rfl;rw[HF.out];have hb0:=Z01 w (.cells Yb 43);have HN:=Y1 (Z1a bp A c l σ (by omega) hσ.1 ht _ (h.below hb0));have h1:=Pso.to_name hσ;have h2:=Pso.to_want h1.1 [47];have hn1:=Z0q ht σ 1 (by decide) Lex.isName;have hn2:=Z0q ht (want l (Pso.name l σ).2 [47]) 2 (by decide) Lex.isUpper;have HW:=Y1 (fun (w:World) (h:PAt w bp A c l (Pso.name l σ).2)=>Z0d bp A c l (Pso.name l σ).2 [47] (by omega) h1.1.1 w h);have HUP:=Y1 (fun (w:World) (h:PAt w bp A c l (want l (Pso.name l σ).2 [47]))=>Z2B bp A c l (want l (Pso.name l σ).2 [47]) (by omega) h2.1.1 ht w h);change (Pso.name l σ).1.length<=1000000 at hn1;change (Pso.upperN l (want l (Pso.name l σ).2 [47])).1.length<=1000000 at hn2;have hbw:=h.lt;have HB0:=Y1 hb0;obtain ⟨y,hy⟩: ∃y,y=Pso.upperN l (want l (Pso.name l σ).2 [47]):=⟨_,rfl⟩;rw[<-hy] at HUP hn2 ⊢;obtain ⟨x,hx⟩: ∃x,x=Pso.name l σ:=⟨_,rfl⟩;rw[<-hx] at HN HW HUP hn1 ⊢;clear HF h h1 h2 hb0 hx hy;go_enter Tryz.func102,Tryz.ntmps102
 go_wp2_with fail
 refine HN.out.mono ?_;rintro e w1 ⟨rfl,hp1,hu1⟩;have HP1:=Y1 hp1;have HV1:=Y1 hu1;have HU1:=Y1 ((Z05 (F:= [bp]) HB0.out).trans hu1);have hz1:w.heap.size+1<=w1.heap.size:=by have:=hu1.size; simpa using this
 clear hp1 hu1 HN
 go_wp2_with fail
 refine (HW.out w1 HP1.out).mono ?_;rintro e w2 ⟨v_w2,rfl,hp2,hu2⟩;have HP2:=Y1 hp2;have HV2:=Y1 (HV1.out.trans hu2);have HU2:=Y1 (HU1.out.trans hu2);have hz2:=hu2.size;clear hp2 hu2 HW HU1 HP1
 go_wp2_with fail
 refine (HUP.out w2 HP2.out).mono ?_;rintro e w3 ⟨rfl,hp3,hu3⟩;have HP3:=Y1 hp3;have HV3:=Y1 (HV2.out.trans hu3);have HU3:=Y1 (HU2.out.trans hu3);have hz3:=hu3.size;obtain ⟨r0,r1,r2,r3,r4,g0,g1,g2,g3,g4,hrl⟩:=res5 HB0.out (Z0t w _ _ _ _ _ _) rfl HV3.out hbw;clear hp3 hu3 HUP HU2 HP2;go_wp2;refine bodyPost_ret (v:=valS ⟨⟨9,x.1,y.1,[],[]⟩,⟨none,0,none,0⟩,w3.heap.size,w3.heap.size⟩) (by simp[results,Tryz.results102,go_sem,valS,r0,r1,r2,r3,r4,hrl]) rfl ?_;have hE:=end5 HP3.out HU3.out (Z32 w3 9 hn1 hn2) (rb:=w.heap.size) (Nat.le_refl _) (Or.inl (by simp only; omega)) hbw;refine ⟨_,rfl,(hE _ _ _ _ _).1,(hE _ _ _ _ _).2.1,(hE _ _ _ _ _).2.2,by simp only; omega,rfl⟩
theorem Row.one {W:World} {B:Nat} (x:ES) (hB:B<=W.heap.size):Row (W.alloc (.cells (Y8 x.t x.q) 43)) B 43 5 cS (some ⟨W.heap.size,0,none⟩) 1 [x]:=by
 have:=World.ownsRow_lit (base:=B) (e:=43) (size:=5) W (Y8 x.t x.q) 1 hB (by decide) rfl;exact this
theorem Z7t (bp:Nat) (A:Option Addr) (c:Nat) (l:List Tk) (m:Nat) (σ:St) (hl:l.length<=5000) (hσ:Ok l σ) (hT:TyC bp A c l m) (hm:l.length - σ.1 < m) (w:World) (h:PAt w bp A c l σ):
 Calls Tryz.prog 99 #[.pointer (some ⟨bp,0,none⟩)] w (TyIs bp A c l (Pso.listT l (Pso.anyT l m) σ) w):=by
 have HF:Hid (Pso.listT l (Pso.anyT l m) σ=(⟨5,[],[],[],[(Pso.anyT l m σ).1]⟩,want l (Pso.anyT l m σ).2 [93])):=Y1 rfl;rw[HF.out];have hb0:=Z01 w (.cells Yb 43);have HN:=Y1 (hT _ σ hσ hm (h.below hb0));have h1:=Pso.to_anyT m σ hσ;have HW:=Y1 (fun (w:World) (h:PAt w bp A c l (Pso.anyT l m σ).2) (b:Nat) (hb:b=w.heap.size)=>Z0d bp A c l (Pso.anyT l m σ).2 [93] (by omega) h1.1.1 w h hb);have hbw:=h.lt;have HB0:=Y1 hb0;obtain ⟨y,hy⟩: ∃y,y=Pso.anyT l m σ:=⟨_,rfl⟩;rw[<-hy] at HN HW ⊢;clear HF h h1 hb0 hy hT;go_enter Tryz.func99,Tryz.ntmps99
 go_wp2_with fail
 refine HN.out.mono ?_;rintro e w1 ⟨x,rfl,hp1,hu1,hx,hlo,hxt⟩;have HP1:=Y1 (hp1.alloc (.cells (Y8 x.t x.q) 43));have hz1:w.heap.size+1<=w1.heap.size:=by have:=hu1.size; simpa using this
 have hlo1:w.heap.size+1<=x.lo:=by simpa using hlo
 have HV1:=Y1 (hu1.alloc (.cells (Y8 x.t x.q) 43));have HX1:=Y1 (show x.Is _ from New.below hx (Z01 w1 (.cells (Y8 x.t x.q) 43)));have HC1:=Y1 (Z0t w1 (.int .i64 x.t.kind) (.string ⟨x.t.of_.toArray⟩) (.string ⟨x.t.name.toArray⟩) (.slice x.q.A x.t.names.length x.q.c) (.slice x.q.P x.t.parts.length x.q.d) 43);have HXT:=Y1 hxt;clear hp1 hu1 hx hlo hxt HN;simp only[valS]
 go_wp2_with fail
 have HZW:=Y1 (show w1.heap.size+1=(w1.alloc (.cells (Y8 x.t x.q) 43)).heap.size by simp);generalize w1.alloc (.cells (Y8 x.t x.q) 43)=W1 at HP1 HV1 HX1 HC1 HZW ⊢;refine (HW.out W1 HP1.out _ HZW.out).mono ?_;rintro e w3 ⟨v_w3,rfl,hp3,hu3⟩;have HP3:=Y1 hp3;have HV3:=Y1 (HV1.out.trans hu3);have HU3:=Y1 ((Z05 (F:= [bp]) HB0.out).trans HV3.out);have hz3:=hu3.size;have HX3:=Y1 (show x.Is w3 from New.up HX1.out hu3 (by simp; omega));obtain ⟨r0,r1,r2,r3,r4,g0,g1,g2,g3,g4,hrl⟩:=res5 HB0.out (Z0t w _ _ _ _ _ _) rfl HV3.out hbw;obtain ⟨c0,c1,c2,c3,c4,cf,cl⟩:=HC1.out;have hs:=hu3.same cl (by simp; omega);have x0:=(hs.1 0).trans c0;have x1:=(hs.1 1).trans c1;have x2:=(hs.1 2).trans c2;have x3:=(hs.1 3).trans c3;have x4:=(hs.1 4).trans c4;have xl:w1.heap.size < w3.heap.size:=Nat.lt_of_lt_of_le cl hz3;clear hp3 hu3 HW hs c0 c1 c2 c3 c4 cf cl HP1 HV1 HX1 HC1;go_wp2;have hE:=end5 HP3.out HU3.out HX3.out (rb:=w.heap.size) (Nat.le_refl _) (Or.inl (by omega)) hbw (.int .i64 5) (.string ⟨#[]⟩) (.string ⟨#[]⟩) (.slice none 0 0) (.slice (some ⟨w3.heap.size,0,none⟩) 1 1);refine bodyPost_ret (v:=valS ⟨⟨5,[],[],[],[x.t]⟩,⟨none,0,some ⟨w3.heap.size,0,none⟩,1⟩,w.heap.size+1,w3.heap.size+1⟩) (by simp[results,Tryz.results99,go_sem,valS,r0,r1,r2,r3,r4,hrl]) rfl ?_;generalize hW: ((((w3.setCell ⟨w.heap.size,0,none⟩ (.int .i64 5)).setCell ⟨w.heap.size,1,none⟩ (.string ⟨#[]⟩)).setCell ⟨w.heap.size,2,none⟩ (.string ⟨#[]⟩)).setCell ⟨w.heap.size,3,none⟩ (.slice none 0 0)).setCell ⟨w.heap.size,4,none⟩ (.slice (some ⟨w3.heap.size,0,none⟩) 1 1)=Wp at hE ⊢;have hsz:Wp.heap.size=w3.heap.size:=by rw[<-hW]; simp[World.setCell]
 obtain ⟨e1,e2,e3⟩:=hE;have hrow:=Row.one (W:=Wp) (B:=w.heap.size+1) x (by omega);have hsz2: (Wp.alloc (.cells (Y8 x.t x.q) 43)).heap.size=w3.heap.size+1:=by simp[hsz]
 have hnew:=Z67 (k:=5) (o:= []) (n:= []) (Row.start _ _ _ _ _) hrow (fun z hz=>by
  have hzx:z=x:=by simpa using hz
  rw[hzx];exact ⟨New.below e3 (Z01 _ _),hlo1⟩) (by simp) (by simp) (by simp) (by simp) (by simp)
 rw[hsz,hsz2] at hnew;exact ⟨_,rfl,e1.alloc _,e2.alloc _,hnew,by simp only; omega,by rw[<-HXT.out]⟩
def clW (w:World) (bp:Nat) (k:Int):World:=((w.alloc (.cells #[.pointer (some ⟨bp,0,none⟩)] 59)).alloc (.cells Yb 43)).alloc (.cells #[.int .i64 k,.string ⟨#[]⟩,.string ⟨#[]⟩,.slice none 0 0,.slice none 0 0] 43)
theorem Z49 (w:World) (bp:Nat) (k:Int): (clW w bp k).heap.size=w.heap.size+3:=by simp[clW]
theorem Z3k (w:World) (bp:Nat) (k:Int):Below w.heap.size w (clW w bp k):=Z03 (Z03 (Z01 _ _) _) _
section
variable {w : World} {bp : Nat} (k : Int) (h : bp < w.heap.size)
include w bp k h
theorem Z55:PBox (clW w bp k) w.heap.size bp (w.heap.size+2):=by
 refine ⟨?_,by rw[Z49]; omega,by omega,by omega⟩;simp[clW,go_sem]
theorem ZcT:JS (clW w bp k) bp (w.heap.size+2) k none 0 [] none 0 [] (clW w bp k):=by
 have e:w.heap.size+2=((w.alloc (.cells #[.pointer (some ⟨bp,0,none⟩)] 59)).alloc (.cells Yb 43)).heap.size:=by simp
 refine ⟨UpT.refl _ _,by rw[Z49]; omega,by omega, ?_, ?_, ?_, ?_, ?_,fun j=> ?_,Row.start _ _ _ _ _,Row.start _ _ _ _ _,Or.inl rfl,by simp,by simp,by simp⟩
 all_goals
  rw[e];simp[clW,go_sem]
end
theorem Zay (w:World) (bp:Nat) (k:Int): (clW w bp k).cell? ⟨w.heap.size+1,0,none⟩=some (.int .i64 0)/\(clW w bp k).cell? ⟨w.heap.size+1,1,none⟩=some (.string ⟨#[]⟩)/\(clW w bp k).cell? ⟨w.heap.size+1,2,none⟩=some (.string ⟨#[]⟩)/\(clW w bp k).cell? ⟨w.heap.size+1,3,none⟩=some (.slice none 0 0)/\(clW w bp k).cell? ⟨w.heap.size+1,4,none⟩=some (.slice none 0 0)/\(∀j,(clW w bp k).frozen? ⟨w.heap.size+1,j,none⟩=false):=by
 refine ⟨?_, ?_, ?_, ?_, ?_,fun j=> ?_⟩ <;> simp[clW,go_sem]
theorem UpT.drop {w W1 W:World} {bp ob:Nat} (h:UpT [bp,ob] W1 W) (hb:Below w.heap.size w W1) (ho:w.heap.size<=ob):UpT [bp] w W:=
 ⟨h.os.trans hb.os,h.tape.trans hb.tape,h.output.trans hb.output,Nat.le_trans hb.size h.size,fun k hk hn=>(h.block k (Nat.lt_of_lt_of_le hk hb.size) (by simp at hn ⊢; omega)).trans (hb.block k hk)⟩
theorem Z3l (bp:Nat) (A:Option Addr) (c:Nat) (l:List Tk) (m:Nat) (σ:St) (k:Int) (o s e:List UInt8) (hl:l.length<=5000) (ht: ∀b∈l,b.t.text.length<=1000000) (hσ:Ok l σ) (hT:TyC bp A c l m) (hm:l.length - (want l σ o).1 < m) (w:World) (h:PAt w bp A c l σ):
 Calls Tryz.prog 100 #[.pointer (some ⟨bp,0,none⟩),.int .i64 k,.string ⟨o.toArray⟩,.string ⟨s.toArray⟩,.string ⟨e.toArray⟩] w (TyIs bp A c l (Pso.fieldsT l (Pso.anyT l m) σ k o s e) w):=by
 have HF:Hid (Pso.fieldsT l (Pso.anyT l m) σ k o s e=(⟨k,[],[],(betw l o s e (Pso.fieldsR l (Pso.anyT l m)) σ ([],[])).2.1,(betw l o s e (Pso.fieldsR l (Pso.anyT l m)) σ ([],[])).2.2⟩,(betw l o s e (Pso.fieldsR l (Pso.anyT l m)) σ ([],[])).1)):=Y1 rfl;rw[HF.out];have hbw:=h.lt;have HB:=Y1 (Z15 bp A c l o s e 135 (enters_of Tryz.func135 (by kernel_rfl) rfl) (.pointer (some ⟨w.heap.size+2,0,none⟩)) (.pointer (some ⟨w.heap.size,0,none⟩)) (JF (clW w bp k) bp (w.heap.size+2) k) (Pso.fieldsR l (Pso.anyT l m)) m (by omega) (Pso.goes_fields (Pso.to_anyT m)) (fun r W W' a h hu=>h.keep hu)
  (Zbk bp A c l m hl ht hT (clW w bp k) w.heap.size (w.heap.size+2) k (Z55 k hbw)) σ ([],[]) (clW w bp k) hσ hm (h.below (Z3k w bp k)) ⟨none,0,none,0,[],ZcT k hbw,rfl,by simp,by simp⟩)
 obtain ⟨y,hy⟩: ∃y,y=betw l o s e (Pso.fieldsR l (Pso.anyT l m)) σ ([],[]):=⟨_,rfl⟩;rw[<-hy] at HB ⊢;have HCB:=Y1 (Z3k w bp k);have HCR:=Y1 (Zay w bp k);have HCZ:=Y1 (Z49 w bp k);have HPB:=Y1 (Z55 k hbw).c;clear HF h hy hT hm;go_enter Tryz.func100,Tryz.ntmps100
 go_wp2_with fail
 change Calls _ _ _ (clW w bp k) _;generalize clW w bp k=W1 at HB HCB HCR HCZ HPB ⊢;refine HB.out.mono ?_;rintro e1 w2 ⟨rfl,hp2,r,hr,AN,cn,AP,cp,L,hS,hs,hn1,hn2⟩;have HP2:=Y1 hp2;have HS:=Y1 hS;have HX:=Y1 hs;have HNN:=Y1 (And.intro hr (And.intro hn1 hn2));have c0:=hS.c0;have c1:=hS.c1;have c2:=hS.c2;have c3:=hS.c3;have c4:=hS.c4;have hz2:=hS.up.size;have hz1:=HCZ.out;have hol:w.heap.size+2 < w2.heap.size:=by omega
 have hrs:=hS.up.same (b:=w.heap.size+1) (by omega) (by simp; omega);obtain ⟨q0,q1,q2,q3,q4,qf⟩:=HCR.out;have r0:=(hrs.1 0).trans q0;have r1:=(hrs.1 1).trans q1;have r2:=(hrs.1 2).trans q2;have r3:=(hrs.1 3).trans q3;have r4:=(hrs.1 4).trans q4;have g0:=(hrs.2 0).trans (qf 0);have g1:=(hrs.2 1).trans (qf 1);have g2:=(hrs.2 2).trans (qf 2);have g3:=(hrs.2 3).trans (qf 3);have g4:=(hrs.2 4).trans (qf 4);have hrl:w.heap.size+1 < w2.heap.size:=by omega
 clear hp2 hS hs hn1 hn2 hr hrs q0 q1 q2 q3 q4 qf HB;go_wp2;refine bodyPost_ret (v:=valS ⟨⟨k,[],[],y.2.1,L.map ES.t⟩,⟨AN,cn,AP,cp⟩,W1.heap.size,w2.heap.size⟩) (by simp[results,Tryz.results100,go_sem,valS,r0,r1,r2,r3,r4,hrl]) rfl ?_;have hn:=Z67 (k:=k) (o:= []) (n:= []) HS.out.rN HS.out.rP HS.out.is HS.out.sm (by simp) (by simp) (by have:=HNN.out; omega) (by have:=HNN.out; omega);have hE:=end5 HP2.out (UpT.drop HS.out.up HCB.out (by omega)) hn (rb:=w.heap.size+1) (by omega) (Or.inl (by simp only; omega)) hbw;exact ⟨_,rfl,(hE _ _ _ _ _).1,(hE _ _ _ _ _).2.1,(hE _ _ _ _ _).2.2,by simp only; omega,by rw[HX.out]⟩
theorem Zaz {α:Type} {l:List Tk} {o s e:List UInt8} {f:St->α->St×α} (hf:Goes l f) {σ:St} (a:α) (h:Ok l σ): (want l σ o).1<=(betw l o s e f σ a).1.1:=by
 unfold betw;have h1:=Pso.to_want h o;simp only;split
 {exact Nat.le_succ _}
 {have h2:=hf _ a h1.1;have h3:=Pso.to_loop (s:=s) hf (l.length+1) _ (f (want l σ o) a).2 h2.1;exact ((h2.trans h3).trans (Pso.to_want h3.1 e)).2.1}
theorem Z8s (bp:Nat) (A:Option Addr) (c:Nat) (l:List Tk) (m:Nat) (σ:St) (hl:l.length<=5000) (hσ:Ok l σ) (hT:TyC bp A c l m) (hm:l.length - (want l σ [40]).1 < m) (w:World) (h:PAt w bp A c l σ):
 Calls Tryz.prog 101 #[.pointer (some ⟨bp,0,none⟩)] w (TyIs bp A c l (Pso.funT l (Pso.anyT l m) σ) w):=by
 have HF:Hid (Pso.funT l (Pso.anyT l m) σ=(⟨8,[],[],[],(betw l [40] [44] [41] (Pso.partsR l (Pso.anyT l m)) σ []).2++ [(Pso.anyT l m (want l (betw l [40] [44] [41] (Pso.partsR l (Pso.anyT l m)) σ []).1 [45,62])).1]⟩,(Pso.anyT l m (want l (betw l [40] [44] [41] (Pso.partsR l (Pso.anyT l m)) σ []).1 [45,62])).2)):=Y1 rfl;rw[HF.out];have hbw:=h.lt;have HB:=Y1 (Z15 bp A c l [40] [44] [41] 136 (enters_of Tryz.func136 (by kernel_rfl) rfl) (.pointer (some ⟨w.heap.size+2,0,none⟩)) (.pointer (some ⟨w.heap.size,0,none⟩)) (JP (clW w bp 8) bp (w.heap.size+2) 8) (Pso.partsR l (Pso.anyT l m)) m (by omega) (Pso.goes_parts (Pso.to_anyT m)) (fun r W W' a h hu=>h.keep hu)
  (ZcS bp A c l m hl hT (clW w bp 8) w.heap.size (w.heap.size+2) 8 (Z55 8 hbw)) σ [] (clW w bp 8) hσ hm (h.below (Z3k w bp 8)) ⟨none,0,[],ZcT 8 hbw,rfl,by simp⟩)
 have hto:=Pso.to_betw (o:= [40]) (s:= [44]) (e:= [41]) (Pso.goes_parts (Pso.to_anyT m)) [] hσ;have hge: (want l σ [40]).1<=(betw l [40] [44] [41] (Pso.partsR l (Pso.anyT l m)) σ []).1.1:=Zaz (Pso.goes_parts (Pso.to_anyT m)) [] hσ;obtain ⟨y,hy⟩: ∃y,y=betw l [40] [44] [41] (Pso.partsR l (Pso.anyT l m)) σ []:=⟨_,rfl⟩;rw[<-hy] at HB hto hge ⊢;have hto2:=Pso.to_want hto.1 [45,62];have HTO:=Y1 hto.1;have HTO2:=Y1 hto2;have HW:=Y1 (fun (w:World) (h:PAt w bp A c l y.1)=>Z0d bp A c l y.1 [45,62] (by omega) hto.1.1 w h);have HT:=Y1 (fun (W:World) (h:PAt W bp A c l (want l y.1 [45,62]))=>hT W _ hto2.1 (by have:=hto2.2.1; omega) h);have HCB:=Y1 (Z3k w bp 8);have HCR:=Y1 (Zay w bp 8);have HCZ:=Y1 (Z49 w bp 8);have HPB:=Y1 (Z55 8 hbw);clear HF h hy hT hm hto hto2 hge;go_enter Tryz.func101,Tryz.ntmps101
 go_wp2_with fail
 change Calls _ _ _ (clW w bp 8) _;generalize clW w bp 8=W1 at HB HCB HCR HCZ HPB ⊢;refine HB.out.mono ?_;rintro e1 w2 ⟨rfl,hp2,r,hr,AP,cp,L,hS,hs,hn2⟩;have HP2:=Y1 hp2;have HS:=Y1 hS;have HX:=Y1 hs;have HNN:=Y1 (And.intro hr hn2);obtain ⟨hc2,hlt2⟩:=HPB.out.on hS.up;clear hp2 hS hs hn2 hr HB
 go_wp2_with fail
 refine (HW.out w2 HP2.out).mono ?_;rintro e1 w3 ⟨v_w3,rfl,hp3,hu3⟩;have HP3:=Y1 hp3;have HS3:=Y1 (HS.out.keep hu3);clear hp3 hu3 HS HP2 hc2 hlt2 HW;obtain ⟨hc3,hlt3⟩:=HPB.out.on HS3.out.up
 go_wp2_with fail
 refine regS _ 15 3 1 43 4 72 (JS.ctx W1 bp (w.heap.size+2) AP cp L w3 A c l (Pso.anyT l m (want l y.1 [45,62])).2 (fun x=>x.t=(Pso.anyT l m (want l y.1 [45,62])).1)) (HS3.out.good (by have:=HNN.out; omega)) w.heap.size hc3 hlt3 HPB.out.ne
  (fun u=> { tmps:=#[.pointer (some ⟨bp,0,none⟩),.pointer (some ⟨w.heap.size,0,none⟩),.pointer (some ⟨w.heap.size+1,0,none⟩),.pointer (some ⟨w.heap.size+1+1,0,none⟩),.agg #[.int .i64 8,.string ⟨#[]⟩,.string ⟨#[]⟩,.slice none 0 0,.slice none 0 0],.pointer (some ⟨bp,0,none⟩),.pointer (some ⟨bp,0,none⟩),.pointer (some ⟨bp,0,none⟩),.func (.func 136) #[] #[.pointer (some ⟨w.heap.size+1+1,0,none⟩),.pointer (some ⟨w.heap.size,0,none⟩)],.tuple #[],.pointer (some ⟨bp,0,none⟩),.pointer (some ⟨bp,0,none⟩),.pointer (some ⟨bp,0,none⟩),.slice (some ⟨w2.heap.size,0,none⟩) 1 1,.string v_w3,u 0,u 1,u 2,u 3,u 4,u 5,u 6,u 7,u 9,undef],defers:= [] }) (fun _=>undef)
  ⟨fun i o h u v=>by
   rcases i with _ | _ | _ | _ | _ | _ | _ | _ | _ | _ | _ | i
   all_goals first | (cases h; rfl) | exact absurd h (by simp[opsS]),fun _=>rfl,fun _=>rfl,fun _=>rfl,fun _=>rfl,fun _=>rfl,fun _=>rfl,fun _=>rfl,fun _=>rfl,fun _=>rfl,fun _=>rfl,fun _=>rfl⟩
  (fun W=>by go_simp; rfl) (enters_of Tryz.func72 (by kernel_rfl) rfl) (fun W hW=>HT.out W (HP3.out.below hW)) (fun u w4 x g' cp' p=> ?_)
 have hx:x.t=(Pso.anyT l m (want l y.1 [45,62])).1:=p.r;have hpar:PAt w4 bp A c l (Pso.anyT l m (want l y.1 [45,62])).2:=p.par;have hS:=HS3.out.part p;have HP4:=Y1 hpar;have HS:=Y1 hS;have HX2:=Y1 hx;have c0:=hS.c0;have c1:=hS.c1;have c2:=hS.c2;have c3:=hS.c3;have c4:=hS.c4;have hz2:=hS.up.size;have hz1:=HCZ.out;have hol:w.heap.size+2 < w4.heap.size:=by omega
 have hrs:=hS.up.same (b:=w.heap.size+1) (by omega) (by simp; omega);obtain ⟨q0,q1,q2,q3,q4,qf⟩:=HCR.out;have r0:=(hrs.1 0).trans q0;have r1:=(hrs.1 1).trans q1;have r2:=(hrs.1 2).trans q2;have r3:=(hrs.1 3).trans q3;have r4:=(hrs.1 4).trans q4;have g0:=(hrs.2 0).trans (qf 0);have g1:=(hrs.2 1).trans (qf 1);have g2:=(hrs.2 2).trans (qf 2);have g3:=(hrs.2 3).trans (qf 3);have g4:=(hrs.2 4).trans (qf 4);have hrl:w.heap.size+1 < w4.heap.size:=by omega
 clear p hx hpar hS hrs q0 q1 q2 q3 q4 qf HS3 HP3;go_wp2;refine bodyPost_ret (v:=valS ⟨⟨8,[],[],[],(L++ [x]).map ES.t⟩,⟨none,0,some ⟨g',0,none⟩,cp'⟩,W1.heap.size,w4.heap.size⟩) (by simp[results,Tryz.results101,go_sem,valS,r0,r1,r2,r3,r4,hrl]) rfl ?_;have hn:=Z67 (k:=8) (o:= []) (n:= []) HS.out.rN HS.out.rP HS.out.is HS.out.sm (by simp) (by simp) (by simp) (by have:=HNN.out; simp; omega);have hE:=end5 HP4.out (UpT.drop HS.out.up HCB.out (by omega)) hn (rb:=w.heap.size+1) (by omega) (Or.inl (by simp only; omega)) hbw;exact ⟨_,rfl,(hE _ _ _ _ _).1,(hE _ _ _ _ _).2.1,(hE _ _ _ _ _).2.2,by simp only; omega,by rw[HX.out, <-HX2.out,List.map_append]; rfl⟩
end
end Go.Proofs.YtkncdbaoaeeoiaaGreatDoor
