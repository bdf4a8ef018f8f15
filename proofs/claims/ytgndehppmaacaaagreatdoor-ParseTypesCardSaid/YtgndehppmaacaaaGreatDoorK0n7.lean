/- What the proofs of ParseTypes want, part 7. -/
import Derived.Test.YtgndehppmaacaaaGreatDoorK0n6
set_option linter.unusedVariables false
set_option linter.unusedSimpArgs false
set_option linter.unusedSectionVars false
set_option maxRecDepth 100000
set_option maxHeartbeats 16000000
namespace Go.Proofs.YtgndehppmaacaaaGreatDoor
section
open Go.RowKit Tms
open Shp (Sh)
open Pso (St Ok Goes betw loop want)
open Prs (sign)
def TyIs (bp:Nat) (A:Option Addr) (c:Nat) (l:List Tk) (r:Sh×St) (W:World) (e:Ending) (W':World):Prop:=
 ∃x:ES,e= .returned (valS x)/\PAt W' bp A c l r.2/\UpT [bp] W W'/\x.Is W'/\W.heap.size<=x.lo/\x.t=r.1
def TyC (bp:Nat) (A:Option Addr) (c:Nat) (l:List Tk) (m:Nat):Prop:= ∀(W:World) (τ:St),Ok l τ->l.length - τ.1 < m->PAt W bp A c l τ->
 Calls Tryz.prog 29 #[.pointer (some ⟨bp,0,none⟩)] W (TyIs bp A c l (Pso.anyT l m τ) W)
structure PBox (W1:World) (pb bp ob:Nat):Prop where
 c:W1.cell? ⟨pb,0,none⟩=some (.pointer (some ⟨bp,0,none⟩))
 lt:pb < W1.heap.size
 ne:pb≠bp
 no:pb≠ob
theorem PBox.on {b W:World} {a bp d:Nat} (h:PBox b a bp d) (c:UpT [bp,d] b W):W.cell? ⟨a,0,none⟩=some (.pointer (some ⟨bp,0,none⟩))/\a < W.heap.size:=
 ⟨((c.same h.lt (by simp[h.ne,h.no])).1 _).trans h.c,Nat.lt_of_lt_of_le h.lt c.size⟩
theorem ZcU {l:List Tk} (d: ∀b∈l,b.t.text.length<=1000000) (σ:St) (k:Int) (c:k≠0) (e:List UInt8->Bool): (Pso.textOf l σ k e).1.length<=1000000:=by
 unfold Pso.textOf;split
 {next h=>
  simp only[Bool.and_eq_true,decide_eq_true_eq] at h;have a:=Pso.kind_lt (l:=l) (i:=σ.1) (by rw[h.1]; exact c);simp only;rw[Prs.look_in a]; exact d _ (List.getElem_mem _)}
 {simp}
def JF (W1:World) (bp ob:Nat) (k:Int) (r:Nat) (W:World) (a:List (List UInt8)×List Sh):Prop:=
 ∃AN cn AP cp L,JS W1 bp ob k AN cn a.1 AP cp L W/\a.2=L.map ES.t/\a.1.length<=r/\L.length<=r
theorem JF.keep {b W W':World} {bp c r:Nat} {k:Int} {a:List (List UInt8)×List Sh} (h:JF b bp c k r W a) (f:UpT [bp] W W'):JF b bp c k r W' a:=by
 obtain ⟨AN,cn,AP,cp,L,d,e⟩:=h;exact ⟨AN,cn,AP,cp,L,d.keep f,e⟩
theorem Zlo (bp:Nat) (A:Option Addr) (c:Nat) (l:List Tk) (m:Nat) (hl:l.length<=5000) (ht: ∀b∈l,b.t.text.length<=1000000) (hT:TyC bp A c l m) (J:World) (E D:Nat) (k:Int) (C:PBox J E bp D):
 Reads bp A c l 89 (.pointer (some ⟨D,0,none⟩)) (.pointer (some ⟨E,0,none⟩)) (JF J bp D k) (Pso.fieldsR l (Pso.anyT l m)) m:=by
 intro r w τ a hr hτ hm hP hJ;obtain ⟨ns,ss⟩:=a;obtain ⟨AN,cn,AP,cp,L,s,hs,t,O⟩:=hJ;simp only at s hs t;have HF:Hid (Pso.fieldsR l (Pso.anyT l m) τ (ns,ss)=((Pso.anyT l m (want l (Pso.another l τ ns).2 [58])).2,(ns++ [(Pso.name l τ).1],ss++ [(Pso.anyT l m (want l (Pso.another l τ ns).2 [58])).1]))):=Y1 rfl;rw[HF.out];have V:=Y1 (fun (W:World) (hW:Below w.heap.size w W)=>Zeb bp A c l τ J.heap.size AN cn ns (by omega) hτ.1 ht (by omega) W (hP.below hW) (s.rN.below hW) (Nat.lt_trans s.bpob s.lt));have j:=ZcU ht τ 1 (by decide) Lex.isName;change (Pso.name l τ).1.length<=1000000 at j;have n:=Pso.to_another hτ ns;obtain ⟨z,hz⟩: ∃z,z=(Pso.another l τ ns).2:=⟨_,rfl⟩;obtain ⟨U,B⟩: ∃U,U=(Pso.name l τ).1:=⟨_,rfl⟩;rw[<-hz, <-B] at V ⊢;rw[<-B] at j;rw[<-hz] at n;have T:=Pso.to_want n.1 [58];obtain ⟨hc,K⟩:=C.on s.up;have Z:=Y1 s;have G:=Y1 n;have H:=Y1 T;have HT:=Y1 hT;have d:=Y1 C;have I:=Y1 (And.intro hs (And.intro t O));have HM:=Y1 hm;have X:=Y1 j;clear HF hP s n T hT hz B C hs t O hτ hm j;go_enter Tryz.func89,Tryz.ntmps89
 go_wp2_with fail
 refine prgA _ 2 0 1 28 3 90 ⟨w,bp,A,c,l,z,D,3,J.heap.size,AN,cn,enOf ns,(fun x=>x.t=U),91⟩ (Z.out.goodN (by have:=I.out.2.1; omega)) E hc K d.out.ne
  (fun u=> { tmps:=#[.pointer (some ⟨D,0,none⟩),.pointer (some ⟨E,0,none⟩),u 0,u 1,u 2,u 3,u 4,u 5,u 6,u 7,u 8,u 9,u 10,u 11,u 12,u 13,u 14,undef,undef,undef,undef,undef,undef,undef,undef,undef,undef,undef,undef,undef,undef],defers:= [] }) (fun _=>undef)
  ⟨fun i o h u v=>by
   rcases i with _ | _ | _ | _ | _ | _ | _ | _ | _ | _ | _ | _ | _ | _ | _ | _ | i
   all_goals first | (cases h; rfl) | exact absurd h (by simp[plnA]),fun _=>rfl,fun _=>rfl,fun _=>rfl,fun _=>rfl,fun _=>rfl,fun _=>rfl,fun _=>rfl,fun _=>rfl,fun _=>rfl,fun _=>rfl,fun _=>rfl,fun _=>rfl,fun _=>rfl,fun _=>rfl,fun _=>rfl,fun _=>rfl,fun _=>rfl⟩
  (fun W=>by go_simp <;> rfl) (enters_of Tryz.func90 (by kernel_rfl) rfl) (fun W hW=>by
   show Calls Tryz.prog _ #[.pointer (some ⟨bp,0,none⟩),.slice AN (enOf ns).length cn,.func (.func 91) #[.pointer (some ⟨bp,0,none⟩)] #[]] W _;rw[Zd4];exact (V.out W hW).mono (fun e W' h=>⟨⟨U,W'.heap.size,W'.heap.size⟩,h.1,h.2.1,h.2.2,⟨Nat.le_refl _,fun _ _ _=>trivial⟩,h.2.2.size,rfl⟩)) (fun u w1 x g cn' p=> ?_)
 have hx:x.t=U:=p.r;have f:=Y1 (Z.out.named (by rw[hx]; exact X.out) p);have F:=Y1 (show PAt w1 bp A c l z from p.par);rw[hx] at f;clear p hx Z V hc K;obtain ⟨a0,M⟩:=d.out.on f.out.up
 go_wp2_with fail
 refine (ZcJ bp A c l z [58] (by omega) G.out.1.1 w1 F.out).mono ?_;rintro e w2 ⟨v2,rfl,P,S⟩;have Y:=Y1 P;have q:=Y1 (f.out.keep S);clear P S F f a0 M;obtain ⟨a1,N⟩:=d.out.on q.out.up
 go_wp2_with fail
 refine regS _ 22 0 1 28 4 29 (JS.ctx J bp D AP cp L w2 A c l (Pso.anyT l m (want l z [58])).2 (fun x=>x.t=(Pso.anyT l m (want l z [58])).1)) (q.out.good (by have:=I.out.2.2; omega)) E a1 N d.out.ne
  (fun w0=> { tmps:=#[.pointer (some ⟨D,0,none⟩),.pointer (some ⟨E,0,none⟩),u 0,u 1,u 2,u 3,u 4,u 5,u 6,u 7,u 8,u 9,u 10,u 11,u 12,u 13,u 14,.pointer (some ⟨bp,0,none⟩),.pointer (some ⟨bp,0,none⟩),.pointer (some ⟨bp,0,none⟩),.slice (some ⟨w1.heap.size,0,none⟩) 1 1,.string v2,w0 0,w0 1,w0 2,w0 3,w0 4,w0 5,w0 6,w0 7,w0 9],defers:= [] }) (fun _=>undef)
  ⟨fun i o h u v=>by
   rcases i with _ | _ | _ | _ | _ | _ | _ | _ | _ | _ | _ | i
   all_goals first | (cases h; rfl) | exact absurd h (by simp[opsS]),fun _=>rfl,fun _=>rfl,fun _=>rfl,fun _=>rfl,fun _=>rfl,fun _=>rfl,fun _=>rfl,fun _=>rfl,fun _=>rfl,fun _=>rfl,fun _=>rfl⟩
  (fun W=>by go_simp; rfl) (enters_of Tryz.func29 (by kernel_rfl) rfl) (fun W hW=>HT.out W _ H.out.1 (by have:=G.out.2.1; have:=H.out.2.1; have:=HM.out; omega) (Y.out.below hW)) (fun w0 W y g' cp' p=> ?_)
 have hy:y.t=(Pso.anyT l m (want l z [58])).1:=p.r;have Q:PAt W bp A c l (Pso.anyT l m (want l z [58])).2:=p.par
 go_end0
 refine ⟨rfl,Q,_,_,_,_,_,q.out.part p, ?_, ?_, ?_⟩
 {rw[List.map_append, <-I.out.1, <-hy]; rfl}
 {have:=I.out.2.1; rw[List.length_append]; simp; omega}
 {have:=I.out.2.2; rw[List.length_append]; simp; omega}
def JP (W1:World) (bp ob:Nat) (k:Int) (r:Nat) (W:World) (a:List Sh):Prop:=
 ∃AP cp L,JS W1 bp ob k none 0 [] AP cp L W/\a=L.map ES.t/\L.length<=r
theorem JP.keep {b W W':World} {bp c r:Nat} {k:Int} {a:List Sh} (h:JP b bp c k r W a) (f:UpT [bp] W W'):JP b bp c k r W' a:=by
 obtain ⟨AP,cp,L,d,e⟩:=h;exact ⟨AP,cp,L,d.keep f,e⟩
theorem ZmA (bp:Nat) (A:Option Addr) (c:Nat) (l:List Tk) (m:Nat) (J:l.length<=5000) (D:TyC bp A c l m) (y:World) (n j:Nat) (k:Int) (b:PBox y n bp j):
 Reads bp A c l 92 (.pointer (some ⟨j,0,none⟩)) (.pointer (some ⟨n,0,none⟩)) (JP y bp j k) (Pso.partsR l (Pso.anyT l m)) m:=by
 intro r w τ a hr hτ hm hP hJ;obtain ⟨AP,cp,L,z,E,f⟩:=hJ;have C:Hid (Pso.partsR l (Pso.anyT l m) τ a=((Pso.anyT l m τ).2,a++ [(Pso.anyT l m τ).1])):=Y1 rfl;rw[C.out];obtain ⟨B,e⟩:=b.on z.up;have d:=Y1 z;have H:=Y1 D;have s:=Y1 b;have t:=Y1 (And.intro E f);have F:=Y1 hm;have q:=Y1 hP;have G:=Y1 hτ;clear C hP D b E f hτ hm z;go_enter Tryz.func92,Tryz.ntmps92;refine regS _ 2 0 1 28 4 29 (JS.ctx y bp j AP cp L w A c l (Pso.anyT l m τ).2 (fun x=>x.t=(Pso.anyT l m τ).1)) (d.out.good (by have:=t.out.2; omega)) n B e s.out.ne
  (fun u=> { tmps:=#[.pointer (some ⟨j,0,none⟩),.pointer (some ⟨n,0,none⟩),u 0,u 1,u 2,u 3,u 4,u 5,u 6,u 7,u 9],defers:= [] }) (fun _=>undef)
  ⟨fun i o h u v=>by
   rcases i with _ | _ | _ | _ | _ | _ | _ | _ | _ | _ | _ | i
   all_goals first | (cases h; rfl) | exact absurd h (by simp[opsS]),fun _=>rfl,fun _=>rfl,fun _=>rfl,fun _=>rfl,fun _=>rfl,fun _=>rfl,fun _=>rfl,fun _=>rfl,fun _=>rfl,fun _=>rfl,fun _=>rfl⟩
  (fun W=>by go_simp; rfl) (enters_of Tryz.func29 (by kernel_rfl) rfl) (fun W hW=>H.out W _ G.out F.out (q.out.below hW)) (fun u W x g' cp' p=> ?_)
 have I:x.t=(Pso.anyT l m τ).1:=p.r;have g:PAt W bp A c l (Pso.anyT l m τ).2:=p.par
 go_end0
 refine ⟨rfl,g,_,_,_,d.out.part p, ?_, ?_⟩
 {rw[List.map_append, <-t.out.1, <-I]; rfl}
 {have:=t.out.2; rw[List.length_append]; simp; omega}
end
section
open Go.RowKit Shp
theorem Z1w (l:List (List UInt8)): (strs l).length=l.length:=by simp[strs]
structure TxR (W:World) (g:Nat) (ts:List (List UInt8)):Prop where
 lt:g < W.heap.size
 at_: ∀j (h:j < ts.length),W.cell? ⟨g,j,none⟩=some (.string ⟨(ts[j]'h).toArray⟩)
 fz: ∀o,W.frozen? ⟨g,o,none⟩=false
theorem TxR.keep {W W':World} {g B:Nat} {ts:List (List UInt8)} (h:TxR W g ts) (b:g < B) (a:Below B W W'):TxR W' g ts:=
 ⟨Nat.lt_of_lt_of_le h.lt a.size,fun j hj=>(a.cell (p:=⟨g,j,none⟩) b).trans (h.at_ j hj),fun o=>(a.frozen (p:=⟨g,o,none⟩) b).trans (h.fz o)⟩
theorem TxR.next {W W':World} {g:Nat} {ts:List (List UInt8)} (h:TxR W g ts) (a:Below W.heap.size W W'):TxR W' g ts:=h.keep h.lt a
end
section
open Go.RowKit Tms
open Shp (Sh)
theorem Row.strs {W W':World} {B:Nat} {A:Option Addr} {c:Nat} {l:List (List UInt8)} (h:Row W B 9 1 cN A c l) (k:W.heap.size<=W'.heap.size) (j: ∀b,B<=b->b < W.heap.size->SameT W W' b):Strs W' W'.heap.size A (strs l):=by
 rcases h.names with d | ⟨g,rfl,e,a,f⟩
 {exact Or.inl (by rw[Z1w]; exact d)}
 {refine Or.inr ⟨g,0,rfl,Nat.lt_of_lt_of_le a k,fun i hi=> ?_⟩;rw[Z1w] at hi;rw[Nat.zero_add,(j g e a).1 i,f i hi];simp[_root_.Go.Proofs.YtgndehppmaacaaaGreatDoor.strs]}
section
variable {α : Type} {W : World} {B : Nat} {e : TypeId} {m : Nat} {cf : α -> List Value} {A : Option Addr} {c : Nat} {l : List α} (h : Row W B e m cf A c l)
include α W B e m cf A c l h
theorem Row.cap:l.length<=c/\(A=none->c=0):=by
 rcases h.form with ⟨a,b,d⟩ | ⟨g,a,b⟩
 {exact ⟨by omega,fun _=>d⟩}
 {exact ⟨b,fun h=>by rw[a] at h; cases h⟩}
theorem Row.read (d: ∀x,(cf x).length=m):l.length=0\/ ∃g,A=some ⟨g,0,none⟩/\B<=g/\g < W.heap.size/\ ∀i (hi:i < l.length) k,k < m->W.cell? ⟨g,i * m+k,none⟩=(cf (l[i]'hi))[k]? :=by
 rcases h.form with ⟨_,a,_⟩ | ⟨g,rfl,_⟩
 {exact Or.inl a}
 {refine Or.inr ⟨g,rfl,(h.lt g rfl).1,(h.lt g rfl).2,fun i hi k hk=> ?_⟩;have b: (i+1) * m<=l.length * m:=Nat.mul_le_mul_right m hi;rw[Nat.add_mul] at b;rw[World.ownsRow.cellAt h (i * m+k) (by omega)];exact ZkH d hi hk}
end
theorem Row.shs {W W':World} {B:Nat} {A:Option Addr} {c:Nat} {L:List ES} (h:Row W B 28 5 cS A c L) (p: ∀x∈L,x.Is W/\B<=x.lo) (l:W.heap.size<=W'.heap.size) (f: ∀b,B<=b->b < W.heap.size->SameT W W' b):
 (L.map ES.t).length=0\/ ∃(g off:Nat) (rs:Nat->Ptr),A=some ⟨g,off,none⟩/\g < W'.heap.size/\(∀i (h:i < (L.map ES.t).length),Sh5 W' g (off+i * 5) ((L.map ES.t)[i]'h) (rs i))/\ ∀i (h:i < (L.map ES.t).length),ShAt W' W'.heap.size (rs i) ((L.map ES.t)[i]'h):=by
 rcases h.read Zj5 with m | ⟨g,rfl,n,e,o⟩
 {exact Or.inl (by rw[List.length_map]; exact m)}
 {have a: ∀i (hi:i < L.length),(L.map ES.q).getD i ⟨none,0,none,0⟩=(L[i]'hi).q:=fun i hi=>by simp[hi]
  refine Or.inr ⟨g,0,fun i=>(L.map ES.q).getD i ⟨none,0,none,0⟩,rfl,Nat.lt_of_lt_of_le e l,fun i hi=> ?_,fun i hi=> ?_⟩
  {rw[List.length_map] at hi;have d: ∀k,k < 5->W'.cell? ⟨g,i * 5+k,none⟩=(cS (L[i]'hi))[k]? :=fun k hk=>((f g n e).1 _).trans (o i hi k hk);show Sh5 W' g (0+i * 5) _ ((L.map ES.q).getD i ⟨none,0,none,0⟩);rw[a i hi,Nat.zero_add,List.getElem_map];exact ⟨d 0 (by omega),d 1 (by omega),d 2 (by omega),d 3 (by omega),d 4 (by omega)⟩}
  {rw[List.length_map] at hi;show ShAt W' W'.heap.size ((L.map ES.q).getD i ⟨none,0,none,0⟩) _;rw[a i hi,List.getElem_map];have j:=p _ (List.getElem_mem hi);exact j.1.at_ W' l (fun b k1 k2=>f b (by omega) (Nat.lt_of_lt_of_le k2 j.1.hi_))}}
theorem Zfq {W:World} {B:Nat} {k:Int} {o n:List UInt8} {AN:Option Addr} {cn:Nat} {ns:List (List UInt8)} {AP:Option Addr} {cp:Nat} {L:List ES} (a:Row W B 9 1 cN AN cn ns) (b:Row W B 28 5 cS AP cp L)
 (p: ∀x∈L,x.Is W/\B<=x.lo) (q: ∀n∈ns,n.length<=1000000) (s:o.length<=1000000) (r:n.length<=1000000) (j:ns.length<=1000000) (l:L.length<=1000000):
 (⟨⟨k,o,n,ns,L.map ES.t⟩,⟨AN,cn,AP,cp⟩,B,W.heap.size⟩:ES).Is W:=by
 refine ⟨Nat.le_refl _,fun W' hz hs=> ?_⟩;have m:Shp.Sh.names ⟨k,o,n,ns,L.map ES.t⟩=ns:=rfl;have S:Small ⟨k,o,n,ns,L.map ES.t⟩ ⟨AN,cn,AP,cp⟩:=⟨by simp only; omega,by simp only; omega,fun x hx=>by have:=q x hx; omega,by simp only; omega,by simp only[List.length_map]; omega,a.cap.1,by simp only[List.length_map]; exact b.cap.1,a.cap.2,b.cap.2⟩;rcases b.shs p hz hs with c | ⟨g,off,rs,d,e,f,h⟩
 {exact .mk _ _ 0 0 (fun _=>⟨none,0,none,0⟩) S (a.strs hz hs) (Or.inl c) (fun i hi=>absurd hi (by simp only; omega)) (fun i hi=>absurd hi (by simp only; omega))}
 {exact .mk _ _ g off rs S (a.strs hz hs) (Or.inr ⟨d,e⟩) f h}
theorem Ze4 (W:World) (k:Int) {o n:List UInt8} (b:o.length<=1000000) (a:n.length<=1000000): (⟨⟨k,o,n,[],[]⟩,⟨none,0,none,0⟩,W.heap.size,W.heap.size⟩:ES).Is W:=
 Zfq (L:= []) (Row.start _ _ _ _ _) (Row.start _ _ _ _ _) (by simp) (by simp) b a (by simp) (by simp)
end
section
open Go.RowKit Tms
open Shp (Sh)
open Pso (St Ok Goes betw loop want)
open Prs (sign)
theorem end5 {w W:World} {bp:Nat} {A:Option Addr} {c:Nat} {l:List Tk} {τ:St} {x:ES} (j:PAt W bp A c l τ) (a:UpT [bp] w W) (n:x.Is W) {rb:Nat} (m:w.heap.size<=rb) (b:rb < x.lo\/x.hi<=rb) (k:bp < w.heap.size) (d e f g i:Value):
 PAt (((((W.setCell ⟨rb,0,none⟩ d).setCell ⟨rb,1,none⟩ e).setCell ⟨rb,2,none⟩ f).setCell ⟨rb,3,none⟩ g).setCell ⟨rb,4,none⟩ i) bp A c l τ/\
 UpT [bp] w (((((W.setCell ⟨rb,0,none⟩ d).setCell ⟨rb,1,none⟩ e).setCell ⟨rb,2,none⟩ f).setCell ⟨rb,3,none⟩ g).setCell ⟨rb,4,none⟩ i)/\
 x.Is (((((W.setCell ⟨rb,0,none⟩ d).setCell ⟨rb,1,none⟩ e).setCell ⟨rb,2,none⟩ f).setCell ⟨rb,3,none⟩ g).setCell ⟨rb,4,none⟩ i):=by
 have h:bp < rb:=by omega
 have u:UpT [rb] W (((((W.setCell ⟨rb,0,none⟩ d).setCell ⟨rb,1,none⟩ e).setCell ⟨rb,2,none⟩ f).setCell ⟨rb,3,none⟩ g).setCell ⟨rb,4,none⟩ i):=
  (((((UpT.refl _ _).set _ (Or.inr (by simp)) _).set _ (Or.inr (by simp)) _).set _ (Or.inr (by simp)) _).set _ (Or.inr (by simp)) _).set _ (Or.inr (by simp)) _
 refine ⟨j.keep u (by simp; exact h),⟨u.os.trans a.os,u.tape.trans a.tape,u.output.trans a.output,Nat.le_trans a.size u.size,fun y h1 h2=> ?_⟩,New.up n u (by simp; exact b)⟩;rw[u.block y (Nat.lt_of_lt_of_le h1 a.size) (by simp; omega)];exact a.block y h1 h2
theorem ZhL (n:List UInt8) (k:n.length<=1000000) (w:World):
 Y9 49 #[.string ⟨n.toArray⟩] w (.agg #[.int .i64 (Prs.upper [] n).kind,.string ⟨(Prs.upper [] n).of_.toArray⟩,.string ⟨(Prs.upper [] n).name.toArray⟩,.slice none 0 0,.slice none 0 0]):=by
 have f:=Y1 (Z01 w (.cells Yb 28));have e:Hid (Prs.upper [] n=if n= [73,110,116] then ⟨1,[],[],[],[]⟩ else if n= [66,111,111,108] then ⟨2,[],[],[],[]⟩ else if n= [84,101,120,116] then ⟨3,[],[],[],[]⟩ else if n= [65,110,121] then ⟨4,[],[],[],[]⟩ else ⟨9,[],n,[],[]⟩):=Y1 (by unfold Prs.upper; simp);rw[e.out];clear e;by_cases a:n= [73,110,116]
 {subst a;simp only[if_true];go_enter Tryz.func49,Tryz.ntmps49;go_wp2;refine bodyPost_ret (v:= .agg #[.int .i64 1,.string ⟨#[]⟩,.string ⟨#[]⟩,.slice none 0 0,.slice none 0 0]) (by simp[results,Tryz.results49,go_sem]) rfl ?_;exact ⟨rfl,Z01 _ _⟩}
 {rw[if_neg a];have g: (n== [73,110,116])=false:=by simpa using a
  by_cases b:n= [66,111,111,108]
  {subst b;simp only[if_true];go_enter Tryz.func49,Tryz.ntmps49;go_wp2;refine bodyPost_ret (v:= .agg #[.int .i64 2,.string ⟨#[]⟩,.string ⟨#[]⟩,.slice none 0 0,.slice none 0 0]) (by simp[results,Tryz.results49,go_sem]) rfl ?_;exact ⟨rfl,Z01 _ _⟩}
  {rw[if_neg b];have h: (n== [66,111,111,108])=false:=by simpa using b
   by_cases c:n= [84,101,120,116]
   {subst c;simp only[if_true];go_enter Tryz.func49,Tryz.ntmps49;go_wp2;refine bodyPost_ret (v:= .agg #[.int .i64 3,.string ⟨#[]⟩,.string ⟨#[]⟩,.slice none 0 0,.slice none 0 0]) (by simp[results,Tryz.results49,go_sem]) rfl ?_;exact ⟨rfl,Z01 _ _⟩}
   {rw[if_neg c];have i: (n== [84,101,120,116])=false:=by simpa using c
    by_cases d:n= [65,110,121]
    {subst d;simp only[if_true];go_enter Tryz.func49,Tryz.ntmps49;go_wp2;refine bodyPost_ret (v:= .agg #[.int .i64 4,.string ⟨#[]⟩,.string ⟨#[]⟩,.slice none 0 0,.slice none 0 0]) (by simp[results,Tryz.results49,go_sem]) rfl ?_;exact ⟨rfl,Z01 _ _⟩}
    {rw[if_neg d];have j: (n== [65,110,121])=false:=by simpa using d
     clear a b c d;go_enter Tryz.func49,Tryz.ntmps49;go_wp2;refine bodyPost_ret (v:= .agg #[.int .i64 9,.string ⟨#[]⟩,.string ⟨n.toArray⟩,.slice none 0 0,.slice none 0 0]) (by simp[results,Tryz.results49,go_sem]) rfl ?_;exact ⟨rfl,Z01 _ _⟩}}}}
theorem res5 {w W0 W:World} {bp rb:Nat} {d e g h i:Value} (n:Below w.heap.size w W0) (m: (W0.cell? ⟨rb,0,none⟩=some d/\W0.cell? ⟨rb,1,none⟩=some e/\W0.cell? ⟨rb,2,none⟩=some g/\W0.cell? ⟨rb,3,none⟩=some h/\W0.cell? ⟨rb,4,none⟩=some i/\(∀j,W0.frozen? ⟨rb,j,none⟩=false)/\rb < W0.heap.size)) (o:rb=w.heap.size) (c:UpT [bp] W0 W) (l:bp < w.heap.size):
 W.cell? ⟨rb,0,none⟩=some d/\W.cell? ⟨rb,1,none⟩=some e/\W.cell? ⟨rb,2,none⟩=some g/\W.cell? ⟨rb,3,none⟩=some h/\W.cell? ⟨rb,4,none⟩=some i/\W.frozen? ⟨rb,0,none⟩=false/\W.frozen? ⟨rb,1,none⟩=false/\W.frozen? ⟨rb,2,none⟩=false/\W.frozen? ⟨rb,3,none⟩=false/\W.frozen? ⟨rb,4,none⟩=false/\rb < W.heap.size:=by
 obtain ⟨k,c1,c2,c3,c4,f,b⟩:=m;have a:=c.same b (by simp; omega);exact ⟨(a.1 0).trans k,(a.1 1).trans c1,(a.1 2).trans c2,(a.1 3).trans c3,(a.1 4).trans c4,(a.2 0).trans (f 0),(a.2 1).trans (f 1),(a.2 2).trans (f 2),(a.2 3).trans (f 3),(a.2 4).trans (f 4),Nat.lt_of_lt_of_le b c.size⟩
theorem ZcK (w:World) (a b c d e:Value) (t:TypeId): ((w.alloc (.cells #[a,b,c,d,e] t)).cell? ⟨w.heap.size,0,none⟩=some a/\(w.alloc (.cells #[a,b,c,d,e] t)).cell? ⟨w.heap.size,1,none⟩=some b/\(w.alloc (.cells #[a,b,c,d,e] t)).cell? ⟨w.heap.size,2,none⟩=some c/\
 (w.alloc (.cells #[a,b,c,d,e] t)).cell? ⟨w.heap.size,3,none⟩=some d/\(w.alloc (.cells #[a,b,c,d,e] t)).cell? ⟨w.heap.size,4,none⟩=some e/\(∀j,(w.alloc (.cells #[a,b,c,d,e] t)).frozen? ⟨w.heap.size,j,none⟩=false)/\w.heap.size < (w.alloc (.cells #[a,b,c,d,e] t)).heap.size):=by
 refine ⟨?_, ?_, ?_, ?_, ?_,fun j=> ?_, ?_⟩ <;> simp[go_sem]
theorem Zhf (bp:Nat) (A:Option Addr) (c:Nat) (l:List Tk) (σ:St) (hl:l.length<=5000) (Q:Ok l σ) (u: ∀b∈l,b.t.text.length<=1000000) (w:World) (h:PAt w bp A c l σ):
 Calls Tryz.prog 48 #[.pointer (some ⟨bp,0,none⟩)] w (TyIs bp A c l (Pso.othersT l σ) w):=by
 have M:Hid (Pso.othersT l σ=(⟨9,(Pso.name l σ).1,(Pso.upperN l (want l (Pso.name l σ).2 [47])).1,[],[]⟩,(Pso.upperN l (want l (Pso.name l σ).2 [47])).2)):=Y1 rfl;rw[M.out];have hb0:=Z01 w (.cells Yb 28);have z:=Y1 (Zdk bp A c l σ (by omega) Q.1 u _ (h.below hb0));have I:=Pso.to_name Q;have N:=Pso.to_want I.1 [47];have i:=ZcU u σ 1 (by decide) Lex.isName;have j:=ZcU u (want l (Pso.name l σ).2 [47]) 2 (by decide) Lex.isUpper;have H:=Y1 (fun (w:World) (h:PAt w bp A c l (Pso.name l σ).2)=>ZcJ bp A c l (Pso.name l σ).2 [47] (by omega) I.1.1 w h);have a:=Y1 (fun (w:World) (h:PAt w bp A c l (want l (Pso.name l σ).2 [47]))=>Zex bp A c l (want l (Pso.name l σ).2 [47]) (by omega) N.1.1 u w h);change (Pso.name l σ).1.length<=1000000 at i;change (Pso.upperN l (want l (Pso.name l σ).2 [47])).1.length<=1000000 at j;have q:=h.lt;have k:=Y1 hb0;obtain ⟨y,P⟩: ∃y,y=Pso.upperN l (want l (Pso.name l σ).2 [47]):=⟨_,rfl⟩;rw[<-P] at a j ⊢;obtain ⟨x,O⟩: ∃x,x=Pso.name l σ:=⟨_,rfl⟩;rw[<-O] at z H a i ⊢;clear M h I N hb0 O P;go_enter Tryz.func48,Tryz.ntmps48
 go_wp2_with fail
 refine z.out.mono ?_;rintro e T ⟨rfl,r,d⟩;have m:=Y1 r;have D:=Y1 d;have o:=Y1 ((ZcF (F:= [bp]) k.out).trans d);have U:w.heap.size+1<=T.heap.size:=by have:=d.size; simpa using this
 clear r d z
 go_wp2_with fail
 refine (H.out T m.out).mono ?_;rintro e w2 ⟨S,rfl,s,f⟩;have n:=Y1 s;have E:=Y1 (D.out.trans f);have p:=Y1 (o.out.trans f);have V:=f.size;clear s f H o m
 go_wp2_with fail
 refine (a.out w2 n.out).mono ?_;rintro e L ⟨rfl,t,g⟩;have B:=Y1 t;have G:=Y1 (E.out.trans g);have C:=Y1 (p.out.trans g);have W:=g.size;obtain ⟨X,Y,Z,r3,r4,g0,g1,g2,g3,g4,K⟩:=res5 k.out (ZcK w _ _ _ _ _ _) rfl G.out q;clear t g a p n;go_wp2;refine bodyPost_ret (v:=valS ⟨⟨9,x.1,y.1,[],[]⟩,⟨none,0,none,0⟩,L.heap.size,L.heap.size⟩) (by simp[results,Tryz.results48,go_sem,valS,X,Y,Z,r3,r4,K]) rfl ?_;have J:=end5 B.out C.out (Ze4 L 9 i j) (rb:=w.heap.size) (Nat.le_refl _) (Or.inl (by simp only; omega)) q;refine ⟨_,rfl,(J _ _ _ _ _).1,(J _ _ _ _ _).2.1,(J _ _ _ _ _).2.2,by simp only; omega,rfl⟩
theorem Row.one {W:World} {B:Nat} (x:ES) (a:B<=W.heap.size):Row (W.alloc (.cells (Y8 x.t x.q) 28)) B 28 5 cS (some ⟨W.heap.size,0,none⟩) 1 [x]:=by
 have:=World.ownsRow_lit (base:=B) (e:=28) (size:=5) W (Y8 x.t x.q) 1 a (by decide) rfl;exact this
theorem Ziz (bp:Nat) (A:Option Addr) (c:Nat) (l:List Tk) (m:Nat) (σ:St) (hl:l.length<=5000) (hσ:Ok l σ) (hT:TyC bp A c l m) (hm:l.length - σ.1 < m) (w:World) (h:PAt w bp A c l σ):
 Calls Tryz.prog 44 #[.pointer (some ⟨bp,0,none⟩)] w (TyIs bp A c l (Pso.listT l (Pso.anyT l m) σ) w):=by
 have Z:Hid (Pso.listT l (Pso.anyT l m) σ=(⟨5,[],[],[],[(Pso.anyT l m σ).1]⟩,want l (Pso.anyT l m σ).2 [93])):=Y1 rfl;rw[Z.out];have hb0:=Z01 w (.cells Yb 28);have N:=Y1 (hT _ σ hσ hm (h.below hb0));have h1:=Pso.to_anyT m σ hσ;have Q:=Y1 (fun (w:World) (h:PAt w bp A c l (Pso.anyT l m σ).2) (b:Nat) (hb:b=w.heap.size)=>ZcJ bp A c l (Pso.anyT l m σ).2 [93] (by omega) h1.1.1 w h hb);have D:=h.lt;have t:=Y1 hb0;obtain ⟨y,hy⟩: ∃y,y=Pso.anyT l m σ:=⟨_,rfl⟩;rw[<-hy] at N Q ⊢;clear Z h h1 hb0 hy hT;go_enter Tryz.func44,Tryz.ntmps44
 go_wp2_with fail
 refine N.out.mono ?_;rintro e r ⟨x,rfl,H,q,hx,E,M⟩;have i:=Y1 (H.alloc (.cells (Y8 x.t x.q) 28));have b3:w.heap.size+1<=r.heap.size:=by have:=q.size; simpa using this
 have G:w.heap.size+1<=x.lo:=by simpa using E
 have j:=Y1 (q.alloc (.cells (Y8 x.t x.q) 28));have p:=Y1 (show x.Is _ from New.below hx (Z01 r (.cells (Y8 x.t x.q) 28)));have g:=Y1 (ZcK r (.int .i64 x.t.kind) (.string ⟨x.t.of_.toArray⟩) (.string ⟨x.t.name.toArray⟩) (.slice x.q.A x.t.names.length x.q.c) (.slice x.q.P x.t.parts.length x.q.d) 28);have T:=Y1 M;clear H q hx E M N;simp only[valS]
 go_wp2_with fail
 have C:=Y1 (show r.heap.size+1=(r.alloc (.cells (Y8 x.t x.q) 28)).heap.size by simp);generalize r.alloc (.cells (Y8 x.t x.q) 28)=W1 at i j p g C ⊢;refine (Q.out W1 i.out _ C.out).mono ?_;rintro e d ⟨a7,rfl,I,a⟩;have O:=Y1 I;have u:=Y1 (j.out.trans a);have P:=Y1 ((ZcF (F:= [bp]) t.out).trans u.out);have X:=a.size;have S:=Y1 (show x.Is d from New.up p.out a (by simp; omega));obtain ⟨r0,r1,r2,r3,r4,g0,g1,g2,g3,g4,V⟩:=res5 t.out (ZcK w _ _ _ _ _ _) rfl u.out D;obtain ⟨c0,c1,c2,c3,c4,cf,U⟩:=g.out;have s:=a.same U (by simp; omega);have x0:=(s.1 0).trans c0;have x1:=(s.1 1).trans c1;have x2:=(s.1 2).trans c2;have x3:=(s.1 3).trans c3;have x4:=(s.1 4).trans c4;have xl:r.heap.size < d.heap.size:=Nat.lt_of_lt_of_le U X;clear I a Q s c0 c1 c2 c3 c4 cf U i j p g;go_wp2;have hE:=end5 O.out P.out S.out (rb:=w.heap.size) (Nat.le_refl _) (Or.inl (by omega)) D (.int .i64 5) (.string ⟨#[]⟩) (.string ⟨#[]⟩) (.slice none 0 0) (.slice (some ⟨d.heap.size,0,none⟩) 1 1);refine bodyPost_ret (v:=valS ⟨⟨5,[],[],[],[x.t]⟩,⟨none,0,some ⟨d.heap.size,0,none⟩,1⟩,w.heap.size+1,d.heap.size+1⟩) (by simp[results,Tryz.results44,go_sem,valS,r0,r1,r2,r3,r4,V]) rfl ?_;generalize hW: ((((d.setCell ⟨w.heap.size,0,none⟩ (.int .i64 5)).setCell ⟨w.heap.size,1,none⟩ (.string ⟨#[]⟩)).setCell ⟨w.heap.size,2,none⟩ (.string ⟨#[]⟩)).setCell ⟨w.heap.size,3,none⟩ (.slice none 0 0)).setCell ⟨w.heap.size,4,none⟩ (.slice (some ⟨d.heap.size,0,none⟩) 1 1)=Wp at hE ⊢;have K:Wp.heap.size=d.heap.size:=by rw[<-hW]; simp[World.setCell]
 obtain ⟨e1,e2,e3⟩:=hE;have J:=Row.one (W:=Wp) (B:=w.heap.size+1) x (by omega);have L: (Wp.alloc (.cells (Y8 x.t x.q) 28)).heap.size=d.heap.size+1:=by simp[K]
 have f:=Zfq (k:=5) (o:= []) (n:= []) (Row.start _ _ _ _ _) J (fun z hz=>by
  have Y:z=x:=by simpa using hz
  rw[Y];exact ⟨New.below e3 (Z01 _ _),G⟩) (by simp) (by simp) (by simp) (by simp) (by simp)
 rw[K,L] at f;exact ⟨_,rfl,e1.alloc _,e2.alloc _,f,by simp only; omega,by rw[<-T.out]⟩
def clW (w:World) (bp:Nat) (k:Int):World:=((w.alloc (.cells #[.pointer (some ⟨bp,0,none⟩)] 52)).alloc (.cells Yb 28)).alloc (.cells #[.int .i64 k,.string ⟨#[]⟩,.string ⟨#[]⟩,.slice none 0 0,.slice none 0 0] 28)
theorem ZfH (w:World) (bp:Nat) (k:Int): (clW w bp k).heap.size=w.heap.size+3:=by simp[clW]
theorem Zf3 (w:World) (bp:Nat) (k:Int):Below w.heap.size w (clW w bp k):=Z0h (Z0h (Z01 _ _) _) _
section
variable {w : World} {bp : Nat} (k : Int) (h : bp < w.heap.size)
include w bp k h
theorem Zgv:PBox (clW w bp k) w.heap.size bp (w.heap.size+2):=by
 refine ⟨?_,by rw[ZfH]; omega,by omega,by omega⟩;simp[clW,go_sem]
theorem ZmB:JS (clW w bp k) bp (w.heap.size+2) k none 0 [] none 0 [] (clW w bp k):=by
 have e:w.heap.size+2=((w.alloc (.cells #[.pointer (some ⟨bp,0,none⟩)] 52)).alloc (.cells Yb 28)).heap.size:=by simp
 refine ⟨UpT.refl _ _,by rw[ZfH]; omega,by omega, ?_, ?_, ?_, ?_, ?_,fun j=> ?_,Row.start _ _ _ _ _,Row.start _ _ _ _ _,Or.inl rfl,by simp,by simp,by simp⟩
 all_goals
  rw[e];simp[clW,go_sem]
end
theorem ZkL (w:World) (bp:Nat) (k:Int): (clW w bp k).cell? ⟨w.heap.size+1,0,none⟩=some (.int .i64 0)/\(clW w bp k).cell? ⟨w.heap.size+1,1,none⟩=some (.string ⟨#[]⟩)/\(clW w bp k).cell? ⟨w.heap.size+1,2,none⟩=some (.string ⟨#[]⟩)/\(clW w bp k).cell? ⟨w.heap.size+1,3,none⟩=some (.slice none 0 0)/\(clW w bp k).cell? ⟨w.heap.size+1,4,none⟩=some (.slice none 0 0)/\(∀j,(clW w bp k).frozen? ⟨w.heap.size+1,j,none⟩=false):=by
 refine ⟨?_, ?_, ?_, ?_, ?_,fun j=> ?_⟩ <;> simp[clW,go_sem]
theorem UpT.drop {w b W:World} {bp c:Nat} (h:UpT [bp,c] b W) (a:Below w.heap.size w b) (d:w.heap.size<=c):UpT [bp] w W:=
 ⟨h.os.trans a.os,h.tape.trans a.tape,h.output.trans a.output,Nat.le_trans a.size h.size,fun k hk hn=>(h.block k (Nat.lt_of_lt_of_le hk a.size) (by simp at hn ⊢; omega)).trans (a.block k hk)⟩
theorem Zf4 (bp:Nat) (A:Option Addr) (c:Nat) (l:List Tk) (m:Nat) (σ:St) (k:Int) (o s e:List UInt8) (Y:l.length<=5000) (ht: ∀b∈l,b.t.text.length<=1000000) (hσ:Ok l σ) (K:TyC bp A c l m) (M:l.length - (want l σ o).1 < m) (w:World) (h:PAt w bp A c l σ):
 Calls Tryz.prog 46 #[.pointer (some ⟨bp,0,none⟩),.int .i64 k,.string ⟨o.toArray⟩,.string ⟨s.toArray⟩,.string ⟨e.toArray⟩] w (TyIs bp A c l (Pso.fieldsT l (Pso.anyT l m) σ k o s e) w):=by
 have J:Hid (Pso.fieldsT l (Pso.anyT l m) σ k o s e=(⟨k,[],[],(betw l o s e (Pso.fieldsR l (Pso.anyT l m)) σ ([],[])).2.1,(betw l o s e (Pso.fieldsR l (Pso.anyT l m)) σ ([],[])).2.2⟩,(betw l o s e (Pso.fieldsR l (Pso.anyT l m)) σ ([],[])).1)):=Y1 rfl;rw[J.out];have g:=h.lt;have D:=Y1 (Zde bp A c l o s e 89 (enters_of Tryz.func89 (by kernel_rfl) rfl) (.pointer (some ⟨w.heap.size+2,0,none⟩)) (.pointer (some ⟨w.heap.size,0,none⟩)) (JF (clW w bp k) bp (w.heap.size+2) k) (Pso.fieldsR l (Pso.anyT l m)) m (by omega) (Pso.goes_fields (Pso.to_anyT m)) (fun r W W' a h hu=>h.keep hu)
  (Zlo bp A c l m Y ht K (clW w bp k) w.heap.size (w.heap.size+2) k (Zgv k g)) σ ([],[]) (clW w bp k) hσ M (h.below (Zf3 w bp k)) ⟨none,0,none,0,[],ZmB k g,rfl,by simp,by simp⟩)
 obtain ⟨y,P⟩: ∃y,y=betw l o s e (Pso.fieldsR l (Pso.anyT l m)) σ ([],[]):=⟨_,rfl⟩;rw[<-P] at D ⊢;have j:=Y1 (Zf3 w bp k);have p:=Y1 (ZkL w bp k);have q:=Y1 (ZfH w bp k);have F:=Y1 (Zgv k g).c;clear J h P K M;go_enter Tryz.func46,Tryz.ntmps46
 go_wp2_with fail
 change Calls _ _ _ (clW w bp k) _;generalize clW w bp k=W1 at D j p q F ⊢;refine D.out.mono ?_;rintro e1 I ⟨rfl,C,r,N,AN,cn,AP,cp,L,f,O,z,B⟩;have E:=Y1 C;have u:=Y1 f;have X:=Y1 O;have t:=Y1 (And.intro N (And.intro z B));have c0:=f.c0;have c1:=f.c1;have c2:=f.c2;have c3:=f.c3;have c4:=f.c4;have a3:=f.up.size;have a2:=q.out;have a0:w.heap.size+2 < I.heap.size:=by omega
 have d:=f.up.same (b:=w.heap.size+1) (by omega) (by simp; omega);obtain ⟨Q,S,T,U,V,i⟩:=p.out;have r0:=(d.1 0).trans Q;have r1:=(d.1 1).trans S;have r2:=(d.1 2).trans T;have r3:=(d.1 3).trans U;have r4:=(d.1 4).trans V;have g0:=(d.2 0).trans (i 0);have g1:=(d.2 1).trans (i 1);have g2:=(d.2 2).trans (i 2);have g3:=(d.2 3).trans (i 3);have g4:=(d.2 4).trans (i 4);have H:w.heap.size+1 < I.heap.size:=by omega
 clear C f O z B N d Q S T U V i D;go_wp2;refine bodyPost_ret (v:=valS ⟨⟨k,[],[],y.2.1,L.map ES.t⟩,⟨AN,cn,AP,cp⟩,W1.heap.size,I.heap.size⟩) (by simp[results,Tryz.results46,go_sem,valS,r0,r1,r2,r3,r4,H]) rfl ?_;have Z:=Zfq (k:=k) (o:= []) (n:= []) u.out.rN u.out.rP u.out.is u.out.sm (by simp) (by simp) (by have:=t.out; omega) (by have:=t.out; omega);have G:=end5 E.out (UpT.drop u.out.up j.out (by omega)) Z (rb:=w.heap.size+1) (by omega) (Or.inl (by simp only; omega)) g;exact ⟨_,rfl,(G _ _ _ _ _).1,(G _ _ _ _ _).2.1,(G _ _ _ _ _).2.2,by simp only; omega,by rw[X.out]⟩
theorem ZkM {α:Type} {l:List Tk} {o s e:List UInt8} {f:St->α->St×α} (d:Goes l f) {σ:St} (a:α) (h:Ok l σ): (want l σ o).1<=(betw l o s e f σ a).1.1:=by
 unfold betw;have g:=Pso.to_want h o;simp only;split
 {exact Nat.le_succ _}
 {have b:=d _ a g.1;have c:=Pso.to_loop (s:=s) d (l.length+1) _ (f (want l σ o) a).2 b.1;exact ((b.trans c).trans (Pso.to_want c.1 e)).2.1}
theorem Zjb (bp:Nat) (A:Option Addr) (c:Nat) (l:List Tk) (m:Nat) (σ:St) (hl:l.length<=5000) (hσ:Ok l σ) (Z:TyC bp A c l m) (hm:l.length - (want l σ [40]).1 < m) (w:World) (h:PAt w bp A c l σ):
 Calls Tryz.prog 47 #[.pointer (some ⟨bp,0,none⟩)] w (TyIs bp A c l (Pso.funT l (Pso.anyT l m) σ) w):=by
 have HF:Hid (Pso.funT l (Pso.anyT l m) σ=(⟨8,[],[],[],(betw l [40] [44] [41] (Pso.partsR l (Pso.anyT l m)) σ []).2++ [(Pso.anyT l m (want l (betw l [40] [44] [41] (Pso.partsR l (Pso.anyT l m)) σ []).1 [45,62])).1]⟩,(Pso.anyT l m (want l (betw l [40] [44] [41] (Pso.partsR l (Pso.anyT l m)) σ []).1 [45,62])).2)):=Y1 rfl;rw[HF.out];have z:=h.lt;have U:=Y1 (Zde bp A c l [40] [44] [41] 92 (enters_of Tryz.func92 (by kernel_rfl) rfl) (.pointer (some ⟨w.heap.size+2,0,none⟩)) (.pointer (some ⟨w.heap.size,0,none⟩)) (JP (clW w bp 8) bp (w.heap.size+2) 8) (Pso.partsR l (Pso.anyT l m)) m (by omega) (Pso.goes_parts (Pso.to_anyT m)) (fun r W W' a h hu=>h.keep hu)
  (ZmA bp A c l m hl Z (clW w bp 8) w.heap.size (w.heap.size+2) 8 (Zgv 8 z)) σ [] (clW w bp 8) hσ hm (h.below (Zf3 w bp 8)) ⟨none,0,[],ZmB 8 z,rfl,by simp⟩)
 have j:=Pso.to_betw (o:= [40]) (s:= [44]) (e:= [41]) (Pso.goes_parts (Pso.to_anyT m)) [] hσ;have K: (want l σ [40]).1<=(betw l [40] [44] [41] (Pso.partsR l (Pso.anyT l m)) σ []).1.1:=ZkM (Pso.goes_parts (Pso.to_anyT m)) [] hσ;obtain ⟨y,hy⟩: ∃y,y=betw l [40] [44] [41] (Pso.partsR l (Pso.anyT l m)) σ []:=⟨_,rfl⟩;rw[<-hy] at U j K ⊢;have f:=Pso.to_want j.1 [45,62];have b9:=Y1 j.1;have a5:=Y1 f;have HW:=Y1 (fun (w:World) (h:PAt w bp A c l y.1)=>ZcJ bp A c l y.1 [45,62] (by omega) j.1.1 w h);have HT:=Y1 (fun (W:World) (h:PAt W bp A c l (want l y.1 [45,62]))=>Z W _ f.1 (by have:=f.2.1; omega) h);have E:=Y1 (Zf3 w bp 8);have F:=Y1 (ZkL w bp 8);have G:=Y1 (ZfH w bp 8);have q:=Y1 (Zgv 8 z);clear HF h hy Z hm j f K;go_enter Tryz.func47,Tryz.ntmps47
 go_wp2_with fail
 change Calls _ _ _ (clW w bp 8) _;generalize clW w bp 8=W1 at U E F G q ⊢;refine U.out.mono ?_;rintro e1 w2 ⟨rfl,P,r,hr,AP,cp,L,g,hs,O⟩;have I:=Y1 P;have B:=Y1 g;have HX:=Y1 hs;have H:=Y1 (And.intro hr O);obtain ⟨a0,M⟩:=q.out.on g.up;clear P g hs O hr U
 go_wp2_with fail
 refine (HW.out w2 I.out).mono ?_;rintro e1 w3 ⟨T,rfl,Q,S⟩;have J:=Y1 Q;have t:=Y1 (B.out.keep S);clear Q S B I a0 M HW;obtain ⟨a1,N⟩:=q.out.on t.out.up
 go_wp2_with fail
 refine regS _ 15 3 1 28 4 29 (JS.ctx W1 bp (w.heap.size+2) AP cp L w3 A c l (Pso.anyT l m (want l y.1 [45,62])).2 (fun x=>x.t=(Pso.anyT l m (want l y.1 [45,62])).1)) (t.out.good (by have:=H.out; omega)) w.heap.size a1 N q.out.ne
  (fun u=> { tmps:=#[.pointer (some ⟨bp,0,none⟩),.pointer (some ⟨w.heap.size,0,none⟩),.pointer (some ⟨w.heap.size+1,0,none⟩),.pointer (some ⟨w.heap.size+1+1,0,none⟩),.agg #[.int .i64 8,.string ⟨#[]⟩,.string ⟨#[]⟩,.slice none 0 0,.slice none 0 0],.pointer (some ⟨bp,0,none⟩),.pointer (some ⟨bp,0,none⟩),.pointer (some ⟨bp,0,none⟩),.func (.func 92) #[] #[.pointer (some ⟨w.heap.size+1+1,0,none⟩),.pointer (some ⟨w.heap.size,0,none⟩)],.tuple #[],.pointer (some ⟨bp,0,none⟩),.pointer (some ⟨bp,0,none⟩),.pointer (some ⟨bp,0,none⟩),.slice (some ⟨w2.heap.size,0,none⟩) 1 1,.string T,u 0,u 1,u 2,u 3,u 4,u 5,u 6,u 7,u 9,undef],defers:= [] }) (fun _=>undef)
  ⟨fun i o h u v=>by
   rcases i with _ | _ | _ | _ | _ | _ | _ | _ | _ | _ | _ | i
   all_goals first | (cases h; rfl) | exact absurd h (by simp[opsS]),fun _=>rfl,fun _=>rfl,fun _=>rfl,fun _=>rfl,fun _=>rfl,fun _=>rfl,fun _=>rfl,fun _=>rfl,fun _=>rfl,fun _=>rfl,fun _=>rfl⟩
  (fun W=>by go_simp; rfl) (enters_of Tryz.func29 (by kernel_rfl) rfl) (fun W hW=>HT.out W (J.out.below hW)) (fun u w4 x g' cp' p=> ?_)
 have hx:x.t=(Pso.anyT l m (want l y.1 [45,62])).1:=p.r;have C:PAt w4 bp A c l (Pso.anyT l m (want l y.1 [45,62])).2:=p.par;have g:=t.out.part p;have V:=Y1 C;have B:=Y1 g;have X:=Y1 hx;have c0:=g.c0;have c1:=g.c1;have c2:=g.c2;have c3:=g.c3;have c4:=g.c4;have d4:=g.up.size;have d3:=G.out;have d2:w.heap.size+2 < w4.heap.size:=by omega
 have d:=g.up.same (b:=w.heap.size+1) (by omega) (by simp; omega);obtain ⟨q0,q1,q2,q3,q4,D⟩:=F.out;have r0:=(d.1 0).trans q0;have r1:=(d.1 1).trans q1;have r2:=(d.1 2).trans q2;have r3:=(d.1 3).trans q3;have r4:=(d.1 4).trans q4;have g0:=(d.2 0).trans (D 0);have g1:=(d.2 1).trans (D 1);have g2:=(d.2 2).trans (D 2);have g3:=(d.2 3).trans (D 3);have g4:=(d.2 4).trans (D 4);have a2:w.heap.size+1 < w4.heap.size:=by omega
 clear p hx C g d q0 q1 q2 q3 q4 D t J;go_wp2;refine bodyPost_ret (v:=valS ⟨⟨8,[],[],[],(L++ [x]).map ES.t⟩,⟨none,0,some ⟨g',0,none⟩,cp'⟩,W1.heap.size,w4.heap.size⟩) (by simp[results,Tryz.results47,go_sem,valS,r0,r1,r2,r3,r4,a2]) rfl ?_;have hn:=Zfq (k:=8) (o:= []) (n:= []) B.out.rN B.out.rP B.out.is B.out.sm (by simp) (by simp) (by simp) (by have:=H.out; simp; omega);have Y:=end5 V.out (UpT.drop B.out.up E.out (by omega)) hn (rb:=w.heap.size+1) (by omega) (Or.inl (by simp only; omega)) z;exact ⟨_,rfl,(Y _ _ _ _ _).1,(Y _ _ _ _ _).2.1,(Y _ _ _ _ _).2.2,by simp only; omega,by rw[HX.out, <-X.out,List.map_append]; rfl⟩
end
section
open Go.RowKit Tms
open Shp (Sh)
open Pso (St Ok Goes betw loop want)
open Prs (sign)
section
variable {bp : Nat} {A : Option Addr} {c : Nat} {l : List Tk} {σ : St} {s : List UInt8}
theorem Zd5 (d:sign l σ.1 s=false) (f:l.length<=5000) (b:σ.1<=l.length) (w:World) (h:PAt w bp A c l σ) {a:Nat} (hb0:a=w.heap.size:=by first | rfl | simp | omega):
 Calls Tryz.prog 43 #[.pointer (some ⟨bp,0,none⟩),.slice (some ⟨a,0,none⟩) 1 1] (w.alloc (.cells #[.string ⟨s.toArray⟩] 9)) fun e w'=>e= .returned (.bool false)/\PAt w' bp A c l σ/\UpT [bp] w w':=by
 have:=ZeJ bp A c l σ s (by omega) b w h hb0;rw[d] at this;simpa using this
theorem ZcZ (d:sign l σ.1 s=true) (f:l.length<=5000) (b:σ.1<=l.length) (w:World) (h:PAt w bp A c l σ) {a:Nat} (hb0:a=w.heap.size:=by first | rfl | simp | omega):
 Calls Tryz.prog 43 #[.pointer (some ⟨bp,0,none⟩),.slice (some ⟨a,0,none⟩) 1 1] (w.alloc (.cells #[.string ⟨s.toArray⟩] 9)) fun e w'=>e= .returned (.bool true)/\PAt w' bp A c l (σ.1+1,σ.2)/\UpT [bp] w w':=by
 have:=ZeJ bp A c l σ s (by omega) b w h hb0;rw[d] at this;simpa using this
theorem Zdc {b:Bool} (f:sign l σ.1 s=b) (g:l.length<=5000) (d:σ.1<=l.length) (w:World) (h:PAt w bp A c l σ) {a:Nat} (hb0:a=w.heap.size:=by first | rfl | simp | omega):
 Calls Tryz.prog 45 #[.pointer (some ⟨bp,0,none⟩),.slice (some ⟨a,0,none⟩) 1 1] (w.alloc (.cells #[.string ⟨s.toArray⟩] 9)) fun e w'=>e= .returned (.bool b)/\PAt w' bp A c l σ/\UpT [bp] w w':=
 (Zli bp A c l σ s (by omega) d w h hb0).mono (fun e w' h2=>⟨by rw[h2.1,f],h.below h2.2,ZcF h2.2⟩)
theorem ZdZ (b:l.length<=5000) (a:σ.1<=l.length) (w:World) (h:PAt w bp A c l σ):
 Calls Tryz.prog 28 #[.pointer (some ⟨bp,0,none⟩)] w fun e w'=>e= .returned (.agg #[.int .i64 (Prs.look l σ.1).t.kind,.string ⟨(Prs.look l σ.1).t.text.toArray⟩,.int .i64 (Prs.look l σ.1).at_])/\PAt w' bp A c l σ/\UpT [bp] w w':=
 (Zdu bp A c l σ (by omega) a w h).mono (fun e w' h2=>⟨h2.1,h.below h2.2,ZcF h2.2⟩)
theorem Zeh (a:sign l σ.1 s=true):want l σ s=(σ.1+1,σ.2):=by unfold Pso.want; rw[a,if_pos rfl]
end
theorem Zql {n:List UInt8} (a:n.length<=1000000) (w:World): ∃x:ES,(.agg #[.int .i64 (Prs.upper [] n).kind,.string ⟨(Prs.upper [] n).of_.toArray⟩,.string ⟨(Prs.upper [] n).name.toArray⟩,.slice none 0 0,.slice none 0 0]:Value)=valS x/\x.Is w/\w.heap.size<=x.lo/\x.t=Prs.upper [] n:=by
 unfold Prs.upper;split
 {exact ⟨_,rfl,Ze4 w 1 (by simp) (by simp),Nat.le_refl _,rfl⟩}
 split
 {exact ⟨_,rfl,Ze4 w 2 (by simp) (by simp),Nat.le_refl _,rfl⟩}
 split
 {exact ⟨_,rfl,Ze4 w 3 (by simp) (by simp),Nat.le_refl _,rfl⟩}
 split
 {exact ⟨_,rfl,Ze4 w 4 (by simp) (by simp),Nat.le_refl _,rfl⟩}
 {exact ⟨_,rfl,Ze4 w 9 (by simp) a,Nat.le_refl _,rfl⟩}
theorem hidC {P:Program} {f:FuncId} {a:Array Value} {W0 w b:World} {E:Ending} {Q:World->Prop} {F:List Nat} (h:Calls P f a W0 fun e w'=>e=E/\Q w'/\UpT F w w') (c:Hid (UpT F b w)):Calls P f a W0 fun e w'=>e=E/\Hid (Q w')/\Hid (UpT F b w'):=
 h.mono fun e w' h=>⟨h.1,Y1 h.2.1,Y1 (c.out.trans h.2.2)⟩
theorem hidS {f:FuncId} {a:Array Value} {W0 b:World} {bp:Nat} {A:Option Addr} {c:Nat} {l:List Tk} {r:Sh×St} (n:Nat) (h:Calls Tryz.prog f a W0 (TyIs bp A c l r W0)) (d:Hid (UpT [bp] b W0)) (p:n<=b.heap.size):
 Calls Tryz.prog f a W0 fun e W'=> ∃x:ES,e= .returned (valS x)/\Hid (PAt W' bp A c l r.2)/\Hid (UpT [bp] b W')/\Hid (x.Is W')/\n<=x.lo/\Hid (x.t=r.1):=
 h.mono fun e W' h=>by
  obtain ⟨x,g,i,j,k,m,o⟩:=h;exact ⟨x,g,Y1 i,Y1 (d.out.trans j),Y1 k,Nat.le_trans (Nat.le_trans p d.out.size) m,Y1 o⟩
theorem Zo3 {bp:Nat} {A:Option Addr} {c:Nat} {l:List Tk} {σ:St} (n:List UInt8) (a:n.length<=1000000) (W:World) (h:PAt W bp A c l σ):
 Calls Tryz.prog 49 #[.string ⟨n.toArray⟩] W (TyIs bp A c l (Prs.upper [] n,σ) W):=
 (ZhL n a W).mono fun e W' he=>by
  obtain ⟨x,g,b,d,f⟩:=Zql a W';exact ⟨x,by rw[he.1,g],h.below he.2,ZcF he.2,b,Nat.le_trans he.2.size d,f⟩
theorem Zpa (bp:Nat) (A:Option Addr) (c:Nat) (l:List Tk) (m:Nat) (τ:St) (hl:l.length<=5000) (ht: ∀b∈l,b.t.text.length<=1000000) (hT:TyC bp A c l m) (hO:Ok l τ) (hm:l.length - τ.1 < m+1) (w:World) (hP:PAt w bp A c l τ):
 Calls Tryz.prog 29 #[.pointer (some ⟨bp,0,none⟩)] w (TyIs bp A c l (Pso.bodyT l (Pso.anyT l m) τ) w):=by
 have hb0:=Z01 w (.cells #[.int .i64 0,.string ⟨#[]⟩,.string ⟨#[]⟩,.slice none 0 0,.slice none 0 0] 28);have HP:=Y1 (hP.below hb0);have HB0:=Y1 hb0;have HV:=Y1 (UpT.refl [bp] (w.alloc (.cells #[.int .i64 0,.string ⟨#[]⟩,.string ⟨#[]⟩,.slice none 0 0,.slice none 0 0] 28)));have hbw:=hP.lt;have HT:=Y1 hT;have hfd:=ZkI (Prs.look l τ.1).t.kind ⟨(Prs.look l τ.1).t.text.toArray⟩ (Prs.look l τ.1).at_;clear hb0 hP hT;go_enter Tryz.func29,Tryz.ntmps29
 go_wp2_with fail
 rcases Bool.eq_false_or_eq_true (sign l τ.1 [91]) with h91 | h91
 rotate_left
 refine (hidC (Zd5 h91 hl hO.1 _ HP.out) HV).mono ?_;rintro e W ⟨rfl,HP,HV⟩
 go_wp2_with fail
 rcases Bool.eq_false_or_eq_true (sign l τ.1 [123]) with h123 | h123
 rotate_left
 refine (hidC (Zdc h123 hl hO.1 _ HP.out) HV).mono ?_;rintro e W ⟨rfl,HP,HV⟩
 go_wp2_with fail
 rcases Bool.eq_false_or_eq_true (sign l τ.1 [60]) with h60 | h60
 rotate_left
 refine (hidC (Zdc h60 hl hO.1 _ HP.out) HV).mono ?_;rintro e W ⟨rfl,HP,HV⟩
 go_wp2_with fail
 rcases Bool.eq_false_or_eq_true (sign l τ.1 [40]) with h40 | h40
 rotate_left
 refine (hidC (Zdc h40 hl hO.1 _ HP.out) HV).mono ?_;rintro e W ⟨rfl,HP,HV⟩
 go_wp2_with fail
 refine (hidC (ZdZ hl hO.1 _ HP.out) HV).mono ?_;rintro e W ⟨rfl,HP,HV⟩;by_cases hk: (Prs.look l τ.1).t.kind=1;have HF:Hid (Pso.bodyT l (Pso.anyT l m) τ=Pso.othersT l τ):=Y1 (by unfold Pso.bodyT; rw[if_neg (by rw[h91]; simp),if_neg (by rw[h123]; simp),if_neg (by rw[h60]; simp),if_neg (by rw[h40]; simp),if_pos hk]);have hke: ((Prs.look l τ.1).t.kind==1)=true:=by simpa using hk
 clear hk
 rotate_left
 have HF:Hid (Pso.bodyT l (Pso.anyT l m) τ=(Prs.upper [] (Pso.upperN l τ).1,(Pso.upperN l τ).2)):=Y1 (by unfold Pso.bodyT; rw[if_neg (by rw[h91]; simp),if_neg (by rw[h123]; simp),if_neg (by rw[h60]; simp),if_neg (by rw[h40]; simp),if_neg hk]);have hke: ((Prs.look l τ.1).t.kind==1)=false:=by simpa using hk
 clear hk
 go_wp2_with fail
 refine (hidC (Zex bp A c l τ (by omega) hO.1 ht _ HP.out) HV).mono ?_;rintro e W ⟨rfl,HP,HV⟩
 go_wp2_with fail
 refine (hidS (w.heap.size+1) (Zo3 (Pso.upperN l τ).1 (ZcU ht τ 2 (by decide) _) _ HP.out) HV (by simp)).mono ?_
 rotate_left
 have HF:Hid (Pso.bodyT l (Pso.anyT l m) τ=Pso.listT l (Pso.anyT l m) (τ.1+1,τ.2)):=Y1 (by unfold Pso.bodyT; rw[if_pos h91]);refine (hidC (ZcZ h91 hl hO.1 _ HP.out) HV).mono ?_;rintro e W ⟨rfl,HP,HV⟩
 go_wp2_with fail
 refine (hidS (w.heap.size+1) (Ziz bp A c l m (τ.1+1,τ.2) hl (Pso.to_next hO (Pso.sign_lt h91)).1 HT.out (by have:=Pso.sign_lt h91; simp only; omega) _ HP.out) HV (by simp)).mono ?_
 rotate_left
 have HF:Hid (Pso.bodyT l (Pso.anyT l m) τ=Pso.fieldsT l (Pso.anyT l m) τ 6 [123] [44] [125]):=Y1 (by unfold Pso.bodyT; rw[if_neg (by rw[h91]; simp),if_pos h123]);refine (hidC (Zdc h123 hl hO.1 _ HP.out) HV).mono ?_;rintro e W ⟨rfl,HP,HV⟩
 go_wp2_with fail
 refine (hidS (w.heap.size+1) (Zf4 bp A c l m τ 6 [123] [44] [125] hl ht hO HT.out (by have:=Pso.sign_lt h123; rw[Zeh h123]; simp only; omega) _ HP.out) HV (by simp)).mono ?_
 rotate_left
 have HF:Hid (Pso.bodyT l (Pso.anyT l m) τ=Pso.fieldsT l (Pso.anyT l m) τ 7 [60] [124] [62]):=Y1 (by unfold Pso.bodyT; rw[if_neg (by rw[h91]; simp),if_neg (by rw[h123]; simp),if_pos h60]);refine (hidC (Zdc h60 hl hO.1 _ HP.out) HV).mono ?_;rintro e W ⟨rfl,HP,HV⟩
 go_wp2_with fail
 refine (hidS (w.heap.size+1) (Zf4 bp A c l m τ 7 [60] [124] [62] hl ht hO HT.out (by have:=Pso.sign_lt h60; rw[Zeh h60]; simp only; omega) _ HP.out) HV (by simp)).mono ?_
 rotate_left
 have HF:Hid (Pso.bodyT l (Pso.anyT l m) τ=Pso.funT l (Pso.anyT l m) τ):=Y1 (by unfold Pso.bodyT; rw[if_neg (by rw[h91]; simp),if_neg (by rw[h123]; simp),if_neg (by rw[h60]; simp),if_pos h40]);refine (hidC (Zdc h40 hl hO.1 _ HP.out) HV).mono ?_;rintro e W ⟨rfl,HP,HV⟩
 go_wp2_with fail
 refine (hidS (w.heap.size+1) (Zjb bp A c l m τ hl hO HT.out (by have:=Pso.sign_lt h40; rw[Zeh h40]; simp only; omega) _ HP.out) HV (by simp)).mono ?_
 rotate_left
 go_wp2_with fail
 refine (hidS (w.heap.size+1) (Zhf bp A c l τ hl hO ht _ HP.out) HV (by simp)).mono ?_
 rotate_left
 all_goals
  first | rintro e W ⟨x,rfl,HP,HV,HX,hlo,HXT⟩ | rintro e W x rfl HP HV HX hlo HXT
  obtain ⟨r0,r1,r2,r3,r4,g0,g1,g2,g3,g4,hrl⟩:=res5 HB0.out (ZcK w _ _ _ _ _ _) rfl HV.out hbw;simp only[valS];go_wp2;refine bodyPost_ret (v:=valS x) (by simp[results,Tryz.results29,go_sem,valS,r0,r1,r2,r3,r4,hrl]) rfl ?_;have hE:=end5 HP.out ((ZcF (F:= [bp]) HB0.out).trans HV.out) HX.out (rb:=w.heap.size) (Nat.le_refl _) (Or.inl (by omega)) hbw;rw[HF.out];exact ⟨x,rfl,(hE _ _ _ _ _).1,(hE _ _ _ _ _).2.1,(hE _ _ _ _ _).2.2,by omega,HXT.out⟩
theorem Zgd (bp:Nat) (A:Option Addr) (c:Nat) (l:List Tk) (a:l.length<=5000) (d: ∀b∈l,b.t.text.length<=1000000): ∀m,TyC bp A c l m
 | 0=>fun W τ hO hm=>absurd hm (by omega)
 | m+1=>fun W τ hO hm hP=>Zpa bp A c l m τ a d (Zgd bp A c l a d m) hO hm W hP
end
section
open Go.RowKit Shp
theorem Strs.cell7 {w:World} {B:Nat} {A:Option Addr} {l:List (List UInt8)} (h:Strs w B A (strs l)):l.length=0\/ ∃g off,A=some ⟨g,off,none⟩/\g < B/\ ∀i (hi:i < l.length),w.cell? ⟨g,off+i,none⟩=some (.string ⟨(l[i]'hi).toArray⟩):=by
 rcases h with h | ⟨g,off,a,c,b⟩
 {exact Or.inl (by rwa [Z1w] at h)}
 {refine Or.inr ⟨g,off,a,c,fun i hi=> ?_⟩;rw[b i (by rwa [Z1w])];simp[strs]}
theorem Z7m (A:Option Addr) (c:Nat) (l:List (List UInt8)) (p:Nat) (w:World) (T:Strs w w.heap.size A (strs l)) (hl:l.length<=9223372036854775807) (o: ∀x∈l,x.length<=9223372036854775807):
 Y9 130 #[.slice A l.length c,.int .i64 (p:Int)] w (.bool (areNames l&&decide (l.length=p))):=by
 have V:=Y1 T;have Y:=Y1 o;clear T o;go_enter Tryz.func130,Tryz.ntmps130
 go_wp2_with fail
 go_loopw [5] (fun ii wr=> ∃i:Nat,ii= .int .i64 i/\i<=l.length/\Hid (∀j (hj:j < l.length),j < i->Lex.isName (l[j]'hj)=true/\ ∀k (U:k < j),l[k]'(by omega)≠l[j]'hj)/\Below w.heap.size w wr)
  (fun i _=>l.length - (intOf i).toNat)
 case atStart=>exact ⟨0,rfl,Nat.zero_le _,Y1 (fun j _ hj=>absurd hj (by omega)),Below.refl _ _⟩
 case round=>
  obtain ⟨i,rfl,hi,G,z⟩:=hrel;by_cases b:i < l.length
  {have K: (i:Int) < (l.length:Int):=by omega
   rcases (V.out.next z).cell7 with h0 | ⟨g,off,rfl,hg,I⟩
   {omega}
   {have n:=I i b;obtain ⟨x,o⟩: ∃x,x=l[i]'b:=⟨_,rfl⟩;rw[<-o] at n;have D:x.length<=9223372036854775807:=by rw[o]; exact Y.out _ (List.getElem_mem _)
    have u:=Y1 o;have W:=Y1 I;clear o I;cases q:Lex.isName x with
    | false=>
     have E:Hid (areNames l=false):=Y1 (Z3Q b (by rw[<-u.out]; exact q));have r:=Z3o x D wr;rw[q] at r;clear q
     go_wp2_with (refine r.mono ?_; rintro e w' ⟨rfl,f⟩)
     go_ret;exact ⟨by rw[E.out]; rfl,Z03 z f⟩
    | true=>
     have X:Hid (Lex.isName (l[i]'b)=true):=Y1 (by rw[<-u.out]; exact q);have r:=Z3o x D wr;rw[q] at r;clear q
     go_wp2_with (refine r.mono ?_; rintro e w' ⟨rfl,f⟩)
     have B:=Z03 z f;have t:Hid (∀j (hj:j < l.length),w'.cell? ⟨g,off+j,none⟩=some (.string ⟨(l[j]'hj).toArray⟩)):=Y1 (fun j hj=>((f.cell (p:=⟨g,off+j,none⟩) hg).trans (W.out j hj)));have a:=t.out i b;rw[<-u.out] at a;have v:=Y1 a;have s:=Y1 B;clear r z f B n a
     go_loopw [6] (fun kk wr2=> ∃k:Nat,kk= .int .i64 k/\k<=i/\Hid (∀j (hj:j < i),j < k->l[j]'(by omega)≠l[i]'b)/\Hid (Below w'.heap.size w' wr2))
      (fun k _=>i - (intOf k).toNat)
     case atStart=>exact ⟨0,rfl,Nat.zero_le _,Y1 (fun j _ hj=>absurd hj (by omega)),Y1 Y2⟩
     case round=>
      obtain ⟨k,rfl,U,Q,d⟩:=hrel;have C:g < w'.heap.size:=lt_of_cell v.out;by_cases N:k < i
      {have L: (k:Int) < (i:Int):=by omega
       have a1: (k:Int) < (l.length:Int):=by omega
       have J:=(d.out.cell (p:=⟨g,off+k,none⟩) C).trans (t.out k (by omega));have Z:=(d.out.cell (p:=⟨g,off+i,none⟩) C).trans v.out;obtain ⟨y,P⟩: ∃y,y=l[k]'(by omega):=⟨_,rfl⟩;rw[<-P] at J;have S:=Y1 P;clear P;cases O: (y==x)
       {have F:Hid (l[k]'(by omega)≠l[i]'b):=Y1 (by rw[<-S.out, <-u.out]; intro h; rw[h] at O; simp at O)
        go_wp2_with fail
        go_quiet (fail)
        go_wp2
        go_roundw
        case rel=>exact ⟨k+1,by go_num,by omega,Y1 (fun j hj hji=>by
         rcases Nat.lt_succ_iff_lt_or_eq.1 hji with h | rfl
         {exact Q.out j hj h}
         · exact F.out),Y1 (Z0Q d.out _)⟩
        case measure=>simp[intOf]; omega}
       {have E:Hid (areNames l=false):=Y1 (Z37 b N (by rw[<-S.out, <-u.out]; simpa using O))
        go_wp2_with fail
        go_quiet (fail)
        go_wp2;go_ret;exact ⟨by rw[E.out]; rfl,Z0Q (Z03 s.out d.out) _⟩}}
      {have M:k=i:=by omega
       have H:Hid (∀j (hj:j < l.length),j < i+1->Lex.isName (l[j]'hj)=true/\ ∀k (U:k < j),l[k]'(by omega)≠l[j]'hj):=Y1 (fun j hj hji=>by
        rcases Nat.lt_succ_iff_lt_or_eq.1 hji with h | rfl
        {exact G.out j hj h}
        · exact ⟨X.out,fun m hm=>Q.out m hm (by omega)⟩)
       have L: ¬(k:Int) < (i:Int):=by omega
       clear M;go_wp2
       go_roundw
       case rel=>exact ⟨i+1,by go_num,by omega,H,Z03 s.out d.out⟩
       case measure=>simp[intOf]; omega}}}
  {have K: ¬(i:Int) < (l.length:Int):=by omega
   have F:Hid (areNames l=true):=Y1 (Z4h (fun j hj=>(G.out j hj (by omega)).1) (fun j hj=>(G.out j hj (by omega)).2));go_wp2;go_ret;exact ⟨Z0p (by rw[F.out,Bool.true_and,Bool.eq_iff_iff]; simp; omega),z⟩}
end
section
open Go.RowKit Go.Maps Go.WideMaps Shp
theorem Z4d:Keyed Tryz.prog 9:=string_keyed Tryz.underlying9
theorem Z3U (w:World): (zeroValue 151).run Tryz.prog w= .ok (.agg #[]) w:=by kernel_rfl
def seenOf (l:List (List UInt8)) (k:Nat):DataW Unit:=setOf (.agg []) ((l.take k).map Lit.string)
theorem Za4 (l:List (List UInt8)):seenOf l 0= .map []:=by simp[seenOf,setOf]
theorem Za5 (l:List (List UInt8)) (k:Nat) (a:k < l.length):seenOf l (k+1)=(seenOf l k).put (.string (l[k]'a)) (.agg []):=by
 unfold seenOf;rw[List.take_succ_eq_append_getElem a,List.map_append,List.map_cons,List.map_nil,setOf_snoc]
theorem Z6p (x:List UInt8): ∀l:List (List UInt8),l.any ((fun y:Lit=>y.sameKey (.string x)) ∘ Lit.string)=l.contains x
 | []=>rfl
 | a::r=>by
  rw[List.any_cons,List.contains_cons,Z6p x r];congr 1;by_cases e:a=x
  {subst e; simp[Lit.sameKey]}
  {have b: ¬x=a:=fun h=>e h.symm;simp[Lit.sameKey];rw[show (a==x)=false from by simpa using e,show (x==a)=false from by simpa using b]}
theorem Zbq (l:List (List UInt8)) (k:Nat) (x:List UInt8):Maps.has (seenOf l k) (.string x)=(l.take k).contains x:=by
 unfold seenOf;rw[has_setOf _ _ _ (fun y hy=>by obtain ⟨_,_,rfl⟩:=List.mem_map.1 hy; trivial),List.any_map];exact Z6p x _
theorem Z7r (A:Option Addr) (c:Nat) (l:List (List UInt8)) (w:World) (M:Strs w w.heap.size A (strs l)) (X:l.length<=1000000) (u: ∀x∈l,x.length<=9223372036854775807):
 Y9 127 #[.slice A l.length c] w (.bool (areNames l)):=by
 have S:= @run_makeMap Tryz.prog;have O:=Y1 M;have Q:=Y1 u;clear M u;go_enter Tryz.func127,Tryz.ntmps127
 go_wp2_with fail
 go_loopw [11] (fun ii wr=> ∃k:Nat,k<=l.length/\ii= .int .i64 k/\wr.ownsMap Tryz.prog 9 unitElem w.heap.size k (seenOf l k)/\Below w.heap.size w wr/\Hid (∀j (hj:j < l.length),j < k->Lex.isName (l[j]'hj)=true/\ ∀m (y:m < j),l[m]'(by omega)≠l[j]'hj))
  (fun i _=>l.length - (intOf i).toNat)
 case atStart=>exact ⟨0,Nat.zero_le _,rfl,by rw[Za4]; exact World.ownsMap_made _ _ _ _,Y2.alloc (Nat.le_refl _) _,Y1 (fun j _ hj=>absurd hj (by omega))⟩
 case round=>
  obtain ⟨k,V,rfl,a,E,G⟩:=hrel;by_cases f:k < l.length
  {have K: (k:Int) < (l.length:Int):=by omega
   rcases (O.out.next E).cell7 with T | ⟨g,off,rfl,U,N⟩
   {omega}
   {have s:=N k f;obtain ⟨x,u⟩: ∃x,x=l[k]'f:=⟨_,rfl⟩;rw[<-u] at s;have v:x.length<=9223372036854775807:=by rw[u]; exact Q.out _ (List.getElem_mem _)
    have B:=Y1 u;have o:keyOf Tryz.prog 9 (.string ⟨x.toArray⟩)=some (.string x):=keyOf_string_mk Tryz.underlying9 (by rw[Z0J]; unfold maxLen; exact v);clear u N;have r:=Y1 (Zbq l k x);have L:=Y1 a;have b:=Y1 E;clear E;cases d: (l.take k).contains x with
    | true=>
     have F:Hid (areNames l=false):=Y1 (by
      have y:=List.contains_iff_mem.1 d;obtain ⟨m,y,C⟩:=List.getElem_of_mem y;rw[List.length_take] at y;rw[List.getElem_take] at C;exact Z37 (k:=m) f (by omega) (by rw[C,B.out]))
     have p:=r.out;rw[d] at p;clear d
     go_wp2_with (first
      | (at_lookup; refine wpList_lookup_own_unit _ rfl _ _ 150 rfl 9 151 Z4d Tryz.underlying150 (Z3U _) w.heap.size k _ rfl a _ _ rfl o ?_)
      | fail)
     go_ret;exact ⟨by rw[F.out]; rfl,b.out.alloc b.out.size _⟩
    | false=>
     have J:Hid (∀m (y:m < k),l[m]'(by omega)≠l[k]'f):=Y1 (fun m y C=>by
      rw[<-B.out] at C;have:x∈l.take k:=by
       rw[<-C];have:=List.getElem_mem (l:=l.take k) (n:=m) (by rw[List.length_take]; omega)
       rwa [List.getElem_take] at this
      rw[List.contains_iff_mem.2 this] at d;cases d)
     have p:=r.out;rw[d] at p;clear d;cases z:Lex.isName x with
     | false=>
      have F:Hid (areNames l=false):=Y1 (Z3Q f (by rw[<-B.out]; exact z));have D:=fun W=>Z2i x v W;simp only[z] at D;clear z
      go_wp2_with (first
       | (at_lookup; refine wpList_lookup_own_unit _ rfl _ _ 150 rfl 9 151 Z4d Tryz.underlying150 (Z3U _) w.heap.size k _ rfl a _ _ rfl o ?_)
       | (go_at_call 123; refine (D _).mono ?_; rintro e w' ⟨rfl,rfl⟩))
      go_ret;exact ⟨by rw[F.out]; rfl,b.out.alloc b.out.size _⟩
     | true=>
      have I:Hid (Lex.isName (l[k]'f)=true):=Y1 (by rw[<-B.out]; exact z);have D:=fun W=>Z2i x v W;simp only[z] at D;clear z
      go_wp2_with (first
       | (at_lookup; refine wpList_lookup_own_unit _ rfl _ _ 150 rfl 9 151 Z4d Tryz.underlying150 (Z3U _) w.heap.size k _ rfl a _ _ rfl o ?_)
       | (go_at_call 123; refine (D _).mono ?_; rintro e w' ⟨rfl,rfl⟩)
       | (at_mapUpdate; refine wpList_mapUpdate_own _ rfl _ _ _ 150 rfl 9 151 Z4d Tryz.underlying150 (unitElem (H:=Unit)) w.heap.size k _ rfl (a.alloc _) (by unfold maxLen; omega) _ _ _ rfl rfl o _ [] unitElem_mk ?_; intro Y t q))
      go_roundw
      case rel=>
       refine ⟨k+1,by omega,by go_num, ?_, ?_,Y1 (fun j hj hji=>by
        rcases Nat.lt_succ_iff_lt_or_eq.1 hji with h | rfl
        {exact G.out j hj h}
        · exact ⟨I.out,J.out⟩)⟩
       {rw[Za5 l k f, <-B.out]; exact t}
       {exact (b.out.alloc b.out.size _).grown q (by have:=b.out.size; simp; omega) (fun j hj=>by cases hj; exact Nat.le_refl _)}
      case measure=>simp[intOf]; omega}}
  {have K: ¬(k:Int) < (l.length:Int):=by omega
   have P:Hid (areNames l=true):=Y1 (Z4h (fun j hj=>(G.out j hj (by omega)).1) (fun j hj=>(G.out j hj (by omega)).2));go_wp2;go_ret;exact ⟨by rw[P.out]; rfl,E⟩}
end
section
open Go.RowKit Shp
def wordB (s:List UInt8):Bool:= []==s|| [73,110,116]==s|| [66,111,111,108]==s|| [84,101,120,116]==s|| [65,110,121]==s
def NotYet (s:List UInt8) (i:Int):Prop:=((1:Int)<=i->(([]:List UInt8)==s)=false)/\((2:Int)<=i->([73,110,116]==s)=false)/\((3:Int)<=i->([66,111,111,108]==s)=false)/\((4:Int)<=i->([84,101,120,116]==s)=false)/\((5:Int)<=i->([65,110,121]==s)=false)
theorem Z6S (s:List UInt8) (w:World) (d:WGlobs w):
 Calls Tryz.prog 156 #[.string ⟨s.toArray⟩] w fun e w'=>e= .returned (.bool (wordB s))/\w=w':=by
 have g:w.cell? ⟨0,0,none⟩=some (.string ⟨#[]⟩):=d.cell 0;have c1:w.cell? ⟨0,1,none⟩=some (.string ⟨#[73,110,116]⟩):=d.cell 1;have c2:w.cell? ⟨0,2,none⟩=some (.string ⟨#[66,111,111,108]⟩):=d.cell 2;have c3:w.cell? ⟨0,3,none⟩=some (.string ⟨#[84,101,120,116]⟩):=d.cell 3;have c4:w.cell? ⟨0,4,none⟩=some (.string ⟨#[65,110,121]⟩):=d.cell 4;clear d;have o: ∀W,(Instr.index 166 (.agg #[.string ⟨#[]⟩,.string ⟨#[73,110,116]⟩,.string ⟨#[66,111,111,108]⟩,.string ⟨#[84,101,120,116]⟩,.string ⟨#[65,110,121]⟩]) (.int .i64 0)).run Tryz.prog W= .ok (.string ⟨#[]⟩) W:=fun W=>by kernel_rfl
 have p: ∀W,(Instr.index 166 (.agg #[.string ⟨#[]⟩,.string ⟨#[73,110,116]⟩,.string ⟨#[66,111,111,108]⟩,.string ⟨#[84,101,120,116]⟩,.string ⟨#[65,110,121]⟩]) (.int .i64 1)).run Tryz.prog W= .ok (.string ⟨#[73,110,116]⟩) W:=fun W=>by kernel_rfl
 have q: ∀W,(Instr.index 166 (.agg #[.string ⟨#[]⟩,.string ⟨#[73,110,116]⟩,.string ⟨#[66,111,111,108]⟩,.string ⟨#[84,101,120,116]⟩,.string ⟨#[65,110,121]⟩]) (.int .i64 2)).run Tryz.prog W= .ok (.string ⟨#[66,111,111,108]⟩) W:=fun W=>by kernel_rfl
 have r: ∀W,(Instr.index 166 (.agg #[.string ⟨#[]⟩,.string ⟨#[73,110,116]⟩,.string ⟨#[66,111,111,108]⟩,.string ⟨#[84,101,120,116]⟩,.string ⟨#[65,110,121]⟩]) (.int .i64 3)).run Tryz.prog W= .ok (.string ⟨#[84,101,120,116]⟩) W:=fun W=>by kernel_rfl
 have t: ∀W,(Instr.index 166 (.agg #[.string ⟨#[]⟩,.string ⟨#[73,110,116]⟩,.string ⟨#[66,111,111,108]⟩,.string ⟨#[84,101,120,116]⟩,.string ⟨#[65,110,121]⟩]) (.int .i64 4)).run Tryz.prog W= .ok (.string ⟨#[65,110,121]⟩) W:=fun W=>by kernel_rfl
 go_enter Tryz.func156,Tryz.ntmps156
 go_wp2_with fail
 go_loopw [6] (fun ii wr=> ∃i:Int,ii= .int .i64 i/\0<=i/\i<=5/\Hid (NotYet s i)/\w=wr)
  (fun i _=>(5 - intOf i).toNat)
 case atStart=>exact ⟨0,rfl,by omega,by omega,Y1 ⟨fun h=>absurd h (by omega),fun h=>absurd h (by omega),fun h=>absurd h (by omega),fun h=>absurd h (by omega),fun h=>absurd h (by omega)⟩,rfl⟩
 case round=>
  obtain ⟨i,rfl,m,n,c,rfl⟩:=hrel;clear g c1 c2 c3 c4;have l:i=0\/i=1\/i=2\/i=3\/i=4\/i=5:=by omega
  rcases l with rfl | rfl | rfl | rfl | rfl | rfl
  {cases a: (([]:List UInt8)==s)
   {have HN2:Hid (NotYet s 1):=Y1 (show ((1:Int)<=1->(([]:List UInt8)==s)=false)/\((2:Int)<=1->([73,110,116]==s)=false)/\((3:Int)<=1->([66,111,111,108]==s)=false)/\((4:Int)<=1->([84,101,120,116]==s)=false)/\((5:Int)<=1->([65,110,121]==s)=false) from ⟨fun _=>a,fun h=>absurd h (by omega),fun h=>absurd h (by omega),fun h=>absurd h (by omega),fun h=>absurd h (by omega)⟩);have f:s.isEmpty=false:=by cases s <;> simp_all
    go_wp2
    go_roundw
    case rel=>exact ⟨1,rfl,by omega,by omega,HN2,trivial⟩
    case measure=>simp[intOf]}
   {have b:Hid (wordB s=true):=Y1 (by unfold wordB; rw[a]; simp);have f:s.isEmpty=true:=by cases s <;> simp_all
    go_wp2;go_ret;exact ⟨by rw[b.out]; rfl,rfl⟩}}
  {cases a: ([73,110,116]==s)
   {have HN2:Hid (NotYet s 2):=Y1 (show ((1:Int)<=2->(([]:List UInt8)==s)=false)/\((2:Int)<=2->([73,110,116]==s)=false)/\((3:Int)<=2->([66,111,111,108]==s)=false)/\((4:Int)<=2->([84,101,120,116]==s)=false)/\((5:Int)<=2->([65,110,121]==s)=false) from ⟨fun _=>c.out.1 (by omega),fun _=>a,fun h=>absurd h (by omega),fun h=>absurd h (by omega),fun h=>absurd h (by omega)⟩);go_wp2
    go_roundw
    case rel=>exact ⟨2,rfl,by omega,by omega,HN2,trivial⟩
    case measure=>simp[intOf]}
   {have b:Hid (wordB s=true):=Y1 (by unfold wordB; rw[a]; simp);go_wp2;go_ret;exact ⟨by rw[b.out]; rfl,rfl⟩}}
  {cases a: ([66,111,111,108]==s)
   {have HN2:Hid (NotYet s 3):=Y1 (show ((1:Int)<=3->(([]:List UInt8)==s)=false)/\((2:Int)<=3->([73,110,116]==s)=false)/\((3:Int)<=3->([66,111,111,108]==s)=false)/\((4:Int)<=3->([84,101,120,116]==s)=false)/\((5:Int)<=3->([65,110,121]==s)=false) from ⟨fun _=>c.out.1 (by omega),fun _=>c.out.2.1 (by omega),fun _=>a,fun h=>absurd h (by omega),fun h=>absurd h (by omega)⟩);go_wp2
    go_roundw
    case rel=>exact ⟨3,rfl,by omega,by omega,HN2,trivial⟩
    case measure=>simp[intOf]}
   {have b:Hid (wordB s=true):=Y1 (by unfold wordB; rw[a]; simp);go_wp2;go_ret;exact ⟨by rw[b.out]; rfl,rfl⟩}}
  {cases a: ([84,101,120,116]==s)
   {have HN2:Hid (NotYet s 4):=Y1 (show ((1:Int)<=4->(([]:List UInt8)==s)=false)/\((2:Int)<=4->([73,110,116]==s)=false)/\((3:Int)<=4->([66,111,111,108]==s)=false)/\((4:Int)<=4->([84,101,120,116]==s)=false)/\((5:Int)<=4->([65,110,121]==s)=false) from ⟨fun _=>c.out.1 (by omega),fun _=>c.out.2.1 (by omega),fun _=>c.out.2.2.1 (by omega),fun _=>a,fun h=>absurd h (by omega)⟩);go_wp2
    go_roundw
    case rel=>exact ⟨4,rfl,by omega,by omega,HN2,trivial⟩
    case measure=>simp[intOf]}
   {have b:Hid (wordB s=true):=Y1 (by unfold wordB; rw[a]; simp);go_wp2;go_ret;exact ⟨by rw[b.out]; rfl,rfl⟩}}
  {cases a: ([65,110,121]==s)
   {have HN2:Hid (NotYet s 5):=Y1 (show ((1:Int)<=5->(([]:List UInt8)==s)=false)/\((2:Int)<=5->([73,110,116]==s)=false)/\((3:Int)<=5->([66,111,111,108]==s)=false)/\((4:Int)<=5->([84,101,120,116]==s)=false)/\((5:Int)<=5->([65,110,121]==s)=false) from ⟨fun _=>c.out.1 (by omega),fun _=>c.out.2.1 (by omega),fun _=>c.out.2.2.1 (by omega),fun _=>c.out.2.2.2.1 (by omega),fun _=>a⟩);go_wp2
    go_roundw
    case rel=>exact ⟨5,rfl,by omega,by omega,HN2,trivial⟩
    case measure=>simp[intOf]}
   {have b:Hid (wordB s=true):=Y1 (by unfold wordB; rw[a]; simp);go_wp2;go_ret;exact ⟨by rw[b.out]; rfl,rfl⟩}}
  {have b:Hid (wordB s=false):=Y1 (by
    unfold wordB;obtain ⟨j,h1,h2,h3,k⟩:=c.out;rw[j (by omega),h1 (by omega),h2 (by omega),h3 (by omega),k (by omega)]; rfl)
   go_wp2;go_ret;exact ⟨by rw[b.out]; rfl,rfl⟩}
theorem Z0H {l:List UInt8} {b:Bool} (h: (l== [])=b):l.isEmpty=b:=by cases l <;> simp_all
theorem Z1l {l:List (List UInt8)}: ((l.length:Int)==0)=decide (l.length=0):=by rw[Bool.eq_iff_iff]; simp
theorem Z7Z (t:Sh) (q:Ptr) (w:World) (J:ShAt w w.heap.size q t) (A:t.kind=9\/t.kind=10):
 Calls Tryz.prog 100 #[.agg (Y8 t q)] w
  fun e w'=>e= .returned (.bool (fits t))/\Below w.heap.size w w':=by
 have F:=Y1 J.small;have I:=Z07 w t q;have n:=Y1 I;have hb0:=Z01 w (.cells (Y8 t q) 28);have k:=Y1 hb0;have l:=Y1 (Z29 A);have s:Hid (ofOk t=(Lex.isName t.of_||(t.of_== []&&decide (t.kind=9)&& !plain t.name))):=Y1 rfl;have j:Hid (plain t.name=(t.name== [73,110,116]||t.name== [66,111,111,108]||t.name== [84,101,120,116]||t.name== [65,110,121])):=Y1 rfl;obtain ⟨u,r⟩: ((t.kind==9)=true\/(t.kind==9)=false/\(t.kind==10)=true)/\True:=⟨by rcases A with h | h <;> simp[h],trivial⟩;have v:Hid (decide (t.kind=9)=(t.kind==9)):=Y1 (by rw[Bool.eq_iff_iff]; simp);clear I hb0 J r A;rcases u with u | ⟨u,r⟩
 all_goals
  have K:=Y1 u;go_enter Tryz.func100,Tryz.ntmps100
  go_upto_region 1 with fail
  generalize hW0:w.alloc (.cells (Y8 t q) 28)=W0 at n k ⊢;clear hW0;obtain ⟨_,⟨H,c1,c2,c3,c4⟩,_⟩:=n.out
  go_upto_region 2 with fail
  go_cut [3] (fun p wx=>p= .bool (plain t.name)/\W0=wx)
  case first=>
   cases e1: (t.name== [73,110,116])
   {cases e2: (t.name== [66,111,111,108])
    {cases e3: (t.name== [84,101,120,116])
     {cases z: (t.name== [65,110,121])
      all_goals
       have c:Hid _:=Y1 (show plain t.name=_ from by rw[j.out,e1,e2,e3,z])
       go_wp2_with fail
       go_meet
       exact ⟨by rw[c.out]; rfl,rfl⟩}
     {have c:Hid _:=Y1 (show plain t.name=_ from by rw[j.out,e1,e2,e3])
      go_wp2_with fail
      go_meet
      exact ⟨by rw[c.out]; rfl,rfl⟩}}
    {have c:Hid _:=Y1 (show plain t.name=_ from by rw[j.out,e1,e2])
     go_wp2_with fail
     go_meet
     exact ⟨by rw[c.out]; rfl,rfl⟩}}
   {have c:Hid _:=Y1 (show plain t.name=_ from by rw[j.out,e1])
    go_wp2_with fail
    go_meet
    exact ⟨by rw[c.out]; rfl,rfl⟩}
  case rest=>
   obtain ⟨rfl,rfl⟩:=hcut;have C:=F.out.o;have B:=F.out.n;generalize plain t.name=pl at s ⊢
   go_upto_region 3 with fail
   go_cut [4] (fun o wx=>o= .bool (ofOk t)/\Below W0.heap.size W0 wx)
   case first=>
    have g:=Z3o t.of_ C W0;have f:=n.out.1;cases hn:Lex.isName t.of_
    {cases ho: (t.of_== [])
     {have c:Hid (ofOk t=false):=Y1 (by rw[s.out,hn,ho]; rfl);have D:=Z0H ho;rw[hn] at g;clear hn ho
      go_wp2_with fail
      refine g.mono ?_;rintro e w' ⟨rfl,a⟩;have y:=(a.cell (p:=⟨w.heap.size,1,none⟩) f).trans c1
      go_wp2_with fail
      go_meet
      exact ⟨by (first | (rw[c.out]; done) | (rw[c.out]; rfl)),a⟩}
     {have c:Hid (ofOk t=((t.kind==9)&& !pl)):=Y1 (by rw[s.out,hn,ho,v.out]; rfl);rw[K.out] at c;have D:=Z0H ho;rw[hn] at g;clear hn ho
      go_wp2_with fail
      refine g.mono ?_;rintro e w' ⟨rfl,a⟩;have y:=(a.cell (p:=⟨w.heap.size,1,none⟩) f).trans c1;have L:=(a.cell (p:=⟨w.heap.size,0,none⟩) f).trans H
      go_wp2_with fail
      go_meet
      exact ⟨by (first | (rw[c.out]; done) | (rw[c.out]; rfl)),a⟩}}
    {have c:Hid (ofOk t=true):=Y1 (by rw[s.out,hn]; rfl);rw[hn] at g;clear hn
     go_wp2_with fail
     refine g.mono ?_;rintro e w' ⟨rfl,a⟩
     go_wp2_with fail
     go_meet
     exact ⟨by (first | (rw[c.out]; done) | (rw[c.out]; rfl)),a⟩}
   case rest=>
    obtain ⟨rfl,a⟩:=hcut;have d:Below w.heap.size w _:=k.out.trans (a.mono k.out.size);obtain ⟨_,⟨O,P,Q,S,T⟩,_⟩:=n.out.next a;clear H c1 c2 c3 c4;have g:=fun wx=>Z7l t.name B wx;have f:=n.out.1;generalize ofOk t=ok at l ⊢;cases hn:Lex.isUpper t.name
    {rw[hn] at l;simp only[hn] at g;clear hn
     go_wp2_with fail
     refine (g _).mono ?_;rintro e w' ⟨rfl,b⟩;go_wp2;go_ret;exact ⟨by rw[l.out]; rfl,d.trans (b.mono d.size)⟩}
    {rw[hn] at l;simp only[hn] at g;clear hn;cases ok
     {go_wp2_with fail
      refine (g _).mono ?_;rintro e w' ⟨rfl,b⟩;go_wp2;go_ret;exact ⟨by rw[l.out]; rfl,d.trans (b.mono d.size)⟩}
     {have G:=Y1 (n.out.next a);cases m:decide (t.names.length=0)
      {have i:=l;rw[m] at i;have E: ((t.names.length:Int)==0)=false:=by rw[Z1l]; exact m
       have N:=Y1 m;clear m
       go_wp2_with fail
       refine (g _).mono ?_;rintro e w' ⟨rfl,b⟩;obtain ⟨_,⟨M,e1,e2,e3,z⟩,_⟩:=G.out.next b;go_wp2;go_ret;exact ⟨by rw[i.out]; rfl,d.trans (b.mono d.size)⟩}
      {have i:=l;rw[m] at i;have E: ((t.names.length:Int)==0)=true:=by rw[Z1l]; exact m
       clear m
       go_wp2_with fail
       refine (g _).mono ?_;rintro e w' ⟨rfl,b⟩;obtain ⟨_,⟨M,e1,e2,e3,z⟩,_⟩:=G.out.next b;go_wp2;go_ret;exact ⟨Z0p (by rw[i.out,Bool.eq_iff_iff]; simp),d.trans (b.mono d.size)⟩}}}
end
end Go.Proofs.YtgndehppmaacaaaGreatDoor
