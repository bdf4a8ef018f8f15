/- What the proofs of ParseTypes want, part 9. -/
import Derived.Lib.AppendIntMem
import Derived.Test.YtgndehppmaacaaaGreatDoorK0n8
set_option linter.unusedVariables false
set_option linter.unusedSimpArgs false
set_option linter.unusedSectionVars false
set_option maxRecDepth 100000
set_option maxHeartbeats 16000000
namespace Pso
open Go.Proofs.YtgndehppmaacaaaGreatDoor (Tk)
open Prs (Flt R)
def rd {α:Type} (l:List Tk) (a:Int) (whole:St->α×St):R α:=
 if a < 0\/(l.length:Int) < a then .error (2,0)
 else if 4097 < l.length then .error (3,0)
 else if (whole (a.toNat,(0,0))).2.2.1=0 then .ok ((whole (a.toNat,(0,0))).1,(whole (a.toNat,(0,0))).2.1)
 else .error (whole (a.toNat,(0,0))).2.2
end Pso
namespace Go.Proofs.YtgndehppmaacaaaGreatDoor
open Go.RowKit Tms
open Shp (Sh)
open Pso (St Ok Goes betw loop want)
open Prs (sign R Flt)
def TyOut (r:R Sh) (w:World) (e:Ending) (w':World):Prop:=
 Below w.heap.size w w'/\match r with
 | .ok y=> ∃x:ES,e= .returned (.tuple #[valS x,.int .i64 (y.2:Int),.agg #[.int .i64 0,.int .i64 0]])/\x.Is w'/\w.heap.size<=x.lo/\x.t=y.1
 | .error f=>e= .returned (.tuple #[.agg #[.int .i64 0,.string ⟨#[]⟩,.string ⟨#[]⟩,.slice none 0 0,.slice none 0 0],.int .i64 0,.agg #[.int .i64 f.1,.int .i64 f.2]])
def TyFn (fn:Nat) (whole:List Tk->St->Sh×St):Prop:= ∀(bp:Nat) (A:Option Addr) (c:Nat) (l:List Tk),l.length<=5000->(∀b∈l,b.t.text.length<=1000000)-> ∀(σ:St),Ok l σ-> ∀(w:World),PAt w bp A c l σ->
 Calls Tryz.prog fn #[.pointer (some ⟨bp,0,none⟩)] w (TyIs bp A c l (whole l σ) w)
def bW (w:World):World:=(aW w).alloc (.cells Yb 28)
theorem ZmE (w:World):ZcD (w.alloc (.cells Yb 28)) w.heap.size:=by
 refine ⟨by simp,⟨?_, ?_, ?_, ?_, ?_⟩, ?_, ?_, ?_, ?_, ?_⟩ <;> simp[go_sem]
theorem ZkN (w:World):ZcD (bW w) (w.heap.size+1+1):=by
 have h:=ZmE (aW w);rw[show (aW w).heap.size=w.heap.size+1+1 by simp[aW]] at h;exact h
theorem Zd6 {w V E:World} (a:Below w.heap.size w V) (b:UpT [w.heap.size,w.heap.size+1] V E):Below w.heap.size w E:=
 ((ZcF (F:= [w.heap.size,w.heap.size+1]) a).trans b).low (by simp)
theorem Zjc {w V E:World} {x:ES} (d:x.Is V) (a:w.heap.size+1+1<=x.lo) (c:UpT [w.heap.size,w.heap.size+1] V E):x.Is E:=
 New.up d c (fun b hb=>by simp at hb; omega)
section
variable {F : List Nat} {W W' : World} {g : Nat}
include F W W' g
theorem ZcD.upT (h:ZcD W g) (c:UpT F W W') (p:g∉F):ZcD W' g:=by
 obtain ⟨b,⟨k,l,m,n,o⟩,d,e,f,i,j⟩:=h;have a:=c.same b p;exact ⟨Nat.lt_of_lt_of_le b c.size,⟨(a.1 _).trans k,(a.1 _).trans l,(a.1 _).trans m,(a.1 _).trans n,(a.1 _).trans o⟩,(a.2 _).trans d,(a.2 _).trans e,(a.2 _).trans f,(a.2 _).trans i,(a.2 _).trans j⟩
theorem Box2.upT {a b:Int} (h:Box2 W g a b) (e:UpT F W W') (l:g∉F):Box2 W' g a b:=by
 obtain ⟨d,j,k,f,i⟩:=h;have c:=e.same d l;exact ⟨Nat.lt_of_lt_of_le d e.size,(c.1 _).trans j,(c.1 _).trans k,(c.2 _).trans f,(c.2 _).trans i⟩
end
theorem ZhM (A:Option Addr) (c:Nat) (l:List Tk) (at_:Int) (B: ∀b∈l,b.t.text.length<=1000000) (ha: -9223372036854775808<=at_/\at_<=9223372036854775807) (hl:l.length<=1000000000) (L:Nat) (T: ∀args W,(callFunc L args).run Tryz.prog W= .ok (.enter L args) W) (whole:List Tk->St->Sh×St) (u:TyFn L whole) (w:World) (h:Tks w w.heap.size A l) (Q:Gl w):
 Calls Tryz.prog 17 #[.slice A l.length c,.int .i64 at_,.func (.func L) #[] #[]] w (TyOut (Pso.rd l at_ (whole l)) w):=by
 have HT:=Y1 u;have HB:=Y1 (ZcH w);have Z:=Y1 (Zd3 w);have Y:=Y1 (Zdg w);have HK:=Y1 (h.on (ZcH w));have HG:=Y1 (Q.next (ZcH w));by_cases s:at_ < 0
 {have n:Hid (Pso.rd l at_ (whole l)= .error (2,0)):=Y1 (by unfold Pso.rd; rw[if_pos (Or.inl s)]);rw[n.out];have e1:decide (at_ < 0)=true:=by simpa using s
  clear h s u B;go_enter Tryz.func17,Tryz.ntmps17
  go_wp2_with fail
  refine bodyPost_ret (v:= .tuple #[.agg #[.int .i64 0,.string ⟨#[]⟩,.string ⟨#[]⟩,.slice none 0 0,.slice none 0 0],.int .i64 0,.agg #[.int .i64 2,.int .i64 0]]) (by simp[results,Tryz.results17,go_sem]) rfl ?_;exact ⟨Z0h (Z0h (Z01 _ _) _) _,rfl⟩}
 {have e1:decide (at_ < 0)=false:=by simpa using s
  obtain ⟨i,hi⟩: ∃i:Nat,at_=(i:Int):=⟨at_.toNat,by omega⟩;subst hi;by_cases O:l.length < i
  {have n:Hid (Pso.rd l (i:Int) (whole l)= .error (2,0)):=Y1 (by unfold Pso.rd; rw[if_pos (Or.inr (by omega))]);rw[n.out];have e2:decide (l.length < i)=true:=by simpa using O
   clear h s u B;go_enter Tryz.func17,Tryz.ntmps17
   go_wp2_with fail
   refine bodyPost_ret (v:= .tuple #[.agg #[.int .i64 0,.string ⟨#[]⟩,.string ⟨#[]⟩,.slice none 0 0,.slice none 0 0],.int .i64 0,.agg #[.int .i64 2,.int .i64 0]]) (by simp[results,Tryz.results17,go_sem]) rfl ?_;exact ⟨Z0h (Z0h (Z01 _ _) _) _,rfl⟩}
  {have e2:decide (l.length < i)=false:=by simpa using O
   by_cases P:4097 < l.length
   {have n:Hid (Pso.rd l (i:Int) (whole l)= .error (3,0)):=Y1 (by unfold Pso.rd; rw[if_neg (by omega),if_pos P]);rw[n.out];have e3:decide ((4097:Int) < (l.length:Int))=true:=by simp; omega
    clear h s u B;go_enter Tryz.func17,Tryz.ntmps17
    go_wp2_with fail
    refine bodyPost_ret (v:= .tuple #[.agg #[.int .i64 0,.string ⟨#[]⟩,.string ⟨#[]⟩,.slice none 0 0,.slice none 0 0],.int .i64 0,.agg #[.int .i64 3,.int .i64 0]]) (by simp[results,Tryz.results17,go_sem]) rfl ?_;exact ⟨Z0h (Z0h (Z01 _ _) _) _,rfl⟩}
   {have e3:decide ((4097:Int) < (l.length:Int))=false:=by simp; omega
    have n:Hid (Pso.rd l (i:Int) (whole l)=if (whole l (i,(0,0))).2.2.1=0 then .ok ((whole l (i,(0,0))).1,(whole l (i,(0,0))).2.1) else .error (whole l (i,(0,0))).2.2):=Y1 (by unfold Pso.rd; rw[if_neg (by omega),if_neg P]; rfl);rw[n.out];have hO:Ok l (i,(0,0)):=⟨by show i<=l.length; omega,fun h=>absurd rfl h⟩;have J:=Y1 (show PAt ((bW w).alloc (.cells #[.slice A l.length c,.int .i64 (i:Int),.int .i64 0,.int .i64 0] 66)) (w.heap.size+1+1+1) A c l (i,(0,0)) from ?_);have I:=Y1 (fun W h=>u (w.heap.size+1+1+1) A c l (by omega) B (i,(0,0)) hO W h);have p:=Y1 (show Below w.heap.size w ((bW w).alloc (.cells #[.slice A l.length c,.int .i64 (i:Int),.int .i64 0,.int .i64 0] 66)) from Z0h (Z0h (ZcH w) _) _);have f:=Y1 (show ZcD ((bW w).alloc (.cells #[.slice A l.length c,.int .i64 (i:Int),.int .i64 0,.int .i64 0] 66)) w.heap.size/\Box2 ((bW w).alloc (.cells #[.slice A l.length c,.int .i64 (i:Int),.int .i64 0,.int .i64 0] 66)) (w.heap.size+1) 0 0/\ZcD ((bW w).alloc (.cells #[.slice A l.length c,.int .i64 (i:Int),.int .i64 0,.int .i64 0] 66)) (w.heap.size+1+1) from ⟨(Z.out.next (Z01 _ _)).next (Z01 _ _),(Y.out.next (Z01 _ _)).next (Z01 _ _),ZcD.next (ZkN w) (Z01 _ _)⟩);clear h s O P u B n HT;obtain ⟨y,hy⟩: ∃y,y=whole l (i,(0,0)):=⟨_,rfl⟩;rw[<-hy] at I ⊢;clear hy;obtain ⟨ys,X,t,V⟩:=y;obtain ⟨r,U⟩: ∃r:R Sh,r=if t=0 then .ok (ys,X) else .error (t,V):=⟨_,rfl⟩;have j:=Y1 U;dsimp only at I ⊢;rw[<-U];clear U;go_enter Tryz.func17,Tryz.ntmps17
    go_wp2_with fail
    change Calls _ _ _ ((bW w).alloc (.cells #[.slice A l.length c,.int .i64 (i:Int),.int .i64 0,.int .i64 0] 66)) _;generalize (bW w).alloc (.cells #[.slice A l.length c,.int .i64 (i:Int),.int .i64 0,.int .i64 0] 66)=W3 at J p f ⊢;refine (I.out W3 J.out).mono ?_;rintro e K ⟨x,rfl,G,g,H,E,o⟩;simp only[valS];have a:=Z01 K (.cells (Y8 x.t x.q) 28);have m:=G.below a;have S:w.heap.size+1+1+1 < W3.heap.size:=J.out.lt;have C:=Y1 (show Below w.heap.size w (K.alloc (.cells (Y8 x.t x.q) 28)) from Z03 (((ZcF (F:= [w.heap.size+1+1+1]) p.out).trans g).low (by intro b z; simp at z; omega)) a);have N:=Y1 (show x.Is (K.alloc (.cells (Y8 x.t x.q) 28)) from New.below H a);have D:Hid (w.heap.size+1+1<=x.lo):=Y1 (by omega);have M:=Y1 o;obtain ⟨z0,⟨z1,z2,z3,z4,z5⟩,c9,d0,d1,d2,d3⟩:=(f.out.1.upT g (by intro z; simp at z; omega)).next a;obtain ⟨x0,x1,x2,b9,c8⟩:=(f.out.2.1.upT g (by intro z; simp at z)).next a;obtain ⟨n0,⟨n1,n2,n3,n4,n5⟩,b4,b5,b6,b7,b8⟩:=(f.out.2.2.upT g (by simp)).next a;obtain ⟨c0,c1,c2,c3,c4,cf,cl⟩:=ZcK K (.int .i64 x.t.kind) (.string ⟨x.t.of_.toArray⟩) (.string ⟨x.t.name.toArray⟩) (.slice x.q.A x.t.names.length x.q.c) (.slice x.q.P x.t.parts.length x.q.d) 28;have p1:=m.c1;have p2:=m.c2;have p3:=m.c3;dsimp only at p1 p2 p3;clear G g H E o m a J p f I S HB Z Y HK HG hO ha T Q;by_cases d:t=0
    {have q:Hid (r= .ok (ys,X)):=Y1 (by rw[j.out,if_pos d]);have e5: (t !=0)=false:=by simpa using d
     clear j d
     go_wp2_with fail
     go_region
     all_goals go_wp2
     all_goals refine bodyPost_ret (v:= .tuple #[valS x,.int .i64 (X:Int),.agg #[.int .i64 0,.int .i64 0]]) (by simp[results,Tryz.results17,go_sem,valS,z0,x0,z1,z2,z3,z4,z5,x1,x2]) rfl ?_
     all_goals rw[q.out]
     all_goals refine ⟨Zd6 C.out ?_,x,rfl,Zjc N.out D.out ?_,by have:=D.out; omega,M.out⟩
     all_goals repeat' (with_reducible first | refine UpT.drew ?_ | refine UpT.set ?_ _ (Or.inr ?_) _ | exact UpT.refl _ _)
     all_goals simp}
    {have q:Hid (r= .error (t,V)):=Y1 (by rw[j.out,if_neg d]);have e5: (t !=0)=true:=by simpa using d
     clear j d
     go_wp2_with fail
     go_region
     all_goals go_wp2
     all_goals refine bodyPost_ret (v:= .tuple #[.agg #[.int .i64 0,.string ⟨#[]⟩,.string ⟨#[]⟩,.slice none 0 0,.slice none 0 0],.int .i64 0,.agg #[.int .i64 t,.int .i64 V]]) (by simp[results,Tryz.results17,go_sem,valS,z0,x0,z1,z2,z3,z4,z5,x1,x2]) rfl ?_
     all_goals rw[q.out]
     all_goals refine ⟨Zd6 C.out ?_,rfl⟩
     all_goals repeat' (with_reducible first | refine UpT.drew ?_ | refine UpT.set ?_ _ (Or.inr ?_) _ | exact UpT.refl _ _)
     all_goals simp}
    {have e: (bW w).heap.size=w.heap.size+1+1+1:=by simp[bW,aW]
     have hk:Tks (bW w) (w.heap.size+1+1+1) A l:=by rw[<-e]; exact h.on (Z0h (ZcH w) _)
     refine ⟨by simp[bW,aW], ?_, ?_, ?_, ?_,fun k=> ?_,hk.same (fun b z=>(ZcF (F:= []) (Z01 _ _)).same (by omega) (by simp)),⟨w,by omega,Z0h (Z0h (ZcH w) _) _,Q⟩,B⟩
     all_goals rw[<-e]
     all_goals (first | done | simp[go_sem])}}}}
end Go.Proofs.YtgndehppmaacaaaGreatDoor
namespace Go.Proofs.YtgndehppmaacaaaGreatDoor
section
open Go.RowKit Tms
open Shp (Sh)
open Pso (St Ok)
open Prs (R)
theorem ZmF:TyFn 18 Pso.wholeT:=fun bp A c l hl hx σ hO w h=>Zd2 bp A c l hl hx σ hO w h
theorem Zhh (A:Option Addr) (c:Nat) (l:List Tk) (at_:Int) (u: ∀b∈l,b.t.text.length<=1000000) (I: -9223372036854775808<=at_/\at_<=9223372036854775807) (J:l.length<=1000000000) (w:World) (h:Tks w w.heap.size A l) (o:Gl w):
 Calls Tryz.prog 8 #[.slice A l.length c,.int .i64 at_] w (TyOut (Pso.rd l at_ (Pso.wholeT l)) w):=by
 have k:=Y1 (ZcH w);have i:=Y1 (Zd3 w);have g:=Y1 (Zdg w);have m:=Y1 (ZhM A c l at_ u I J 18 (fun _ _=>rfl) Pso.wholeT ZmF (aW w) (h.on (ZcH w)) (o.next (ZcH w)));obtain ⟨r,s⟩: ∃r,r=Pso.rd l at_ (Pso.wholeT l):=⟨_,rfl⟩;rw[<-s] at m ⊢;clear h o u s;go_enter Tryz.func8,Tryz.ntmps8
 go_wp2_with fail
 change Calls _ _ _ (aW w) _;refine m.out.mono ?_;generalize aW w=W0 at k i g ⊢;rintro e T ⟨j,q⟩;have a:=Y1 (Z03 k.out j);have U:=i.out.1;have K:=g.out.1;obtain ⟨z,⟨B,C,D,E,F⟩,N,O,P,Q,S⟩:=i.out.next j;obtain ⟨x0,x1,x2,L,M⟩:=g.out.next j;cases r with
 | ok y=>
  obtain ⟨x,rfl,p,n,t⟩:=q;have G:=Y1 p;have d:Hid (w.heap.size+1+1<=x.lo):=Y1 (by omega);have H:=Y1 t;clear p n t j k i g m;simp only[valS]
  go_wp2_with fail
  all_goals refine bodyPost_ret (v:= .tuple #[valS x,.int .i64 (y.2:Int),.agg #[.int .i64 0,.int .i64 0]]) (by simp[results,Tryz.results8,go_sem,valS,z,x0,B,C,D,E,F,x1,x2]) rfl ?_
  all_goals refine ⟨Zd6 a.out ?_,x,rfl,Zjc G.out d.out ?_,by have:=d.out; omega,H.out⟩
  all_goals repeat' (with_reducible first | refine UpT.drew ?_ | refine UpT.set ?_ _ (Or.inr ?_) _ | exact UpT.refl _ _)
  all_goals simp
 | error f=>
  obtain rfl:=q;clear j k i g m
  go_wp2_with fail
  all_goals refine bodyPost_ret (v:= .tuple #[.agg #[.int .i64 0,.string ⟨#[]⟩,.string ⟨#[]⟩,.slice none 0 0,.slice none 0 0],.int .i64 0,.agg #[.int .i64 f.1,.int .i64 f.2]]) (by simp[results,Tryz.results8,go_sem,z,x0,B,C,D,E,F,x1,x2]) rfl ?_
  all_goals refine ⟨Zd6 a.out ?_,rfl⟩
  all_goals repeat' (with_reducible first | refine UpT.drew ?_ | refine UpT.set ?_ _ (Or.inr ?_) _ | exact UpT.refl _ _)
  all_goals simp
end
section
open Go.RowKit
def roundLeft (b:Nat) (I Ix:List (List UInt8)->World->Prop) (xs:List (List UInt8)) (W:World):Exit->Act->World->Prop
 | .normal,_,W'=>KeepsOthers W W'/\Below (b+3) W W'/\I xs W'
 | .ret,_,W'=>KeepsOthers W W'/\Ix xs W'
 | _,_,_=>False
theorem Zdp {B:Nat} {W:World} {l:Nat} (o:Obj) (h:B<=l):Below B W (W.putObj l o):=
 ⟨rfl,rfl,rfl,by simp,fun k hk=>World.putObj_heap_other (by omega)⟩
theorem ZmG {g:Operand} {ps:Array Tmp} {assign body:Code} {Q:Exit->Act->World->Prop} {a:Act} {w:World} (n:Nat) (hn:3<=n) (b:Nat) (s:List UInt8)
 (hg:a.eval g= .func (.func 258) #[] #[.pointer (some ⟨b+1,0,none⟩),.pointer (some ⟨b,0,none⟩),.pointer (some ⟨b+2,0,none⟩)])
 (hS:SeqAt w b s) (hs:s.length<=24) (hps:ps.size=1) (I Ix:List (List UInt8)->World->Prop)
 (hI: ∀pre A B,I pre A->Below b A B->I pre B) (hIx: ∀pre A B,Ix pre A->Below b A B->Ix pre B) (h0:I [] w) (a₁:List UInt8->Act)
 (hassign: ∀(l:Nat) (x:List UInt8) (W:World) (K:Act->World->Prop),K (a₁ x) W->
  assign.wpIn (Fence.wide.inRound l) (n - 1 - 1) Tryz.prog (Exit.then K (fun _ _ _=>False)) { tmps:=(ps.zip #[.string ⟨x.toArray⟩]).foldl (fun t (p,v)=>t.setIfInBounds p v) a.tmps,defers:= [] } W)
 (hbody: ∀(l:Nat) (pre:List (List UInt8)) (x:List UInt8) (W:World),I pre W->x.length<=24->body.wpIn (Fence.wide.inRound l) (n - 1 - 1) Tryz.prog (roundLeft b I Ix (pre++ [x]) W) (a₁ x) W)
 (hdone: ∀(D:Nat) (W:World),I (Sem.parts s) W->W.heap[D]? =some (.deferred (some []))->w.heap.size<=D->Q .normal { a with defers:= { target:= .collected D,args:=#[] }::a.defers } W)
 (hstop: ∀(D:Nat) (pre suf:List (List UInt8)) (W:World),pre++suf=Sem.parts s->Ix pre W->W.heap[D]? =some (.deferred (some []))->w.heap.size<=D->Code.ret.wpIn Fence.wide n Tryz.prog Q { a with defers:= { target:= .collected D,args:=#[] }::a.defers } W):
 (Code.rangeFunc g ps assign body).wpIn Fence.wide n Tryz.prog Q a w:=by
 refine wpIn_rangeFunc ?_;intro fn hfn;obtain ⟨rec,hrec⟩: ∃rec:LoopState->Option Code->Loop,rec=fun st pe=> { state:=st,pending:=pe,fn,tmps:=a.tmps,params:=ps,assign,body,defers:=w.heap.size }:=⟨_,rfl⟩;obtain ⟨W1,hW1⟩: ∃W1,(w.alloc (.deferred (some []))).alloc (.loop (rec .ready none))=W1:=⟨_,rfl⟩;have hb3:b+3<=w.heap.size:=hS.1;have hL1:W1.heap[w.heap.size+1]? =some (.loop (rec .ready none)):=by
  rw[<-hW1]; have:=World.alloc_heap_new (w.alloc (.deferred (some []))) (.loop (rec .ready none)); rwa [World.size_alloc] at this
 have hK1:W1.heap[w.heap.size]? =some (.deferred (some [])):=by
  rw[<-hW1]; exact (Below.heap_alloc _ _ _ (by simp)).trans (World.alloc_heap_new w _)
 have hb1:Below w.heap.size w W1:=by rw[<-hW1]; exact Z0h (Z01 _ _) _
 have hI1:I [] W1:=hI _ _ _ h0 (hb1.mono (by omega));refine ⟨w.heap.size+1,[{ target:= .collected w.heap.size,args:=#[] }],W1,{ target:= .fn (.func 258) #[.pointer (some ⟨b+1,0,none⟩),.pointer (some ⟨b,0,none⟩),.pointer (some ⟨b+2,0,none⟩)],args:=#[.func (.yield (w.heap.size+1)) #[] #[]] },W1,258,
  #[.func (.yield (w.heap.size+1)) #[] #[],.pointer (some ⟨b+1,0,none⟩),.pointer (some ⟨b,0,none⟩),.pointer (some ⟨b+2,0,none⟩)],W1, ?_, ?_,fun _ _=>trivial, ?_,fun _=>by omega, ?_⟩
 {rw[<-hW1,hrec]; exact run_enterLoop_outer _ _ _ _ _}
 {simp only[resolve,hg];simp[go_sem]}
 {have e: ∀args w,(callFunc 258 args).run Tryz.prog w= .ok (.enter 258 args) w:=enters_of Tryz.func258 (by kernel_rfl) rfl;simp[invoke,go_sem,e]}
 {refine (ZnZ (n - 1) (by omega) (w.heap.size+1) b s hs
   (fun pre W=>I pre W/\W.heap[w.heap.size+1]? =some (.loop (rec .ready none))/\W.heap[w.heap.size]? =some (.deferred (some [])))
   (fun pre W=>Ix pre W/\W.heap[w.heap.size+1]? =some (.loop (rec .done (some .ret)))/\W.heap[w.heap.size]? =some (.deferred (some [])))
   W1 ?_ ?_ (hS.keep (hb1.mono (by omega))) ⟨hI1,hL1,hK1⟩).mono ?_
  {-- a round
   rintro pre x W ⟨hi,hl,hk⟩ hx;have hlt:w.heap.size+1 < W.heap.size:=(Array.getElem?_eq_some_iff.1 hl).1;have hy:=run_yield (P:=Tryz.prog) (args:=#[.string ⟨x.toArray⟩]) hl (by rw[hrec]; simp[hps]);rw[hrec] at hy;refine ⟨fn,_,assign,body,hy,roundIn_of_wpIn hfn (hassign _ x W _ ⟨_,run_beginRound hl (by rw[hrec]), ?_⟩)⟩;obtain ⟨W2,hW2⟩: ∃W2,W.putObj (w.heap.size+1) (.loop { rec .ready none with state:= .busy })=W2:=⟨_,rfl⟩;have hl2:W2.heap[w.heap.size+1]? =some (.loop { rec .ready none with state:= .busy }):=by rw[<-hW2]; exact World.putObj_heap_same hlt
   have hk2:W2.heap[w.heap.size]? =some (.deferred (some [])):=by rw[<-hW2]; exact (World.putObj_heap_other (by omega)).trans hk
   have hw2:Below (b+3) W W2:=by rw[<-hW2]; exact Zdp _ (by omega)
   rw[hW2];refine wpIn_mono (hbody _ pre x _ (hI _ _ _ hi (hw2.mono (by omega))) hx) ?_;have fin: ∀(jump:Option Code) (W3:World),KeepsOthers W2 W3->
    (Instr.endRound (w.heap.size+1) jump).run Tryz.prog W3= .ok (.bool jump.isNone) (W3.putObj (w.heap.size+1) (.loop (rec (if jump.isNone then .ready else .done) jump)))/\
    (W3.putObj (w.heap.size+1) (.loop (rec (if jump.isNone then .ready else .done) jump))).heap[w.heap.size+1]? =some (.loop (rec (if jump.isNone then .ready else .done) jump))/\
    (W3.putObj (w.heap.size+1) (.loop (rec (if jump.isNone then .ready else .done) jump))).heap[w.heap.size]? =some (.deferred (some [])):=fun jump W3 hk3=>by
    have hl3:=hk3.same _ _ hl2 rfl;have:=run_endRound (P:=Tryz.prog) jump hl3;rw[hrec] at this ⊢;exact ⟨this,World.putObj_heap_same (Array.getElem?_eq_some_iff.1 hl3).1,(World.putObj_heap_other (by omega)).trans (hk3.same _ _ hk2 rfl)⟩
   rintro e a3 W3 hp;cases e with
   | normal=>
    obtain ⟨hk3,hkp3,hi3⟩:=hp;obtain ⟨hr,hl4,hk4⟩:=fin none W3 hk3;exact ⟨_,_,hr,.inl ⟨rfl,⟨hI _ _ _ hi3 (Zdp _ (by omega)),hl4,hk4⟩,(hw2.trans hkp3).trans (Zdp _ (by omega))⟩⟩
   | ret=>
    obtain ⟨hk3,hi3⟩:=hp;obtain ⟨hr,hl4,hk4⟩:=fin (some .ret) W3 hk3;exact ⟨_,_,hr,.inr ⟨rfl,hIx _ _ _ hi3 (Zdp _ (by omega)),hl4,hk4⟩⟩
   | exit id=>exact hp.elim
   | goto t=>exact hp.elim
   | panic ch=>exact hp.elim
   | outgrown=>exact hp.elim}
  {-- the iterator's own cell
   rintro pre W v ⟨hi,hl,hk⟩;have hne1:w.heap.size+1≠b:=by omega
   have hne2:w.heap.size≠b:=by omega
   exact ⟨hI _ _ _ hi ((Below.refl b W).setCell (p:=⟨b,0,none⟩) (Nat.le_refl _) _),(Below.heap_setCell W ⟨b,0,none⟩ v _ hne1).trans hl,(Below.heap_setCell W ⟨b,0,none⟩ v _ hne2).trans hk⟩}
  {-- behind the iterator
   rintro e W2 ⟨⟨v,rfl⟩,(⟨hi,hl,hk⟩ | ⟨pre,suf,hp,hi,hl,hk⟩)⟩
   {exact ⟨none,_,by have:=run_endLoop (P:=Tryz.prog) hl (by rw[hrec]; simp); rw[hrec] at this; exact this,hdone _ _ (hI _ _ _ hi (Zdp _ (by omega))) ((World.putObj_heap_other (by omega)).trans hk) (Nat.le_refl _)⟩}
   {exact ⟨some .ret,_,by have:=run_endLoop (P:=Tryz.prog) hl (by rw[hrec]; simp); rw[hrec] at this; exact this,hstop _ pre suf _ hp (hIx _ _ _ hi (Zdp _ (by omega))) ((World.putObj_heap_other (by omega)).trans hk) (Nat.le_refl _)⟩}}}
theorem Zls (n:Nat) (h:n < 256): (0<=n/\n<=44)\/(45<=n/\n<=45)\/(46<=n/\n<=47)\/(48<=n/\n<=57)\/(58<=n/\n<=64)\/(65<=n/\n<=90)\/(91<=n/\n<=96)\/(97<=n/\n<=122)\/(123<=n/\n<=255):=by omega
theorem ZmH (c:UInt8):Sem.okc c=((decide (97<=c.toNat)&&decide (c.toNat<=122))||(decide (65<=c.toNat)&&decide (c.toNat<=90))||decide (c.toNat=45)||(decide (48<=c.toNat)&&decide (c.toNat<=57))):=rfl
section
variable {s : ByteArray} {k : Nat} (h : k < s.size)
include s k h
theorem ZdE: (s.data.toList.take (k+1)).all Sem.okc=((s.data.toList.take k).all Sem.okc&&Sem.okc (s[k]'h)):=by
 rw[List.take_succ_eq_append_getElem (by rw[<-Lib.size_eq]; exact h),List.all_append];simp;rfl
theorem Zei (a:Sem.okc (s[k]'h)=false):Sem.part s.data.toList=false:=by
 have:s.data.toList.all Sem.okc=false:=by
  rw[List.all_eq_false];exact ⟨s[k]'h,by rw[show s[k]'h=s.data.toList[k]'(by rw[<-Lib.size_eq]; exact h) from rfl]; exact List.getElem_mem _,by rw[a]; simp⟩
 unfold Sem.part;rw[this,Bool.and_false,Bool.false_and]
end
theorem Zia (s:ByteArray) (u:s.size<=9223372036854775807) (w:World):
 Calls Tryz.prog 165 #[.string s] w fun e w'=>e= .returned (.bool (Sem.part s.data.toList))/\w=w':=by
 go_enter Tryz.func165,Tryz.ntmps165
 go_wp2_with fail
 go_loop [3] (fun i=> ∃k:Nat,i= .int .i64 k/\k<=s.size/\Hid ((s.data.toList.take k).all Sem.okc=true)) (fun i=>s.size - (intOf i).toNat)
 case atStart=>exact ⟨0,rfl,Nat.zero_le _,Y1 rfl⟩
 case round=>
  obtain ⟨k,rfl,E,p⟩:=hrel;by_cases a:k < s.size
  {have D:=(s[k]'a).toNat_lt;have f:=ZmH (s[k]'a);rcases Zls (s[k]'a).toNat (by omega) with ⟨l,m⟩ | ⟨l,m⟩ | ⟨l,m⟩ | ⟨l,m⟩ | ⟨l,m⟩ | ⟨l,m⟩ | ⟨l,m⟩ | ⟨l,m⟩ | ⟨l,m⟩
   {have b:Hid (Sem.part s.data.toList=false):=Y1 (Zei a (by rw[f]; simp; omega));clear f;have n: (((s[k]'a).toNat:Int) !=45)=true:=by rw[bne_iff_ne]; omega
    go_wp2;go_ret;exact ⟨by rw[b.out]; rfl,rfl⟩}
   {have b:Hid ((s.data.toList.take (k+1)).all Sem.okc=true):=Y1 (by rw[ZdE a,p.out,f]; simp; omega);clear f;have n: (((s[k]'a).toNat:Int) !=45)=false:=by rw[bne_eq_false_iff_eq]; omega
    go_wp2
    go_round
    case rel=>exact ⟨k+1,by go_num,by omega,b⟩
    case measure=>simp[intOf]; omega}
   {have b:Hid (Sem.part s.data.toList=false):=Y1 (Zei a (by rw[f]; simp; omega));clear f;have n: (((s[k]'a).toNat:Int) !=45)=true:=by rw[bne_iff_ne]; omega
    go_wp2;go_ret;exact ⟨by rw[b.out]; rfl,rfl⟩}
   {have b:Hid ((s.data.toList.take (k+1)).all Sem.okc=true):=Y1 (by rw[ZdE a,p.out,f]; simp; omega);clear f;have n: (((s[k]'a).toNat:Int) !=45)=true:=by rw[bne_iff_ne]; omega
    go_wp2
    go_round
    case rel=>exact ⟨k+1,by go_num,by omega,b⟩
    case measure=>simp[intOf]; omega}
   {have b:Hid (Sem.part s.data.toList=false):=Y1 (Zei a (by rw[f]; simp; omega));clear f;have n: (((s[k]'a).toNat:Int) !=45)=true:=by rw[bne_iff_ne]; omega
    go_wp2;go_ret;exact ⟨by rw[b.out]; rfl,rfl⟩}
   {have b:Hid ((s.data.toList.take (k+1)).all Sem.okc=true):=Y1 (by rw[ZdE a,p.out,f]; simp; omega);clear f;have n: (((s[k]'a).toNat:Int) !=45)=true:=by rw[bne_iff_ne]; omega
    go_wp2
    go_round
    case rel=>exact ⟨k+1,by go_num,by omega,b⟩
    case measure=>simp[intOf]; omega}
   {have b:Hid (Sem.part s.data.toList=false):=Y1 (Zei a (by rw[f]; simp; omega));clear f;have n: (((s[k]'a).toNat:Int) !=45)=true:=by rw[bne_iff_ne]; omega
    have A:decide (((s[k]'a).toNat:Int)<=90)=false:=by rw[decide_eq_false_iff_not]; omega
    go_wp2;go_ret;exact ⟨by rw[b.out]; rfl,rfl⟩}
   {have b:Hid ((s.data.toList.take (k+1)).all Sem.okc=true):=Y1 (by rw[ZdE a,p.out,f]; simp; omega);clear f;have n: (((s[k]'a).toNat:Int) !=45)=true:=by rw[bne_iff_ne]; omega
    go_wp2
    go_round
    case rel=>exact ⟨k+1,by go_num,by omega,b⟩
    case measure=>simp[intOf]; omega}
   {have b:Hid (Sem.part s.data.toList=false):=Y1 (Zei a (by rw[f]; simp; omega));clear f;have n: (((s[k]'a).toNat:Int) !=45)=true:=by rw[bne_iff_ne]; omega
    have A:decide (((s[k]'a).toNat:Int)<=90)=false:=by rw[decide_eq_false_iff_not]; omega
    have C:decide (((s[k]'a).toNat:Int)<=122)=false:=by rw[decide_eq_false_iff_not]; omega
    go_wp2;go_ret;exact ⟨by rw[b.out]; rfl,rfl⟩}}
  {have o:s.data.toList.all Sem.okc=true:=by have:=p.out; rwa [List.take_of_length_le (by rw[<-Lib.size_eq]; omega)] at this
   have g:s.toList.isEmpty=s.data.toList.isEmpty:=by rw[Zdh]
   have v:Hid (Sem.part s.data.toList=(!s.data.toList.isEmpty&&(!Sem.digits s.data.toList||s.data.toList== [48]||s.data.toList.head? !=some 48))):=Y1 (by unfold Sem.part; rw[o,Bool.and_true]);clear o;by_cases j:s.data.toList= []
   {have B:s.toList.isEmpty=true:=by rw[g,j]; rfl
    have b:Hid (Sem.part s.data.toList=false):=Y1 (by rw[v.out,j]; rfl);clear g j;go_wp2;go_ret;exact ⟨by rw[b.out]; rfl,rfl⟩}
   {have B:s.toList.isEmpty=false:=by rw[g]; simpa using j
    have d:0 < s.size:=by rw[Lib.size_eq]; exact List.length_pos_iff.2 j
    have c:s.data.toList.head? =some (s[0]'d):=by
     rw[List.head?_eq_getElem?,List.getElem?_eq_getElem (by rw[<-Lib.size_eq]; exact d)]; rfl
    cases z:Sem.digits s.data.toList
    {have b:Hid (Sem.part s.data.toList=true):=Y1 (by rw[v.out,z]; simpa using j);clear g j c
     go_wp2_with (go_at_call 193; refine (Zes s u _).mono ?_; rintro e w' ⟨rfl,rfl⟩)
     go_ret;exact ⟨by rw[b.out]; rfl,rfl⟩}
    {have r:Hid (Sem.part s.data.toList=(s.data.toList== [48]||s.data.toList.head? !=some 48)):=Y1 (by
      rw[v.out,z];have:s.data.toList.isEmpty=false:=by simpa using j
      rw[this]; rfl)
     rw[c] at r;cases q: (s.toList== [48])
     {have h49: (s.data.toList== [48])=false:=by rw[<-Zdh]; exact q
      by_cases t: (s[0]'d).toNat=48
      {have b:Hid (Sem.part s.data.toList=false):=Y1 (by
        have:s[0]'d=48:=UInt8.toNat_inj.1 t;rw[r.out,h49,this]; rfl)
       have y: (((s[0]'d).toNat:Int) !=48)=false:=by rw[bne_eq_false_iff_eq]; omega
       clear g j c h49 t
       go_wp2_with (go_at_call 193; refine (Zes s u _).mono ?_; rintro e w' ⟨rfl,rfl⟩)
       go_ret;exact ⟨by rw[b.out]; rfl,rfl⟩}
      {have b:Hid (Sem.part s.data.toList=true):=Y1 (by
        have:s[0]'d≠48:=fun h=>t (by rw[h]; rfl);rw[r.out,h49]; simpa using this)
       have y: (((s[0]'d).toNat:Int) !=48)=true:=by rw[bne_iff_ne]; omega
       clear g j c h49 t
       go_wp2_with (go_at_call 193; refine (Zes s u _).mono ?_; rintro e w' ⟨rfl,rfl⟩)
       go_ret;exact ⟨by rw[b.out]; rfl,rfl⟩}}
     {have b:Hid (Sem.part s.data.toList=true):=Y1 (by
       have h49: (s.data.toList== [48])=true:=by rw[<-Zdh]; exact q
       rw[r.out,h49]; rfl)
      clear g j c
      go_wp2_with (go_at_call 193; refine (Zes s u _).mono ?_; rintro e w' ⟨rfl,rfl⟩)
      go_ret;exact ⟨by rw[b.out]; rfl,rfl⟩}}}}
def isLet (n:Nat):Bool:=(decide (97<=n)&&decide (n<=122))||(decide (65<=n)&&decide (n<=90))
def isDig (n:Nat):Bool:=decide (48<=n)&&decide (n<=57)
section
variable (n : Nat) (h : n < 256) (w : World)
include n h w
theorem ZeQ:
 Calls Tryz.prog 253 #[.int .u8 n] w fun e w'=>e= .returned (.bool (isDig n))/\w=w':=by
 have H:n<=47\/(48<=n/\n<=57)\/58<=n:=by omega
 rcases H with b | ⟨b,d⟩ | b
 {have a:Hid (isDig n=false):=Y1 (by simp[isDig]; omega);go_enter Tryz.func253,Tryz.ntmps253;go_wp2;go_ret;exact ⟨by rw[a.out]; rfl,rfl⟩}
 {have a:Hid (isDig n=true):=Y1 (by simp[isDig]; omega);have c:decide ((n:Int)<=57)=true:=decide_eq_true (by omega);go_enter Tryz.func253,Tryz.ntmps253;go_wp2;go_ret;exact ⟨by rw[a.out]; rfl,rfl⟩}
 {have a:Hid (isDig n=false):=Y1 (by simp[isDig]; omega);have c:decide ((n:Int)<=57)=false:=decide_eq_false (by omega);go_enter Tryz.func253,Tryz.ntmps253;go_wp2;go_ret;exact ⟨by rw[a.out]; rfl,rfl⟩}
theorem ZiA:
 Calls Tryz.prog 254 #[.int .u8 n] w fun e w'=>e= .returned (.bool (isLet n))/\w=w':=by
 have H:n<=64\/(65<=n/\n<=90)\/(91<=n/\n<=96)\/(97<=n/\n<=122)\/123<=n:=by omega
 rcases H with b | ⟨b,d⟩ | ⟨b,d⟩ | ⟨b,d⟩ | b
 {have a:Hid (isLet n=false):=Y1 (by simp[isLet]; omega);go_enter Tryz.func254,Tryz.ntmps254;go_wp2;go_ret;exact ⟨by rw[a.out]; rfl,rfl⟩}
 {have a:Hid (isLet n=true):=Y1 (by simp[isLet]; omega);have c:decide ((n:Int)<=90)=true:=decide_eq_true (by omega);go_enter Tryz.func254,Tryz.ntmps254;go_wp2;go_ret;exact ⟨by rw[a.out]; rfl,rfl⟩}
 {have a:Hid (isLet n=false):=Y1 (by simp[isLet]; omega);have c:decide ((n:Int)<=90)=false:=decide_eq_false (by omega);go_enter Tryz.func254,Tryz.ntmps254;go_wp2;go_ret;exact ⟨by rw[a.out]; rfl,rfl⟩}
 {have a:Hid (isLet n=true):=Y1 (by simp[isLet]; omega);have c:decide ((n:Int)<=122)=true:=decide_eq_true (by omega);go_enter Tryz.func254,Tryz.ntmps254;go_wp2;go_ret;exact ⟨by rw[a.out]; rfl,rfl⟩}
 {have a:Hid (isLet n=false):=Y1 (by simp[isLet]; omega);have c:decide ((n:Int)<=122)=false:=decide_eq_false (by omega);have f:decide ((n:Int)<=90)=false:=decide_eq_false (by omega);go_enter Tryz.func254,Tryz.ntmps254;go_wp2;go_ret;exact ⟨by rw[a.out]; rfl,rfl⟩}
end
section
variable (s : ByteArray) (hs : s.size <= 9223372036854775807) (w : World)
include s hs w
theorem ZeG:
 Calls Tryz.prog 255 #[.string s] w fun e w'=>e= .returned (.bool (Sem.digits s.data.toList))/\w=w':=by
 go_enter Tryz.func255,Tryz.ntmps255
 go_wp2_with fail
 go_loop [6] (fun i=> ∃k:Nat,i= .int .i64 k/\k<=s.size/\Hid ((s.data.toList.take k).all Sem.dig=true)) (fun i=>s.size - (intOf i).toNat)
 case atStart=>exact ⟨0,rfl,Nat.zero_le _,Y1 rfl⟩
 case round=>
  obtain ⟨k,rfl,j,g⟩:=hrel;by_cases a:k < s.size
  {have h:=(s[k]'a).toNat_lt;cases d:isDig (s[k]'a).toNat
   {have f:Hid (Sem.digits s.data.toList=false):=Y1 (by
     unfold Sem.digits;rw[Bool.and_eq_false_iff]; right;rw[List.all_eq_false];exact ⟨s[k]'a,by rw[show s[k]'a=s.data.toList[k]'(by rw[<-Lib.size_eq]; exact a) from rfl]; exact List.getElem_mem _,by rw[show Sem.dig (s[k]'a)=false from d]; simp⟩)
    have b: ∀w,Calls Tryz.prog 253 #[.int .u8 (s[k]'a).toNat] w fun e w'=>e= .returned (.bool false)/\w=w':=fun w=>by rw[<-d]; exact ZeQ _ h w
    clear d
    go_wp2_with (go_at_call 253; refine (b _).mono ?_; rintro e w' ⟨rfl,rfl⟩)
    go_ret;exact ⟨by rw[f.out]; rfl,rfl⟩}
   {have f:Hid ((s.data.toList.take (k+1)).all Sem.dig=true):=Y1 (by rw[Zg1 a,g.out,show Sem.dig (s[k]'a)=true from d]; rfl);have b: ∀w,Calls Tryz.prog 253 #[.int .u8 (s[k]'a).toNat] w fun e w'=>e= .returned (.bool true)/\w=w':=fun w=>by rw[<-d]; exact ZeQ _ h w
    clear d
    go_wp2_with (go_at_call 253; refine (b _).mono ?_; rintro e w' ⟨rfl,rfl⟩)
    go_round
    case rel=>exact ⟨k+1,by go_num,by omega,f⟩
    case measure=>simp[intOf]; omega}}
  {have c:s.data.toList.all Sem.dig=true:=by have:=g.out; rwa [List.take_of_length_le (by rw[<-Lib.size_eq]; omega)] at this
   have f:Hid (Sem.digits s.data.toList= !s.toList.isEmpty):=Y1 (by unfold Sem.digits; rw[c,Bool.and_true,Zdh]);clear c;go_wp2;go_ret;exact ⟨by rw[f.out]; rfl,rfl⟩}
theorem ZhN:
 Calls Tryz.prog 244 #[.string s] w fun e w'=>e= .returned (.bool (Sem.part s.data.toList))/\w=w':=by
 have he0:s.toList.isEmpty=s.data.toList.isEmpty:=by rw[Zdh]
 by_cases hz:s.data.toList= []
 {have he:s.toList.isEmpty=true:=by rw[he0,hz]; rfl
  have HN:Hid (Sem.part s.data.toList=false):=Y1 (by rw[hz]; rfl);clear he0 hz;go_enter Tryz.func244,Tryz.ntmps244;go_wp2;go_ret;exact ⟨by rw[HN.out]; rfl,rfl⟩}
 {have he:s.toList.isEmpty=false:=by rw[he0]; simpa using hz
  have hpos:0 < s.size:=by rw[Lib.size_eq]; exact List.length_pos_iff.2 hz
  have hhead:s.data.toList.head? =some (s[0]'hpos):=by
   rw[List.head?_eq_getElem?,List.getElem?_eq_getElem (by rw[<-Lib.size_eq]; exact hpos)]; rfl
  have HHEAD:=Y1 hhead;have HZ:=Y1 hz;clear he0 hz hhead;go_enter Tryz.func244,Tryz.ntmps244
  go_wp2_with fail
  go_loop [8] (fun i=> ∃k:Nat,i= .int .i64 k/\k<=s.size/\Hid ((s.data.toList.take k).all Sem.okc=true)) (fun i=>s.size - (intOf i).toNat)
  case atStart=>exact ⟨0,rfl,Nat.zero_le _,Y1 rfl⟩
  case round=>
   obtain ⟨k,rfl,hk,HP⟩:=hrel;by_cases hlt:k < s.size
   {have hb:=(s[k]'hlt).toNat_lt;obtain ⟨n,hn⟩: ∃n,n=(s[k]'hlt).toNat:=⟨_,rfl⟩;have ho:Sem.okc (s[k]'hlt)=(isLet n||decide (n=45)||isDig n):=by rw[ZmH,hn]; rfl
    have hcd: ∀w,Calls Tryz.prog 253 #[.int .u8 (s[k]'hlt).toNat] w fun e w'=>e= .returned (.bool (isDig n))/\w=w':=fun w=>by rw[hn]; exact ZeQ _ hb w
    have hcl: ∀w,Calls Tryz.prog 254 #[.int .u8 (s[k]'hlt).toNat] w fun e w'=>e= .returned (.bool (isLet n))/\w=w':=fun w=>by rw[hn]; exact ZiA _ hb w
    have HN:Hid (isDig n=true\/isLet n=true\/n=45->(s.data.toList.take (k+1)).all Sem.okc=true):=Y1 (by
     intro h;rw[ZdE hlt,HP.out,ho];rcases h with h | h | h <;> rw[h] <;> simp)
    have HF:Hid (isDig n=false/\isLet n=false/\n≠45->Sem.part s.data.toList=false):=Y1 (by
     rintro ⟨h1,h2,h3⟩;exact Zei hlt (by rw[ho,h1,h2]; simp[h3]))
    clear ho;cases hd:isDig n
    {rw[hd] at hcd;cases hl:isLet n
     {rw[hl] at hcl;by_cases h45:n=45
      {have HM:=Y1 (HN.out (Or.inr (Or.inr h45)));have h3: (((s[k]'hlt).toNat:Int) !=45)=false:=by rw[bne_eq_false_iff_eq]; omega
       clear hn hd hl
       go_wp2_with (first | (go_at_call 253; refine (hcd _).mono ?_; rintro e w' ⟨rfl,rfl⟩) | (go_at_call 254; refine (hcl _).mono ?_; rintro e w' ⟨rfl,rfl⟩))
       go_round
       case rel=>exact ⟨k+1,by go_num,by omega,HM⟩
       case measure=>simp[intOf]; omega}
      {have HM:=Y1 (HF.out ⟨hd,hl,h45⟩);have h3: (((s[k]'hlt).toNat:Int) !=45)=true:=by rw[bne_iff_ne]; omega
       clear hn hd hl
       go_wp2_with (first | (go_at_call 253; refine (hcd _).mono ?_; rintro e w' ⟨rfl,rfl⟩) | (go_at_call 254; refine (hcl _).mono ?_; rintro e w' ⟨rfl,rfl⟩))
       go_ret;exact ⟨by rw[HM.out]; rfl,rfl⟩}}
     {rw[hl] at hcl;have HM:=Y1 (HN.out (Or.inr (Or.inl hl)));clear hn hd hl
      go_wp2_with (first | (go_at_call 253; refine (hcd _).mono ?_; rintro e w' ⟨rfl,rfl⟩) | (go_at_call 254; refine (hcl _).mono ?_; rintro e w' ⟨rfl,rfl⟩))
      go_round
      case rel=>exact ⟨k+1,by go_num,by omega,HM⟩
      case measure=>simp[intOf]; omega}}
    {rw[hd] at hcd;have HM:=Y1 (HN.out (Or.inl hd));clear hn hd hcl
     go_wp2_with (first | (go_at_call 253; refine (hcd _).mono ?_; rintro e w' ⟨rfl,rfl⟩))
     go_round
     case rel=>exact ⟨k+1,by go_num,by omega,HM⟩
     case measure=>simp[intOf]; omega}}
   {have hall:s.data.toList.all Sem.okc=true:=by have:=HP.out; rwa [List.take_of_length_le (by rw[<-Lib.size_eq]; omega)] at this
    have HS:Hid (Sem.part s.data.toList=(!Sem.digits s.data.toList||s.data.toList== [48]||s.data.toList.head? !=some 48)):=Y1 (by
     have:s.data.toList.isEmpty=false:=by simpa using HZ.out
     unfold Sem.part; rw[hall,this]; rfl)
    rw[HHEAD.out] at HS;clear hall;cases h48: (s.toList== [48])
    {have h49: (s.data.toList== [48])=false:=by rw[<-Zdh]; exact h48
     by_cases hh: (s[0]'hpos).toNat=48
     {have HN:Hid (Sem.part s.data.toList= !Sem.digits s.data.toList):=Y1 (by
       have:s[0]'hpos=48:=UInt8.toNat_inj.1 hh;rw[HS.out,h49,this]; simp)
      have h50: (((s[0]'hpos).toNat:Int) !=48)=false:=by rw[bne_eq_false_iff_eq]; omega
      clear h49 hh
      go_wp2_with (go_at_call 255; refine (ZeG s hs _).mono ?_; rintro e w' ⟨rfl,rfl⟩)
      go_ret;exact ⟨by rw[HN.out]; rfl,rfl⟩}
     {have HN:Hid (Sem.part s.data.toList=true):=Y1 (by
       have:s[0]'hpos≠48:=fun h=>hh (by rw[h]; rfl);rw[HS.out,h49]; simp[this])
      have h50: (((s[0]'hpos).toNat:Int) !=48)=true:=by rw[bne_iff_ne]; omega
      clear h49 hh
      go_wp2_with (go_at_call 255; refine (ZeG s hs _).mono ?_; rintro e w' ⟨rfl,rfl⟩)
      go_ret;exact ⟨by rw[HN.out]; rfl,rfl⟩}}
    {have HN:Hid (Sem.part s.data.toList=true):=Y1 (by
      have h49: (s.data.toList== [48])=true:=by rw[<-Zdh]; exact h48
      rw[HS.out,h49]; simp)
     go_wp2_with (go_at_call 255; refine (ZeG s hs _).mono ?_; rintro e w' ⟨rfl,rfl⟩)
     go_ret;exact ⟨by rw[HN.out]; rfl,rfl⟩}}}
end
def verV (v:Sem.Ver):Value:= .agg #[.int .i64 v.maj,.int .i64 v.min,.int .i64 v.pat,.string ⟨v.pre.toArray⟩]
def VerAt (w:World) (g:Nat) (v:Sem.Ver):Prop:=g < w.heap.size/\w.cell? ⟨g,0,none⟩=some (.int .i64 v.maj)/\w.cell? ⟨g,1,none⟩=some (.int .i64 v.min)/\w.cell? ⟨g,2,none⟩=some (.int .i64 v.pat)/\w.cell? ⟨g,3,none⟩=some (.string ⟨v.pre.toArray⟩)
theorem VerAt.next {w w':World} {g:Nat} {v:Sem.Ver} (h:VerAt w g v) (a:Below w.heap.size w w'):VerAt w' g v:=
 ⟨Nat.lt_of_lt_of_le h.1 a.size,((ZcE (o:=0) a h.1).1).trans h.2.1,((ZcE (o:=1) a h.1).1).trans h.2.2.1,((ZcE (o:=2) a h.1).1).trans h.2.2.2.1,((ZcE (o:=3) a h.1).1).trans h.2.2.2.2⟩
theorem Zej (w:World) (v:Sem.Ver):VerAt (w.alloc (.cells #[.int .i64 v.maj,.int .i64 v.min,.int .i64 v.pat,.string ⟨v.pre.toArray⟩] 103)) w.heap.size v:=
 ⟨by simp,by simp[go_sem],by simp[go_sem],by simp[go_sem],by simp[go_sem]⟩
def chk (v:Sem.Ver):Int:=if Sem.may v=true then 0 else 40
theorem ZiB {ps:List (List UInt8)} {k:Nat} (h:k < ps.length): (ps.take (k+1)).all Sem.part=((ps.take k).all Sem.part&&Sem.part ps[k]):=by
 rw[List.take_succ_eq_append_getElem h,List.all_append]; simp
theorem Zfb (v:Sem.Ver) (S:v.pre.length<=9223372036854775807) (w:World):
 Y9 135 #[verV v] w (.int .i64 (chk v)):=by
 obtain ⟨a,b,c,p⟩:=v;have j:=Sem.Z33 ⟨a,b,c,p⟩;simp only at j S;unfold verV;by_cases N: (0<=a/\a<=999999)/\(0<=b/\b<=999999)/\(0<=c/\c<=999999)/\p.length<=24
 {obtain ⟨⟨I,J⟩,⟨K,L⟩,⟨c1,c2⟩,hp⟩:=N;by_cases C:p= []
  {have o:Hid (Sem.may ⟨a,b,c,p⟩=true):=Y1 (j.2 ⟨⟨I,J⟩,⟨K,L⟩,⟨c1,c2⟩,hp,by rw[C]; rfl⟩);subst C;clear j;go_enter Tryz.func135,Tryz.ntmps135;go_wp2;go_ret;exact ⟨by rw[chk,if_pos o.out]; rfl,Y2.alloc (Nat.le_refl _) _⟩}
  {have Q:p.isEmpty=false:=by simpa using C
   have o:Hid (Sem.may ⟨a,b,c,p⟩=(Sem.parts p).all Sem.part):=Y1 (by
    rw[Bool.eq_iff_iff,j];have:Sem.preOk p=(Sem.parts p).all Sem.part:=by unfold Sem.preOk; rw[Q,Bool.false_or]
    rw[this];exact ⟨fun h=>h.2.2.2.2,fun h=>⟨⟨I,J⟩,⟨K,L⟩,⟨c1,c2⟩,hp,h⟩⟩)
   clear j C;go_enter Tryz.func135,Tryz.ntmps135
   go_wp2_with fail
   refine (Zl2 ⟨p.toArray⟩ (by rw[Z0J]; omega) _).mono ?_;rintro e r ⟨A,cap,rfl,E,P⟩;have u:=Z03 (Z01 _ _) P
   go_wp2_with fail
   obtain ⟨ps,l⟩: ∃ps,ps=Sem.parts p:=⟨_,rfl⟩;have z: ∀q∈ps,q.length<=24:=by
    intro q s;have:=Sem.Z9L p q (by rw[<-l]; exact s);omega
   have D:=Y1 z;have B:ps.length<=p.length+1:=by rw[l]; exact Sem.Z7d p
   have n: (strs ps).length=ps.length:=by simp[strs]
   rw[<-l] at o E ⊢;rw[n];clear z l
   go_loop [4] (fun i=> ∃k:Nat,i= .int .i64 k/\k<=ps.length/\Hid ((ps.take k).all Sem.part=true)) (fun i=>ps.length - (intOf i).toNat)
   case atStart=>exact ⟨0,rfl,Nat.zero_le _,Y1 rfl⟩
   case round=>
    obtain ⟨k,rfl,T,G⟩:=hrel;by_cases y:k < ps.length
    {rcases E with E | ⟨g,off,rfl,_,M⟩
     {omega}
     {obtain ⟨q,s⟩: ∃q,q=ps[k]:=⟨_,rfl⟩;have F:r.cell? ⟨g,off+k,none⟩=some (.string ⟨q.toArray⟩):=by
       rw[M k (by rw[n]; exact y),s]; simp[strs]
      have O:=D.out q (by rw[s]; exact List.getElem_mem _);have H:=Y1 s;clear M s n;cases m:Sem.part q
      {have t:Hid (ps.all Sem.part=false):=Y1 (by
        rw[List.all_eq_false];exact ⟨q,by rw[H.out]; exact List.getElem_mem _,by rw[m]; simp⟩)
       have d:=Zia ⟨q.toArray⟩ (by rw[Z0J]; omega) r;have f:Calls Tryz.prog 165 #[.string ⟨q.toArray⟩] r fun e w'=>e= .returned (.bool false)/\r=w':=by rw[<-m]; exact d
       clear d
       go_wp2_with (go_at_call 165; refine f.mono ?_; rintro e w' ⟨rfl,rfl⟩)
       go_ret;exact ⟨by rw[chk,o.out,if_neg (by rw[t.out]; simp)]; rfl,u⟩}
      {have t:Hid ((ps.take (k+1)).all Sem.part=true):=Y1 (by rw[ZiB y,G.out, <-H.out,m]; rfl);have d:=Zia ⟨q.toArray⟩ (by rw[Z0J]; omega) r;have f:Calls Tryz.prog 165 #[.string ⟨q.toArray⟩] r fun e w'=>e= .returned (.bool true)/\r=w':=by rw[<-m]; exact d
       clear d
       go_wp2_with (go_at_call 165; refine f.mono ?_; rintro e w' ⟨rfl,rfl⟩)
       go_round
       case rel=>exact ⟨k+1,by go_num,by omega,t⟩
       case measure=>simp[intOf]; omega}}}
    {have t:Hid (ps.all Sem.part=true):=Y1 (by have:=G.out; rwa [List.take_of_length_le (by omega)] at this);clear n;go_wp2;go_ret;exact ⟨by rw[chk,o.out,if_pos t.out]; rfl,u⟩}}}
 {have o:Hid (Sem.may ⟨a,b,c,p⟩=false):=Y1 (Bool.eq_false_iff.2 fun h=>N ⟨(j.1 h).1,(j.1 h).2.1,(j.1 h).2.2.1,(j.1 h).2.2.2.1⟩);clear j;go_enter Tryz.func135,Tryz.ntmps135;go_wp2
  all_goals
   first
   | (exfalso; omega)
   | (
    go_ret;exact ⟨by rw[chk,if_neg (by rw[o.out]; simp)]; rfl,Z01 _ _⟩)}
attribute [local go_sem] Oper.semAt_some
section
variable (a b c : Int) (W : World)
include a b c W
theorem Zhi: (Instr.index 190 (.agg #[.int .i64 a,.int .i64 b,.int .i64 c]) (.int .i64 0)).run Tryz.prog W= .ok (.int .i64 a) W:=by
 simp[Instr.index,run_underlying Tryz.underlying190,asIntOf,go_sem,Tryz.sizeOf3,Tryz.isAgg3]
theorem Zhj: (Instr.index 190 (.agg #[.int .i64 a,.int .i64 b,.int .i64 c]) (.int .i64 1)).run Tryz.prog W= .ok (.int .i64 b) W:=by
 simp[Instr.index,run_underlying Tryz.underlying190,asIntOf,go_sem,Tryz.sizeOf3,Tryz.isAgg3]
theorem Zhk: (Instr.index 190 (.agg #[.int .i64 a,.int .i64 b,.int .i64 c]) (.int .i64 2)).run Tryz.prog W= .ok (.int .i64 c) W:=by
 simp[Instr.index,run_underlying Tryz.underlying190,asIntOf,go_sem,Tryz.sizeOf3,Tryz.isAgg3]
end
def Far (a b c:Int) (i:Value):Prop:=i= .int .i64 0\/(i= .int .i64 1/\0<=a/\a<=999999)\/(i= .int .i64 2/\0<=a/\a<=999999/\0<=b/\b<=999999)\/(i= .int .i64 3/\0<=a/\a<=999999/\0<=b/\b<=999999/\0<=c/\c<=999999)
theorem ZiC {a b c:Int} {p:List UInt8} (h: ¬((0<=a/\a<=999999)/\(0<=b/\b<=999999)/\(0<=c/\c<=999999))):chk ⟨a,b,c,p⟩=40:=by
 rw[chk,if_neg];rw[Sem.Z33];rintro ⟨d,e,f,_⟩;exact h ⟨d,e,f⟩
theorem ZmI (a b c:Int) (p:List UInt8) (k: ¬((0<=a/\a<=999999)/\(0<=b/\b<=999999)/\(0<=c/\c<=999999))) (w:World):
 Y9 234 #[.agg #[.int .i64 a,.int .i64 b,.int .i64 c,.string ⟨p.toArray⟩]] w (.int .i64 (chk ⟨a,b,c,p⟩)):=by
 have e:Hid (chk ⟨a,b,c,p⟩=40):=Y1 (ZiC k);go_enter Tryz.func234,Tryz.ntmps234
 go_wp2_with fail
 have l:=Zhi a b c;have m:=Zhj a b c;have n:=Zhk a b c
 go_loop [13] (fun i=>Far a b c i) (fun i=>3 - (intOf i).toNat)
 case atStart=>exact Or.inl rfl
 case round=>
  rcases hrel with rfl | ⟨rfl,a1,a2⟩ | ⟨rfl,a1,a2,b1,b2⟩ | ⟨rfl,a1,a2,b1,b2,c1,c2⟩
  {rcases (show a < 0\/999999 < a\/(0<=a/\a<=999999) from by omega) with h | h | ⟨g,j⟩
   {go_wp2;refine bodyPost_ret (v:= .int .i64 40) (by simp[results,Tryz.results234,go_sem]) rfl ?_;exact ⟨by rw[e.out],Z0h (Z01 _ _) _⟩}
   {have f:decide (a < 0)=false:=decide_eq_false (by omega);have d:decide (999999 < a)=true:=decide_eq_true h;go_wp2;refine bodyPost_ret (v:= .int .i64 40) (by simp[results,Tryz.results234,go_sem]) rfl ?_;exact ⟨by rw[e.out],Z0h (Z01 _ _) _⟩}
   {have f:decide (a < 0)=false:=decide_eq_false (by omega);have d:decide (999999 < a)=false:=decide_eq_false (by omega);go_wp2
    go_round
    case rel=>exact Or.inr (Or.inl ⟨rfl,by omega,by omega⟩)
    case measure=>simp[intOf]}}
  {rcases (show b < 0\/999999 < b\/(0<=b/\b<=999999) from by omega) with h | h | ⟨g,j⟩
   {go_wp2;refine bodyPost_ret (v:= .int .i64 40) (by simp[results,Tryz.results234,go_sem]) rfl ?_;exact ⟨by rw[e.out],Z0h (Z01 _ _) _⟩}
   {have f:decide (b < 0)=false:=decide_eq_false (by omega);have d:decide (999999 < b)=true:=decide_eq_true h;go_wp2;refine bodyPost_ret (v:= .int .i64 40) (by simp[results,Tryz.results234,go_sem]) rfl ?_;exact ⟨by rw[e.out],Z0h (Z01 _ _) _⟩}
   {have f:decide (b < 0)=false:=decide_eq_false (by omega);have d:decide (999999 < b)=false:=decide_eq_false (by omega);go_wp2
    go_round
    case rel=>exact Or.inr (Or.inr (Or.inl ⟨rfl,a1,a2,by omega,by omega⟩))
    case measure=>simp[intOf]}}
  {rcases (show c < 0\/999999 < c\/(0<=c/\c<=999999) from by omega) with h | h | ⟨g,j⟩
   {go_wp2;refine bodyPost_ret (v:= .int .i64 40) (by simp[results,Tryz.results234,go_sem]) rfl ?_;exact ⟨by rw[e.out],Z0h (Z01 _ _) _⟩}
   {have f:decide (c < 0)=false:=decide_eq_false (by omega);have d:decide (999999 < c)=true:=decide_eq_true h;go_wp2;refine bodyPost_ret (v:= .int .i64 40) (by simp[results,Tryz.results234,go_sem]) rfl ?_;exact ⟨by rw[e.out],Z0h (Z01 _ _) _⟩}
   {have f:decide (c < 0)=false:=decide_eq_false (by omega);have d:decide (999999 < c)=false:=decide_eq_false (by omega);go_wp2
    go_round
    case rel=>exact Or.inr (Or.inr (Or.inr ⟨rfl,a1,a2,b1,b2,by omega,by omega⟩))
    case measure=>simp[intOf]}}
  {exact absurd ⟨⟨a1,a2⟩,⟨b1,b2⟩,⟨c1,c2⟩⟩ k}
theorem Zlt (a b c:Int) (d:0<=a) (e:a<=999999) (f:0<=b) (g:b<=999999) (c1:0<=c) (c2:c<=999999) (w:World):
 Y9 234 #[.agg #[.int .i64 a,.int .i64 b,.int .i64 c,.string ⟨(([]:List UInt8)).toArray⟩]] w (.int .i64 (chk ⟨a,b,c,[]⟩)):=by
 have h:Hid (chk ⟨a,b,c,[]⟩=0):=Y1 (by rw[chk,if_pos]; exact (Sem.Z33 _).2 ⟨⟨d,e⟩,⟨f,g⟩,⟨c1,c2⟩,by simp,rfl⟩);have p:decide (a < 0)=false:=decide_eq_false (by omega);have q:decide (b < 0)=false:=decide_eq_false (by omega);have r:decide (c < 0)=false:=decide_eq_false (by omega);have j:decide (999999 < a)=false:=decide_eq_false (by omega);have k:decide (999999 < b)=false:=decide_eq_false (by omega);have l:decide (999999 < c)=false:=decide_eq_false (by omega);go_enter Tryz.func234,Tryz.ntmps234
 go_wp2_with fail
 have m:=Zhi a b c;have n:=Zhj a b c;have o:=Zhk a b c
 go_loop [13] (fun i=>Far a b c i) (fun i=>3 - (intOf i).toNat)
 case atStart=>exact Or.inl rfl
 case round=>
  rcases hrel with rfl | ⟨rfl,_,_⟩ | ⟨rfl,_,_,_,_⟩ | ⟨rfl,_,_,_,_,_,_⟩
  {go_wp2
   go_round
   case rel=>exact Or.inr (Or.inl ⟨rfl,d,e⟩)
   case measure=>simp[intOf]}
  {go_wp2
   go_round
   case rel=>exact Or.inr (Or.inr (Or.inl ⟨rfl,d,e,f,g⟩))
   case measure=>simp[intOf]}
  {go_wp2
   go_round
   case rel=>exact Or.inr (Or.inr (Or.inr ⟨rfl,d,e,f,g,c1,c2⟩))
   case measure=>simp[intOf]}
  {go_wp2;refine bodyPost_ret (v:= .int .i64 0) (by simp[results,Tryz.results234,go_sem]) rfl ?_;exact ⟨by rw[h.out],Z0h (Z01 _ _) _⟩}
theorem Zlu (a b c:Int) (p:List UInt8) (n:24 < p.length) (A:p.length<=9223372036854775807) (d:0<=a) (e:a<=999999) (f:0<=b) (g:b<=999999) (c1:0<=c) (c2:c<=999999) (w:World):
 Y9 234 #[.agg #[.int .i64 a,.int .i64 b,.int .i64 c,.string ⟨p.toArray⟩]] w (.int .i64 (chk ⟨a,b,c,p⟩)):=by
 have j:Hid (chk ⟨a,b,c,p⟩=40):=Y1 (by rw[chk,if_neg]; rw[Sem.Z33]; rintro ⟨_,_,_,h,_⟩; simp only at h; omega);have z:p.isEmpty=false:=by
  cases p with
  | nil=>simp at n
  | cons _ _=>rfl
 have o: (⟨p.toArray⟩:ByteArray).size=p.length:=Z0J _;have t:decide (a < 0)=false:=decide_eq_false (by omega);have u:decide (b < 0)=false:=decide_eq_false (by omega);have y:decide (c < 0)=false:=decide_eq_false (by omega);have k:decide (999999 < a)=false:=decide_eq_false (by omega);have l:decide (999999 < b)=false:=decide_eq_false (by omega);have m:decide (999999 < c)=false:=decide_eq_false (by omega);go_enter Tryz.func234,Tryz.ntmps234
 go_wp2_with fail
 have q:=Zhi a b c;have r:=Zhj a b c;have s:=Zhk a b c
 go_loop [13] (fun i=>Far a b c i) (fun i=>3 - (intOf i).toNat)
 case atStart=>exact Or.inl rfl
 case round=>
  rcases hrel with rfl | ⟨rfl,_,_⟩ | ⟨rfl,_,_,_,_⟩ | ⟨rfl,_,_,_,_,_,_⟩
  {go_wp2
   go_round
   case rel=>exact Or.inr (Or.inl ⟨rfl,d,e⟩)
   case measure=>simp[intOf]}
  {go_wp2
   go_round
   case rel=>exact Or.inr (Or.inr (Or.inl ⟨rfl,d,e,f,g⟩))
   case measure=>simp[intOf]}
  {go_wp2
   go_round
   case rel=>exact Or.inr (Or.inr (Or.inr ⟨rfl,d,e,f,g,c1,c2⟩))
   case measure=>simp[intOf]}
  {go_wp2;refine bodyPost_ret (v:= .int .i64 40) (by simp[results,Tryz.results234,go_sem]) rfl ?_;exact ⟨by rw[j.out],Z0h (Z01 _ _) _⟩}
attribute [local go_sem] Oper.semAt_some
theorem Zk7 (a b c:Int) (p:List UInt8) (P:p.length<=24) (N:p≠ []) (z:0<=a) (C:a<=999999) (H:0<=b) (I:b<=999999) (c1:0<=c) (c2:c<=999999) (w:World):
 Y9 234 #[.agg #[.int .i64 a,.int .i64 b,.int .i64 c,.string ⟨p.toArray⟩]] w (.int .i64 (chk ⟨a,b,c,p⟩)):=by
 have O:Hid (chk ⟨a,b,c,p⟩=if (Sem.parts p).all Sem.part=true then 0 else 40):=Y1 (by
  rw[chk];have e:Sem.may ⟨a,b,c,p⟩=(Sem.parts p).all Sem.part:=by
   rw[Bool.eq_iff_iff,Sem.Z33];have U:Sem.preOk p=(Sem.parts p).all Sem.part:=by
    unfold Sem.preOk;rw[show p.isEmpty=false from by simpa using N,Bool.false_or]
   rw[U];exact ⟨fun h=>h.2.2.2.2,fun h=>⟨⟨z,C⟩,⟨H,I⟩,⟨c1,c2⟩,P,h⟩⟩
  rw[e])
 have he:p.isEmpty=false:=by simpa using N
 have V: (⟨p.toArray⟩:ByteArray).size=p.length:=Z0J _;clear N;have da:decide (a < 0)=false:=decide_eq_false (by omega);have db:decide (b < 0)=false:=decide_eq_false (by omega);have dc:decide (c < 0)=false:=decide_eq_false (by omega);have Q:decide (999999 < a)=false:=decide_eq_false (by omega);have S:decide (999999 < b)=false:=decide_eq_false (by omega);have T:decide (999999 < c)=false:=decide_eq_false (by omega);have X:=Zhi a b c;have Y:=Zhj a b c;have Z:=Zhk a b c;refine (callsIn_wide (n:=6)).1 ?_;refine callsIn_of_wp_marks Tryz.func234 rfl trivial ?_ rfl;simp only[Tryz.ntmps234,List.size_toArray,List.length_cons,List.length_nil,Nat.reduceAdd,Nat.reduceSub,Array.replicate_succ,Array.replicate_zero,List.push_toArray,List.append_toArray,List.nil_append,List.cons_append]
 gi_wp2_with fail
 gi_loopw [13] (fun i wr=>Far a b c i/\wr=(w.alloc (Obj.cells #[Value.int IntKind.i64 a,Value.int IntKind.i64 b,Value.int IntKind.i64 c,Value.string ⟨p.toArray⟩] 103)).alloc (Obj.cells #[Value.int IntKind.i64 0] 29)) (fun i _=>3 - (intOf i).toNat)
 case atStart=>exact ⟨Or.inl rfl,rfl⟩
 case round=>
  obtain ⟨v,rfl⟩:=hrel;rcases v with rfl | ⟨rfl,_,_⟩ | ⟨rfl,_,_,_,_⟩ | ⟨rfl,_,_,_,_,_,_⟩
  {gi_wp2
   go_roundw
   case rel=>exact ⟨Or.inr (Or.inl ⟨rfl,z,C⟩),trivial⟩
   case measure=>simp[intOf]}
  {gi_wp2
   go_roundw
   case rel=>exact ⟨Or.inr (Or.inr (Or.inl ⟨rfl,z,C,H,I⟩)),trivial⟩
   case measure=>simp[intOf]}
  {gi_wp2
   go_roundw
   case rel=>exact ⟨Or.inr (Or.inr (Or.inr ⟨rfl,z,C,H,I,c1,c2⟩)),trivial⟩
   case measure=>simp[intOf]}
  {gi_wp2_with (refine ⟨trivial, ?_⟩; gi_at_call 243; refine (callsIn_wide.2 (ZnY p _)).mono ?_; rintro e w' ⟨rfl,E,j⟩)
   simp only[World.size_alloc] at E j;have hb0:Below w.heap.size w w':=(Z0h (Z01 _ _) _).trans (j.mono (by omega));have o:w'.cell? ⟨w.heap.size+1,0,none⟩=some (.int .i64 0):=(j.cell (p:=⟨w.heap.size+1,0,none⟩) (by show w.heap.size+1 < w.heap.size+1+1; omega)).trans (by simp[go_sem]);have q:w'.frozen? ⟨w.heap.size+1,0,none⟩=false:=(j.frozen (p:=⟨w.heap.size+1,0,none⟩) (by show w.heap.size+1 < w.heap.size+1+1; omega)).trans (by simp[go_sem]);clear j;refine ZmG 6 (by omega) (w.heap.size+1+1) p rfl E P rfl
    (fun d W=>Below w.heap.size w W/\W.cell? ⟨w.heap.size+1,0,none⟩=some (.int .i64 0)/\W.frozen? ⟨w.heap.size+1,0,none⟩=false/\d.all Sem.part=true)
    (fun d W=>Below w.heap.size w W/\W.cell? ⟨w.heap.size+1,0,none⟩=some (.int .i64 40)/\d.all Sem.part=false)
    ?hI ?hIx ⟨hb0,o,q,rfl⟩
    (fun x=> { tmps:=#[.agg #[.int .i64 a,.int .i64 b,.int .i64 c,.string ⟨p.toArray⟩],.pointer (some ⟨w.heap.size,0,none⟩),.pointer (some ⟨w.heap.size+1,0,none⟩),undef,u4,.string ⟨x.toArray⟩,.pointer (some ⟨w.heap.size,0,none⟩),.int .i64 a,
     .pointer (some ⟨w.heap.size,1,none⟩),.int .i64 b,.pointer (some ⟨w.heap.size,2,none⟩),.int .i64 c,.agg #[.int .i64 a,.int .i64 b,.int .i64 c],.int .i64 3,.bool false,u15,u16,u17,u18,u19,u20,u21,u22,.pointer (some ⟨w.heap.size,3,none⟩),.string ⟨p.toArray⟩,.bool false,
     .pointer (some ⟨w.heap.size,3,none⟩),.string ⟨p.toArray⟩,.int .i64 p.length,.bool (decide ((24:Int) < p.length)),.pointer (some ⟨w.heap.size,3,none⟩),.string ⟨p.toArray⟩,
     .func (.func 258) #[] #[.pointer (some ⟨w.heap.size+1+1+1,0,none⟩),.pointer (some ⟨w.heap.size+1+1,0,none⟩),.pointer (some ⟨w.heap.size+1+1+2,0,none⟩)],.string ⟨x.toArray⟩,undef,undef,undef],defers:= [] }) ?hassign ?hbody ?hdone ?hstop
   case hI=>
    rintro d A B ⟨h1,h2,h3,g⟩ j;exact ⟨h1.trans (j.mono (by omega)),(j.cell (p:=⟨w.heap.size+1,0,none⟩) (by show w.heap.size+1 < w.heap.size+1+1; omega)).trans h2,(j.frozen (p:=⟨w.heap.size+1,0,none⟩) (by show w.heap.size+1 < w.heap.size+1+1; omega)).trans h3,g⟩
   case hIx=>
    rintro d A B ⟨h1,h2,g⟩ j;exact ⟨h1.trans (j.mono (by omega)),(j.cell (p:=⟨w.heap.size+1,0,none⟩) (by show w.heap.size+1 < w.heap.size+1+1; omega)).trans h2,g⟩
   case hassign=>
    intro l x W K t
    gi_wp2
    exact t
   case hbody=>
    rintro l d x W ⟨h1,h2,h3,g⟩ hx;have f:=fun W=>CallsIn.inRound l (callsIn_wide (n:=6 - 1 - 1 - 1).2 (ZhN ⟨x.toArray⟩ (by rw[Z0J]; omega) W));have r:Sem.part (⟨x.toArray⟩:ByteArray).data.toList=Sem.part x:=rfl;rw[r] at f;cases s:Sem.part x
    {have F:Hid ((d++ [x]).all Sem.part=false):=Y1 (by rw[List.all_append,g]; simp[s]);rw[s] at f;clear s r g
     gi_wp2_with (refine ⟨trivial, ?_⟩; gi_at_call 244; refine (f _).mono ?_; rintro e w' ⟨rfl,rfl⟩)
     exact ⟨KeepsOthers.setCell _ _ _,h1.setCell (p:=⟨w.heap.size+1,0,none⟩) (by show w.heap.size<=w.heap.size+1; omega) _,World.cell?_setCell_same _ _ _ h2,F.out⟩}
    {have F:Hid ((d++ [x]).all Sem.part=true):=Y1 (by rw[List.all_append,g]; simp[s]);rw[s] at f;clear s r g
     gi_wp2_with (refine ⟨trivial, ?_⟩; gi_at_call 244; refine (f _).mono ?_; rintro e w' ⟨rfl,rfl⟩)
     exact ⟨KeepsOthers.refl _,Below.refl _ _,h1,h2,h3,F.out⟩}
   case hdone=>
    rintro D W ⟨h1,h2,h3,g⟩ t J;have G:Hid (chk ⟨a,b,c,p⟩=0):=Y1 (by rw[O.out,if_pos g]);clear g o q
    gi_wp2
    have L:w.heap.size+1+1+2 < D:=Nat.lt_of_lt_of_le E.1 J;have M: (W.setCell ⟨w.heap.size+1,0,none⟩ (.int .i64 0)).heap[D]? =some (.deferred (some [])):=(Below.heap_setCell W ⟨w.heap.size+1,0,none⟩ _ D (by show D≠w.heap.size+1; omega)).trans t;have u:=Zdp (B:=w.heap.size+2) (W:=W.setCell ⟨w.heap.size+1,0,none⟩ (.int .i64 0)) (l:=D) (.deferred none) (by omega);have m:=(u.cell (p:=⟨w.heap.size+1,0,none⟩) (by show w.heap.size+1 < w.heap.size+2; omega)).trans (World.cell?_setCell_same _ _ (.int .i64 0) h2);have k:Below w.heap.size w ((W.setCell ⟨w.heap.size+1,0,none⟩ (.int .i64 0)).putObj D (.deferred none)):=(h1.setCell (p:=⟨w.heap.size+1,0,none⟩) (by show w.heap.size<=w.heap.size+1; omega) _).trans (u.mono (by omega));refine ⟨by simp,.inl ⟨_,_,rfl,run_takeDeferred M, ?_⟩⟩;generalize (W.setCell ⟨w.heap.size+1,0,none⟩ (.int .i64 0)).putObj D (.deferred none)=W5 at m k ⊢;refine ⟨.int .i64 0,by simp[results,Tryz.results234,go_sem,m], ?_⟩;exact ⟨by rw[G.out],k⟩
   case hstop=>
    rintro D d a0 W y ⟨h1,h2,g⟩ t J;have G:Hid (chk ⟨a,b,c,p⟩=40):=Y1 (by
     rw[O.out,if_neg];rw[<-y,List.all_append,g]; simp)
    clear g o q y
    gi_wp2
    have L:w.heap.size+1+1+2 < D:=Nat.lt_of_lt_of_le E.1 J;have u:=Zdp (B:=w.heap.size+2) (W:=W) (l:=D) (.deferred none) (by omega);have m:=(u.cell (p:=⟨w.heap.size+1,0,none⟩) (by show w.heap.size+1 < w.heap.size+2; omega)).trans h2;have k:Below w.heap.size w (W.putObj D (.deferred none)):=h1.trans (u.mono (by omega));refine ⟨by simp,.inl ⟨_,_,rfl,run_takeDeferred t, ?_⟩⟩;generalize W.putObj D (.deferred none)=W5 at m k ⊢;refine ⟨.int .i64 40,by simp[results,Tryz.results234,go_sem,m], ?_⟩;exact ⟨by rw[G.out],k⟩}
theorem Zhl (v:Sem.Ver) (k:v.pre.length<=9223372036854775807) (w:World):
 Y9 234 #[verV v] w (.int .i64 (chk v)):=by
 obtain ⟨a,b,c,p⟩:=v;unfold verV;simp only at k;by_cases h: (0<=a/\a<=999999)/\(0<=b/\b<=999999)/\(0<=c/\c<=999999)
 {obtain ⟨⟨d,e⟩,⟨f,g⟩,⟨c1,c2⟩⟩:=h;by_cases i:p= []
  {subst i; exact Zlt a b c d e f g c1 c2 w}
  {by_cases j:p.length<=24
   {exact Zk7 a b c p j i d e f g c1 c2 w}
   {exact Zlu a b c p (by omega) (by omega) d e f g c1 c2 w}}}
 {exact ZmI a b c p h w}
def digB (d:Nat):UInt8:=UInt8.ofNat (48+d)
theorem Zib (d:Nat) (h:d < 10) (W:World):
 (Instr.slice 9 (.string ⟨#[48,49,50,51,52,53,54,55,56,57]⟩) (some (.int .i64 d)) (some (.int .i64 (d+1))) none).run Tryz.prog W= .ok (.string ⟨[digB d].toArray⟩) W:=by
 have a: (⟨#[48,49,50,51,52,53,54,55,56,57]⟩:ByteArray).size=10:=by decide
 have:=Z9U ⟨#[48,49,50,51,52,53,54,55,56,57]⟩ d (d+1) (by omega) (by rw[a]; omega) W;rw[this,show ((d:Int)+1).toNat - d=1 from by omega];have e: (([48,49,50,51,52,53,54,55,56,57]:List UInt8).drop d).take 1= [digB d]:=by
  match d,h with
  | 0,_=>rfl
  | 1,_=>rfl
  | 2,_=>rfl
  | 3,_=>rfl
  | 4,_=>rfl
  | 5,_=>rfl
  | 6,_=>rfl
  | 7,_=>rfl
  | 8,_=>rfl
  | 9,_=>rfl
 exact congrArg (fun l:List UInt8=>Result.ok (Value.string ⟨l.toArray⟩) W) e
theorem Zjd (N:Nat) (h:N<=999999) (w:World):
 Calls Tryz.prog 136 #[.int .i64 N] w fun e w'=>e= .returned (.string ⟨(Sem.dec N).toArray⟩)/\w=w':=by
 obtain ⟨d,k⟩: ∃d:Nat,(N:Int) % 10=d:=⟨N % 10,by omega⟩;have a:d < 10:=by omega
 have b:=Zib d a;have i:Hid (Sem.dec N=Sem.ahead N++ [digB d]):=Y1 (by rw[Sem.ZiT,show N % 10=d from by omega]; rfl);go_enter Tryz.func136,Tryz.ntmps136
 go_wp2_with fail
 clear b
 go_loop [0,3,4] (fun n d o=> ∃(m:Nat) (x:Int) (out:List UInt8),n= .int .i64 m/\d= .int .i64 x/\o= .string ⟨out.toArray⟩/\out.length+m<=N+1/\Hid (Sem.dec N=Sem.ahead m++out))
  (fun n _ _=>(intOf n).toNat)
 case atStart=>exact ⟨N,_,_,rfl,rfl,rfl,by simp; omega,i⟩
 case round=>
  clear k i a;obtain ⟨m,x,out,rfl,rfl,rfl,r,j⟩:=hrel;by_cases l:10<=m
  {obtain ⟨c,q⟩: ∃c:Nat,(m:Int) / 10 % 10=c:=⟨m / 10 % 10,by omega⟩;have g:c < 10:=by omega
   have b:=Zib c g;have f:Hid (Sem.dec N=Sem.ahead (m / 10)++(digB c::out)):=Y1 (by
    rw[j.out];have e:Sem.ahead m=Sem.dec (m / 10):=by unfold Sem.ahead; rw[if_neg (by omega)]
    rw[e,Sem.ZiT,show m / 10 % 10=c from by omega,List.append_assoc]; rfl)
   have p:out.length<=1000000:=by omega
   go_wp2
   go_round
   case rel=>exact ⟨m / 10,_,digB c::out,by go_num,rfl,congrArg Value.string (Zi1 [digB c] out),by simp; omega,f⟩
   case measure=>simp[intOf]; omega}
  {have f:Hid (Sem.dec N=out):=Y1 (by
    rw[j.out];have e:Sem.ahead m= []:=by unfold Sem.ahead; rw[if_pos (by omega)]
    rw[e,List.nil_append])
   go_wp2;go_ret;exact ⟨by rw[f.out]; rfl,rfl⟩}
def showR (v:Sem.Ver):Value:=if Sem.may v=true then .tuple #[.string ⟨(Sem.text v).toArray⟩,.int .i64 0] else .tuple #[.string ByteArray.empty,.int .i64 40]
theorem Ze5 {n:Nat} (h:n<=999999): (Sem.dec n).length<=6:=Sem.Z49 6 n (by have: (10:Nat) ^ 6=1000000:=rfl; omega) (by omega)
theorem ZmJ (x y z:List UInt8): (⟨x.toArray⟩:ByteArray)++⟨#[46]⟩++⟨y.toArray⟩++⟨#[46]⟩++⟨z.toArray⟩=⟨(x++46::(y++46::(z++if ([]:List UInt8)= [] then [] else 45:: []))).toArray⟩:=by
 apply ByteArray.ext;simp[ByteArray.data_append]
theorem ZmK (x y z p:List UInt8) (h:p≠ []): (⟨x.toArray⟩:ByteArray)++⟨#[46]⟩++⟨y.toArray⟩++⟨#[46]⟩++⟨z.toArray⟩++⟨#[45]⟩++⟨p.toArray⟩=⟨(x++46::(y++46::(z++if p= [] then [] else 45::p))).toArray⟩:=by
 rw[if_neg h];apply ByteArray.ext;simp[ByteArray.data_append]
theorem ZmL {s t:ByteArray} (e:Int) (h:s=t):Ending.returned (.tuple #[.string s,.int .i64 e])= .returned (.tuple #[.string t,.int .i64 e]):=by rw[h]
theorem ZdL (v:Sem.Ver) (k:v.pre.length<=9223372036854775807) (w:World):
 Y9 108 #[verV v] w (showR v):=by
 cases g:Sem.may v
 {have l:=Y1 g;have h:chk v=40:=by rw[chk,g]; rfl
  have j:=Y1 h;obtain ⟨a,b,c,p⟩:=v;clear g h;have m:verV ⟨a,b,c,p⟩= .agg #[.int .i64 a,.int .i64 b,.int .i64 c,.string ⟨p.toArray⟩]:=rfl;have z:=Y1 m;rw[m];clear m;go_enter Tryz.func108,Tryz.ntmps108
  go_wp2_with fail
  refine (Zfb ⟨a,b,c,p⟩ k _).mono ?_;rintro e r ⟨d,f⟩;rw[j.out] at d;subst d;go_wp2
  go_ret2
  exact ⟨by rw[showR,l.out,if_neg (by simp)]; rfl,Z03 (Z01 _ _) f⟩}
 {have l:=Y1 g;have h:chk v=0:=by rw[chk,g]; rfl
  have j:=Y1 h;have i:=(Sem.Z33 v).1 g;obtain ⟨a,b,c,p⟩:=v;simp only at i k;obtain ⟨⟨s,A⟩,⟨t,B⟩,⟨c1,c2⟩,C,_⟩:=i;obtain ⟨a,rfl⟩:=Int.eq_ofNat_of_zero_le s;obtain ⟨b,rfl⟩:=Int.eq_ofNat_of_zero_le t;obtain ⟨c,rfl⟩:=Int.eq_ofNat_of_zero_le c1;clear g h;have q:Hid (showR ⟨a,b,c,p⟩= .tuple #[.string ⟨(Sem.dec a++46::(Sem.dec b++46::(Sem.dec c++if p= [] then [] else 45::p))).toArray⟩,.int .i64 0]):=Y1 (by
   rw[showR,l.out,if_pos rfl]; rfl)
  have D:=Ze5 (n:=a) (by omega);have E:=Ze5 (n:=b) (by omega);have F:=Ze5 (n:=c) (by omega);unfold verV;by_cases o:p= []
  {subst o;go_enter Tryz.func108,Tryz.ntmps108
   go_wp2_with fail
   refine (Zfb ⟨a,b,c,[]⟩ k _).mono ?_;rintro e r ⟨d,f⟩;rw[j.out] at d;subst d;obtain ⟨_,g0,g1,g2,u⟩:=(Zej w ⟨a,b,c,[]⟩).next f
   go_wp2_with fail
   go_quiet ((go_at_call 136; exact Calls.quiet_of_same (flip (Zjd _ (by omega) _))))
   go_wp2
   go_ret2
   refine ⟨?_,Z0Q (Z03 (Z01 _ _) f) _⟩;rw[q.out];exact ZmL 0 (ZmJ _ _ _)}
  {have y:p.isEmpty=false:=by simpa using o
   go_enter Tryz.func108,Tryz.ntmps108
   go_wp2_with fail
   refine (Zfb ⟨a,b,c,p⟩ k _).mono ?_;rintro e r ⟨d,f⟩;rw[j.out] at d;subst d;obtain ⟨_,g0,g1,g2,u⟩:=(Zej w ⟨a,b,c,p⟩).next f
   go_wp2_with fail
   go_quiet ((go_at_call 136; exact Calls.quiet_of_same (flip (Zjd _ (by omega) _))))
   go_wp2
   go_ret2
   refine ⟨?_,Z0Q (Z03 (Z01 _ _) f) _⟩;rw[q.out];exact ZmL 0 (ZmK _ _ _ _ o)}}
theorem ZpR (n:Nat):Lib.decDigits n=Sem.dec n:=by
 induction n using Nat.strongRecOn with
 | ind n ih=>
  rw[Lib.decDigits,Sem.dec];by_cases h:n < 10
  {rw[dif_pos h,dif_pos h]}
  {rw[dif_neg h,dif_neg h,ih _ (by omega)]}
theorem ZmM (n:Nat) (h:n<=999999) (w:World) (b:Globs w):
 Y9 235 #[.int .i64 n] w (.string ⟨(Sem.dec n).toArray⟩):=by
 have a:=Any.strconv_Itoa Tryz.laysM171 n (by omega) (by omega) w b.tab;rw[Lib.itoa_nonneg,ZpR] at a;refine Calls.mono a ?_;rintro e w' ⟨rfl,k,os,rfl⟩;exact ⟨rfl,Lib.below_grow _ _ (Nat.le_refl _) _ _⟩
theorem Zlv (z:Int) (a:0<=z) (h:z<=999999) (w:World) (b:Globs w):
 Y9 235 #[.int .i64 z] w (.string ⟨(Sem.dec z.toNat).toArray⟩):=by
 obtain ⟨n,rfl⟩:=Int.eq_ofNat_of_zero_le a;exact ZmM n (by omega) w b
theorem Zlw {w W w':World} {g:Nat} {a b c:Int} {x:ByteArray} (h:g < W.heap.size/\W.cell? ⟨g,0,none⟩=some (.int .i64 a)/\W.cell? ⟨g,1,none⟩=some (.int .i64 b)/\W.cell? ⟨g,2,none⟩=some (.int .i64 c)/\W.cell? ⟨g,3,none⟩=some (.string x)/\Globs W/\Below w.heap.size w W) (d:Below W.heap.size W w'):
 g < w'.heap.size/\w'.cell? ⟨g,0,none⟩=some (.int .i64 a)/\w'.cell? ⟨g,1,none⟩=some (.int .i64 b)/\w'.cell? ⟨g,2,none⟩=some (.int .i64 c)/\w'.cell? ⟨g,3,none⟩=some (.string x)/\Globs w'/\Below w.heap.size w w':=by
 obtain ⟨e,f,i,j,k,l,m⟩:=h;exact ⟨Nat.lt_of_lt_of_le e d.size,((ZcE (o:=0) d e).1).trans f,((ZcE (o:=1) d e).1).trans i,((ZcE (o:=2) d e).1).trans j,((ZcE (o:=3) d e).1).trans k,l.next d,Z03 m d⟩
theorem ZfK (z:Int) (d:0<=z) (e:z<=999999) {w W:World} {g:Nat} {a b c:Int} {x:ByteArray} (h:g < W.heap.size/\W.cell? ⟨g,0,none⟩=some (.int .i64 a)/\W.cell? ⟨g,1,none⟩=some (.int .i64 b)/\W.cell? ⟨g,2,none⟩=some (.int .i64 c)/\W.cell? ⟨g,3,none⟩=some (.string x)/\Globs W/\Below w.heap.size w W):
 Y9 235 #[.int .i64 z] W (.string ⟨(Sem.dec z.toNat).toArray⟩):=
 Zlv z d e W h.2.2.2.2.2.1
theorem Globs.drew {w:World} (h:Globs w):Globs w.drew:=⟨h.syn,h.rng,h.tab⟩
theorem ZeK {w W:World} {g:Nat} {a b c:Int} {x:ByteArray} (h:g < W.heap.size/\W.cell? ⟨g,0,none⟩=some (.int .i64 a)/\W.cell? ⟨g,1,none⟩=some (.int .i64 b)/\W.cell? ⟨g,2,none⟩=some (.int .i64 c)/\W.cell? ⟨g,3,none⟩=some (.string x)/\Globs W/\Below w.heap.size w W):
 g < W.drew.heap.size/\W.drew.cell? ⟨g,0,none⟩=some (.int .i64 a)/\W.drew.cell? ⟨g,1,none⟩=some (.int .i64 b)/\W.drew.cell? ⟨g,2,none⟩=some (.int .i64 c)/\W.drew.cell? ⟨g,3,none⟩=some (.string x)/\Globs W.drew/\Below w.heap.size w W.drew:=
 ⟨h.1,h.2.1,h.2.2.1,h.2.2.2.1,h.2.2.2.2.1,h.2.2.2.2.2.1.drew,h.2.2.2.2.2.2.drew⟩
theorem Zo7 (x y z:List UInt8): (⟨x.toArray⟩:ByteArray)++⟨#[46]⟩++⟨y.toArray⟩++⟨#[46]⟩++⟨z.toArray⟩=⟨(x++46::(y++46::z)).toArray⟩:=by
 apply ByteArray.ext;simp[ByteArray.data_append]
theorem Zo8 (x y z p:List UInt8): (⟨(x++46::(y++46::z)).toArray⟩:ByteArray)++(⟨#[45]⟩++⟨p.toArray⟩)=⟨(x++46::(y++46::(z++45::p))).toArray⟩:=by
 apply ByteArray.ext;simp[ByteArray.data_append]
theorem ZmN (v:Sem.Ver) (hs:v.pre.length<=140737488351232) (w:World) (hg:Globs w):
 Calls Tryz.prog 219 #[verV v] w fun e w'=>e= .returned (showR v)/\Below w.heap.size w w':=by
 cases hm:Sem.may v
 {have HM:=Y1 hm;have hc:chk v=40:=by rw[chk,hm]; rfl
  have HC:=Y1 hc;obtain ⟨a,b,c,p⟩:=v;clear hm hc;have hv:verV ⟨a,b,c,p⟩= .agg #[.int .i64 a,.int .i64 b,.int .i64 c,.string ⟨p.toArray⟩]:=rfl;rw[hv];clear hv;go_enter Tryz.func219,Tryz.ntmps219
  go_wp2_with fail
  refine (Zhl ⟨a,b,c,p⟩ (Nat.le_trans hs (by decide)) _).mono ?_;rintro e w1 ⟨he,hb⟩;rw[HC.out] at he;subst he;go_wp2
  go_ret2
  exact ⟨by rw[showR,HM.out,if_neg (by simp)]; rfl,Z03 (Z01 _ _) hb⟩}
 {have HM:=Y1 hm;have hc:chk v=0:=by rw[chk,hm]; rfl
  have HC:=Y1 hc;have hmi:=(Sem.Z33 v).1 hm;obtain ⟨a,b,c,p⟩:=v;simp only at hmi hs;obtain ⟨⟨a1,a2⟩,⟨b1,b2⟩,⟨c1,c2⟩,hp,_⟩:=hmi;clear hm hc;have HS:Hid (showR ⟨a,b,c,p⟩= .tuple #[.string ⟨(Sem.dec a.toNat++46::(Sem.dec b.toNat++46::(Sem.dec c.toNat++if p= [] then [] else 45::p))).toArray⟩,.int .i64 0]):=Y1 (by
   rw[showR,HM.out,if_pos rfl]; rfl)
  have la:=Ze5 (n:=a.toNat) (by omega);have lb:=Ze5 (n:=b.toNat) (by omega);have lc:=Ze5 (n:=c.toNat) (by omega);have lp: (⟨p.toArray⟩:ByteArray).size=p.length:=Z0J _;have sa: (⟨(Sem.dec a.toNat).toArray⟩:ByteArray).size=(Sem.dec a.toNat).length:=Z0J _;have sb: (⟨(Sem.dec b.toNat).toArray⟩:ByteArray).size=(Sem.dec b.toNat).length:=Z0J _;have sc: (⟨(Sem.dec c.toNat).toArray⟩:ByteArray).size=(Sem.dec c.toNat).length:=Z0J _;have sd: (⟨#[46]⟩:ByteArray).size=1:=rfl;have n1: ((⟨(Sem.dec a.toNat).toArray⟩:ByteArray)++⟨#[46]⟩).size=(Sem.dec a.toNat).length+1:=by rw[ByteArray.size_append,sa,sd]
  have n2: ((⟨(Sem.dec a.toNat).toArray⟩:ByteArray)++⟨#[46]⟩++⟨(Sem.dec b.toNat).toArray⟩).size=(Sem.dec a.toNat).length+1+(Sem.dec b.toNat).length:=by rw[ByteArray.size_append,n1,sb]
  have n3: ((⟨(Sem.dec a.toNat).toArray⟩:ByteArray)++⟨#[46]⟩++⟨(Sem.dec b.toNat).toArray⟩++⟨#[46]⟩).size=(Sem.dec a.toNat).length+1+(Sem.dec b.toNat).length+1:=by rw[ByteArray.size_append,n2,sd]
  have k1: ∀W:World,(Op.stringOp .add (⟨(Sem.dec a.toNat).toArray⟩:ByteArray) ⟨#[46]⟩).run Tryz.prog W= .ok (.string ((⟨(Sem.dec a.toNat).toArray⟩:ByteArray)++⟨#[46]⟩)) W:=fun W=>run_string_add_sum _ _ _ (by omega);have k2: ∀W:World,(Op.stringOp .add ((⟨(Sem.dec a.toNat).toArray⟩:ByteArray)++⟨#[46]⟩) ⟨(Sem.dec b.toNat).toArray⟩).run Tryz.prog W= .ok (.string ((⟨(Sem.dec a.toNat).toArray⟩:ByteArray)++⟨#[46]⟩++⟨(Sem.dec b.toNat).toArray⟩)) W:=fun W=>run_string_add_sum _ _ _ (by omega);have k3: ∀W:World,(Op.stringOp .add ((⟨(Sem.dec a.toNat).toArray⟩:ByteArray)++⟨#[46]⟩++⟨(Sem.dec b.toNat).toArray⟩) ⟨#[46]⟩).run Tryz.prog W= .ok (.string ((⟨(Sem.dec a.toNat).toArray⟩:ByteArray)++⟨#[46]⟩++⟨(Sem.dec b.toNat).toArray⟩++⟨#[46]⟩)) W:=fun W=>run_string_add_sum _ _ _ (by omega);have k4: ∀W:World,(Op.stringOp .add ((⟨(Sem.dec a.toNat).toArray⟩:ByteArray)++⟨#[46]⟩++⟨(Sem.dec b.toNat).toArray⟩++⟨#[46]⟩) ⟨(Sem.dec c.toNat).toArray⟩).run Tryz.prog W= .ok (.string ((⟨(Sem.dec a.toNat).toArray⟩:ByteArray)++⟨#[46]⟩++⟨(Sem.dec b.toNat).toArray⟩++⟨#[46]⟩++⟨(Sem.dec c.toNat).toArray⟩)) W:=fun W=>run_string_add_sum _ _ _ (by omega);clear n1 n2 n3 sd;unfold verV;go_enter Tryz.func219,Tryz.ntmps219
  go_wp2_with fail
  refine (Zhl ⟨a,b,c,p⟩ (Nat.le_trans hs (by decide)) _).mono ?_;rintro e w1 ⟨he,hb⟩;rw[HC.out] at he;subst he;obtain ⟨h0,g0,g1,g2,g3⟩:=(Zej w ⟨a,b,c,p⟩).next hb;have hb1:=Z03 (Z01 w (Obj.cells #[Value.int IntKind.i64 a,Value.int IntKind.i64 b,Value.int IntKind.i64 c,Value.string ⟨p.toArray⟩] 103)) hb;have hS0:w.heap.size < w1.heap.size/\w1.cell? ⟨w.heap.size,0,none⟩=some (.int .i64 a)/\w1.cell? ⟨w.heap.size,1,none⟩=some (.int .i64 b)/\w1.cell? ⟨w.heap.size,2,none⟩=some (.int .i64 c)/\w1.cell? ⟨w.heap.size,3,none⟩=some (.string ⟨p.toArray⟩)/\Globs w1/\Below w.heap.size w w1:=⟨h0,g0,g1,g2,g3,hg.next hb1,hb1⟩;simp only at g0 g1 g2 g3;have hG1:=hS0.2.2.2.2.2.1;clear hb hb1
  go_wp2_with fail
  go_region_held3 (fun w'=>w.heap.size < w'.heap.size/\w'.cell? ⟨w.heap.size,0,none⟩=some (.int .i64 a)/\w'.cell? ⟨w.heap.size,1,none⟩=some (.int .i64 b)/\w'.cell? ⟨w.heap.size,2,none⟩=some (.int .i64 c)/\w'.cell? ⟨w.heap.size,3,none⟩=some (.string ⟨p.toArray⟩)/\Globs w'/\Below w.heap.size w w')
   (first | exact ZeK hS0 | exact Zlw (by assumption) (by assumption) | assumption)
   (first | (go_at_call 235; refine Calls.mono (ZfK (w:=w) (g:=w.heap.size) (a:=a) (b:=b) (c:=c) (x:=⟨p.toArray⟩) a a1 a2 ?_) ?_; (first | exact ZeK hS0 | exact hS0 | assumption); rintro e w4 ⟨rfl,hb4⟩) | (go_at_call 235; refine Calls.mono (ZfK (w:=w) (g:=w.heap.size) (a:=a) (b:=b) (c:=c) (x:=⟨p.toArray⟩) b b1 b2 ?_) ?_; (first | exact ZeK hS0 | exact hS0 | assumption); rintro e w5 ⟨rfl,hb5⟩) | (go_at_call 235; refine Calls.mono (ZfK (w:=w) (g:=w.heap.size) (a:=a) (b:=b) (c:=c) (x:=⟨p.toArray⟩) c c1 c2 ?_) ?_; (first | exact ZeK hS0 | exact hS0 | assumption); rintro e w6 ⟨rfl,hb6⟩))
  all_goals (
   have hH:w.heap.size < w6.heap.size/\w6.cell? ⟨w.heap.size,0,none⟩=some (.int .i64 a)/\w6.cell? ⟨w.heap.size,1,none⟩=some (.int .i64 b)/\w6.cell? ⟨w.heap.size,2,none⟩=some (.int .i64 c)/\w6.cell? ⟨w.heap.size,3,none⟩=some (.string ⟨p.toArray⟩)/\Globs w6/\Below w.heap.size w w6:=by assumption
   obtain ⟨_,j0,j1,j2,j3,_,kb⟩:=hH;clear k1 k2 k3 k4;rw[Zo7];obtain ⟨t,ht⟩: ∃t,t=Sem.dec a.toNat++46::(Sem.dec b.toNat++46::Sem.dec c.toNat):=⟨_,rfl⟩;have htl:t.length<=20:=by rw[ht]; simp; omega
   have hts: (⟨t.toArray⟩:ByteArray).size=t.length:=Z0J _;rw[<-ht];by_cases hz:p= []
   {have he:p.isEmpty=true:=by rw[hz]; rfl
    have HF:Hid (showR ⟨a,b,c,p⟩= .tuple #[.string ⟨t.toArray⟩,.int .i64 0]):=Y1 (by rw[HS.out,if_pos hz,List.append_nil,ht]);clear ht hz;go_wp2
    go_ret2
    exact ⟨by rw[HF.out]; rfl,kb⟩}
   · have he:p.isEmpty=false:=by simpa using hz
     have HF:Hid (showR ⟨a,b,c,p⟩= .tuple #[.string (⟨t.toArray⟩++(⟨#[45]⟩++⟨p.toArray⟩)),.int .i64 0]):=Y1 (by
      rw[HS.out,if_neg hz,ht,Zo8])
     clear ht hz;go_wp2
     go_ret2
     exact ⟨by rw[HF.out]; rfl,kb⟩)}
def Box4 (W:World) (g:Nat) (v:Sem.Ver):Prop:=VerAt W g v/\W.frozen? ⟨g,0,none⟩=false/\W.frozen? ⟨g,1,none⟩=false/\W.frozen? ⟨g,2,none⟩=false/\W.frozen? ⟨g,3,none⟩=false
theorem Box4.keep {W W':World} {g B:Nat} {v:Sem.Ver} (h:Box4 W g v) (b:g < B) (a:Below B W W'):Box4 W' g v:=by
 obtain ⟨⟨i,j,k,l,m⟩,c,d,e,f⟩:=h;exact ⟨⟨Nat.lt_of_lt_of_le i a.size,(a.cell (p:=⟨g,0,none⟩) b).trans j,(a.cell (p:=⟨g,1,none⟩) b).trans k,(a.cell (p:=⟨g,2,none⟩) b).trans l,(a.cell (p:=⟨g,3,none⟩) b).trans m⟩,
  (a.frozen (p:=⟨g,0,none⟩) b).trans c,(a.frozen (p:=⟨g,1,none⟩) b).trans d,(a.frozen (p:=⟨g,2,none⟩) b).trans e,(a.frozen (p:=⟨g,3,none⟩) b).trans f⟩
theorem Box4.set {W:World} {g:Nat} {v:Sem.Ver} (h:Box4 W g v) (u:Sem.Ver):Box4 ((((W.setCell ⟨g,0,none⟩ (.int .i64 u.maj)).setCell ⟨g,1,none⟩ (.int .i64 u.min)).setCell ⟨g,2,none⟩ (.int .i64 u.pat)).setCell ⟨g,3,none⟩ (.string ⟨u.pre.toArray⟩)) g u:=by
 obtain ⟨⟨e,f,i,j,k⟩,a,b,c,d⟩:=h;exact ⟨⟨by simpa using e,by simp[go_sem,f],by simp[go_sem,i],by simp[go_sem,j],by simp[go_sem,k]⟩,by simp[go_sem,a],by simp[go_sem,b],by simp[go_sem,c],by simp[go_sem,d]⟩
theorem ZkO (w:World) (v:Sem.Ver):Box4 (w.alloc (.cells #[.int .i64 v.maj,.int .i64 v.min,.int .i64 v.pat,.string ⟨v.pre.toArray⟩] 103)) w.heap.size v:=
 ⟨Zej w v,by simp[go_sem],by simp[go_sem],by simp[go_sem],by simp[go_sem]⟩
theorem VerAt.put {W:World} {g x:Nat} {v:Sem.Ver} (h:VerAt W g v) (a:x≠g) (p q r s:Value):
 VerAt ((((W.setCell ⟨x,0,none⟩ p).setCell ⟨x,1,none⟩ q).setCell ⟨x,2,none⟩ r).setCell ⟨x,3,none⟩ s) g v:=by
 obtain ⟨b,c,d,f,l⟩:=h;have k: ∀(V:World) (i j:Nat) (z:Value),(V.setCell ⟨x,i,none⟩ z).cell? ⟨g,j,none⟩=V.cell? ⟨g,j,none⟩:=fun V i j z=>World.cell?_setCell_other _ _ _ _ (fun e=>a (congrArg Addr.block e));refine ⟨by simpa using b, ?_, ?_, ?_, ?_⟩ <;> rw[k,k,k,k] <;> assumption
theorem Box4.put {W:World} {g x:Nat} {v:Sem.Ver} (h:Box4 W g v) (a:x≠g) (p q r s:Value):
 Box4 ((((W.setCell ⟨x,0,none⟩ p).setCell ⟨x,1,none⟩ q).setCell ⟨x,2,none⟩ r).setCell ⟨x,3,none⟩ s) g v:=by
 obtain ⟨f,b,c,d,e⟩:=h;exact ⟨f.put a p q r s,by simp[go_sem,b],by simp[go_sem,c],by simp[go_sem,d],by simp[go_sem,e]⟩
end
end Go.Proofs.YtgndehppmaacaaaGreatDoor
