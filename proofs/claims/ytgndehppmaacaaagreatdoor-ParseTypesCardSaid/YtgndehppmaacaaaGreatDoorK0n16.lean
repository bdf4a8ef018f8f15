/- What the proofs of ParseTypes want, part 16. -/
import Derived.Test.YtgndehppmaacaaaGreatDoorK0n15
set_option linter.unusedVariables false
set_option linter.unusedSimpArgs false
set_option linter.unusedSectionVars false
set_option maxRecDepth 100000
set_option maxHeartbeats 16000000
namespace Go.Proofs.YtgndehppmaacaaaGreatDoor
section
open Go.RowKit Tms
open Shp (Sh)
open Pso (St Ok Goes betw loop want)
theorem Zor (bp:Nat) (A:Option Addr) (c:Nat) (l:List Tk) (m:Nat) (σ τ:St) (a:Int) (p:TokOk l) (k:ExC bp A c l m) (K:Ok l σ) (hm:l.length - σ.1 < m+1) (h:a=(Prs.look l σ.1).at_) (q:τ=Pso.begin_ l σ) (w:World) (z:PAt w bp A c l σ):
 Calls Tryz.prog 75 #[.pointer (some ⟨bp,0,none⟩)] w (TmIs bp A c l (Pso.bodyE l (Pso.expr l m) σ) w):=by
 have B:=z.lt;have b:=p.len;have hb0:=Z01 w (.cells Ya 40);have o:=z.below hb0;have i:=Y1 (ZlM bp A c l σ b K _ o);rw[<-q, <-h] at i;have r:=Pso.to_begin K;rw[<-q] at r;have f:=r.1;have hg:=r.2.1;have y:=p.at_ σ.1;rw[<-h] at y;have s:=Y1 hb0;have u:=Y1 (ZcP w (.int .i64 0) (.string ⟨#[]⟩) (.string ⟨#[]⟩) (.int .i64 0) (.slice none 0 0) (.slice none 0 0) (.slice none 0 0) (.slice none 0 0) (.int .i64 0) 40);have j:=Y1 p;have H:=Y1 k;have G:=Y1 y;have J:=Y1 q;have n:=Y1 h;clear hb0 o z r p k y q h;go_enter Tryz.func75,Tryz.ntmps75
 go_wp2_with fail
 refine i.out.mono ?_;rintro e W ⟨rfl,L,M⟩;have g:=Y1 L;have d:=Y1 M;clear L M i
 go_wp2_with fail
 have C:Prs.sign l τ.1 [102,117,110]=false:=(Z04 j.out.mild _).2 _ (by decide);refine (hidC (Zd5 C b f.1 _ g.out) d).mono ?_;rintro e W ⟨rfl,g,d⟩
 go_wp2_with fail
 have D:Prs.sign l τ.1 [108,101,116]=false:=(Z04 j.out.mild _).2 _ (by decide);refine (hidC (Zd5 D b f.1 _ g.out) d).mono ?_;rintro e W ⟨rfl,g,d⟩
 go_wp2_with fail
 have E:Prs.sign l τ.1 [105,102]=false:=(Z04 j.out.mild _).2 _ (by decide);refine (hidC (Zd5 E b f.1 _ g.out) d).mono ?_;rintro e W ⟨rfl,g,d⟩
 go_wp2_with fail
 have s3:Prs.sign l τ.1 [99,97,115,101]=false:=(Z04 j.out.mild _).2 _ (by decide);refine (hidC (Zd5 s3 b f.1 _ g.out) d).mono ?_;rintro e W ⟨rfl,g,d⟩
 go_wp2_with fail
 rcases Bool.eq_false_or_eq_true (Prs.sign l τ.1 [91]) with s4 | s4
 rotate_left
 refine (hidC (Zdc s4 b f.1 _ g.out) d).mono ?_;rintro e W ⟨rfl,g,d⟩;have I:Hid (Pso.bodyE l (Pso.expr l m) σ=Pso.chainE l (Pso.expr l m) τ a):=Y1 (by unfold Pso.bodyE; simp only; rw[<-J.out, <-n.out,if_neg (by rw[C]; simp),if_neg (by rw[D]; simp),if_neg (by rw[E]; simp),if_neg (by rw[s3]; simp),if_neg (by rw[s4]; simp)])
 go_wp2_with fail
 refine (hidT (w.heap.size+1) (ZlR bp A c l m τ a j.out G.out f H.out (by omega) _ g.out) d (by simp)).mono ?_
 rotate_left
 have I:Hid (Pso.bodyE l (Pso.expr l m) σ=Pso.listE l (Pso.expr l m) τ a):=Y1 (by unfold Pso.bodyE; simp only; rw[<-J.out, <-n.out,if_neg (by rw[C]; simp),if_neg (by rw[D]; simp),if_neg (by rw[E]; simp),if_neg (by rw[s3]; simp),if_pos s4]);refine (hidC (Zdc s4 b f.1 _ g.out) d).mono ?_;rintro e W ⟨rfl,g,d⟩;have P:=Pso.sign_lt s4
 go_wp2_with fail
 refine (hidT (w.heap.size+1) (ZlI bp A c l m τ a j.out G.out f H.out (by rw[Zeh s4]; simp only; omega) _ g.out) d (by simp)).mono ?_
 all_goals
  rintro e W ⟨x,rfl,g,d,N,O,t⟩;simp only[valT];obtain ⟨Q,S,T,U,V,X,Y,Z,r8,f0,f1,f2,f3,f4,f5,f6,f7,f8,rl⟩:=u.out.upf d.out (by simp; omega);go_wp2;refine bodyPost_ret (v:=valT x) (by simp[results,Tryz.results75,go_sem,valT,Q,S,T,U,V,X,Y,Z,r8,rl]) rfl ?_;have k:=end9 g.out ((ZcF (F:= [bp]) s.out).trans d.out) N.out (rb:=w.heap.size) (Nat.le_refl _) (Or.inl (by omega)) B;rw[I.out];exact ⟨x,rfl,(k _ _ _ _ _ _ _ _ _).1,(k _ _ _ _ _ _ _ _ _).2.1,(k _ _ _ _ _ _ _ _ _).2.2,by omega,t.out⟩
theorem Zii (bp:Nat) (A:Option Addr) (c:Nat) (l:List Tk) (a:TokOk l): ∀m,ExC bp A c l m
 | 0=>fun W τ hO hm=>absurd hm (by omega)
 | m+1=>fun W τ hO hm hP=>Zor bp A c l m τ _ _ a (Zii bp A c l a m) hO hm rfl rfl W hP
theorem ZhW (bp:Nat) (A:Option Addr) (c:Nat) (l:List Tk) (X:TokOk l) (σ:St) (S:Ok l σ) (w:World) (T:PAt w bp A c l σ):
 Calls Tryz.prog 40 #[.pointer (some ⟨bp,0,none⟩)] w (TmIs bp A c l (Pso.wholeE l σ) w):=by
 have HF:Hid (Pso.wholeE l σ=((Pso.expr l (l.length+1) σ).1,if Tms.check (Pso.expr l (l.length+1) σ).1=0 then (Pso.expr l (l.length+1) σ).2 else Pso.fail l (Pso.expr l (l.length+1) σ).2 (Tms.check (Pso.expr l (l.length+1) σ).1) (Prs.look l σ.1).at_)):=Y1 rfl;rw[HF.out];have u:=X.len;have hb0:=Z01 w (.cells Ya 40);have E:=Y1 (T.below hb0);have D:=Y1 hb0;have H:=Y1 (ZcP w (.int .i64 0) (.string ⟨#[]⟩) (.string ⟨#[]⟩) (.int .i64 0) (.slice none 0 0) (.slice none 0 0) (.slice none 0 0) (.slice none 0 0) (.int .i64 0) 40);have K:=T.lt;have G:=Y1 (fun (W:World) (h:PAt W bp A c l σ)=>Zii bp A c l X (l.length+1) W σ S (by omega) h);have b4:=ZdX (Prs.look l σ.1).t.kind ⟨(Prs.look l σ.1).t.text.toArray⟩ (Prs.look l σ.1).at_;obtain ⟨y,hy⟩: ∃y,y=Pso.expr l (l.length+1) σ:=⟨_,rfl⟩;rw[<-hy] at G ⊢;obtain ⟨k,V⟩: ∃k,k=Tms.check y.1:=⟨_,rfl⟩;have HK:=Y1 V;rw[<-V];clear HF hb0 T hy V X;by_cases m:k=0
 {have e0: (k !=0)=false:=by simpa using m
  rw[if_pos m];clear m;go_enter Tryz.func40,Tryz.ntmps40
  go_wp2_with fail
  refine (ZdZ u S.1 _ E.out).mono ?_;rintro e w1 ⟨rfl,hp1,q⟩;have n:=Y1 hp1;have o:=Y1 q;clear hp1 q
  go_wp2_with fail
  refine (G.out w1 n.out).mono ?_;rintro e t ⟨x,rfl,hp2,hu2,hx,hlo,r⟩;have Y:w.heap.size+1<=x.lo:=by have Q:=o.out.size; simp at Q; omega
  have U:bp < t.heap.size:=hp2.lt;have g:=Z01 t (.cells (Y7 x.t x.q) 40);have a:=Y1 (hp2.below g);have i:=Y1 ((o.out.trans hu2).below g);have f:=Y1 (show x.Is _ from New.below hx g);have d:=Y1 (ZcP t (.int .i64 x.t.kind) (.string ⟨x.t.of_.toArray⟩) (.string ⟨x.t.name.toArray⟩) (.int .i64 x.t.n) (.slice x.q.A x.t.names.length x.q.c) (.slice x.q.V x.t.vars.length x.q.e) (.slice x.q.S x.t.shapes.length x.q.s) (.slice x.q.P x.t.parts.length x.q.d) (.int .i64 x.t.at_) 40);have j:=Y1 r;clear hp2 hu2 hx hlo r g G n;simp only[valT];obtain ⟨I,c1,c2,c3,c4,c5,c6,c7,c8,cf,J⟩:=d.out
  go_wp2_with fail
  generalize t.alloc (.cells (Y7 x.t x.q) 40)=W2 at a i f d I c1 c2 c3 c4 c5 c6 c7 c8 J ⊢;refine (ZeS x.t x.q W2 f.out.here a.out.gs.gl.s a.out.gs.gl.u j.out.2).mono ?_;rintro e L ⟨rfl,b⟩;rw[j.out.1, <-HK.out];clear I c1 c2 c3 c4 c5 c6 c7 c8 cf J;have z:=Y1 (a.out.below b);have p:=Y1 (i.out.below b);have B:=Y1 (show x.Is L from New.below f.out b);obtain ⟨x0,x1,x2,x3,x4,x5,x6,x7,x8,xf,xl⟩:=d.out.below b;obtain ⟨r0,r1,r2,r3,r4,r5,r6,r7,r8,rf,Z⟩:=H.out.up p.out (by simp; omega);have f0:=rf 0;have f1:=rf 1;have f2:=rf 2;have f3:=rf 3;have f4:=rf 4;have f5:=rf 5;have f6:=rf 6;have f7:=rf 7;have f8:=rf 8;clear rf xf d a i f;go_wp2;refine bodyPost_ret (v:=valT x) (by simp[results,Tryz.results40,go_sem,valT,r0,r1,r2,r3,r4,r5,r6,r7,r8,Z]) rfl ?_;have C:=end9 z.out ((ZcF (F:= [bp]) D.out).trans p.out) B.out (rb:=w.heap.size) (Nat.le_refl _) (Or.inl (by omega)) K;exact ⟨x,rfl,(C _ _ _ _ _ _ _ _ _).1,(C _ _ _ _ _ _ _ _ _).2.1,(C _ _ _ _ _ _ _ _ _).2.2,by omega,j.out⟩}
 {have e0: (k !=0)=true:=by simpa using m
  rw[if_neg m];clear m;go_enter Tryz.func40,Tryz.ntmps40
  go_wp2_with fail
  refine (ZdZ u S.1 _ E.out).mono ?_;rintro e w1 ⟨rfl,hp1,q⟩;have n:=Y1 hp1;have o:=Y1 q;clear hp1 q
  go_wp2_with fail
  refine (G.out w1 n.out).mono ?_;rintro e t ⟨x,rfl,hp2,hu2,hx,hlo,r⟩;have Y:w.heap.size+1<=x.lo:=by have Q:=o.out.size; simp at Q; omega
  have U:bp < t.heap.size:=hp2.lt;have g:=Z01 t (.cells (Y7 x.t x.q) 40);have a:=Y1 (hp2.below g);have i:=Y1 ((o.out.trans hu2).below g);have f:=Y1 (show x.Is _ from New.below hx g);have d:=Y1 (ZcP t (.int .i64 x.t.kind) (.string ⟨x.t.of_.toArray⟩) (.string ⟨x.t.name.toArray⟩) (.int .i64 x.t.n) (.slice x.q.A x.t.names.length x.q.c) (.slice x.q.V x.t.vars.length x.q.e) (.slice x.q.S x.t.shapes.length x.q.s) (.slice x.q.P x.t.parts.length x.q.d) (.int .i64 x.t.at_) 40);have j:=Y1 r;clear hp2 hu2 hx hlo r g G n;simp only[valT];obtain ⟨I,c1,c2,c3,c4,c5,c6,c7,c8,cf,J⟩:=d.out
  go_wp2_with fail
  generalize t.alloc (.cells (Y7 x.t x.q) 40)=W2 at a i f d I c1 c2 c3 c4 c5 c6 c7 c8 J ⊢;refine (ZeS x.t x.q W2 f.out.here a.out.gs.gl.s a.out.gs.gl.u j.out.2).mono ?_;rintro e L ⟨rfl,b⟩;rw[j.out.1, <-HK.out];clear I c1 c2 c3 c4 c5 c6 c7 c8 cf J;have N:=Y1 (a.out.below b);have O:=Y1 (i.out.below b);have P:=Y1 (show x.Is L from New.below f.out b);have M:=Y1 (d.out.below b);clear b
  go_wp2_with fail
  refine (Zf2 bp A c l y.2 k (Prs.look l σ.1).at_ (by omega) L N.out).mono ?_;rintro e w4 ⟨rfl,hp4,s⟩;have z:=Y1 hp4;have p:=Y1 (O.out.trans s);have B:=Y1 (show x.Is w4 from New.up P.out s (by simp; omega));obtain ⟨x0,x1,x2,x3,x4,x5,x6,x7,x8,xf,xl⟩:=M.out.up s (by simp; omega);clear hp4 s;obtain ⟨r0,r1,r2,r3,r4,r5,r6,r7,r8,rf,Z⟩:=H.out.up p.out (by simp; omega);have f0:=rf 0;have f1:=rf 1;have f2:=rf 2;have f3:=rf 3;have f4:=rf 4;have f5:=rf 5;have f6:=rf 6;have f7:=rf 7;have f8:=rf 8;clear rf xf d a i f;go_wp2;refine bodyPost_ret (v:=valT x) (by simp[results,Tryz.results40,go_sem,valT,r0,r1,r2,r3,r4,r5,r6,r7,r8,Z]) rfl ?_;have C:=end9 z.out ((ZcF (F:= [bp]) D.out).trans p.out) B.out (rb:=w.heap.size) (Nat.le_refl _) (Or.inl (by omega)) K;exact ⟨x,rfl,(C _ _ _ _ _ _ _ _ _).1,(C _ _ _ _ _ _ _ _ _).2.1,(C _ _ _ _ _ _ _ _ _).2.2,by omega,j.out⟩}
end
section
open Go.RowKit Tms
open Shp (Sh)
open Pso (St Ok Goes betw loop want)
open Prs (sign R Flt)
def aE (w:World):World:=(w.alloc (.cells Ya 40)).alloc (.cells Yc 31)
theorem Zd7 (w:World):Below w.heap.size w (aE w):=Z0h (Z01 _ _) _
theorem Zero9.next {W W':World} {g:Nat} (h:Zero9 W g) (a:Below W.heap.size W W'):Zero9 W' g:=h.below a
theorem Zgz (w:World):Zero9 (aE w) w.heap.size:=(ZcP w _ _ _ _ _ _ _ _ _ _).below (Z01 _ _)
theorem Zhy (w:World):Box2 (aE w) (w.heap.size+1) 0 0:=by
 refine ⟨by simp[aE], ?_, ?_, ?_, ?_⟩ <;> simp[aE,go_sem]
def TmOut (r:R Tm) (w:World) (e:Ending) (w':World):Prop:=
 Below w.heap.size w w'/\match r with
 | .ok y=> ∃x:ET,e= .returned (.tuple #[valT x,.int .i64 (y.2:Int),.agg #[.int .i64 0,.int .i64 0]])/\x.Is w'/\w.heap.size<=x.lo/\x.t=y.1
 | .error f=>e= .returned (.tuple #[.agg #[.int .i64 0,.string ⟨#[]⟩,.string ⟨#[]⟩,.int .i64 0,.slice none 0 0,.slice none 0 0,.slice none 0 0,.slice none 0 0,.int .i64 0],.int .i64 0,.agg #[.int .i64 f.1,.int .i64 f.2]])
def TmFn (fn:Nat) (whole:List Tk->St->Tm×St):Prop:= ∀(bp:Nat) (A:Option Addr) (c:Nat) (l:List Tk),TokOk l-> ∀(σ:St),Ok l σ-> ∀(w:World),PAt w bp A c l σ->
 Calls Tryz.prog fn #[.pointer (some ⟨bp,0,none⟩)] w (TmIs bp A c l (whole l σ) w)
def bE (w:World):World:=(aE w).alloc (.cells Ya 40)
theorem ZkT (w:World):Zero9 (bE w) (w.heap.size+1+1):=by
 have h:=ZcP (aE w) (.int .i64 0) (.string ⟨#[]⟩) (.string ⟨#[]⟩) (.int .i64 0) (.slice none 0 0) (.slice none 0 0) (.slice none 0 0) (.slice none 0 0) (.int .i64 0) 40;rw[show (aE w).heap.size=w.heap.size+1+1 by simp[aE]] at h;exact h
theorem Zero9.upT {F:List Nat} {W W':World} {g:Nat} (h:Zero9 W g) (b:UpT F W W') (c:g∉F):Zero9 W' g:=by
 have a:=b.same h.lt c;exact ⟨(a.1 _).trans h.c0,(a.1 _).trans h.c1,(a.1 _).trans h.c2,(a.1 _).trans h.c3,(a.1 _).trans h.c4,(a.1 _).trans h.c5,(a.1 _).trans h.c6,(a.1 _).trans h.c7,(a.1 _).trans h.c8,fun j=>(a.2 j).trans (h.fz j),Nat.lt_of_lt_of_le h.lt b.size⟩
theorem ZhX {w V E:World} {x:ET} (d:x.Is V) (a:w.heap.size+1+1<=x.lo) (c:UpT [w.heap.size,w.heap.size+1] V E):x.Is E:=
 New.up d c (fun b hb=>by simp at hb; omega)
theorem ZiN (A:Option Addr) (c:Nat) (l:List Tk) (at_:Int) (s: ∀b∈l,b.t.text.length<=100000/\ -9223372036854775808<=b.at_/\b.at_<=9223372036854775807) (ha: -9223372036854775808<=at_/\at_<=9223372036854775807) (hl:l.length<=1000000000) (Y:mildB l=true) (N:Nat) (V: ∀args W,(callFunc N args).run Tryz.prog W= .ok (.enter N args) W) (whole:List Tk->St->Tm×St) (D:TmFn N whole) (w:World) (h:Tks w w.heap.size A l) (T:Gl w):
 Calls Tryz.prog 39 #[.slice A l.length c,.int .i64 at_,.func (.func N) #[] #[]] w (TmOut (Pso.rd l at_ (whole l)) w):=by
 have HT:=Y1 D;have HB:=Y1 (Zd7 w);have HZ:=Y1 (Zgz w);have HX:=Y1 (Zhy w);have HK:=Y1 (h.on (Zd7 w));have HG:=Y1 (T.next (Zd7 w));by_cases B:at_ < 0
 {have q:Hid (Pso.rd l at_ (whole l)= .error (2,0)):=Y1 (by unfold Pso.rd; rw[if_pos (Or.inl B)]);rw[q.out];have e1:decide (at_ < 0)=true:=by simpa using B
  clear h B D s;go_enter Tryz.func39,Tryz.ntmps39
  go_wp2_with fail
  refine bodyPost_ret (v:= .tuple #[.agg #[.int .i64 0,.string ⟨#[]⟩,.string ⟨#[]⟩,.int .i64 0,.slice none 0 0,.slice none 0 0,.slice none 0 0,.slice none 0 0,.int .i64 0],.int .i64 0,.agg #[.int .i64 2,.int .i64 0]]) (by simp[results,Tryz.results39,go_sem]) rfl ?_;exact ⟨Z0h (Z0h (Z01 _ _) _) _,rfl⟩}
 {have e1:decide (at_ < 0)=false:=by simpa using B
  obtain ⟨i,hi⟩: ∃i:Nat,at_=(i:Int):=⟨at_.toNat,by omega⟩;subst hi;by_cases Q:l.length < i
  {have q:Hid (Pso.rd l (i:Int) (whole l)= .error (2,0)):=Y1 (by unfold Pso.rd; rw[if_pos (Or.inr (by omega))]);rw[q.out];have e2:decide (l.length < i)=true:=by simpa using Q
   clear h B D s;go_enter Tryz.func39,Tryz.ntmps39
   go_wp2_with fail
   refine bodyPost_ret (v:= .tuple #[.agg #[.int .i64 0,.string ⟨#[]⟩,.string ⟨#[]⟩,.int .i64 0,.slice none 0 0,.slice none 0 0,.slice none 0 0,.slice none 0 0,.int .i64 0],.int .i64 0,.agg #[.int .i64 2,.int .i64 0]]) (by simp[results,Tryz.results39,go_sem]) rfl ?_;exact ⟨Z0h (Z0h (Z01 _ _) _) _,rfl⟩}
  {have e2:decide (l.length < i)=false:=by simpa using Q
   by_cases S:4097 < l.length
   {have q:Hid (Pso.rd l (i:Int) (whole l)= .error (3,0)):=Y1 (by unfold Pso.rd; rw[if_neg (by omega),if_pos S]);rw[q.out];have e3:decide ((4097:Int) < (l.length:Int))=true:=by simp; omega
    clear h B D s;go_enter Tryz.func39,Tryz.ntmps39
    go_wp2_with fail
    refine bodyPost_ret (v:= .tuple #[.agg #[.int .i64 0,.string ⟨#[]⟩,.string ⟨#[]⟩,.int .i64 0,.slice none 0 0,.slice none 0 0,.slice none 0 0,.slice none 0 0,.int .i64 0],.int .i64 0,.agg #[.int .i64 3,.int .i64 0]]) (by simp[results,Tryz.results39,go_sem]) rfl ?_;exact ⟨Z0h (Z0h (Z01 _ _) _) _,rfl⟩}
   {have e3:decide ((4097:Int) < (l.length:Int))=false:=by simp; omega
    have q:Hid (Pso.rd l (i:Int) (whole l)=if (whole l (i,(0,0))).2.2.1=0 then .ok ((whole l (i,(0,0))).1,(whole l (i,(0,0))).2.1) else .error (whole l (i,(0,0))).2.2):=Y1 (by unfold Pso.rd; rw[if_neg (by omega),if_neg S]; rfl);rw[q.out];have hO:Ok l (i,(0,0)):=⟨by show i<=l.length; omega,fun h=>absurd rfl h⟩;have L:=Y1 (show PAt ((bE w).alloc (.cells #[.slice A l.length c,.int .i64 (i:Int),.int .i64 0,.int .i64 0] 66)) (w.heap.size+1+1+1) A c l (i,(0,0)) from ?_);have K:=Y1 (fun W h=>D (w.heap.size+1+1+1) A c l ⟨by omega,fun b d=>by have:=(s b d).1; omega,fun b d=>(s b d).2,fun b d=>(s b d).1,Y⟩ (i,(0,0)) hO W h);have u:=Y1 (show Below w.heap.size w ((bE w).alloc (.cells #[.slice A l.length c,.int .i64 (i:Int),.int .i64 0,.int .i64 0] 66)) from Z0h (Z0h (Zd7 w) _) _);have g:=Y1 (show Zero9 ((bE w).alloc (.cells #[.slice A l.length c,.int .i64 (i:Int),.int .i64 0,.int .i64 0] 66)) w.heap.size/\Box2 ((bE w).alloc (.cells #[.slice A l.length c,.int .i64 (i:Int),.int .i64 0,.int .i64 0] 66)) (w.heap.size+1) 0 0/\Zero9 ((bE w).alloc (.cells #[.slice A l.length c,.int .i64 (i:Int),.int .i64 0,.int .i64 0] 66)) (w.heap.size+1+1) from ⟨(HZ.out.next (Z01 _ _)).next (Z01 _ _),(HX.out.next (Z01 _ _)).next (Z01 _ _),Zero9.next (ZkT w) (Z01 _ _)⟩);clear h B Q S D s q HT;obtain ⟨y,hy⟩: ∃y,y=whole l (i,(0,0)):=⟨_,rfl⟩;rw[<-hy] at K ⊢;clear hy;obtain ⟨ys,yj,C,ya⟩:=y;obtain ⟨r,Z⟩: ∃r:R Tm,r=if C=0 then .ok (ys,yj) else .error (C,ya):=⟨_,rfl⟩;have m:=Y1 Z;dsimp only at K ⊢;rw[<-Z];clear Z;go_enter Tryz.func39,Tryz.ntmps39
    go_wp2_with fail
    change Calls _ _ _ ((bE w).alloc (.cells #[.slice A l.length c,.int .i64 (i:Int),.int .i64 0,.int .i64 0] 66)) _;generalize (bE w).alloc (.cells #[.slice A l.length c,.int .i64 (i:Int),.int .i64 0,.int .i64 0] 66)=W3 at L u g ⊢;refine (K.out W3 L.out).mono ?_;rintro e M ⟨x,rfl,I,j,J,H,⟨t,a5⟩⟩;simp only[valT];have a:=Z01 M (.cells (Y7 x.t x.q) 40);have n:=I.below a;have U:w.heap.size+1+1+1 < W3.heap.size:=L.out.lt;have E:=Y1 (show Below w.heap.size w (M.alloc (.cells (Y7 x.t x.q) 40)) from Z03 (((ZcF (F:= [w.heap.size+1+1+1]) u.out).trans j).low (by intro b d; simp at d; omega)) a);have P:=Y1 (show x.Is (M.alloc (.cells (Y7 x.t x.q) 40)) from New.below J a);have G:Hid (w.heap.size+1+1<=x.lo):=Y1 (by omega);have O:=Y1 t;obtain ⟨z1,z2,z3,z4,z5,z6,z7,z8,z9,p,z0⟩:=(g.out.1.upT j (by intro d; simp at d; omega)).next a;have d8:=p 0;have d9:=p 1;have e0:=p 2;have e4:=p 3;have e6:=p 4;have e7:=p 5;have e8:=p 6;have e9:=p 7;have f0:=p 8;obtain ⟨x0,x1,x2,d6,d7⟩:=(g.out.2.1.upT j (by intro d; simp at d)).next a;obtain ⟨n1,n2,n3,n4,n5,n6,n7,n8,n9,o,n0⟩:=(g.out.2.2.upT j (by simp)).next a;have b8:=o 0;have b9:=o 1;have c9:=o 2;have d0:=o 3;have d1:=o 4;have d2:=o 5;have d3:=o 6;have d4:=o 7;have d5:=o 8;obtain ⟨c0,c1,c2,c3,c4,c5,c6,c7,c8,cf,cl⟩:=ZcP M (.int .i64 x.t.kind) (.string ⟨x.t.of_.toArray⟩) (.string ⟨x.t.name.toArray⟩) (.int .i64 x.t.n) (.slice x.q.A x.t.names.length x.q.c) (.slice x.q.V x.t.vars.length x.q.e) (.slice x.q.S x.t.shapes.length x.q.s) (.slice x.q.P x.t.parts.length x.q.d) (.int .i64 x.t.at_) 40;have p1:=n.c1;have p2:=n.c2;have p3:=n.c3;dsimp only at p1 p2 p3;clear I j J H t n a L u g K U HB HZ HX HK HG hO ha V T
    by_cases f:C=0
    {have z:Hid (r= .ok (ys,yj)):=Y1 (by rw[m.out,if_pos f]);have e5: (C !=0)=false:=by simpa using f
     clear m f
     go_wp2_with fail
     go_region
     all_goals go_wp2
     all_goals refine bodyPost_ret (v:= .tuple #[valT x,.int .i64 (yj:Int),.agg #[.int .i64 0,.int .i64 0]]) (by simp[results,Tryz.results39,go_sem,valT,z0,x0,z1,z2,z3,z4,z5,z6,z7,z8,z9,x1,x2]) rfl ?_
     all_goals rw[z.out]
     all_goals refine ⟨Zd6 E.out ?_,x,rfl,ZhX P.out G.out ?_,by have:=G.out; omega,O.out⟩
     all_goals repeat' (with_reducible first | refine UpT.drew ?_ | refine UpT.set ?_ _ (Or.inr ?_) _ | exact UpT.refl _ _)
     all_goals simp}
    {have z:Hid (r= .error (C,ya)):=Y1 (by rw[m.out,if_neg f]);have e5: (C !=0)=true:=by simpa using f
     clear m f
     go_wp2_with fail
     go_region
     all_goals go_wp2
     all_goals refine bodyPost_ret (v:= .tuple #[.agg #[.int .i64 0,.string ⟨#[]⟩,.string ⟨#[]⟩,.int .i64 0,.slice none 0 0,.slice none 0 0,.slice none 0 0,.slice none 0 0,.int .i64 0],.int .i64 0,.agg #[.int .i64 C,.int .i64 ya]]) (by simp[results,Tryz.results39,go_sem,valT,z0,x0,z1,z2,z3,z4,z5,z6,z7,z8,z9,x1,x2]) rfl ?_
     all_goals rw[z.out]
     all_goals refine ⟨Zd6 E.out ?_,rfl⟩
     all_goals repeat' (with_reducible first | refine UpT.drew ?_ | refine UpT.set ?_ _ (Or.inr ?_) _ | exact UpT.refl _ _)
     all_goals simp}
    {have e: (bE w).heap.size=w.heap.size+1+1+1:=by simp[bE,aE]
     have X:Tks (bE w) (w.heap.size+1+1+1) A l:=by rw[<-e]; exact h.on (Z0h (Zd7 w) _)
     refine ⟨by simp[bE,aE], ?_, ?_, ?_, ?_,fun k=> ?_,X.same (fun b d=>(ZcF (F:= []) (Z01 _ _)).same (by omega) (by simp)),⟨w,by omega,Z0h (Z0h (Zd7 w) _) _,T⟩,fun b d=>Nat.le_trans (s b d).1 (by decide)⟩
     all_goals rw[<-e]
     all_goals (first | done | simp[go_sem])}}}}
end
section
open Go.RowKit Tms
open Shp (Sh)
open Pso (St Ok)
open Prs (R)
theorem Zne:TmFn 40 Pso.wholeE:=fun bp A c l hl σ hO w h=>ZhW bp A c l hl σ hO w h
theorem ZlS (A:Option Addr) (c:Nat) (l:List Tk) (at_:Int) (t: ∀b∈l,b.t.text.length<=100000/\ -9223372036854775808<=b.at_/\b.at_<=9223372036854775807) (O: -9223372036854775808<=at_/\at_<=9223372036854775807) (P:l.length<=1000000000) (p:mildB l=true) (w:World) (h:Tks w w.heap.size A l) (q:Gl w):
 Calls Tryz.prog 25 #[.slice A l.length c,.int .i64 at_] w (TmOut (Pso.rd l at_ (Pso.wholeE l)) w):=by
 have m:=Y1 (Zd7 w);have j:=Y1 (Zgz w);have i:=Y1 (Zhy w);have n:=Y1 (ZiN A c l at_ t O P p 40 (fun _ _=>rfl) Pso.wholeE Zne (aE w) (h.on (Zd7 w)) (q.next (Zd7 w)));obtain ⟨r,z⟩: ∃r,r=Pso.rd l at_ (Pso.wholeE l):=⟨_,rfl⟩;rw[<-z] at n ⊢;clear h q t z;go_enter Tryz.func25,Tryz.ntmps25
 go_wp2_with fail
 change Calls _ _ _ (aE w) _;refine n.out.mono ?_;generalize aE w=W0 at m j i ⊢;rintro e W1 ⟨k,u⟩;have d:=Y1 (Z03 m.out k);have hz:=j.out.lt;have Q:=i.out.1;obtain ⟨D,E,F,G,H,I,J,K,L,a,C⟩:=j.out.next k;have U:=a 0;have V:=a 1;have W:=a 2;have X:=a 3;have Y:=a 4;have Z:=a 5;have a0:=a 6;have a1:=a 7;have a2:=a 8;obtain ⟨x0,x1,x2,S,T⟩:=i.out.next k;cases r with
 | ok y=>
  obtain ⟨x,rfl,s,o,B⟩:=u;have M:=Y1 s;have g:Hid (w.heap.size+1+1<=x.lo):=Y1 (by omega);have N:=Y1 B;clear s o B k m j i n;simp only[valT]
  go_wp2_with fail
  all_goals refine bodyPost_ret (v:= .tuple #[valT x,.int .i64 (y.2:Int),.agg #[.int .i64 0,.int .i64 0]]) (by simp[results,Tryz.results25,go_sem,valT,C,x0,D,E,F,G,H,I,J,K,L,x1,x2]) rfl ?_
  all_goals refine ⟨Zd6 d.out ?_,x,rfl,ZhX M.out g.out ?_,by have:=g.out; omega,N.out⟩
  all_goals repeat' (with_reducible first | refine UpT.drew ?_ | refine UpT.set ?_ _ (Or.inr ?_) _ | exact UpT.refl _ _)
  all_goals simp
 | error f=>
  obtain rfl:=u;clear k m j i n
  go_wp2_with fail
  all_goals refine bodyPost_ret (v:= .tuple #[.agg #[.int .i64 0,.string ⟨#[]⟩,.string ⟨#[]⟩,.int .i64 0,.slice none 0 0,.slice none 0 0,.slice none 0 0,.slice none 0 0,.int .i64 0],.int .i64 0,.agg #[.int .i64 f.1,.int .i64 f.2]]) (by simp[results,Tryz.results25,go_sem,C,x0,D,E,F,G,H,I,J,K,L,x1,x2]) rfl ?_
  all_goals refine ⟨Zd6 d.out ?_,rfl⟩
  all_goals repeat' (with_reducible first | refine UpT.drew ?_ | refine UpT.set ?_ _ (Or.inr ?_) _ | exact UpT.refl _ _)
  all_goals simp
end
section
open Go.RowKit Tms
open Shp (Sh)
open Pso (St Ok)
open Prs (sign R Flt)
def TmSaid (r:Except Flt Tm) (w:World) (e:Ending) (w':World):Prop:=
 Below w.heap.size w w'/\match r with
 | .ok y=> ∃x:ET,e= .returned (.tuple #[valT x,.agg #[.int .i64 0,.int .i64 0]])/\x.Is w'/\w.heap.size<=x.lo/\x.t=y
 | .error f=>e= .returned (.tuple #[.agg #[.int .i64 0,.string ⟨#[]⟩,.string ⟨#[]⟩,.int .i64 0,.slice none 0 0,.slice none 0 0,.slice none 0 0,.slice none 0 0,.int .i64 0],.agg #[.int .i64 f.1,.int .i64 f.2]])
def ZoR (fn:Nat) (whole:List Tk->St->Tm×St):Prop:= ∀(A:Option Addr) (c:Nat) (l:List Tk),Scanned l->mildB l=true-> ∀(w:World),Tks w w.heap.size A l->Gl w->
 Calls Tryz.prog fn #[.slice A l.length c,.int .i64 0] w (TmOut (Pso.rd l 0 (whole l)) w)
theorem Zos {F:List Nat} {V E:World} {x:ET} (d:x.Is V) (a: ∀b∈F,b < x.lo) (c:UpT F V E):x.Is E:=New.up d c (fun b hb=>Or.inl (a b hb))
theorem ZiO (s:List UInt8) (hs:s.length<=9223372036854775807) (fn:Nat) (k5: ∀args W,(callFunc fn args).run Tryz.prog W= .ok (.enter fn args) W) (whole:List Tk->St->Tm×St) (hR:ZoR fn whole) (h4: ∀m,Lex.scanR s= .ok m->mildB (tkOf m)=true) (hw: ∀l σ,Pse.Ok l σ->Pse.To l σ (whole l σ).2) (w:World) (hG:Gl w):
 Calls Tryz.prog 24 #[.string ⟨s.toArray⟩,.func (.func fn) #[] #[]] w (TmSaid (Pso.rdText s whole) w):=by
 have U:=Y1 (show Below w.heap.size w (bE w) from Z0h (Zd7 w) _);have HZ:=Y1 (show Zero9 (bE w) w.heap.size from (Zgz w).next (Z01 _ _));have HX:=Y1 (show Box2 (bE w) (w.heap.size+1) 0 0 from (Zhy w).next (Z01 _ _));have L:=Y1 (ZkT w);have HG:=Y1 (hG.next U.out);have HS:=Y1 (Zfd s hs (bE w) HG.out.g);have M:=Y1 hR;have P:=Y1 hw;clear hR hw hG;cases Q:Lex.scanR s with
 | error xk=>
  obtain ⟨xx,k⟩:=xk;rw[Pso.rdText_err Q];have e1: (xx !=0)=true:=by simpa using Lex.Zgm Q
  have HM:=Y1 Q;clear Q;go_enter Tryz.func24,Tryz.ntmps24
  go_wp2_with fail
  change Calls _ _ _ (bE w) _;refine HS.out.mono ?_;generalize bE w=W0 at U HZ HX L HG HS ⊢;rintro e i hv;obtain ⟨A,cap,rfl,n⟩:=Zhr hv HM.out;have a:=Z01 i (.cells #[.int .i64 xx,.int .i64 (k:Int)] 31);have f7:=Y1 (Z03 (Z03 U.out n) a);obtain ⟨z1,z2,z3,z4,z5,z6,z7,z8,z9,h,z0⟩:=(HZ.out.next n).next a;have e3:=h 0;have e4:=h 1;have e6:=h 2;have e7:=h 3;have e8:=h 4;have e9:=h 5;have f0:=h 6;have f1:=h 7;have f2:=h 8;obtain ⟨x0,x1,x2,e0,e2⟩:=(HX.out.next n).next a;obtain ⟨n1,n2,n3,n4,n5,n6,n7,n8,n9,d,n0⟩:=(L.out.next n).next a;have d1:=d 0;have d2:=d 1;have d3:=d 2;have d4:=d 3;have d5:=d 4;have d6:=d 5;have d7:=d 6;have d8:=d 7;have d9:=d 8;obtain ⟨b0,b1,b2,E,G⟩:=ZcG i xx (k:Int);have Z:=L.out.lt;have t:=n.size;have g1:w.heap.size≠i.heap.size:=by omega
  have g2:w.heap.size+1≠i.heap.size:=by omega
  have g3:w.heap.size+1+1≠i.heap.size:=by omega
  clear Z t;clear hv n a U HZ HX L HG HS HM M P
  go_wp2_with fail
  go_region
  all_goals go_wp2
  all_goals refine bodyPost_ret (v:= .tuple #[.agg #[.int .i64 0,.string ⟨#[]⟩,.string ⟨#[]⟩,.int .i64 0,.slice none 0 0,.slice none 0 0,.slice none 0 0,.slice none 0 0,.int .i64 0],.agg #[.int .i64 xx,.int .i64 (k:Int)]]) (by simp[results,Tryz.results24,go_sem,z0,x0,z1,z2,z3,z4,z5,z6,z7,z8,z9,x1,x2]) rfl ?_
  all_goals refine ⟨Zd6 f7.out ?_,rfl⟩
  all_goals repeat' (with_reducible first | refine UpT.drew ?_ | refine UpT.set ?_ _ (Or.inr ?_) _ | exact UpT.refl _ _)
  all_goals simp
 | ok m=>
  rw[Pso.rdText_ok Q];have z:=Y1 (scanned Q);have a8:=Y1 (h4 m Q);have HM:=Y1 Q;clear Q;obtain ⟨r,hr⟩: ∃r,r=Pso.rd (tkOf m) 0 (whole (tkOf m)):=⟨_,rfl⟩;have N:=Y1 hr;rw[<-hr];have K:Hid (∀y,r= .ok y->y.2 < (tkOf m).length):=Y1 (fun y hy=>Pso.rd_lt (P.out (tkOf m)) z.out.ends (by rw[<-hr]; exact hy));have X:Hid (∀f,r= .error f->f.1≠0):=Y1 (fun f hf=>Pso.rd_err (by rw[<-hr]; exact hf));clear hr;have a5:=Y1 z.out.len;obtain ⟨q,hq⟩: ∃q:Except Flt Tm,q=Pso.close (tkOf m) r:=⟨_,rfl⟩;have HQ:=Y1 hq;rw[<-hq];clear hq;obtain ⟨l,hl⟩: ∃l,l=tkOf m:=⟨_,rfl⟩;rw[<-hl] at z N K HQ a5 a8;have f9:=Y1 hl;have k7:=a5.out;clear hl;go_enter Tryz.func24,Tryz.ntmps24
  go_wp2_with fail
  change Calls _ _ _ (bE w) _;refine HS.out.mono ?_;generalize bE w=W0 at U HZ HX L HG HS ⊢;rintro e i hv;obtain ⟨A,cap,rfl,S,T,n⟩:=Zif hv HM.out;rw[<-f9.out] at S ⊢;have a:=Z01 i (.cells Yc 31);have B:=Y1 (Z03 (Z03 U.out n) a);have D:=Y1 ((HZ.out.next n).next a);have C:=Y1 ((HX.out.next n).next a);have p:=Y1 ((L.out.next n).next a);have o:=Y1 (ZcG i 0 0);have O:=Y1 (S.on a);have b4:=Y1 S;have V:=Y1 a;have a9:Hid (∀g off,A=some ⟨g,off,none⟩->W0.heap.size<=g):=Y1 (fun g off hA=>(Ze3 T g (by rw[hA]; rfl)).1);have Y:Hid (w.heap.size+1+1 < W0.heap.size):=Y1 L.out.lt;have J:=Y1 ((HG.out.next n).next a);obtain ⟨b0,b1,b2,E,G⟩:=o.out;have Z:=L.out.lt;have t:=n.size;have g1:w.heap.size≠i.heap.size:=by omega
  have g2:w.heap.size+1≠i.heap.size:=by omega
  have g3:w.heap.size+1+1≠i.heap.size:=by omega
  have HF:Hid (∀b∈ [w.heap.size,w.heap.size+1,i.heap.size],w.heap.size<=b):=Y1 (by intro b n; simp at n; omega);clear Z t hv S T n a U HZ HX L HG HS HM
  go_wp2_with fail
  generalize i.alloc (.cells Yc 31)=W2 at B D C p o O J V b0 b1 b2 E G ⊢;refine (M.out A cap l z.out a8.out W2 O.out J.out).mono ?_;rw[<-N.out];rintro e H ⟨c,ho⟩;clear b0 b1 b2 E G;cases r with
  | error f=>
   obtain rfl:=ho;have k6: (f.1 !=0)=true:=by simpa using X.out f rfl
   have u:Hid (q= .error f):=Y1 HQ.out;have a:=Z01 H (.cells Ya 40);have I:=Y1 (Z03 (Z03 B.out c) a);obtain ⟨z1,z2,z3,z4,z5,z6,z7,z8,z9,h,z0⟩:=(D.out.next c).next a;have e3:=h 0;have e4:=h 1;have e6:=h 2;have e7:=h 3;have e8:=h 4;have e9:=h 5;have f0:=h 6;have f1:=h 7;have f2:=h 8;obtain ⟨x0,x1,x2,e0,e2⟩:=(C.out.next c).next a;obtain ⟨n1,n2,n3,n4,n5,n6,n7,n8,n9,d,n0⟩:=(p.out.next c).next a;have d1:=d 0;have d2:=d 1;have d3:=d 2;have d4:=d 3;have d5:=d 4;have d6:=d 5;have d7:=d 6;have d8:=d 7;have d9:=d 8;obtain ⟨b0,b1,b2,E,G⟩:=(o.out.next c).next a;have Z:=p.out.lt;have t:=c.size;have hK:=o.out.1;have g4:w.heap.size≠H.heap.size:=by omega
   have g5:w.heap.size+1≠H.heap.size:=by omega
   have g6:w.heap.size+1+1≠H.heap.size:=by omega
   have g7:i.heap.size≠H.heap.size:=by omega
   clear Z t hK;clear c a M P z N K X HQ B D C p o O J
   go_wp2_with fail
   go_region
   all_goals go_wp2
   all_goals refine bodyPost_ret (v:= .tuple #[.agg #[.int .i64 0,.string ⟨#[]⟩,.string ⟨#[]⟩,.int .i64 0,.slice none 0 0,.slice none 0 0,.slice none 0 0,.slice none 0 0,.int .i64 0],.agg #[.int .i64 f.1,.int .i64 f.2]]) (by simp[results,Tryz.results24,go_sem,valT,z0,x0,z1,z2,z3,z4,z5,z6,z7,z8,z9,x1,x2,g1,g2,g3]) rfl ?_
   all_goals rw[u.out]
   all_goals refine ⟨Zek (F:= [w.heap.size,w.heap.size+1,i.heap.size]) I.out HF.out ?_,rfl⟩
   all_goals repeat' (with_reducible first | refine UpT.drew ?_ | refine UpT.set ?_ _ (Or.inr ?_) _ | exact UpT.refl _ _)
   all_goals simp
  | ok y=>
   obtain ⟨x,rfl,hi,g9,ht⟩:=ho;obtain ⟨ys,j⟩:=y;have hj:j < l.length:=K.out _ rfl;simp only[valT];dsimp only at ht ⊢;have a:=Z01 H (.cells (Y7 x.t x.q) 40);have I:=Y1 (Z03 (Z03 B.out c) a);obtain ⟨z1,z2,z3,z4,z5,z6,z7,z8,z9,h,z0⟩:=(D.out.next c).next a;have e3:=h 0;have e4:=h 1;have e6:=h 2;have e7:=h 3;have e8:=h 4;have e9:=h 5;have f0:=h 6;have f1:=h 7;have f2:=h 8;obtain ⟨x0,x1,x2,e0,e2⟩:=(C.out.next c).next a;obtain ⟨n1,n2,n3,n4,n5,n6,n7,n8,n9,d,n0⟩:=(p.out.next c).next a;have d1:=d 0;have d2:=d 1;have d3:=d 2;have d4:=d 3;have d5:=d 4;have d6:=d 5;have d7:=d 6;have d8:=d 7;have d9:=d 8;obtain ⟨b0,b1,b2,E,G⟩:=(o.out.next c).next a;have Z:=p.out.lt;have t:=c.size;have hK:=o.out.1;have g4:w.heap.size≠H.heap.size:=by omega
   have g5:w.heap.size+1≠H.heap.size:=by omega
   have g6:w.heap.size+1+1≠H.heap.size:=by omega
   have g7:i.heap.size≠H.heap.size:=by omega
   clear Z t hK;have HI:=Y1 (show x.Is _ from New.below hi a);have a6:Hid (∀b∈ [w.heap.size,w.heap.size+1,i.heap.size],b < x.lo):=Y1 (by have h1:=o.out.1; have h2:=p.out.lt; intro b n; simp at n; omega);have b5:Hid (w.heap.size<=x.lo):=Y1 (by have h2:=p.out.lt; omega);have HT:=Y1 ht;have b3:=Y1 (b4.out.same (fun b n=>(ZcF (F:= []) (Z03 (Z03 V.out c) a)).same n (by simp)));clear c a hi g9 ht M P z N K X B D C p o O J;by_cases c0:j+1=l.length
   {have u:Hid (q= .ok ys):=Y1 (by rw[HQ.out]; exact if_pos c0);have e5: ((j:Int) !=(l.length:Int) - 1)=false:=by simp; omega
    go_wp2_with fail
    all_goals refine bodyPost_ret (v:= .tuple #[valT x,.agg #[.int .i64 0,.int .i64 0]]) (by simp[results,Tryz.results24,go_sem,valT,z0,x0,z1,z2,z3,z4,z5,z6,z7,z8,z9,x1,x2,g1,g2,g3]) rfl ?_
    all_goals rw[u.out]
    all_goals refine ⟨Zek (F:= [w.heap.size,w.heap.size+1,i.heap.size]) I.out HF.out ?_,x,rfl,Zos HI.out a6.out ?_,b5.out,HT.out⟩
    all_goals repeat' (with_reducible first | refine UpT.drew ?_ | refine UpT.set ?_ _ (Or.inr ?_) _ | exact UpT.refl _ _)
    all_goals simp}
   {have u:Hid (q= .error (90,(Prs.look l j).at_)):=Y1 (by rw[HQ.out]; exact if_neg c0);have e5: ((j:Int) !=(l.length:Int) - 1)=true:=by simp; omega
    rcases b3.out with h0 | ⟨g,off,hA,h3,hc⟩
    {omega}
    {have k1:g≠i.heap.size:=by omega
     have k0:=a9.out g off hA;have k2:g≠w.heap.size:=by have:=Y.out; omega
     have k3:g≠w.heap.size+1:=by have:=Y.out; omega
     obtain ⟨_,_,t2⟩:=hc j hj;rw[hA];have c8: (Prs.look l j).at_=(l[j]'hj).at_:=by rw[Prs.look_in hj]
     rw[c8] at u;clear hc b3 b4 V a9 Y k0 h3 hA HI a6 b5 HT HQ c8
     go_wp2_with fail
     go_region
     all_goals go_wp2
     all_goals refine bodyPost_ret (v:= .tuple #[.agg #[.int .i64 0,.string ⟨#[]⟩,.string ⟨#[]⟩,.int .i64 0,.slice none 0 0,.slice none 0 0,.slice none 0 0,.slice none 0 0,.int .i64 0],.agg #[.int .i64 90,.int .i64 (l[j]'hj).at_]]) (by simp[results,Tryz.results24,go_sem,valT,z0,x0,z1,z2,z3,z4,z5,z6,z7,z8,z9,x1,x2,g1,g2,g3]) rfl ?_
     all_goals rw[u.out]
     all_goals refine ⟨Zek (F:= [w.heap.size,w.heap.size+1,i.heap.size]) I.out HF.out ?_,rfl⟩
     all_goals repeat' (with_reducible first | refine UpT.drew ?_ | refine UpT.set ?_ _ (Or.inr ?_) _ | exact UpT.refl _ _)
     all_goals simp}}
end
section
open Go.RowKit Tms
open Shp (Sh)
open Pso (St Ok)
open Prs (R)
open Go.Proofs.YtgndehppmaacaaaGreatDoor (Tk)
theorem ZlT {l:List Tk}: ∀σ,Pse.Ok l σ->Pse.To l σ (Pso.wholeE l σ).2:=fun σ h=>by
 have a:=Pse.to_expr (l.length+1) σ h;unfold Pso.wholeE;simp only;split
 {exact a}
 {next hc=>exact a.trans (Pse.to_fail a.1 hc _)}
theorem Znf:ZoR 25 Pso.wholeE:=fun A c l hl hml w ht hg=>ZlS A c l 0 (fun b hb=>by have:=hl.tok b hb; omega) (by omega) (by have:=hl.len; omega) hml w ht hg
theorem Zfv (s:List UInt8) (L:s.length<=9223372036854775807) (n: ∀m,Lex.scanR s= .ok m->mildB (tkOf m)=true) (w:World) (o:Gl w):
 Calls Tryz.prog 13 #[.string ⟨s.toArray⟩] w (TmSaid (Pso.rdText s Pso.wholeE) w):=by
 have i:=Y1 (Zd7 w);have g:=Y1 (Zgz w);have d:=Y1 (Zhy w);have j:=Y1 (ZiO s L 25 (fun _ _=>rfl) Pso.wholeE Znf n (fun l=>ZlT (l:=l)) (aE w) (o.next (Zd7 w)));obtain ⟨r,t⟩: ∃r,r=Pso.rdText s Pso.wholeE:=⟨_,rfl⟩;rw[<-t] at j ⊢;clear o t;go_enter Tryz.func13,Tryz.ntmps13
 go_wp2_with fail
 change Calls _ _ _ (aE w) _;refine j.out.mono ?_;generalize aE w=W0 at i g d ⊢;rintro e Z ⟨h,q⟩;have b:=Y1 (Z03 i.out h);have hz:=g.out.lt;have M:=d.out.1;obtain ⟨A,B,C,D,E,F,G,H,I,a,z⟩:=g.out.next h;have P:=a 0;have Q:=a 1;have S:=a 2;have T:=a 3;have U:=a 4;have V:=a 5;have W:=a 6;have X:=a 7;have Y:=a 8;obtain ⟨x0,x1,x2,N,O⟩:=d.out.next h;cases r with
 | ok y=>
  obtain ⟨x,rfl,p,k,u⟩:=q;have J:=Y1 p;have c:Hid (w.heap.size+1+1<=x.lo):=Y1 (by omega);have K:=Y1 u;clear p k u h i g d j;simp only[valT]
  go_wp2_with fail
  all_goals refine bodyPost_ret (v:= .tuple #[valT x,.agg #[.int .i64 0,.int .i64 0]]) (by simp[results,Tryz.results13,go_sem,valT,z,x0,A,B,C,D,E,F,G,H,I,x1,x2]) rfl ?_
  all_goals refine ⟨Zd6 b.out ?_,x,rfl,ZhX J.out c.out ?_,by have:=c.out; omega,K.out⟩
  all_goals repeat' (with_reducible first | refine UpT.drew ?_ | refine UpT.set ?_ _ (Or.inr ?_) _ | exact UpT.refl _ _)
  all_goals simp
 | error f=>
  obtain rfl:=q;clear h i g d j
  go_wp2_with fail
  all_goals refine bodyPost_ret (v:= .tuple #[.agg #[.int .i64 0,.string ⟨#[]⟩,.string ⟨#[]⟩,.int .i64 0,.slice none 0 0,.slice none 0 0,.slice none 0 0,.slice none 0 0,.int .i64 0],.agg #[.int .i64 f.1,.int .i64 f.2]]) (by simp[results,Tryz.results13,go_sem,z,x0,A,B,C,D,E,F,G,H,I,x1,x2]) rfl ?_
  all_goals refine ⟨Zd6 b.out ?_,rfl⟩
  all_goals repeat' (with_reducible first | refine UpT.drew ?_ | refine UpT.set ?_ _ (Or.inr ?_) _ | exact UpT.refl _ _)
  all_goals simp
end
section
open Go.RowKit Tms
open Shp (Sh)
def aw1:List UInt8:= [40,73,110,116,44,32,91,75,101,121,93,41,32,45,62,32,123,97,58,32,113,47,73,100,125]
def aw2:List UInt8:= [123,97,58,32,73,110,116,44,32,97,58,32,73,110,116,125]
def aw3:List UInt8:= [102,46,97,40,49,41]
def aw4:List UInt8:= [91,73,110,116]
theorem ZpW:Pso.rdText aw1 Pso.wholeT= .ok ⟨8,[],[],[],[⟨1,[],[],[],[]⟩,⟨5,[],[],[],[⟨9,[],[75,101,121],[],[]⟩]⟩,⟨6,[],[],[[97]],[⟨9,[113],[73,100],[],[]⟩]⟩]⟩:=by kernel_rfl
theorem ZpX:Pso.rdText aw2 Pso.wholeT= .error (111,9):=by kernel_rfl
theorem ZpY:Pso.rdText aw3 Pso.wholeE= .ok ⟨7,[],[],0,[],[],[],[⟨9,[],[97],0,[],[],[],[⟨5,[],[102],0,[],[],[],[],0⟩],0⟩,⟨1,[],[],1,[],[],[],[],4⟩],0⟩:=by kernel_rfl
theorem ZpZ:Pso.rdText aw4 Pso.wholeE= .error (90,1):=by kernel_rfl
theorem Z05 {s:List UInt8} (h: (match Lex.scanR s with | .error _=>true | .ok m=>mildB (tkOf m))=true): ∀m,Lex.scanR s= .ok m->mildB (tkOf m)=true:=fun m hm=>by rw[hm] at h; exact h
section
variable (w : World) (h : Gl w)
include w h
theorem Zot:Calls Tryz.prog 11 #[.string ⟨aw1.toArray⟩] w fun e w'=>Below w.heap.size w w'/\ ∃x:ES,e= .returned (.tuple #[valS x,.agg #[.int .i64 0,.int .i64 0]])/\x.t.kind=8/\x.t.parts.length=3:=by
 have a:=Zfr aw1 (by decide) w h;rw[ZpW] at a;refine a.mono ?_;rintro e w' ⟨c,x,rfl,_,_,b⟩;exact ⟨c,x,rfl,by rw[b],by rw[b]; rfl⟩
theorem Zou:Calls Tryz.prog 11 #[.string ⟨aw2.toArray⟩] w fun e w'=>Below w.heap.size w w'/\e= .returned (.tuple #[.agg #[.int .i64 0,.string ⟨#[]⟩,.string ⟨#[]⟩,.slice none 0 0,.slice none 0 0],.agg #[.int .i64 111,.int .i64 9]]):=by
 have a:=Zfr aw2 (by decide) w h;rw[ZpX] at a;exact a
theorem Zov:Calls Tryz.prog 13 #[.string ⟨aw3.toArray⟩] w fun e w'=>Below w.heap.size w w'/\ ∃x:ET,e= .returned (.tuple #[valT x,.agg #[.int .i64 0,.int .i64 0]])/\x.t.kind=7/\x.t.parts.length=2/\ ∃g off,x.q.P=some ⟨g,off,none⟩/\g < w'.heap.size/\w'.cell? ⟨g,off+9+8,none⟩=some (.int .i64 4):=by
 have h1:=Zfv aw3 (by decide) (Z05 (by kernel_rfl)) w h;rw[ZpY] at h1;refine h1.mono ?_;rintro e w' ⟨f,x,rfl,i,_,a⟩;have j:x.t.parts.length=2:=by rw[a]; rfl
 refine ⟨f,x,rfl,by rw[a],j, ?_⟩;rcases i.here.part with k | ⟨g,off,l,h1,h2,c,_⟩
 {omega}
 {have b:=(c 1 (by omega)).2.2.2.2.2.2.2.2;have d: (x.t.parts[1]'(by omega)).at_=4:=by
   have: ∀(t:Tm) (h:1 < t.parts.length),t=(⟨7,[],[],0,[],[],[],[⟨9,[],[97],0,[],[],[],[⟨5,[],[102],0,[],[],[],[],0⟩],0⟩,⟨1,[],[],1,[],[],[],[],4⟩],0⟩:Tm)->(t.parts[1]'h).at_=4:=by
    intro t h e; subst e; rfl
   exact this x.t (by omega) a
  rw[d] at b;exact ⟨g,off,h1,h2,by rw[show off+9+8=off+1 * 9+8 from by omega]; exact b⟩}
theorem Zow:Calls Tryz.prog 13 #[.string ⟨aw4.toArray⟩] w fun e w'=>Below w.heap.size w w'/\e= .returned (.tuple #[.agg #[.int .i64 0,.string ⟨#[]⟩,.string ⟨#[]⟩,.int .i64 0,.slice none 0 0,.slice none 0 0,.slice none 0 0,.slice none 0 0,.int .i64 0],.agg #[.int .i64 90,.int .i64 1]]):=by
 have a:=Zfv aw4 (by decide) (Z05 (by kernel_rfl)) w h;rw[ZpZ] at a;exact a
end
theorem box2 (W:World) (c1 c2:Array Value) (a b:TypeId):Below W.heap.size W ((W.alloc (.cells c1 a)).alloc (.cells c2 b))/\(∀k v,c1[k]? =some v->((W.alloc (.cells c1 a)).alloc (.cells c2 b)).cell? ⟨W.heap.size,k,none⟩=some v)/\(∀k v,c2[k]? =some v->((W.alloc (.cells c1 a)).alloc (.cells c2 b)).cell? ⟨W.heap.size+1,k,none⟩=some v)/\((W.alloc (.cells c1 a)).alloc (.cells c2 b)).heap.size=W.heap.size+2:=by
 refine ⟨Z0h (Z01 _ _) _,fun k v h=> ?_,fun k v h=> ?_,by simp⟩
 {simp[go_sem,h]}
 {simp[go_sem,h]}
theorem Below.cells {A:Nat} {W W':World} (h:Below A W W') {b:Nat} (a:b < A) (k:Nat):W'.cell? ⟨b,k,none⟩=W.cell? ⟨b,k,none⟩:=h.cell (p:=⟨b,k,none⟩) a
theorem Zfg (w:World) (hG:Gl w):
 Y9 7 #[] w (.bool true):=by
 have D:=Y1 hG;clear hG;go_enter Tryz.func7,Tryz.ntmps7
 go_wp2_with fail
 refine (Zot w D.out).mono ?_;rintro e L ⟨i,x1,rfl,H,J⟩;simp only[valS,Y8];rw[H,J];have C:=Y1 i;clear i H J
 go_wp2_with fail
 have d:=box2 L #[.int .i64 (8:Nat),.string ⟨x1.t.of_.toArray⟩,.string ⟨x1.t.name.toArray⟩,.slice x1.q.A x1.t.names.length x1.q.c,.slice x1.q.P 3 x1.q.d] #[.int .i64 0,.int .i64 0] 28 31;simp only[show ((8:Nat):Int)=(8:Int) from rfl] at d;have r:=d.2.1 0 _ rfl;have s:=d.2.1 4 _ rfl;have t:=d.2.2.1 0 _ rfl;obtain ⟨a, -, -,l⟩:=d;generalize (L.alloc _).alloc _=W1 at a r s t l ⊢;have i:Below w.heap.size w W1:=Z03 C.out a;have q:=Y1 (And.intro l (And.intro i (And.intro r (And.intro s t))));clear l i r s t a;have U:=q.out.1;refine (Zou W1 (D.out.next q.out.2.1)).mono ?_;rintro e M ⟨j,rfl⟩;have m:=Y1 j;clear j
 go_wp2_with fail
 have d:=box2 M #[.int .i64 0,.string ⟨#[]⟩,.string ⟨#[]⟩,.slice none 0 0,.slice none 0 0] #[.int .i64 111,.int .i64 9] 28 31;have u:=d.2.2.1 0 _ rfl;have v:=d.2.2.1 1 _ rfl;obtain ⟨a, -, -,l⟩:=d;generalize (M.alloc _).alloc _=W2 at a u v l ⊢;have j:Below W1.heap.size W1 W2:=Z03 m.out a;have V:W1.heap.size<=M.heap.size:=m.out.size;have N:=Y1 (And.intro l (And.intro j (And.intro u v)));clear l j u v a;refine (Zov W2 (D.out.next (Z03 q.out.2.1 N.out.2.1))).mono ?_;rintro e B ⟨k,h,rfl,I,K,g,off,F,G,f⟩;simp only[valT,Y7];rw[I,K,F];have n:=Y1 k;have O:=Y1 (And.intro G f);clear k I K F G f
 go_wp2_with fail
 have d:=box2 B #[.int .i64 (7:Nat),.string ⟨h.t.of_.toArray⟩,.string ⟨h.t.name.toArray⟩,.int .i64 h.t.n,.slice h.q.A h.t.names.length h.q.c,.slice h.q.V h.t.vars.length h.q.e,.slice h.q.S h.t.shapes.length h.q.s,.slice (some ⟨g,off,none⟩) 2 h.q.d,.int .i64 h.t.at_] #[.int .i64 0,.int .i64 0] 40 31;simp only[show ((7:Nat):Int)=(7:Int) from rfl] at d;have y:=d.2.1 0 _ rfl;have z:=d.2.1 7 _ rfl;have A:=d.2.2.1 0 _ rfl;obtain ⟨a, -, -,l⟩:=d;generalize (B.alloc _).alloc _=W3 at a y z A l ⊢;have k:Below W2.heap.size W2 W3:=Z03 n.out a;have E:W3.cell? ⟨g,off+9+8,none⟩=some (.int .i64 4):=(Below.cells a O.out.1 _).trans O.out.2;have f:g < W3.heap.size:=by have:=O.out.1; omega
 have W:W2.heap.size<=B.heap.size:=n.out.size;have S:=Y1 (And.intro l (And.intro k (And.intro y (And.intro z (And.intro A (And.intro E f))))));clear l k y z A E a f;have p:Hid (Below w.heap.size w W3):=Y1 (Z03 (Z03 q.out.2.1 N.out.2.1) S.out.2.1);refine (Zow W3 (D.out.next p.out)).mono ?_;rintro e w4 ⟨c,rfl⟩;have o:=Y1 c;clear c;have d:=box2 w4 #[.int .i64 0,.string ⟨#[]⟩,.string ⟨#[]⟩,.int .i64 0,.slice none 0 0,.slice none 0 0,.slice none 0 0,.slice none 0 0,.int .i64 0] #[.int .i64 90,.int .i64 1] 40 31;have a:=d.1;have f9:=d.2.2.1 0 _ rfl;clear d;have c:=Z03 o.out a;obtain ⟨Y, -,r,s,t⟩:=q.out;obtain ⟨Z,hD,u,v⟩:=N.out;obtain ⟨a0,hF,y,z,A,E,f⟩:=S.out;have X:W3.heap.size<=w4.heap.size:=o.out.size;have P:=Z03 hF c;have Q:=Z03 hD P;have f1:=(Below.cells Q (b:=L.heap.size) (by omega) _).trans r;have f2:=(Below.cells Q (b:=L.heap.size) (by omega) _).trans s;have f3:=(Below.cells Q (b:=L.heap.size+1) (by omega) _).trans t;have f4:=(Below.cells P (b:=M.heap.size+1) (by omega) _).trans u;have f5:=(Below.cells P (b:=M.heap.size+1) (by omega) _).trans v;have f6:=(Below.cells c (b:=B.heap.size) (by omega) _).trans y;have f7:=(Below.cells c (b:=B.heap.size) (by omega) _).trans z;have f8:=(Below.cells c (b:=B.heap.size+1) (by omega) _).trans A;have g9:=(Below.cells c (b:=g) f _).trans E;have T:=Y1 (Z03 p.out c);clear r s t u v y z A E P Q hF hD c a Y Z a0 U V W X f C m n o q N O S D p
 go_wp2_with fail
 go_ret;exact ⟨rfl,T.out⟩
end
section
open Go.RowKit Prs
def FewV (l:List Tk) (w:World) (e:Ending) (w':World):Prop:=w'=w/\ ∃b:Bool,e= .returned (.bool b)/\(b=true->l.length<=100000/\ ∀t∈l,t.t.text.length<=100000)
theorem Zhz {l:List Tk} {w:World}:FewV l w (.returned (.bool false)) w:=⟨rfl,false,rfl,nofun⟩
theorem Zng (A:Option Addr) (c:Nat) (l:List Tk) (J:l.length<=9223372036854775807) (f: ∀b∈l,b.t.text.length<=9223372036854775807) (w:World) (h:Tks w w.heap.size A l):
 Calls Tryz.prog 5 #[.slice A l.length c] w (FewV l w):=by
 have z:=Y1 h;have y:=Y1 f;clear h f;go_enter Tryz.func5,Tryz.ntmps5
 go_wp2_with fail
 go_loopw [3,4] (fun ni ii wr=>wr=w/\ ∃(i n:Nat),ni= .int .i64 n/\ii= .int .i64 i/\i<=l.length/\i<=n/\n<=100000/\Hid (∀j (h:j < l.length),j < i->(l[j]'h).t.text.length<=100000)) (fun _ ii _=>l.length - (intOf ii).toNat)
 case atStart=>exact ⟨rfl,0,0,rfl,rfl,Nat.zero_le _,Nat.le_refl _,by omega,Y1 (fun j h hj=>absurd hj (Nat.not_lt_zero _))⟩
 case round=>
  obtain ⟨r,i,n,rfl,rfl,H,C,K,o⟩:=hrel;subst r;by_cases d:i < l.length
  {have p: (i:Int) < (l.length:Int):=by omega
   rcases z.out with F | ⟨g,off,rfl,G,u⟩
   {omega}
   obtain ⟨x,m⟩: ∃x,x=l[i]'d:=⟨_,rfl⟩;obtain ⟨B,c1,c2⟩:=u i d;rw[<-m] at B c1 c2;have E:x.t.text.length<=9223372036854775807:=by rw[m]; exact y.out _ (List.getElem_mem _)
   have s:=Y1 m;clear u m
   go_wp2_with fail
   {refine bodyPost_ret (v:= .bool false) (by simp[results,Tryz.results5,go_sem]) rfl ?_;exact Zhz}
   {refine bodyPost_ret (v:= .bool false) (by simp[results,Tryz.results5,go_sem]) rfl ?_;exact Zhz}
   {go_loopw [5] (fun ki wr'=>wr'=wr/\ ∃k:Nat,ki= .int .i64 k/\k<=x.t.text.length) (fun ki _=>x.t.text.length - (intOf ki).toNat)
    case atStart=>exact ⟨rfl,0,rfl,Nat.zero_le _⟩
    case round=>
     obtain ⟨a,k,rfl,I⟩:=hrel;subst a;by_cases D:k < x.t.text.length
     {have q: (k:Int) < (x.t.text.length:Int):=by omega
      go_wp2
      all_goals first
       | (refine bodyPost_ret (v:= .bool false) (by simp[results,Tryz.results5,go_sem]) rfl ?_; exact Zhz)
       | (
        go_roundw
        case rel=>exact ⟨trivial,k+1,by go_num,by omega⟩
        case measure=>simp[intOf]; omega)}
     {have q: ¬(k:Int) < (x.t.text.length:Int):=by omega
      go_wp2
      all_goals first
       | (refine bodyPost_ret (v:= .bool false) (by simp[results,Tryz.results5,go_sem]) rfl ?_; exact Zhz)
       | (
        go_roundw
        case rel=>
         refine ⟨trivial,i+1,n+(min x.t.text.length 100000+1),by congr 1; omega,by go_num,by omega,by omega,by omega,Y1 (fun j h hj=> ?_)⟩;by_cases e:j=i
         {subst e; rw[<-s.out]; omega}
         {exact o.out j h (by omega)}
        case measure=>simp[intOf]; omega)}}
   {go_loopw [5] (fun ki wr'=>wr'=wr/\ki= .int .i64 0) (fun ki _=>1)
    case atStart=>exact ⟨rfl,rfl⟩
    case round=>
     obtain ⟨a,rfl⟩:=hrel;subst a;go_wp2
     go_roundw
     case rel=>
      refine ⟨trivial,i+1,n+(min x.t.text.length 100000+1),by congr 1; omega,by go_num,by omega,by omega,by omega,Y1 (fun j h hj=> ?_)⟩;by_cases e:j=i
      {subst e; rw[<-s.out]; omega}
      {exact o.out j h (by omega)}
     case measure=>simp[intOf]; omega}}
  {have p: ¬(i:Int) < (l.length:Int):=by omega
   obtain rfl:i=l.length:=by omega
   go_wp2;refine bodyPost_ret (v:= .bool true) (by simp[results,Tryz.results5,go_sem]) rfl ?_;refine ⟨rfl,true,rfl,fun _=>⟨by omega,fun t f=> ?_⟩⟩;obtain ⟨j,hj,rfl⟩:=List.getElem_of_mem f;exact o.out j hj hj}
end
end Go.Proofs.YtgndehppmaacaaaGreatDoor
namespace Pre
open Pso (St fail misfit want textOf name upperN another loop betw fieldsR fieldsT partsR funT listT othersT bodyT anyT wholeT To Ok Ty Goes)
open Prs (look sign no Flt R need kind fresh upper andThen shp fields from_ arrow tm num)
open Go.Proofs.YtgndehppmaacaaaGreatDoor (Tk)
open Shp (Sh)
open Tms (Tm)
structure Scn (l:List Tk):Prop where
 nm: ∀i,(look l i).t.kind=1->Lex.isName (look l i).t.text=true
 up: ∀i,(look l i).t.kind=2->Lex.isUpper (look l i).t.text=true
abbrev at0 (i:Nat):St:=(i,(0,0))
def Rel {α:Type} (l:List Tk) (r:R α) (x:α×St):Prop:=match r with
 | .ok y=>x=(y.1,at0 y.2)
 | .error f=>f.1≠0/\x.2=(l.length,f)
def RelS (l:List Tk) (r:Except Flt Nat) (τ:St):Prop:=match r with
 | .ok j=>τ=at0 j
 | .error f=>f.1≠0/\τ=(l.length,f)
section
variable {l : List Tk}
theorem ok0 {i:Nat} (h:i<=l.length):Ok l (at0 i):=⟨h,fun e=>absurd rfl e⟩
theorem dead {f:Flt} (b:f.1≠0) {τ:St} (h:To l (l.length,f) τ):τ=(l.length,f):=by
 have a:=h.2.2 b;have c:=h.1.2 (by rw[a]; exact b);exact Prod.ext c a
theorem okd {f:Flt}:Ok l (l.length,f):=⟨Nat.le_refl _,fun _=>rfl⟩
theorem Zez (i:Nat): (no l i).1≠0:=by unfold no; simp
theorem ZhY (i:Nat):misfit l (at0 i)=(l.length,no l i):=by
 unfold misfit fail no; simp
theorem Zd0 (i:Nat) (s:List UInt8):RelS l (need l i s) (want l (at0 i) s):=by
 unfold need want;by_cases h:sign l i s=true
 {rw[if_pos h,if_pos h]; rfl}
 {rw[if_neg h,if_neg h]; exact ⟨Zez i,ZhY i⟩}
section
variable {i j : Nat} {s : List UInt8} (h : need l i s = .ok j)
include i j s h
theorem need_ok:sign l i s=true/\j=i+1:=by
 unfold need at h;split at h
 {next hs=>exact ⟨hs,(Except.ok.inj h).symm⟩}
 {cases h}
theorem Zem:i < l.length/\j=i+1:=⟨Pso.sign_lt (need_ok h).1,(need_ok h).2⟩
end
theorem ZfP (i:Nat) (k:Int) (a:List UInt8->Bool) (c: (look l i).t.kind=k->a (look l i).t.text=true):Rel l (kind l i k) (textOf l (at0 i) k a):=by
 unfold kind textOf;by_cases h: (look l i).t.kind=k
 {have b:=c h;rw[if_pos h,if_pos (by simp only[b,Bool.and_true,decide_eq_true_eq]; exact h)]; rfl}
 {rw[if_neg h,if_neg (by simp[h])]; exact ⟨Zez i,ZhY i⟩}
theorem Zdv (a:Scn l) (i:Nat):Rel l (kind l i 1) (name l (at0 i)):=ZfP i 1 _ (a.nm i)
theorem ZeF (a:Scn l) (i:Nat):Rel l (kind l i 2) (upperN l (at0 i)):=ZfP i 2 _ (a.up i)
theorem kind_lt {i:Nat} {k:Int} (a:k≠0) {y:List UInt8×Nat} (h:kind l i k= .ok y):i < l.length/\y.2=i+1:=by
 unfold kind at h;split at h
 {next hs=>obtain rfl:=Except.ok.inj h; exact ⟨Pso.kind_lt (by rw[hs]; exact a),rfl⟩}
 {cases h}
theorem Zf5 (e:Scn l) (i:Nat) (ns:List (List UInt8)):match fresh l i ns with
 | .ok y=>another l (at0 i) ns=(ns++ [y.1],at0 y.2)/\i < l.length/\y.2=i+1
 | .error f=>f.1≠0/\(another l (at0 i) ns).2=(l.length,f):=by
 have a:=Zdv e i;unfold fresh another;unfold kind at a;by_cases h: (look l i).t.kind=1
 {rw[if_pos h] at a ⊢;have a:name l (at0 i)=((look l i).t.text,at0 (i+1)):=a;simp only[a];by_cases b:ns.contains (look l i).t.text=true
  {rw[if_pos b,if_pos b];refine ⟨by simp, ?_⟩;unfold fail; simp}
  {rw[if_neg b,if_neg b];exact ⟨rfl,Pso.kind_lt (by rw[h]; decide),rfl⟩}}
 {rw[if_neg h] at a ⊢;obtain ⟨c,d⟩:=a;refine ⟨c, ?_⟩;simp only;split
  {have:Pso.fail l (name l (at0 i)).2 111 (look l (at0 i).1).at_=(l.length,no l i):=by
    rw[d]; unfold fail; simp only; rw[if_neg c]
   exact this}
  {exact d}}
theorem Zox {i:Nat} {s e:List UInt8} (h:sign l i e=true) (a:s≠e):sign l i s=false:=by
 unfold sign at h ⊢;simp only[Bool.and_eq_true,beq_iff_eq] at h;rw[h.1];have: (e==s)=false:=by rw[beq_eq_false_iff_ne]; exact fun x=>a x.symm
 rw[this,Bool.false_and]
theorem ZeT (s:List UInt8):sign l l.length s=false:=by
 cases h:sign l l.length s with
 | false=>rfl
 | true=>exact absurd (Pso.sign_lt h) (by omega)
section
variable {α : Type}
def tail (l:List Tk) (s e:List UInt8) (f:St->α->St×α) (n:Nat) (σ:St) (a:α):St×α:=
 (want l (loop l s f n (f σ a).1 (f σ a).2).1 e,(loop l s f n (f σ a).1 (f σ a).2).2)
section
variable {s e : List UInt8} {f : St -> α -> St × α} {n : Nat} {σ : St}
include s e f n σ
theorem ZcV {a:α} {x:Flt} (c:x.1≠0) (h: (f σ a).1=(l.length,x)): (tail l s e f n σ a).1=(l.length,x):=by
 have b:loop l s f n (l.length,x) (f σ a).2=((l.length,x),(f σ a).2):=by
  cases n with
  | zero=>rfl
  | succ n=>unfold loop; rw[if_neg (by rw[ZeT]; simp)]
 unfold tail;rw[h,b];exact dead c (Pso.to_want okd e)
theorem Zen {a b:α} {j:Nat} (c:s≠e) (h:f σ a=(at0 j,b)) (d:sign l j e=true):tail l s e f n σ a=(at0 (j+1),b):=by
 have g:loop l s f n (at0 j) b=(at0 j,b):=by
  cases n with
  | zero=>rfl
  | succ n=>unfold loop; rw[if_neg (by rw[Zox d c]; simp)]
 unfold tail;rw[h];simp only[g];unfold want;rw[if_pos d]
theorem Zeo {a b:α} {j:Nat} (h:f σ a=(at0 j,b)) (c: ¬sign l j e=true) (g: ¬sign l j s=true): (tail l s e f n σ a).1=(l.length,no l j):=by
 have d:loop l s f n (at0 j) b=(at0 j,b):=by
  cases n with
  | zero=>rfl
  | succ n=>unfold loop; rw[if_neg g]
 unfold tail;rw[h];simp only[d];unfold want;rw[if_neg c];exact ZhY j
theorem Ze6 {a b:α} {j:Nat} (h:f σ a=(at0 j,b)) (c:sign l j s=true):tail l s e f (n+1) σ a=tail l s e f n (at0 (j+1)) b:=by
 unfold tail;rw[h];simp only;have:loop l s f (n+1) (at0 j) b=loop l s f n (f (at0 (j+1)) b).1 (f (at0 (j+1)) b).2:=by
  conv=>lhs; unfold loop
  rw[if_pos c]
 rw[this]
end
theorem ZdO {o s e:List UInt8} {f:St->α->St×α} {i:Nat} {a:α} (b:sign l i o=true):betw l o s e f (at0 i) a=if sign l (i+1) e=true then (at0 (i+2),a) else tail l s e f (l.length+1) (at0 (i+1)) a:=by
 have c:want l (at0 i) o=at0 (i+1):=by unfold want; rw[if_pos b]
 unfold betw;simp only[c];rfl
end
def TyR (l:List Tk) (n:Nat) (ty:St->Sh×St):Prop:= ∀i m,i<=l.length->l.length - i < n->2 * (l.length - i)+2<=m->Rel l (shp m l i) (ty (at0 i))
theorem ZfQ (H:Scn l) {b:Nat} {f:St->Sh×St} (t:Ty l f) (F:TyR l b f) (k:Int) {s e:List UInt8} (o:s≠e): ∀n m i a,i<=l.length->l.length - i < b+1->l.length - i < n->2 * (l.length - i)+1<=m->
 Rel l (fields m l i k s e a.1 a.2) (⟨k,[],[],(tail l s e (fieldsR l f) n (at0 i) a).2.1,(tail l s e (fieldsR l f) n (at0 i) a).2.2⟩,(tail l s e (fieldsR l f) n (at0 i) a).1)
 | 0,_,_,_,_,_,h,_=>absurd h (by omega)
 | n+1,0,_,_,_,_,_,h=>absurd h (by omega)
 | n+1,m+1,i,(ns,ps),hi,hb,hn,hm=>by
  unfold fields;have p:=Zf5 H i ns;cases D:fresh l i ns with
  | error x=>
   rw[D] at p;obtain ⟨c,g⟩:=p;simp only[andThen];refine ⟨c,ZcV c ?_⟩;have w:=Pso.to_want (l:=l) (σ:=(another l (at0 i) ns).2) (by rw[g]; exact okd) [58];rw[g] at w;have I:=t _ w.1;rw[dead c w] at I;show (f (want l (another l (at0 i) ns).2 [58])).2=_;rw[g,dead c w];exact dead c I
  | ok y=>
   rw[D] at p;obtain ⟨g,L,M⟩:=p;have v:=Zd0 (l:=l) y.2 [58];simp only[andThen];cases A:need l y.2 [58] with
   | error x=>
    rw[A] at v;obtain ⟨c,B⟩:=v;simp only;refine ⟨c,ZcV c ?_⟩;show (f (want l (another l (at0 i) ns).2 [58])).2=_;rw[g];simp only;rw[B];exact dead c (t _ okd)
   | ok j=>
    rw[A] at v;have B:want l (at0 y.2) [58]=at0 j:=v;obtain ⟨N,O⟩:=Zem A;simp only;have q:=F j m (by omega) (by omega) (by omega);have G: ∀x st,f (at0 j)=(x,st)->fieldsR l f (at0 i) (ns,ps)=(st,(ns++ [y.1],ps++ [x])):=fun x st c=>by
     unfold fieldsR;simp only[g,B,c]
    cases E:shp m l j with
    | error x=>
     rw[E] at q;obtain ⟨c,r⟩:=q;simp only;exact ⟨c,ZcV c (by rw[G _ _ rfl]; exact r)⟩
    | ok z=>
     rw[E] at q;have r:f (at0 j)=(z.1,at0 z.2):=q;have K:j<=z.2/\z.2<=l.length:=by
      have:=t _ (ok0 (l:=l) (i:=j) (by omega));rw[r] at this;exact ⟨this.2.1,this.1.1⟩
     have C:=G _ _ r;simp only;by_cases u:sign l z.2 e=true
     {rw[if_pos u,Zen o C u]; rfl}
     {rw[if_neg u];unfold need;by_cases d:sign l z.2 s=true
      {rw[if_pos d];simp only;have J:=Pso.sign_lt d;rw[Ze6 C d];exact ZfQ H t F k o n m (z.2+1) (ns++ [y.1],ps++ [z.1]) (by omega) (by omega) (by omega) (by omega)}
      {rw[if_neg d];exact ⟨Zez _,Zeo C u d⟩}}
theorem Zij {b:Nat} {c:St->Sh×St} (n:Ty l c) (k:TyR l b c) {i m:Nat} (p:i<=l.length) (o:l.length - i<=b) (q:2 * (l.length - i)+1<=m) (ps:List Sh):
 Rel l (arrow m l i ps) (⟨8,[],[],[],ps++ [(c (want l (at0 i) [45,62])).1]⟩,(c (want l (at0 i) [45,62])).2):=by
 cases m with
 | zero=>omega
 | succ m=>
  unfold arrow;have d:=Zd0 (l:=l) i [45,62];cases e:need l i [45,62] with
  | error x=>
   rw[e] at d;obtain ⟨h,f⟩:=d;simp only[andThen];rw[f];exact ⟨h,dead h (n _ okd)⟩
  | ok j=>
   rw[e] at d;have f:want l (at0 i) [45,62]=at0 j:=d;obtain ⟨r,s⟩:=Zem e;simp only[andThen];rw[f];have a:=k j m (by omega) (by omega) (by omega);cases g:shp m l j with
   | error x=>rw[g] at a; exact a
   | ok z=>
    rw[g] at a;have a:c (at0 j)=(z.1,at0 z.2):=a;rw[a]; rfl
theorem Zjz {b:Nat} {c:St->Sh×St} (j:Ty l c) (o:TyR l b c): ∀n m i ps,i<=l.length->l.length - i < b->l.length - i < n->2 * (l.length - i)+3<=m->
 Rel l (from_ m l i ps) (⟨8,[],[],[],(tail l [44] [41] (partsR l c) n (at0 i) ps).2++ [(c (want l (tail l [44] [41] (partsR l c) n (at0 i) ps).1 [45,62])).1]⟩,(c (want l (tail l [44] [41] (partsR l c) n (at0 i) ps).1 [45,62])).2)
 | 0,_,_,_,_,_,h,_=>absurd h (by omega)
 | n+1,0,_,_,_,_,_,h=>absurd h (by omega)
 | n+1,m+1,i,ps,hi,hb,hn,hm=>by
  unfold from_;have f:=o i m hi hb (by omega);have s: ∀x st,c (at0 i)=(x,st)->partsR l c (at0 i) ps=(st,ps++ [x]):=fun x st d=>by
   unfold partsR;simp only[d]
  have r: ∀x:Flt,x.1≠0-> ∀τ:St,τ=(l.length,x)->(c (want l τ [45,62])).2=(l.length,x):=fun x d τ hτ=>by
   rw[hτ,dead d (Pso.to_want okd [45,62])];exact dead d (j _ okd)
  cases q:shp m l i with
  | error x=>
   rw[q] at f;obtain ⟨d,g⟩:=f;simp only[andThen];exact ⟨d,r x d _ (ZcV d (by rw[s _ _ rfl]; exact g))⟩
  | ok z=>
   rw[q] at f;have g:c (at0 i)=(z.1,at0 z.2):=f;have t:i<=z.2/\z.2<=l.length:=by
    have:=j _ (ok0 (l:=l) (i:=i) (by omega));rw[g] at this;exact ⟨this.2.1,this.1.1⟩
   have k:=s _ _ g;simp only[andThen];by_cases e:sign l z.2 [41]=true
   {rw[if_pos e,Zen (by decide) k e];have p:=Pso.sign_lt e;exact Zij j o (by omega) (by omega) (by omega) _}
   {rw[if_neg e];unfold need;by_cases a:sign l z.2 [44]=true
    {rw[if_pos a];simp only;have p:=Pso.sign_lt a;rw[Ze6 k a];exact Zjz j o n m (z.2+1) (ps++ [z.1]) (by omega) (by omega) (by omega) (by omega)}
    {rw[if_neg a];exact ⟨Zez _,r _ (Zez _) _ (Zeo k e a)⟩}}
theorem sign_kinds {i:Nat} {s:List UInt8} (h:sign l i s=true): (look l i).t.kind=6\/(look l i).t.kind=5:=by
 unfold sign at h;simp only[Bool.and_eq_true,Bool.or_eq_true,decide_eq_true_eq] at h;exact h.2
theorem Zfw {i:Nat} {k:Int} (h: (look l i).t.kind=k) (b:k≠6) (a:k≠5) (s:List UInt8): ¬sign l i s=true:=fun hs=>by
 rcases sign_kinds hs with e | e <;> rw[h] at e <;> omega
theorem Znh (g:Scn l) {n:Nat} {w:St->Sh×St} (A:Ty l w) (s:TyR l n w):TyR l (n+1) (bodyT l w):=fun i m hi hn hm=>by
 cases m with
 | zero=>omega
 | succ m=>
  unfold shp bodyT;by_cases u: (look l i).t.kind=2
  {have b:=ZeF g i;unfold kind at b;rw[if_pos u] at b ⊢;have b:upperN l (at0 i)=((look l i).t.text,at0 (i+1)):=b;have q:=Zfw u (by decide) (by decide);rw[if_neg (q _),if_neg (q _),if_neg (q _),if_neg (q _),if_neg (by rw[u]; decide),b];rfl}
  rw[if_neg u];by_cases h: (look l i).t.kind=1
  {rw[if_pos h];have q:=Zfw h (by decide) (by decide);rw[if_neg (q _),if_neg (q _),if_neg (q _),if_neg (q _),if_pos (by exact h)];have b:=Zdv g i;unfold kind at b;rw[if_pos h] at b;have b:name l (at0 i)=((look l i).t.text,at0 (i+1)):=b;unfold othersT;simp only[b];have d:=Zd0 (l:=l) (i+1) [47];cases p:need l (i+1) [47] with
   | error x=>
    rw[p] at d;obtain ⟨t,r⟩:=d;rw[r];simp only[andThen];exact ⟨t,dead t (Pso.to_upper okd)⟩
   | ok j=>
    rw[p] at d;have r:want l (at0 (i+1)) [47]=at0 j:=d;rw[r];have k:=ZeF g j;simp only[andThen];have c: (look l i).t.text≠ []:=fun e=>by have:=g.nm i h; rw[e] at this; cases this
    cases C:kind l j 2 with
    | error x=>rw[C] at k; exact k
    | ok z=>
     rw[C] at k;have k:upperN l (at0 j)=(z.1,at0 z.2):=k;rw[k];unfold upper;simp only;rw[if_neg (fun e=>c e.1),if_neg (fun e=>c e.1),if_neg (fun e=>c e.1),if_neg (fun e=>c e.1)];rfl}
  rw[if_neg h];by_cases v:sign l i [91]=true
  {rw[if_pos v,if_pos v];have f:=Pso.sign_lt v;unfold listT;have y:=s (i+1) m (by omega) (by omega) (by omega);cases D:shp m l (i+1) with
   | error x=>
    rw[D] at y;obtain ⟨t,B⟩:=y;simp only[andThen];refine ⟨t, ?_⟩;show want l (w (at0 (i+1))).2 [93]=_;rw[B];exact dead t (Pso.to_want okd _)
   | ok z=>
    rw[D] at y;have B:w (at0 (i+1))=(z.1,at0 z.2):=y;simp only[andThen];rw[show (((at0 i).1+1,(at0 i).2):St)=at0 (i+1) from rfl,B];simp only;have d:=Zd0 (l:=l) z.2 [93];cases p:need l z.2 [93] with
    | error x=>rw[p] at d; exact d
    | ok j=>
     rw[p] at d;have r:want l (at0 z.2) [93]=at0 j:=d;rw[r]; rfl}
  rw[if_neg v,if_neg v];by_cases o:sign l i [123]=true
  {rw[if_pos o,if_pos o];have f:=Pso.sign_lt o;unfold fieldsT;simp only[ZdO o];by_cases a:sign l (i+1) [125]=true
   {rw[if_pos a]; simp only[if_pos a]; rfl}
   {rw[if_neg a];simp only[if_neg a];exact ZfQ g A s 6 (by decide) (l.length+1) m (i+1) ([],[]) (by omega) (by omega) (by omega) (by omega)}}
  rw[if_neg o,if_neg o];by_cases s3:sign l i [60]=true
  {rw[if_pos s3,if_pos s3];have f:=Pso.sign_lt s3;unfold fieldsT;simp only[ZdO s3];by_cases a:sign l (i+1) [62]=true
   {rw[if_pos a]; simp only[if_pos a]; rfl}
   {rw[if_neg a];simp only[if_neg a];exact ZfQ g A s 7 (by decide) (l.length+1) m (i+1) ([],[]) (by omega) (by omega) (by omega) (by omega)}}
  rw[if_neg s3,if_neg s3];by_cases s4:sign l i [40]=true
  {rw[if_pos s4,if_pos s4];have f:=Pso.sign_lt s4;unfold funT;simp only[ZdO s4];by_cases a:sign l (i+1) [41]=true
   {have E:=Pso.sign_lt a;rw[if_pos a]; simp only[if_pos a];exact Zij A s (by omega) (by omega) (by omega) []}
   {rw[if_neg a];simp only[if_neg a];exact Zjz A s (l.length+1) m (i+1) [] (by omega) (by omega) (by omega) (by omega)}}
  rw[if_neg s4,if_neg s4,if_neg h];have b:=ZeF g i;unfold kind at b;rw[if_neg u] at b;exact b
theorem ZjA (a:Scn l): ∀n,TyR l n (anyT l n)
 | 0=>fun i m _ h _=>absurd h (by omega)
 | n+1=>Znh a (Pso.to_anyT n) (ZjA a n)
theorem ZhA (f:Scn l) {i:Nat} (d:i<=l.length):Rel l (Prs.whole l i) (wholeT l (at0 i)):=by
 have h:=ZjA f (l.length+1) i (2 * l.length+4) d (by omega) (by omega);unfold Prs.whole wholeT;cases e:shp (2 * l.length+4) l i with
 | error x=>
  rw[e] at h;obtain ⟨c,b⟩:=h;simp only[andThen];refine ⟨c, ?_⟩;rw[b];simp only;split
  {rfl}
  {unfold fail; simp only; rw[if_neg c]}
 | ok z=>
  rw[e] at h;have b:anyT l (l.length+1) (at0 i)=(z.1,at0 z.2):=h;simp only[andThen,b];by_cases a:Shp.check z.1=0
  {rw[if_pos a,if_pos a]; rfl}
  {rw[if_neg a,if_neg a];refine ⟨a, ?_⟩;unfold fail; simp}
end
end Pre
namespace Pso
open Prs (look sign no Flt upper tm num)
open Go.Proofs.YtgndehppmaacaaaGreatDoor (Tk)
open Shp (Sh)
open Tms (Tm)
inductive Stand (l:List Tk):Nat->Tm->Prop
 | mk (i j:Nat) (t:Tm):i<=j->(look l j).t.kind≠0->(look l j).at_=t.at_->(∀p∈t.parts,Stand l j p)->Stand l i t
theorem Stand.less {l:List Tk} {i k:Nat} {t:Tm} (h:Stand l i t) (e:k<=i):Stand l k t:=by
 obtain ⟨_,j,_,a,b,c,d⟩:=h;exact .mk k j t (Nat.le_trans e a) b c d
section
variable {l : List Tk} {ex : St -> Tm × St}
structure Beg (l:List Tk) (i:Nat) (a:Int) (σ:St):Prop where
 k: (look l i).t.kind≠0
 a: (look l i).at_=a
 le:i<=σ.1
theorem Beg.on {i:Nat} {a:Int} {σ τ:St} (h:Beg l i a σ) (b:To l σ τ):Beg l i a τ:=⟨h.k,h.a,Nat.le_trans h.le b.2.1⟩
end
end Pso
namespace Pso
open Prs (look sign no Flt upper tm num)
open Go.Proofs.YtgndehppmaacaaaGreatDoor (Tk)
open Shp (Sh)
open Tms (Tm)
section
variable {l : List Tk} {ex : St -> Tm × St}
def Rt (l:List Tk) (ex:St->Tm×St):Prop:= ∀σ,Ok l σ->(ex σ).2.2.1=0->Tms.right (ex σ).1=true
def RI (ps:List Tm):Prop:= ∀p∈ps,Tms.right p=true
theorem ZeV {ps:List Tm} (h:RI ps) {p:Tm} (b:Tms.right p=true):RI (ps++ [p]):=fun x a=>by
 rcases List.mem_append.1 a with a | a
 {exact h x a}
 {obtain rfl:x=p:=by simpa using a
  exact b}
theorem args_inv (h:Rt l ex): ∀σ a,Ok l σ->0<=σ.1->(argsR l ex σ a).1.2.1=0->RI a->RI (argsR l ex σ a).2:=fun σ a hσ _ h0 hi=>ZeV hi (h σ hσ h0)
end
end Pso
namespace Lex
structure Is (t:Tok):Prop where
 nm:t.kind=1->isName t.text=true
 up:t.kind=2->isUpper t.text=true
 num:t.kind=3->number t.text=true
 txt:t.kind=4-> ∃ps,t.text=Utf.enc ps/\ ∀p∈ps,okP p=true
theorem ZgB {k:Int} {s:List UInt8} (a:k≠1) (b:k≠2) (c:k≠3) (d:k≠4):Is ⟨k,s⟩:=⟨fun e=>absurd e a,fun e=>absurd e b,fun e=>absurd e c,fun e=>absurd e d⟩
section
variable {s : List UInt8}
include s
theorem Zqo (h:isName s=true):Is ⟨1,s⟩:=⟨fun _=>h,fun e=>by simp at e,fun e=>by simp at e,fun e=>by simp at e⟩
theorem Zqp (h:isUpper s=true):Is ⟨2,s⟩:=⟨fun e=>by simp at e,fun _=>h,fun e=>by simp at e,fun e=>by simp at e⟩
theorem Zq6 (h:number s=true):Is ⟨3,s⟩:=⟨fun e=>by simp at e,fun e=>by simp at e,fun _=>h,fun e=>by simp at e⟩
end
theorem Zq7 {ps:List Int} (h: ∀p∈ps,okP p=true):Is ⟨4,Utf.enc ps⟩:=⟨fun e=>by simp at e,fun e=>by simp at e,fun e=>by simp at e,fun _=>⟨ps,rfl,h⟩⟩
theorem ZoG {s:List UInt8} {t:Tok} {n:Nat} (h:token s= .ok (t,n)):Is t:=by
 unfold token at h;split at h
 {cases h}
 {split at h
  {simp only at h;split at h
   {cases h; exact ZgB (by decide) (by decide) (by decide) (by decide)}
   {split at h
    {next hn=>cases h; exact Zqo hn}
    {split at h
     {next hn=>cases h; exact Zqp hn}
     {cases h}}}}
  {split at h
   {simp only at h;split at h
    {next hn=>cases h; exact Zq6 hn}
    {split at h
     {cases h; exact ZgB (by decide) (by decide) (by decide) (by decide)}
     {cases h}}}
   {split at h
    {unfold quoted finish at h;split at h
     {cases h}
     {split at h
      {cases h;exact Zq7 (Z1g _ _ (by simp)).1}
      {split at h <;> cases h}}}
    {split at h
     {cases h; exact ZgB (by decide) (by decide) (by decide) (by decide)}
     {split at h
      {cases h; exact ZgB (by decide) (by decide) (by decide) (by decide)}
      {cases h}}}}}}
end Lex
namespace Tms
end Tms
namespace Pre
open Prs (look)
open Go.Proofs.YtgndehppmaacaaaGreatDoor (Tk)
end Pre
