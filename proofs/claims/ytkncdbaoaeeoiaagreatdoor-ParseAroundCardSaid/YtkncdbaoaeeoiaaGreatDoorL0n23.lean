/- What the proofs of ParseAround want, part 23. -/
import Derived.Test.YtkncdbaoaeeoiaaGreatDoorL0n22
import Derived.Test.YtkncdbaoaeeoiaaGreatDoorL0n15
set_option linter.unusedVariables false
set_option linter.unusedSimpArgs false
set_option linter.unusedSectionVars false
set_option maxRecDepth 100000
set_option maxHeartbeats 16000000
namespace Go.Proofs.YtkncdbaoaeeoiaaGreatDoor
section
open Go.RowKit Tms
open Shp (Sh)
open Pso (St Ok Goes betw loop want)
structure VInv (w:World) (bp:Nat) (A:Option Addr) (c:Nat) (l:List Tk) (τ:St) (ob:Nat) (nm n2:List UInt8) (d:Nat->Bool) (u:Nat->Value) (W:World):Prop where
 v0:d 0=true->u 0= .pointer (some ⟨ob,2,none⟩)
 v1:d 1=true->u 1= .string ⟨nm.toArray⟩
 v2:d 2=true->u 2= .pointer (some ⟨bp,0,none⟩)
 vA:d 3=true->u 3= .pointer (some ⟨bp,0,none⟩)
 vB:d 4=true->u 4= .pointer (some ⟨bp,0,none⟩)
 v3:d 5=true->u 5= .string ⟨n2.toArray⟩
 v4:d 6=true->u 6= .pointer (some ⟨ob,1,none⟩)
 v6:d 8=true->u 8= .pointer (some ⟨ob,2,none⟩)
 e5:d 7=true->d 5=true/\d 1=true
 e7:d 9=true->d 7=true
 pre:d 5=false->Below w.heap.size w W
 mid:d 5=true->d 7=false->PAt W bp A c l τ/\UpT [bp] w W
 late:d 7=true-> ∃Wm,PAt Wm bp A c l τ/\UpT [bp] w Wm/\W=if d 9=true then (Wm.setCell ⟨ob,1,none⟩ (.string ⟨nm.toArray⟩)).setCell ⟨ob,2,none⟩ (.string ⟨n2.toArray⟩) else Wm.setCell ⟨ob,1,none⟩ (.string ⟨nm.toArray⟩)
section
variable {w : World} {bp : Nat} {A : Option Addr} {c : Nat} {l : List Tk} {τ : St} {ob : Nat} {nm n2 : List UInt8} {d : Nat -> Bool} {u : Nat -> Value} {W W' : World}
section
variable (h : VInv w bp A c l τ ob nm n2 d u W)
include h
theorem VInv.not5 {i:Nat} (f:i=1\/i=5\/i=7) (e:d i=false):d 7=false:=by
 cases b:d 7 with
 | false=>rfl
 | true=>
  have a:=h.e5 b;rcases f with rfl | rfl | rfl
  {rw[e] at a; cases a.2}
  {rw[e] at a; cases a.1}
  {rw[e] at b; cases b}
theorem VInv.up (b:d 7=false):UpT [bp] w W:=by
 cases a:d 5 with
 | false=>exact Z05 (h.pre a)
 | true=>exact (h.mid a b).2
theorem VInv.pure {i:Nat} {v:Value} (f:i=0/\v= .pointer (some ⟨ob,2,none⟩)\/i=1/\v= .string ⟨nm.toArray⟩\/i=2/\v= .pointer (some ⟨bp,0,none⟩)\/i=3/\v= .pointer (some ⟨bp,0,none⟩)\/i=4/\v= .pointer (some ⟨bp,0,none⟩)\/i=6/\v= .pointer (some ⟨ob,1,none⟩)\/i=8/\v= .pointer (some ⟨ob,2,none⟩)):
 VInv w bp A c l τ ob nm n2 (also d i) (upd u i v) W:=by
 have k: ∀j,j≠i->also d i j=d j/\upd u i v j=u j:=fun j hj=>⟨PtxT.ne9 d hj,Z06 u _ hj⟩;have p:also d i i=true:=PtxT.self9 d i;have r:upd u i v i=v:=Z09 _ _ _;have q: ∀(j:Nat) (V:Value),(i=j->v=V)->(d j=true->u j=V)->also d i j=true->upd u i v j=V:=fun j V b a h3=>by
  by_cases e:j=i
  {subst e; rw[r]; exact b rfl}
  {rw[(k j e).2]; rw[(k j e).1] at h3; exact a h3}
 have g:i≠5:=by omega
 have m:i≠7:=by omega
 have o:i≠9:=by omega
 refine ⟨q 0 _ (fun e=> ?_) h.v0,q 1 _ (fun e=> ?_) h.v1,q 2 _ (fun e=> ?_) h.v2,q 3 _ (fun e=> ?_) h.vA,q 4 _ (fun e=> ?_) h.vB,q 5 _ (fun e=>absurd e g) h.v3,q 6 _ (fun e=> ?_) h.v4,q 8 _ (fun e=> ?_) h.v6, ?_, ?_, ?_, ?_, ?_⟩
 {rcases f with ⟨b,a⟩ | ⟨b,a⟩ | ⟨b,a⟩ | ⟨b,a⟩ | ⟨b,a⟩ | ⟨b,a⟩ | ⟨b,a⟩ <;> first | exact a | omega}
 {rcases f with ⟨b,a⟩ | ⟨b,a⟩ | ⟨b,a⟩ | ⟨b,a⟩ | ⟨b,a⟩ | ⟨b,a⟩ | ⟨b,a⟩ <;> first | omega | exact a}
 {rcases f with ⟨b,a⟩ | ⟨b,a⟩ | ⟨b,a⟩ | ⟨b,a⟩ | ⟨b,a⟩ | ⟨b,a⟩ | ⟨b,a⟩ <;> first | omega | exact a}
 {rcases f with ⟨b,a⟩ | ⟨b,a⟩ | ⟨b,a⟩ | ⟨b,a⟩ | ⟨b,a⟩ | ⟨b,a⟩ | ⟨b,a⟩ <;> first | omega | exact a}
 {rcases f with ⟨b,a⟩ | ⟨b,a⟩ | ⟨b,a⟩ | ⟨b,a⟩ | ⟨b,a⟩ | ⟨b,a⟩ | ⟨b,a⟩ <;> first | omega | exact a}
 {rcases f with ⟨b,a⟩ | ⟨b,a⟩ | ⟨b,a⟩ | ⟨b,a⟩ | ⟨b,a⟩ | ⟨b,a⟩ | ⟨b,a⟩ <;> first | omega | exact a}
 {rcases f with ⟨b,a⟩ | ⟨b,a⟩ | ⟨b,a⟩ | ⟨b,a⟩ | ⟨b,a⟩ | ⟨b,a⟩ | ⟨b,a⟩ <;> first | omega | exact a}
 {rw[(k 7 m.symm).1,(k 5 g.symm).1];intro n;refine ⟨(h.e5 n).1, ?_⟩;by_cases e: (1:Nat)=i
  {rw[e]; exact p}
  {rw[(k 1 e).1]; exact (h.e5 n).2}}
 {rw[(k 9 o.symm).1,(k 7 m.symm).1]; exact h.e7}
 {rw[(k 5 g.symm).1]; exact h.pre}
 {rw[(k 5 g.symm).1,(k 7 m.symm).1]; exact h.mid}
 {rw[(k 7 m.symm).1,(k 9 o.symm).1]; exact h.late}
theorem VInv.s3 (b:d 5=false) (f:PAt W' bp A c l τ) (g:UpT [bp] W W'):VInv w bp A c l τ ob nm n2 (also d 5) (upd u 5 (.string ⟨n2.toArray⟩)) W':=by
 have a:=h.not5 (by omega) b;have k: ∀j,j≠5->also d 5 j=d j/\upd u 5 (.string ⟨n2.toArray⟩) j=u j:=fun j hj=>⟨PtxT.ne9 d hj,Z06 u _ hj⟩;refine ⟨?_, ?_, ?_, ?_, ?_,fun _=>Z09 _ _ _, ?_, ?_, ?_, ?_, ?_,fun _ _=>⟨f,(Z05 (h.pre b)).trans g⟩, ?_⟩
 {rw[(k 0 (by omega)).1,(k 0 (by omega)).2]; exact h.v0}
 {rw[(k 1 (by omega)).1,(k 1 (by omega)).2]; exact h.v1}
 {rw[(k 2 (by omega)).1,(k 2 (by omega)).2]; exact h.v2}
 {rw[(k 3 (by omega)).1,(k 3 (by omega)).2]; exact h.vA}
 {rw[(k 4 (by omega)).1,(k 4 (by omega)).2]; exact h.vB}
 {rw[(k 6 (by omega)).1,(k 6 (by omega)).2]; exact h.v4}
 {rw[(k 8 (by omega)).1,(k 8 (by omega)).2]; exact h.v6}
 {rw[(k 7 (by omega)).1,a]; intro e; cases e}
 {rw[(k 9 (by omega)).1,(k 7 (by omega)).1]; exact h.e7}
 {rw[PtxT.self9]; intro e; cases e}
 {rw[(k 7 (by omega)).1,a]; intro e; cases e}
theorem VInv.s5 (b:d 7=false) (a:d 5=true) (i:d 1=true) (v:Value):VInv w bp A c l τ ob nm n2 (also d 7) (upd u 7 v) (W.setCell ⟨ob,1,none⟩ (.string ⟨nm.toArray⟩)):=by
 have g:d 9=false:=by cases e:d 9 with | false=>rfl | true=>have:=h.e7 e; rw[b] at this; cases this
 have k: ∀j,j≠7->also d 7 j=d j/\upd u 7 v j=u j:=fun j hj=>⟨PtxT.ne9 d hj,Z06 u _ hj⟩;have f:=h.mid a b;refine ⟨?_, ?_, ?_, ?_, ?_, ?_, ?_, ?_, ?_,fun _=>PtxT.self9 _ _, ?_, ?_,fun _=>⟨W,f.1,f.2, ?_⟩⟩
 {rw[(k 0 (by omega)).1,(k 0 (by omega)).2]; exact h.v0}
 {rw[(k 1 (by omega)).1,(k 1 (by omega)).2]; exact h.v1}
 {rw[(k 2 (by omega)).1,(k 2 (by omega)).2]; exact h.v2}
 {rw[(k 3 (by omega)).1,(k 3 (by omega)).2]; exact h.vA}
 {rw[(k 4 (by omega)).1,(k 4 (by omega)).2]; exact h.vB}
 {rw[(k 5 (by omega)).1,(k 5 (by omega)).2]; exact h.v3}
 {rw[(k 6 (by omega)).1,(k 6 (by omega)).2]; exact h.v4}
 {rw[(k 8 (by omega)).1,(k 8 (by omega)).2]; exact h.v6}
 {rw[(k 5 (by omega)).1,(k 1 (by omega)).1]; exact fun _=>⟨a,i⟩}
 {rw[(k 5 (by omega)).1,a]; intro e; cases e}
 {rw[PtxT.self9]; intro _ e; cases e}
 {rw[(k 9 (by omega)).1,g]; rfl}
theorem VInv.s7 (i:d 9=false) (a:d 7=true) (v:Value):VInv w bp A c l τ ob nm n2 (also d 9) (upd u 9 v) (W.setCell ⟨ob,2,none⟩ (.string ⟨n2.toArray⟩)):=by
 have k: ∀j,j≠9->also d 9 j=d j/\upd u 9 v j=u j:=fun j hj=>⟨PtxT.ne9 d hj,Z06 u _ hj⟩;obtain ⟨Wm,b,f,g⟩:=h.late a;refine ⟨?_, ?_, ?_, ?_, ?_, ?_, ?_, ?_, ?_, ?_, ?_, ?_,fun _=>⟨Wm,b,f, ?_⟩⟩
 {rw[(k 0 (by omega)).1,(k 0 (by omega)).2]; exact h.v0}
 {rw[(k 1 (by omega)).1,(k 1 (by omega)).2]; exact h.v1}
 {rw[(k 2 (by omega)).1,(k 2 (by omega)).2]; exact h.v2}
 {rw[(k 3 (by omega)).1,(k 3 (by omega)).2]; exact h.vA}
 {rw[(k 4 (by omega)).1,(k 4 (by omega)).2]; exact h.vB}
 {rw[(k 5 (by omega)).1,(k 5 (by omega)).2]; exact h.v3}
 {rw[(k 6 (by omega)).1,(k 6 (by omega)).2]; exact h.v4}
 {rw[(k 8 (by omega)).1,(k 8 (by omega)).2]; exact h.v6}
 {rw[(k 7 (by omega)).1,(k 5 (by omega)).1,(k 1 (by omega)).1]; exact h.e5}
 {rw[(k 7 (by omega)).1]; exact fun _=>a}
 {rw[(k 5 (by omega)).1,(h.e5 a).1]; intro e; cases e}
 {rw[(k 7 (by omega)).1,a]; intro _ e; cases e}
 {rw[PtxT.self9,if_pos rfl,g,i]; rfl}
end
end
theorem ZbT (bp:Nat) (A:Option Addr) (c:Nat) (l:List Tk) (σ:St) (a:Int) (hl:TokOk l) (ha: -9223372036854775808<=a/\a<=9223372036854775807) (hσ:Ok l σ) (w:World) (h:PAt w bp A c l σ):
 Calls Tryz.prog 134 #[.pointer (some ⟨bp,0,none⟩),.int .i64 a] w (TmIs bp A c l (Pso.valueE l σ a) w):=by
 have Z:=h.lt;have J:=hl.len;have U:=Pso.to_name hσ;have C:=Z0q hl.txt σ 1 (by decide) Lex.isName;change (Pso.name l σ).1.length<=1000000 at C;have hb0:=Z01 w (.cells Ya 26);have a3:=Z0h w (.int .i64 0) (.string ⟨#[]⟩) (.string ⟨#[]⟩) (.int .i64 0) (.slice none 0 0) (.slice none 0 0) (.slice none 0 0) (.slice none 0 0) (.int .i64 0) 26;have T:=Y1 (Z1a bp A c l σ (by omega) hσ.1 hl.txt _ (h.below hb0));have E:=Y1 hb0;have I:=Y1 a3;have X:=Y1 U;have HL:=Y1 hl;have HA:=Y1 ha;clear h hb0 a3 hl ha;cases Q:Prs.sign l (Pso.name l σ).2.1 [47]
 {have V:Hid (Pso.valueE l σ a=({ Prs.tm 5 a with name:=(Pso.name l σ).1 },(Pso.name l σ).2)):=Y1 (by unfold Pso.valueE; simp only; rw[Q]; rfl);rw[V.out];have M:=Y1 (fun (w:World) (h:PAt w bp A c l (Pso.name l σ).2) (b:Nat) (hb:b=w.heap.size)=>Z0C Q J U.1.1 w h (hb0:=hb));obtain ⟨y,hy⟩: ∃y,y=Pso.name l σ:=⟨_,rfl⟩;rw[<-hy] at T M C ⊢;clear Q U V X hy;go_enter Tryz.func134,Tryz.ntmps134
  go_wp2_with fail
  refine T.out.mono ?_;rintro e g ⟨rfl,s,m⟩;have a8:w.heap.size+1<=g.heap.size:=by have:=m.size; simpa using this
  have p:=Y1 (s.alloc (.cells #[.int .i64 5,.string ⟨#[]⟩,.string ⟨y.1.toArray⟩,.int .i64 0,.slice none 0 0,.slice none 0 0,.slice none 0 0,.slice none 0 0,.int .i64 a] 26));have q:=Y1 (((Z05 (F:= [bp]) E.out).trans m).alloc (.cells #[.int .i64 5,.string ⟨#[]⟩,.string ⟨y.1.toArray⟩,.int .i64 0,.slice none 0 0,.slice none 0 0,.slice none 0 0,.slice none 0 0,.int .i64 a] 26));have r:=Y1 ((I.out.up m (by simp; omega)).below (Z01 g (.cells #[.int .i64 5,.string ⟨#[]⟩,.string ⟨y.1.toArray⟩,.int .i64 0,.slice none 0 0,.slice none 0 0,.slice none 0 0,.slice none 0 0,.int .i64 a] 26)));have o:=Y1 (Z0h g (.int .i64 5) (.string ⟨#[]⟩) (.string ⟨y.1.toArray⟩) (.int .i64 0) (.slice none 0 0) (.slice none 0 0) (.slice none 0 0) (.slice none 0 0) (.int .i64 a) 26);have P:bp < g.heap.size:=s.lt;clear s m T E I
  go_wp2_with fail
  have B:=Y1 (show g.heap.size+1=(g.alloc (.cells #[.int .i64 5,.string ⟨#[]⟩,.string ⟨y.1.toArray⟩,.int .i64 0,.slice none 0 0,.slice none 0 0,.slice none 0 0,.slice none 0 0,.int .i64 a] 26)).heap.size by simp);generalize g.alloc (.cells #[.int .i64 5,.string ⟨#[]⟩,.string ⟨y.1.toArray⟩,.int .i64 0,.slice none 0 0,.slice none 0 0,.slice none 0 0,.slice none 0 0,.int .i64 a] 26)=W0 at B p q r o ⊢;refine (M.out W0 p.out _ B.out).mono ?_;rintro e w1 ⟨rfl,D,n⟩;have G:=Y1 D;have H:=Y1 (q.out.trans n);obtain ⟨r0,r1,r2,r3,r4,r5,r6,r7,r8,j,rl⟩:=r.out.up n (by simp; omega);obtain ⟨x0,x1,x2,x3,x4,x5,x6,x7,x8,xf,S⟩:=o.out.up n (by simp; omega);have f0:=j 0;have f1:=j 1;have f2:=j 2;have f3:=j 3;have f4:=j 4;have f5:=j 5;have f6:=j 6;have f7:=j 7;have f8:=j 8;clear D n M p q r o j xf;go_wp2;refine bodyPost_ret (v:=valT ⟨mkT ⟨5,[],y.1,0,a⟩ TR.none_,mkQ TR.none_,w1.heap.size,w1.heap.size⟩) (by simp[results,Tryz.results134,go_sem,valT,mkT,mkQ,TR.none_,r0,r1,r2,r3,r4,r5,r6,r7,r8,rl]) rfl ?_;have O:=end9 G.out H.out (Z2p w1 ⟨5,[],y.1,0,a⟩ ⟨by simp,C,by simp,HA.out,by simp⟩) (rb:=w.heap.size) (Nat.le_refl _) (Or.inl (by simp only; omega)) Z;exact ⟨_,rfl,(O _ _ _ _ _ _ _ _ _).1,(O _ _ _ _ _ _ _ _ _).2.1,(O _ _ _ _ _ _ _ _ _).2.2,by simp only; omega,rfl,Z1Y _⟩}
 {have V:Hid (Pso.valueE l σ a=({ Prs.tm 5 a with of_:=(Pso.name l σ).1,name:=(Pso.name l ((Pso.name l σ).2.1+1,(Pso.name l σ).2.2)).1 },(Pso.name l ((Pso.name l σ).2.1+1,(Pso.name l σ).2.2)).2)):=Y1 (by unfold Pso.valueE; simp only; rw[Q]; rfl);rw[V.out];have N:=Y1 (fun (w:World) (h:PAt w bp A c l (Pso.name l σ).2) (b:Nat) (hb:b=w.heap.size)=>Z0N Q J U.1.1 w h (hb0:=hb));have t2:=Pso.to_next U.1 (Pso.sign_lt Q);have L:=Y1 (fun (w:World) (h:PAt w bp A c l ((Pso.name l σ).2.1+1,(Pso.name l σ).2.2))=>Z1a bp A c l _ (by omega) t2.1.1 HL.out.txt w h);have hn2:=Z0q HL.out.txt ((Pso.name l σ).2.1+1,(Pso.name l σ).2.2) 1 (by decide) Lex.isName;change (Pso.name l ((Pso.name l σ).2.1+1,(Pso.name l σ).2.2)).1.length<=1000000 at hn2;obtain ⟨z,hz⟩: ∃z,z=Pso.name l ((Pso.name l σ).2.1+1,(Pso.name l σ).2.2):=⟨_,rfl⟩;rw[<-hz] at L hn2 ⊢;obtain ⟨y,hy⟩: ∃y,y=Pso.name l σ:=⟨_,rfl⟩;rw[<-hy] at T N L C ⊢;clear Q U V X hy hz t2;go_enter Tryz.func134,Tryz.ntmps134
  go_wp2_with fail
  refine T.out.mono ?_;rintro e g ⟨rfl,s,m⟩;have a8:w.heap.size+1<=g.heap.size:=by have:=m.size; simpa using this
  have p:=Y1 (s.alloc (.cells #[.int .i64 5,.string ⟨#[]⟩,.string ⟨y.1.toArray⟩,.int .i64 0,.slice none 0 0,.slice none 0 0,.slice none 0 0,.slice none 0 0,.int .i64 a] 26));have q:=Y1 (((Z05 (F:= [bp]) E.out).trans m).alloc (.cells #[.int .i64 5,.string ⟨#[]⟩,.string ⟨y.1.toArray⟩,.int .i64 0,.slice none 0 0,.slice none 0 0,.slice none 0 0,.slice none 0 0,.int .i64 a] 26));have r:=Y1 ((I.out.up m (by simp; omega)).below (Z01 g (.cells #[.int .i64 5,.string ⟨#[]⟩,.string ⟨y.1.toArray⟩,.int .i64 0,.slice none 0 0,.slice none 0 0,.slice none 0 0,.slice none 0 0,.int .i64 a] 26)));have o:=Y1 (Z0h g (.int .i64 5) (.string ⟨#[]⟩) (.string ⟨y.1.toArray⟩) (.int .i64 0) (.slice none 0 0) (.slice none 0 0) (.slice none 0 0) (.slice none 0 0) (.int .i64 a) 26);have P:bp < g.heap.size:=s.lt;clear s m T E I
  go_wp2_with fail
  have B:=Y1 (show g.heap.size+1=(g.alloc (.cells #[.int .i64 5,.string ⟨#[]⟩,.string ⟨y.1.toArray⟩,.int .i64 0,.slice none 0 0,.slice none 0 0,.slice none 0 0,.slice none 0 0,.int .i64 a] 26)).heap.size by simp);generalize g.alloc (.cells #[.int .i64 5,.string ⟨#[]⟩,.string ⟨y.1.toArray⟩,.int .i64 0,.slice none 0 0,.slice none 0 0,.slice none 0 0,.slice none 0 0,.int .i64 a] 26)=W0 at B p q r o ⊢;refine (N.out W0 p.out _ B.out).mono ?_;rintro e w1 ⟨rfl,D,n⟩;have G:=Y1 D;have H:=Y1 (q.out.trans n);have Y:=Y1 (r.out.up n (by simp; omega));have t:=Y1 (o.out.up n (by simp; omega));clear D n N p q r o
  go_wp2_with fail
  refine Z2c (rs:= [0,1,2,3,4,5,6,7,8,9]) (fun u=> { tmps:=#[.pointer (some ⟨bp,0,none⟩),.int .i64 a,undef,undef,.pointer (some ⟨w.heap.size,0,none⟩),.pointer (some ⟨g.heap.size,0,none⟩),.pointer (some ⟨bp,0,none⟩),.pointer (some ⟨bp,0,none⟩),.pointer (some ⟨bp,0,none⟩),.string ⟨y.1.toArray⟩,.int .i64 a,.agg #[.int .i64 5,.string ⟨#[]⟩,.string ⟨y.1.toArray⟩,.int .i64 0,.slice none 0 0,.slice none 0 0,.slice none 0 0,.slice none 0 0,.int .i64 a],.pointer (some ⟨bp,0,none⟩),.pointer (some ⟨bp,0,none⟩),.pointer (some ⟨bp,0,none⟩),.slice (some ⟨g.heap.size+1,0,none⟩) 1 1,.bool true,u 0,u 1,u 2,u 3,u 4,u 5,u 6,u 8,undef],defers:= [] }) (fun _=>undef)
   (VInv w1 bp A c l z.2 g.heap.size y.1 z.1) (by kernel_rfl) (by kernel_rfl) (by kernel_rfl) ⟨nofun,nofun,nofun,nofun,nofun,nofun,nofun,nofun,nofun,nofun,fun _=>Y2.drew,nofun,nofun⟩ ?_ ?_
  refine StepsInv.cons _ rfl (fun d u W K' i k hw hK=> ?_) ?_
  {refine Z02 (v:= .pointer (some ⟨g.heap.size,2,none⟩)) (W':=W) rfl ?_ (hK.out _ _ (i.pure (by simp)))
   try dsimp only
   go_simp}
  refine StepsInv.cons _ rfl (fun d u W K' i k hw hK=> ?_) ?_
  {have d0:=i.v0 (hw 0 (by kernel_rfl));obtain ⟨x0,x1,x2,x3,x4,x5,x6,x7,x8,xf,S⟩:=t.out.up (i.up (i.not5 (by omega) k)) (by simp; omega);refine Z02 (v:= .string ⟨y.1.toArray⟩) (W':=W) rfl ?_ (hK.out _ _ (i.pure (by simp)))
   try dsimp only
   go_simp}
  refine StepsInv.cons _ rfl (fun d u W K' i k hw hK=> ?_) ?_
  {refine Z02 (v:= .pointer (some ⟨bp,0,none⟩)) (W':=W) rfl ?_ (hK.out _ _ (i.pure (by simp)))
   try dsimp only
   go_simp}
  refine StepsInv.cons _ rfl (fun d u W K' i k hw hK=> ?_) ?_
  {have d2:=i.v2 (hw 2 (by kernel_rfl));refine Z02 (v:= .pointer (some ⟨bp,0,none⟩)) (W':=W) rfl ?_ (hK.out _ _ (i.pure (by simp)))
   try dsimp only
   go_simp}
  refine StepsInv.cons _ rfl (fun d u W K' i k hw hK=> ?_) ?_
  {have d3:=i.vA (hw 3 (by kernel_rfl));refine Z02 (v:= .pointer (some ⟨bp,0,none⟩)) (W':=W) rfl ?_ (hK.out _ _ (i.pure (by simp)))
   try dsimp only
   all_goals first | (go_simp; done) | (go_simp; rfl)}
  refine StepsInv.cons _ rfl (fun d u W K' i k hw hK=> ?_) ?_
  {have d4:=i.vB (hw 4 (by kernel_rfl));refine Z0M (f:=92) (args:=#[.pointer (some ⟨bp,0,none⟩)]) (W':=W) rfl ?_ ((L.out W (G.out.below (i.pre k))).mono ?_)
   {try dsimp only
    go_simp}
   {rintro e W' ⟨rfl,h1,h2⟩;exact ⟨_,rfl,hK.out _ _ (i.s3 k h1 h2)⟩}}
  refine StepsInv.cons _ rfl (fun d u W K' i k hw hK=> ?_) ?_
  {refine Z02 (v:= .pointer (some ⟨g.heap.size,1,none⟩)) (W':=W) rfl ?_ (hK.out _ _ (i.pure (by simp)))
   try dsimp only
   go_simp}
  refine StepsInv.cons _ rfl (fun d u W K' i k hw hK=> ?_) ?_
  {have d4:=i.v4 (hw 6 (by kernel_rfl));have d1:=i.v1 (hw 1 (by kernel_rfl));obtain ⟨x0,x1,x2,x3,x4,x5,x6,x7,x8,xf,S⟩:=t.out.up (i.up k) (by simp; omega);have f1:=xf 1;refine Z0B (W':=W.setCell ⟨g.heap.size,1,none⟩ (.string ⟨y.1.toArray⟩)) rfl ?_ (hK.out _ _ (i.s5 k (hw 5 (by kernel_rfl)) (hw 1 (by kernel_rfl)) undef))
   try dsimp only
   go_simp}
  refine StepsInv.cons _ rfl (fun d u W K' i k hw hK=> ?_) ?_
  {refine Z02 (v:= .pointer (some ⟨g.heap.size,2,none⟩)) (W':=W) rfl ?_ (hK.out _ _ (i.pure (by simp)))
   try dsimp only
   go_simp}
  refine StepsInv.cons _ rfl (fun d u W K' i k hw hK=> ?_) StepsInv.nil
  {have d6:=i.v6 (hw 8 (by kernel_rfl));have d3:=i.v3 (hw 5 (by kernel_rfl));obtain ⟨Wm,k1,k2,K⟩:=i.late (hw 7 (by kernel_rfl));rw[k,if_neg (by simp)] at K;obtain ⟨x0,x1,x2,x3,x4,x5,x6,x7,x8,xf,S⟩:=t.out.up k2 (by simp; omega);have c2:W.cell? ⟨g.heap.size,2,none⟩=some (.string ⟨y.1.toArray⟩):=by rw[K,World.cell?_setCell_other _ _ _ _ (fun e=>by have:=congrArg Addr.off e; simp at this)]; exact x2
   have f2:W.frozen? ⟨g.heap.size,2,none⟩=false:=by rw[K,World.frozen?_setCell]; exact xf 2
   have wl:g.heap.size < W.heap.size:=by rw[K]; simpa[World.setCell] using S
   have h7:=i.s7 k (hw 7 (by kernel_rfl)) undef;clear K xf S x0 x1 x2 x3 x4 x5 x6 x7 x8;refine Z0B (W':=W.setCell ⟨g.heap.size,2,none⟩ (.string ⟨z.1.toArray⟩)) rfl ?_ (hK.out _ _ h7)
   try dsimp only
   go_simp}
  intro d u W i k;obtain ⟨Wm,k1,k2,K⟩:=i.late (k 7 (by decide));rw[k 9 (by decide),if_pos rfl] at K;have a5:=Y1 k1;have a6:=Y1 (H.out.trans k2);obtain ⟨r0,r1,r2,r3,r4,r5,r6,r7,r8,j,rl⟩:=Y.out.up k2 (by simp; omega);obtain ⟨x0,x1,x2,x3,x4,x5,x6,x7,x8,xf,S⟩:=t.out.up k2 (by simp; omega);have f0:=j 0;have f1:=j 1;have f2:=j 2;have f3:=j 3;have f4:=j 4;have f5:=j 5;have f6:=j 6;have f7:=j 7;have f8:=j 8;have a7:w.heap.size≠g.heap.size:=by omega
  have g3:g.heap.size < Wm.heap.size:=S;subst K;clear k1 k2 i k j xf G H Y t;go_wp2;have hP:=(a5.out.set ⟨g.heap.size,1,none⟩ P (.string ⟨y.1.toArray⟩)).set ⟨g.heap.size,2,none⟩ P (.string ⟨z.1.toArray⟩);have hU:=(a6.out.set ⟨g.heap.size,1,none⟩ (Or.inl (by simp only; omega)) (.string ⟨y.1.toArray⟩)).set ⟨g.heap.size,2,none⟩ (Or.inl (by simp only; omega)) (.string ⟨z.1.toArray⟩);have a1: ((Wm.setCell ⟨g.heap.size,1,none⟩ (.string ⟨y.1.toArray⟩)).setCell ⟨g.heap.size,2,none⟩ (.string ⟨z.1.toArray⟩)).heap.size=Wm.heap.size:=by simp[World.setCell]
  refine bodyPost_ret (v:=valT ⟨mkT ⟨5,y.1,z.1,0,a⟩ TR.none_,mkQ TR.none_,Wm.heap.size,Wm.heap.size⟩) (by simp[results,Tryz.results134,go_sem,valT,mkT,mkQ,TR.none_,r0,r1,r2,r3,r4,r5,r6,r7,r8,rl,a7]) rfl ?_;generalize (Wm.setCell ⟨g.heap.size,1,none⟩ (.string ⟨y.1.toArray⟩)).setCell ⟨g.heap.size,2,none⟩ (.string ⟨z.1.toArray⟩)=Wx at hP hU a1 ⊢;rw[<-a1]
  {have O:=end9 hP hU (Z2p Wx ⟨5,y.1,z.1,0,a⟩ ⟨C,hn2,by simp,HA.out,by simp⟩) (rb:=w.heap.size) (Nat.le_refl _) (Or.inl (by simp only; omega)) Z;exact ⟨_,rfl,(O _ _ _ _ _ _ _ _ _).1,(O _ _ _ _ _ _ _ _ _).2.1,(O _ _ _ _ _ _ _ _ _).2.2,by simp only; omega,rfl,Z1Y _⟩}}
theorem Z5O {W:World} {b:Nat} {q r s t u v w y z:Value} (h:Nine W b q r s t u v w y z) (a c d e g i k l m:Value):Nine (Z10 W b a c d e g i k l m) b a c d e g i k l m:=by
 obtain ⟨n,c1,c2,c3,c4,c5,c6,c7,o,f,p⟩:=h;refine ⟨?_, ?_, ?_, ?_, ?_, ?_, ?_, ?_, ?_,fun j=> ?_, ?_⟩
 all_goals simp[Z10,go_sem,n,c1,c2,c3,c4,c5,c6,c7,o,f,p]
structure ESt (w:World) (bp:Nat) (A:Option Addr) (c:Nat) (l:List Tk) (τ:St) (q:Sh) (u1:Value) (W:World) (s:ES):Prop where
 u1:u1=valS s
 par:PAt W bp A c l τ
 is:s.Is W
 lo:w.heap.size<=s.lo
 t:s.t=q
structure EInv (w:World) (bp:Nat) (A:Option Addr) (c:Nat) (l:List Tk) (τ:St) (q:Sh) (ob:Nat) (x:ET) (a:Int) (d:Nat->Bool) (u:Nat->Value) (W:World):Prop where
 v0:d 0=true->u 0= .pointer (some ⟨bp,0,none⟩)
 v3:d 3=true->u 3=valT x
 v5:d 5=true->u 5= .int .i64 a
 e2:d 2=true->d 1=true
 e4:d 4=true->d 3=true
 e6:d 6=true->d 2=true/\d 4=true/\d 5=true
 e7:d 7=true->d 6=true
 pre:d 1=false->Below w.heap.size w W
 up:d 7=false->UpT [bp] w W
 s1:d 1=true->d 7=false-> ∃s,ESt w bp A c l τ q (u 1) W s/\(d 2=true-> ∃g,u 2= .slice (some ⟨g,0,none⟩) 1 1/\Row W w.heap.size 43 5 cS (some ⟨g,0,none⟩) 1 [s])
 s4:d 4=true->d 7=false-> ∃g,u 4= .slice (some ⟨g,0,none⟩) 1 1/\Row W w.heap.size 26 9 cT (some ⟨g,0,none⟩) 1 [x]
 v6:d 6=true-> ∃g g',u 2= .slice (some ⟨g,0,none⟩) 1 1/\u 4= .slice (some ⟨g',0,none⟩) 1 1/\u 6= .agg #[.int .i64 15,.string ⟨#[]⟩,.string ⟨#[]⟩,.int .i64 0,.slice none 0 0,.slice none 0 0,.slice (some ⟨g,0,none⟩) 1 1,.slice (some ⟨g',0,none⟩) 1 1,.int .i64 a]
 fin:d 7=true-> ∃Wm s g g' v,ESt w bp A c l τ q v Wm s/\Row Wm w.heap.size 43 5 cS (some ⟨g,0,none⟩) 1 [s]/\Row Wm w.heap.size 26 9 cT (some ⟨g',0,none⟩) 1 [x]/\UpT [bp] w Wm/\W=Z10 Wm ob (.int .i64 15) (.string ⟨#[]⟩) (.string ⟨#[]⟩) (.int .i64 0) (.slice none 0 0) (.slice none 0 0) (.slice (some ⟨g,0,none⟩) 1 1) (.slice (some ⟨g',0,none⟩) 1 1) (.int .i64 a)
section
variable {w : World} {bp : Nat} {A : Option Addr} {c : Nat} {l : List Tk} {τ : St} {q : Sh} {ob : Nat} {x : ET} {a : Int} {d : Nat -> Bool} {u : Nat -> Value} {W W' : World}
section
variable (h : EInv w bp A c l τ q ob x a d u W)
include h
theorem EInv.not7 {i:Nat} (p:i≠0/\i < 8) (b:d i=false) (o:i=3\/i=1\/i=2\/i=4\/i=5\/i=6\/i=7):d 7=false:=by
 cases e:d 7 with
 | false=>rfl
 | true=>
  have j:=h.e7 e;obtain ⟨f,g,n⟩:=h.e6 j;have k:=h.e2 f;have m:=h.e4 g;rcases o with rfl | rfl | rfl | rfl | rfl | rfl | rfl
  {rw[b] at m; cases m}
  {rw[b] at k; cases k}
  {rw[b] at f; cases f}
  {rw[b] at g; cases g}
  {rw[b] at n; cases n}
  {rw[b] at j; cases j}
  {rw[b] at e; cases e}
theorem EInv.p0 (v:Value) (b:v= .pointer (some ⟨bp,0,none⟩)):EInv w bp A c l τ q ob x a (also d 0) (upd u 0 v) W:=by
 have k: ∀j,j≠0->also d 0 j=d j/\upd u 0 v j=u j:=fun j hj=>⟨PtxT.ne9 d hj,Z06 u _ hj⟩;refine ⟨fun _=>by rw[Z09]; exact b,(by rw[(k 3 (by omega)).1,(k 3 (by omega)).2]; exact h.v3),(by rw[(k 5 (by omega)).1,(k 5 (by omega)).2]; exact h.v5),(by rw[(k 2 (by omega)).1,(k 1 (by omega)).1]; exact h.e2),(by rw[(k 4 (by omega)).1,(k 3 (by omega)).1]; exact h.e4),(by rw[(k 6 (by omega)).1,(k 2 (by omega)).1,(k 4 (by omega)).1,(k 5 (by omega)).1]; exact h.e6),(by rw[(k 7 (by omega)).1,(k 6 (by omega)).1]; exact h.e7),(by rw[(k 1 (by omega)).1]; exact h.pre),(by rw[(k 7 (by omega)).1]; exact h.up),(by rw[(k 1 (by omega)).1,(k 7 (by omega)).1,(k 1 (by omega)).2,(k 2 (by omega)).1,(k 2 (by omega)).2]; exact h.s1),(by rw[(k 4 (by omega)).1,(k 7 (by omega)).1,(k 4 (by omega)).2]; exact h.s4),(by rw[(k 6 (by omega)).1,(k 2 (by omega)).2,(k 4 (by omega)).2,(k 6 (by omega)).2]; exact h.v6),(by rw[(k 7 (by omega)).1]; exact h.fin)⟩
theorem EInv.p3 (v:Value) (b:v=valT x):EInv w bp A c l τ q ob x a (also d 3) (upd u 3 v) W:=by
 have k: ∀j,j≠3->also d 3 j=d j/\upd u 3 v j=u j:=fun j hj=>⟨PtxT.ne9 d hj,Z06 u _ hj⟩;refine ⟨(by rw[(k 0 (by omega)).1,(k 0 (by omega)).2]; exact h.v0),fun _=>by rw[Z09]; exact b,(by rw[(k 5 (by omega)).1,(k 5 (by omega)).2]; exact h.v5),(by rw[(k 2 (by omega)).1,(k 1 (by omega)).1]; exact h.e2),(fun _=>PtxT.self9 _ _),(by rw[(k 6 (by omega)).1,(k 2 (by omega)).1,(k 4 (by omega)).1,(k 5 (by omega)).1]; exact h.e6),(by rw[(k 7 (by omega)).1,(k 6 (by omega)).1]; exact h.e7),(by rw[(k 1 (by omega)).1]; exact h.pre),(by rw[(k 7 (by omega)).1]; exact h.up),(by rw[(k 1 (by omega)).1,(k 7 (by omega)).1,(k 1 (by omega)).2,(k 2 (by omega)).1,(k 2 (by omega)).2]; exact h.s1),(by rw[(k 4 (by omega)).1,(k 7 (by omega)).1,(k 4 (by omega)).2]; exact h.s4),(by rw[(k 6 (by omega)).1,(k 2 (by omega)).2,(k 4 (by omega)).2,(k 6 (by omega)).2]; exact h.v6),(by rw[(k 7 (by omega)).1]; exact h.fin)⟩
theorem EInv.p5 (v:Value) (b:v= .int .i64 a):EInv w bp A c l τ q ob x a (also d 5) (upd u 5 v) W:=by
 have k: ∀j,j≠5->also d 5 j=d j/\upd u 5 v j=u j:=fun j hj=>⟨PtxT.ne9 d hj,Z06 u _ hj⟩;refine ⟨(by rw[(k 0 (by omega)).1,(k 0 (by omega)).2]; exact h.v0),(by rw[(k 3 (by omega)).1,(k 3 (by omega)).2]; exact h.v3),fun _=>by rw[Z09]; exact b,(by rw[(k 2 (by omega)).1,(k 1 (by omega)).1]; exact h.e2),(by rw[(k 4 (by omega)).1,(k 3 (by omega)).1]; exact h.e4),(by rw[(k 6 (by omega)).1,(k 2 (by omega)).1,(k 4 (by omega)).1]; exact fun e=>⟨(h.e6 e).1,(h.e6 e).2.1,PtxT.self9 _ _⟩),(by rw[(k 7 (by omega)).1,(k 6 (by omega)).1]; exact h.e7),(by rw[(k 1 (by omega)).1]; exact h.pre),(by rw[(k 7 (by omega)).1]; exact h.up),(by rw[(k 1 (by omega)).1,(k 7 (by omega)).1,(k 1 (by omega)).2,(k 2 (by omega)).1,(k 2 (by omega)).2]; exact h.s1),(by rw[(k 4 (by omega)).1,(k 7 (by omega)).1,(k 4 (by omega)).2]; exact h.s4),(by rw[(k 6 (by omega)).1,(k 2 (by omega)).2,(k 4 (by omega)).2,(k 6 (by omega)).2]; exact h.v6),(by rw[(k 7 (by omega)).1]; exact h.fin)⟩
theorem EInv.c1 (m:d 1=false) (t:bp < w.heap.size) {s:ES} (v:Value) (n:UpT [bp] W W') (z:ESt w bp A c l τ q v W' s):EInv w bp A c l τ q ob x a (also d 1) (upd u 1 v) W':=by
 have k: ∀j,j≠1->also d 1 j=d j/\upd u 1 v j=u j:=fun j hj=>⟨PtxT.ne9 d hj,Z06 u _ hj⟩;have o:d 2=false:=by cases e:d 2 with | false=>rfl | true=>have:=h.e2 e; rw[m] at this; cases this
 have b:=h.not7 (i:=1) (by omega) m (by omega);refine ⟨(by rw[(k 0 (by omega)).1,(k 0 (by omega)).2]; exact h.v0),(by rw[(k 3 (by omega)).1,(k 3 (by omega)).2]; exact h.v3),(by rw[(k 5 (by omega)).1,(k 5 (by omega)).2]; exact h.v5),(fun _=>PtxT.self9 _ _),(by rw[(k 4 (by omega)).1,(k 3 (by omega)).1]; exact h.e4),(by rw[(k 6 (by omega)).1,(k 2 (by omega)).1,(k 4 (by omega)).1,(k 5 (by omega)).1]; exact h.e6),(by rw[(k 7 (by omega)).1,(k 6 (by omega)).1]; exact h.e7),(by rw[PtxT.self9]; intro e; cases e),(fun _=>(h.up b).trans n),(fun _ _=>⟨s,by rw[Z09]; exact z,by rw[(k 2 (by omega)).1,o]; intro e; cases e⟩),(by
  rw[(k 4 (by omega)).1,(k 4 (by omega)).2];intro r _;obtain ⟨g,p,f⟩:=h.s4 r b;exact ⟨g,p,f.up n (fun y hy=>by simp at hy; subst hy; intro e; have:=f.lt _ e; omega)⟩),(by rw[(k 6 (by omega)).1,(k 2 (by omega)).2,(k 4 (by omega)).2,(k 6 (by omega)).2]; exact h.v6),(by rw[(k 7 (by omega)).1,b]; intro e; cases e)⟩
theorem EInv.c2 (p:d 2=false) (o:d 1=true) {s:ES} {g:Nat} (v:Value) (f:Below W.heap.size W W') (b:ESt w bp A c l τ q (u 1) W s) (B:v= .slice (some ⟨g,0,none⟩) 1 1) (z:Row W' w.heap.size 43 5 cS (some ⟨g,0,none⟩) 1 [s]):EInv w bp A c l τ q ob x a (also d 2) (upd u 2 v) W':=by
 have k: ∀j,j≠2->also d 2 j=d j/\upd u 2 v j=u j:=fun j hj=>⟨PtxT.ne9 d hj,Z06 u _ hj⟩;have m:=h.not7 (i:=2) (by omega) p (by omega);have n:d 6=false:=by cases e:d 6 with | false=>rfl | true=>have:=(h.e6 e).1; rw[p] at this; cases this
 refine ⟨(by rw[(k 0 (by omega)).1,(k 0 (by omega)).2]; exact h.v0),(by rw[(k 3 (by omega)).1,(k 3 (by omega)).2]; exact h.v3),(by rw[(k 5 (by omega)).1,(k 5 (by omega)).2]; exact h.v5),(by rw[(k 1 (by omega)).1]; exact fun _=>o),(by rw[(k 4 (by omega)).1,(k 3 (by omega)).1]; exact h.e4),(by rw[(k 6 (by omega)).1,n]; intro e; cases e),(by rw[(k 7 (by omega)).1,(k 6 (by omega)).1]; exact h.e7),(by rw[(k 1 (by omega)).1,o]; intro e; cases e),(fun _=>(h.up m).below f),(fun _ _=>⟨s,by rw[(k 1 (by omega)).2]; exact ⟨b.u1,b.par.below f,New.below b.is f,b.lo,b.t⟩,fun _=>⟨g,by rw[Z09]; exact B,z⟩⟩),(by
  rw[(k 4 (by omega)).1,(k 4 (by omega)).2];intro y _;obtain ⟨g,r,t⟩:=h.s4 y m;exact ⟨g,r,t.below f⟩),(by rw[(k 6 (by omega)).1,n]; intro e; cases e),(by rw[(k 7 (by omega)).1,m]; intro e; cases e)⟩
theorem EInv.c4 (o:d 4=false) (z:d 3=true) {g:Nat} (v:Value) (b:Below W.heap.size W W') (C:v= .slice (some ⟨g,0,none⟩) 1 1) (B:Row W' w.heap.size 26 9 cT (some ⟨g,0,none⟩) 1 [x]):EInv w bp A c l τ q ob x a (also d 4) (upd u 4 v) W':=by
 have k: ∀j,j≠4->also d 4 j=d j/\upd u 4 v j=u j:=fun j hj=>⟨PtxT.ne9 d hj,Z06 u _ hj⟩;have m:=h.not7 (i:=4) (by omega) o (by omega);have n:d 6=false:=by cases e:d 6 with | false=>rfl | true=>have:=(h.e6 e).2.1; rw[o] at this; cases this
 refine ⟨(by rw[(k 0 (by omega)).1,(k 0 (by omega)).2]; exact h.v0),(by rw[(k 3 (by omega)).1,(k 3 (by omega)).2]; exact h.v3),(by rw[(k 5 (by omega)).1,(k 5 (by omega)).2]; exact h.v5),(by rw[(k 2 (by omega)).1,(k 1 (by omega)).1]; exact h.e2),(by rw[(k 3 (by omega)).1]; exact fun _=>z),(by rw[(k 6 (by omega)).1,n]; intro e; cases e),(by rw[(k 7 (by omega)).1,(k 6 (by omega)).1]; exact h.e7),(by rw[(k 1 (by omega)).1]; exact fun e=>(Z00 (h.pre e) b)),(fun _=>(h.up m).below b),(by
  rw[(k 1 (by omega)).1,(k 1 (by omega)).2,(k 2 (by omega)).1,(k 2 (by omega)).2];intro t _;obtain ⟨s,f,y⟩:=h.s1 t m;refine ⟨s,⟨f.u1,f.par.below b,New.below f.is b,f.lo,f.t⟩,fun e=> ?_⟩;obtain ⟨g,p,r⟩:=y e;exact ⟨g,p,r.below b⟩),(fun _ _=>⟨g,by rw[Z09]; exact C,B⟩),(by rw[(k 6 (by omega)).1,n]; intro e; cases e),(by rw[(k 7 (by omega)).1,m]; intro e; cases e)⟩
theorem EInv.c6 (p:d 6=false) (e:d 2=true) (f:d 4=true) (i:d 5=true) {g b:Nat} (v:Value) (n:u 2= .slice (some ⟨g,0,none⟩) 1 1) (o:u 4= .slice (some ⟨b,0,none⟩) 1 1) (m:v= .agg #[.int .i64 15,.string ⟨#[]⟩,.string ⟨#[]⟩,.int .i64 0,.slice none 0 0,.slice none 0 0,.slice (some ⟨g,0,none⟩) 1 1,.slice (some ⟨b,0,none⟩) 1 1,.int .i64 a]):EInv w bp A c l τ q ob x a (also d 6) (upd u 6 v) W:=by
 have k: ∀j,j≠6->also d 6 j=d j/\upd u 6 v j=u j:=fun j hj=>⟨PtxT.ne9 d hj,Z06 u _ hj⟩;refine ⟨(by rw[(k 0 (by omega)).1,(k 0 (by omega)).2]; exact h.v0),(by rw[(k 3 (by omega)).1,(k 3 (by omega)).2]; exact h.v3),(by rw[(k 5 (by omega)).1,(k 5 (by omega)).2]; exact h.v5),(by rw[(k 2 (by omega)).1,(k 1 (by omega)).1]; exact h.e2),(by rw[(k 4 (by omega)).1,(k 3 (by omega)).1]; exact h.e4),(by rw[(k 2 (by omega)).1,(k 4 (by omega)).1,(k 5 (by omega)).1]; exact fun _=>⟨e,f,i⟩),(fun _=>PtxT.self9 _ _),(by rw[(k 1 (by omega)).1]; exact h.pre),(by rw[(k 7 (by omega)).1]; exact h.up),(by rw[(k 1 (by omega)).1,(k 7 (by omega)).1,(k 1 (by omega)).2,(k 2 (by omega)).1,(k 2 (by omega)).2]; exact h.s1),(by rw[(k 4 (by omega)).1,(k 7 (by omega)).1,(k 4 (by omega)).2]; exact h.s4),(fun _=>⟨g,b,by rw[(k 2 (by omega)).2]; exact n,by rw[(k 4 (by omega)).2]; exact o,by rw[Z09]; exact m⟩),(by rw[(k 7 (by omega)).1]; exact h.fin)⟩
theorem EInv.c7 (m:d 7=false) (i:d 6=true) {s:ES} {g b:Nat} (v:Value) (o:ESt w bp A c l τ q (u 1) W s) (n:Row W w.heap.size 43 5 cS (some ⟨g,0,none⟩) 1 [s]) (f:Row W w.heap.size 26 9 cT (some ⟨b,0,none⟩) 1 [x]):EInv w bp A c l τ q ob x a (also d 7) (upd u 7 v) (Z10 W ob (.int .i64 15) (.string ⟨#[]⟩) (.string ⟨#[]⟩) (.int .i64 0) (.slice none 0 0) (.slice none 0 0) (.slice (some ⟨g,0,none⟩) 1 1) (.slice (some ⟨b,0,none⟩) 1 1) (.int .i64 a)):=by
 have k: ∀j,j≠7->also d 7 j=d j/\upd u 7 v j=u j:=fun j hj=>⟨PtxT.ne9 d hj,Z06 u _ hj⟩;refine ⟨(by rw[(k 0 (by omega)).1,(k 0 (by omega)).2]; exact h.v0),(by rw[(k 3 (by omega)).1,(k 3 (by omega)).2]; exact h.v3),(by rw[(k 5 (by omega)).1,(k 5 (by omega)).2]; exact h.v5),(by rw[(k 2 (by omega)).1,(k 1 (by omega)).1]; exact h.e2),(by rw[(k 4 (by omega)).1,(k 3 (by omega)).1]; exact h.e4),(by rw[(k 6 (by omega)).1,(k 2 (by omega)).1,(k 4 (by omega)).1,(k 5 (by omega)).1]; exact h.e6),(by rw[(k 6 (by omega)).1]; exact fun _=>i),(by rw[(k 1 (by omega)).1,h.e2 (h.e6 i).1]; intro e; cases e),(by rw[PtxT.self9]; intro e; cases e),(by rw[PtxT.self9]; intro _ e; cases e),(by rw[PtxT.self9]; intro _ e; cases e),(by rw[(k 6 (by omega)).1,(k 2 (by omega)).2,(k 4 (by omega)).2,(k 6 (by omega)).2]; exact h.v6),(fun _=>⟨W,s,g,b,_,o,n,f,h.up m,rfl⟩)⟩
end
end
theorem Z7H (bp:Nat) (A:Option Addr) (c:Nat) (l:List Tk) (m:Nat) (σ:St) (a:Int) (hl:TokOk l) (ha: -9223372036854775808<=a/\a<=9223372036854775807) (hσ:Ok l σ) (P:ExC bp A c l m) (hm:l.length - σ.1 < m) (w:World) (h:PAt w bp A c l σ):
 Calls Tryz.prog 129 #[.pointer (some ⟨bp,0,none⟩),.int .i64 a] w (TmIs bp A c l (Pso.enclosedE l (Pso.expr l m) σ a) w):=by
 have c8:=h.lt;have H:=hl.len;have t1:=Pso.to_expr m _ hσ;have hb0:=Z01 w (.cells Ya 26);have d9:=Z0h w (.int .i64 0) (.string ⟨#[]⟩) (.string ⟨#[]⟩) (.int .i64 0) (.slice none 0 0) (.slice none 0 0) (.slice none 0 0) (.slice none 0 0) (.int .i64 0) 26;have G:=Y1 (P _ σ hσ hm (h.below hb0));have S:=Y1 hb0;have Y:=Y1 d9;have HL:=Y1 hl;have HA:=Y1 ha;have b8:=Y1 t1;clear h hb0 d9 hl ha P hm;cases hs:Prs.sign l (Pso.expr l m σ).2.1 [97,115]
 {have HF:Hid (Pso.enclosedE l (Pso.expr l m) σ a=((Pso.expr l m σ).1,want l (Pso.expr l m σ).2 [41])):=Y1 (by unfold Pso.enclosedE; simp only; rw[hs]; rfl);rw[HF.out];have a5:=Y1 (fun (w:World) (h:PAt w bp A c l (Pso.expr l m σ).2) (b:Nat) (hb:b=w.heap.size)=>Z0C hs H t1.1.1 w h (hb0:=hb));have HW:=Y1 (fun (w:World) (h:PAt w bp A c l (Pso.expr l m σ).2)=>Z0d bp A c l _ [41] (by omega) t1.1.1 w h);obtain ⟨y,hy⟩: ∃y,y=Pso.expr l m σ:=⟨_,rfl⟩;rw[<-hy] at G a5 HW ⊢;clear hs t1 HF b8 hy;go_enter Tryz.func129,Tryz.ntmps129
  go_wp2_with fail
  refine G.out.mono ?_;rintro e k ⟨x,rfl,hp1,hu1,hx,hlo,O⟩;have a0:w.heap.size+1<=x.lo:=by simpa using hlo
  have g5:w.heap.size+1<=k.heap.size:=by have:=hu1.size; simpa using this
  have t:=Y1 (hp1.alloc (.cells (Y7 x.t x.q) 26));have C:=Y1 (((Z05 (F:= [bp]) S.out).trans hu1).alloc (.cells (Y7 x.t x.q) 26));have D:=Y1 (show x.Is _ from New.below hx (Z01 k (.cells (Y7 x.t x.q) 26)));have r:=Y1 (Z0h k (.int .i64 x.t.kind) (.string ⟨x.t.of_.toArray⟩) (.string ⟨x.t.name.toArray⟩) (.int .i64 x.t.n) (.slice x.q.A x.t.names.length x.q.c) (.slice x.q.V x.t.vars.length x.q.e) (.slice x.q.S x.t.shapes.length x.q.s) (.slice x.q.P x.t.parts.length x.q.d) (.int .i64 x.t.at_) 26);have E:=Y1 ((Y.out.up hu1 (by simp; omega)).below (Z01 k (.cells (Y7 x.t x.q) 26)));have f9:bp < k.heap.size:=hp1.lt;have X:=Y1 O;clear hp1 hu1 hx hlo O G Y S;simp only[valT]
  go_wp2_with fail
  have M:=Y1 (show k.heap.size+1=(k.alloc (.cells (Y7 x.t x.q) 26)).heap.size by simp);generalize k.alloc (.cells (Y7 x.t x.q) 26)=W1 at M t C D r E ⊢;refine (a5.out W1 t.out _ M.out).mono ?_;rintro e w2 ⟨rfl,hp2,o⟩;have I:=Y1 hp2;have J:=Y1 (C.out.trans o);have K:=Y1 (show x.Is w2 from New.up D.out o (by simp; omega));have p:=Y1 (r.out.up o (by simp; omega));have L:=Y1 (E.out.up o (by simp; omega));clear hp2 o a5 t C D r E
  go_wp2_with fail
  refine (HW.out w2 I.out).mono ?_;rintro e w3 ⟨v3,rfl,hp3,N⟩;have T:=Y1 hp3;have U:=Y1 (J.out.trans N);have V:=Y1 (show x.Is w3 from New.up K.out N (by simp; omega));obtain ⟨r0,r1,r2,r3,r4,r5,r6,r7,r8,rf,rl⟩:=L.out.up N (by simp; omega);obtain ⟨x0,x1,x2,x3,x4,x5,x6,x7,x8,xf,xl⟩:=p.out.up N (by simp; omega);have f0:=rf 0;have f1:=rf 1;have f2:=rf 2;have f3:=rf 3;have f4:=rf 4;have f5:=rf 5;have f6:=rf 6;have f7:=rf 7;have f8:=rf 8;clear hp3 N HW I J K p L rf xf;go_wp2;refine bodyPost_ret (v:=valT x) (by simp[results,Tryz.results129,go_sem,valT,r0,r1,r2,r3,r4,r5,r6,r7,r8,rl]) rfl ?_;have P:=end9 T.out U.out V.out (rb:=w.heap.size) (Nat.le_refl _) (Or.inl (by omega)) c8;exact ⟨x,rfl,(P _ _ _ _ _ _ _ _ _).1,(P _ _ _ _ _ _ _ _ _).2.1,(P _ _ _ _ _ _ _ _ _).2.2,by omega,X.out⟩}
 {have HF:Hid (Pso.enclosedE l (Pso.expr l m) σ a=({ Prs.tm 15 a with shapes:= [(Pso.wholeT l ((Pso.expr l m σ).2.1+1,(Pso.expr l m σ).2.2)).1],parts:= [(Pso.expr l m σ).1] },want l (Pso.wholeT l ((Pso.expr l m σ).2.1+1,(Pso.expr l m σ).2.2)).2 [41])):=Y1 (by unfold Pso.enclosedE; simp only; rw[hs]; rfl);rw[HF.out];have a6:=Y1 (fun (w:World) (h:PAt w bp A c l (Pso.expr l m σ).2) (b:Nat) (hb:b=w.heap.size)=>Z0N hs H t1.1.1 w h (hb0:=hb));have t2:=Pso.to_next t1.1 (Pso.sign_lt hs);have t3:=Pso.to_wholeT _ t2.1;have b1:=Y1 (fun (w:World) (h:PAt w bp A c l ((Pso.expr l m σ).2.1+1,(Pso.expr l m σ).2.2))=>Z0P bp A c l H HL.out.txt _ t2.1 w h);have HW:=Y1 (fun (w:World) (h:PAt w bp A c l (Pso.wholeT l ((Pso.expr l m σ).2.1+1,(Pso.expr l m σ).2.2)).2)=>Z0d bp A c l _ [41] (by omega) t3.1.1 w h);obtain ⟨z,hz⟩: ∃z,z=Pso.wholeT l ((Pso.expr l m σ).2.1+1,(Pso.expr l m σ).2.2):=⟨_,rfl⟩;rw[<-hz] at b1 HW ⊢;obtain ⟨y,hy⟩: ∃y,y=Pso.expr l m σ:=⟨_,rfl⟩;rw[<-hy] at G a6 b1 ⊢;clear hs t1 t2 t3 HF b8 hy hz;go_enter Tryz.func129,Tryz.ntmps129
  go_wp2_with fail
  refine G.out.mono ?_;rintro e k ⟨x,rfl,hp1,hu1,hx,hlo,O⟩;have a0:w.heap.size+1<=x.lo:=by simpa using hlo
  have g5:w.heap.size+1<=k.heap.size:=by have:=hu1.size; simpa using this
  have k9:x.hi<=k.heap.size:=hx.hi_;have t:=Y1 (hp1.alloc (.cells (Y7 x.t x.q) 26));have C:=Y1 (((Z05 (F:= [bp]) S.out).trans hu1).alloc (.cells (Y7 x.t x.q) 26));have D:=Y1 (show x.Is _ from New.below hx (Z01 k (.cells (Y7 x.t x.q) 26)));have r:=Y1 (Z0h k (.int .i64 x.t.kind) (.string ⟨x.t.of_.toArray⟩) (.string ⟨x.t.name.toArray⟩) (.int .i64 x.t.n) (.slice x.q.A x.t.names.length x.q.c) (.slice x.q.V x.t.vars.length x.q.e) (.slice x.q.S x.t.shapes.length x.q.s) (.slice x.q.P x.t.parts.length x.q.d) (.int .i64 x.t.at_) 26);have E:=Y1 ((Y.out.up hu1 (by simp; omega)).below (Z01 k (.cells (Y7 x.t x.q) 26)));have f9:bp < k.heap.size:=hp1.lt;have X:=Y1 O;clear hp1 hu1 hx hlo O G Y S;simp only[valT]
  go_wp2_with fail
  have M:=Y1 (show k.heap.size+1=(k.alloc (.cells (Y7 x.t x.q) 26)).heap.size by simp);generalize k.alloc (.cells (Y7 x.t x.q) 26)=W1 at M t C D r E ⊢;refine (a6.out W1 t.out _ M.out).mono ?_;rintro e w2 ⟨rfl,hp2,o⟩;have I:=Y1 hp2;have J:=Y1 (C.out.trans o);have K:=Y1 (show x.Is w2 from New.up D.out o (by simp; omega));have p:=Y1 (r.out.up o (by simp; omega));have L:=Y1 (E.out.up o (by simp; omega));have l0:k.heap.size < w2.heap.size:=p.out.lt;clear hp2 o a6 t C D r E
  go_wp2_with fail
  refine Z2c (rs:= [0,1,2,3,4,5,6,7]) (fun u=> { tmps:=#[.pointer (some ⟨bp,0,none⟩),.int .i64 a,undef,undef,.pointer (some ⟨w.heap.size,0,none⟩),.pointer (some ⟨k.heap.size,0,none⟩),.pointer (some ⟨bp,0,none⟩),.agg (Y7 x.t x.q),.pointer (some ⟨bp,0,none⟩),.pointer (some ⟨bp,0,none⟩),.pointer (some ⟨bp,0,none⟩),.slice (some ⟨k.heap.size+1,0,none⟩) 1 1,.bool true,u 0,u 1,u 2,u 3,u 4,u 5,u 6,undef,undef,undef,undef,undef,undef],defers:= [] }) (fun _=>undef)
   (EInv w2 bp A c l z.2 z.1 k.heap.size x a) (by kernel_rfl) (by kernel_rfl) (by kernel_rfl) ⟨nofun,nofun,nofun,nofun,nofun,nofun,nofun,fun _=>Y2.drew,fun _=>(UpT.refl _ _).drew,nofun,nofun,nofun,nofun⟩ ?_ ?_
  refine StepsInv.cons _ rfl (fun d u W K' j n hw hK=> ?_) ?_
  {refine Z02 (v:= .pointer (some ⟨bp,0,none⟩)) (W':=W) rfl ?_ (hK.out _ _ (j.p0 _ rfl))
   try dsimp only
   go_simp}
  refine StepsInv.cons _ rfl (fun d u W K' j n hw hK=> ?_) ?_
  {have d0:=j.v0 (hw 0 (by kernel_rfl));have a1:=j.pre n;refine Z0M (f:=39) (args:=#[.pointer (some ⟨bp,0,none⟩)]) (W':=W) rfl ?_ ((b1.out W (I.out.below a1)).mono ?_)
   {try dsimp only
    go_simp}
   {rintro e W' ⟨s,rfl,h1,h2,h3,h4,h5⟩;exact ⟨_,rfl,hK.out _ _ (j.c1 n (by omega) _ h2 ⟨rfl,h1,h3,Nat.le_trans a1.size h4,h5⟩)⟩}}
  refine StepsInv.cons _ rfl (fun d u W K' j n hw hK=> ?_) ?_
  {have Z:=hw 1 (by kernel_rfl);have d7:=j.not7 (i:=2) (by omega) n (by omega);obtain ⟨s,hs,_⟩:=j.s1 Z d7;have d1:=hs.u1;simp only[valS] at d1;refine Z02 (v:= .slice (some ⟨W.heap.size,0,none⟩) 1 1) (W':=W.alloc (.cells (Y8 s.t s.q) 43)) rfl ?_ (hK.out _ _ (j.c2 n Z _ (Z01 _ _) hs rfl (Row.one s (j.up d7).size)))
   try dsimp only
   go_simp}
  refine StepsInv.cons _ rfl (fun d u W K' j n hw hK=> ?_) ?_
  {obtain ⟨x0,x1,x2,x3,x4,x5,x6,x7,x8,xf,xl⟩:=p.out.up (j.up (j.not7 (i:=3) (by omega) n (by omega))) (by simp; omega);refine Z02 (v:=valT x) (W':=W) rfl ?_ (hK.out _ _ (j.p3 _ rfl));simp only[valT]
   try dsimp only
   go_simp}
  refine StepsInv.cons _ rfl (fun d u W K' j n hw hK=> ?_) ?_
  {have k3:=hw 3 (by kernel_rfl);have d3:=j.v3 k3;simp only[valT] at d3;have d7:=j.not7 (i:=4) (by omega) n (by omega);refine Z02 (v:= .slice (some ⟨W.heap.size,0,none⟩) 1 1) (W':=W.alloc (.cells (Y7 x.t x.q) 26)) rfl ?_ (hK.out _ _ (j.c4 n k3 _ (Z01 _ _) rfl (Row.oneT x (j.up d7).size)))
   try dsimp only
   go_simp}
  refine StepsInv.cons _ rfl (fun d u W K' j n hw hK=> ?_) ?_
  {refine Z02 (v:= .int .i64 a) (W':=W) rfl ?_ (hK.out _ _ (j.p5 _ rfl))
   try dsimp only
   go_simp}
  refine StepsInv.cons _ rfl (fun d u W K' j n hw hK=> ?_) ?_
  {have Q:=hw 2 (by kernel_rfl);have k4:=hw 4 (by kernel_rfl);have k5:=hw 5 (by kernel_rfl);have d7:=j.not7 (i:=6) (by omega) n (by omega);obtain ⟨s,hs,h2⟩:=j.s1 (j.e2 Q) d7;obtain ⟨g,d2,_⟩:=h2 Q;obtain ⟨g',d4,_⟩:=j.s4 k4 d7;have d5:=j.v5 k5;refine Z02 (v:= .agg #[.int .i64 15,.string ⟨#[]⟩,.string ⟨#[]⟩,.int .i64 0,.slice none 0 0,.slice none 0 0,.slice (some ⟨g,0,none⟩) 1 1,.slice (some ⟨g',0,none⟩) 1 1,.int .i64 a]) (W':=W) rfl ?_ (hK.out _ _ (j.c6 n Q k4 k5 _ d2 d4 rfl))
   try dsimp only
   go_simp}
  refine StepsInv.cons _ rfl (fun d u W K' j n hw hK=> ?_) StepsInv.nil
  {have k6:=hw 6 (by kernel_rfl);obtain ⟨Q,k4,k5⟩:=j.e6 k6;obtain ⟨s,hs,h2⟩:=j.s1 (j.e2 Q) n;obtain ⟨g1,d2,g3⟩:=h2 Q;obtain ⟨g2,d4,g4⟩:=j.s4 k4 n;obtain ⟨g,g',e2,e4,d6⟩:=j.v6 k6;rw[d2] at e2;rw[d4] at e4;simp only[Value.slice.injEq,Option.some.injEq,Addr.mk.injEq,and_true] at e2 e4;obtain rfl:=e2;obtain rfl:=e4;obtain ⟨x0,x1,x2,x3,x4,x5,x6,x7,x8,xf,xl⟩:=p.out.up (j.up n) (by simp; omega);have f0:=xf 0;have f1:=xf 1;have f2:=xf 2;have f3:=xf 3;have f4:=xf 4;have f5:=xf 5;have f6:=xf 6;have f7:=xf 7;have f8:=xf 8;have h7:=j.c7 n k6 undef hs g3 g4;clear xf d2 d4;refine Z0B (W':=Z10 W k.heap.size (.int .i64 15) (.string ⟨#[]⟩) (.string ⟨#[]⟩) (.int .i64 0) (.slice none 0 0) (.slice none 0 0) (.slice (some ⟨g1,0,none⟩) 1 1) (.slice (some ⟨g2,0,none⟩) 1 1) (.int .i64 a)) rfl ?_ (hK.out _ _ h7)
   try dsimp only
   go_simp
   try rfl}
  intro d u W j n;obtain ⟨Wm,s,g,g',v,Z,Q,k3,k4,k5⟩:=j.fin (n 7 (by decide));have u1:UpT [k.heap.size] Wm W:=by rw[k5]; exact Z1X (UpT.refl _ _) (Or.inr (by simp)) _ _ _ _ _ _ _ _ _
  have e0:=k4.size;have g6:k.heap.size < Wm.heap.size:=by omega
  have T:=Y1 (Z.par.keep u1 (by simp; omega));have U:=Y1 (show UpT [bp] w W by rw[k5]; exact Z1X (J.out.trans k4) (Or.inl (by omega)) _ _ _ _ _ _ _ _ _);have a7:=Y1 (Q.up u1 (fun b hb e=>by simp at hb; subst hb; have:=Q.lt _ e; omega));have a8:=Y1 (k3.up u1 (fun b hb e=>by simp at hb; subst hb; have:=k3.lt _ e; omega));have b7:=Y1 (show s.Is W from New.up Z.is u1 (by simp; have:=Z.lo; omega));have a9:Hid (w2.heap.size<=s.lo/\s.t=z.1):=Y1 ⟨Z.lo,Z.t⟩;have V:=Y1 (show x.Is W from New.up (New.up K.out k4 (by simp; omega)) u1 (by simp; omega));have b5:=Y1 (show Nine W k.heap.size (.int .i64 15) (.string ⟨#[]⟩) (.string ⟨#[]⟩) (.int .i64 0) (.slice none 0 0) (.slice none 0 0) (.slice (some ⟨g,0,none⟩) 1 1) (.slice (some ⟨g',0,none⟩) 1 1) (.int .i64 a) by rw[k5]; exact Z5O (p.out.up k4 (by simp; omega)) _ _ _ _ _ _ _ _ _);have b9:=Y1 ((L.out.up k4 (by simp; omega)).up u1 (by simp; omega));have l1:w2.heap.size<=W.heap.size:=Nat.le_trans e0 u1.size;clear j n Z Q k3 k4 k5 u1 e0 g6 I J K p L
  go_wp2_with fail
  refine (HW.out W T.out).mono ?_;rintro e w4 ⟨v4,rfl,c9,q⟩;have e3:=Y1 c9;have e8:=Y1 (U.out.trans q);have e9:=Y1 (show x.Is w4 from New.up V.out q (by simp; omega));have e7:=Y1 (show s.Is w4 from New.up b7.out q (by simp; have:=a9.out.1; omega));have e5:=Y1 (a7.out.up q (fun b hb e=>by simp at hb; subst hb; have:=a7.out.lt _ e; omega));have e6:=Y1 (a8.out.up q (fun b hb e=>by simp at hb; subst hb; have:=a8.out.lt _ e; omega));obtain ⟨r0,r1,r2,r3,r4,r5,r6,r7,r8,rf,rl⟩:=b9.out.up q (by simp; omega);obtain ⟨x0,x1,x2,x3,x4,x5,x6,x7,x8,xf,xl⟩:=b5.out.up q (by simp; omega);have f0:=rf 0;have f1:=rf 1;have f2:=rf 2;have f3:=rf 3;have f4:=rf 4;have f5:=rf 5;have f6:=rf 6;have f7:=rf 7;have f8:=rf 8;clear c9 q HW rf xf T U V b5 b9 b7 a7 a8;go_wp2;refine bodyPost_ret (v:=valT ⟨mkT ⟨15,[],[],0,a⟩ ⟨none,0,[],none,0,[],some ⟨g,0,none⟩,1,[s],some ⟨g',0,none⟩,1,[x]⟩,mkQ ⟨none,0,[],none,0,[],some ⟨g,0,none⟩,1,[s],some ⟨g',0,none⟩,1,[x]⟩,w.heap.size+1,w4.heap.size⟩) (by simp[results,Tryz.results129,go_sem,valT,mkT,mkQ,r0,r1,r2,r3,r4,r5,r6,r7,r8,rl]) rfl ?_;have hn:=Z6k (W:=w4) (B:=w.heap.size+1) ⟨15,[],[],0,a⟩ ⟨none,0,[],none,0,[],some ⟨g,0,none⟩,1,[s],some ⟨g',0,none⟩,1,[x]⟩ ⟨by simp,by simp,by simp,HA.out,by simp⟩ (Row.start _ _ _ _ _) (Row.start _ _ _ _ _) (Z2n e5.out (by omega)) (Z2n e6.out (by omega))
   (fun b hb=>by
    have e:b=s:=by simpa using hb
    rw[e]; exact ⟨e7.out,by have:=a9.out.1; omega⟩) (fun b hb=>by
    have e:b=x:=by simpa using hb
    rw[e]; exact ⟨e9.out,a0⟩) nofun nofun ⟨by simp,by simp,by simp,by simp⟩
  have P:=end9 e3.out e8.out hn (rb:=w.heap.size) (Nat.le_refl _) (Or.inl (by simp only; omega)) c8;exact ⟨_,rfl,(P _ _ _ _ _ _ _ _ _).1,(P _ _ _ _ _ _ _ _ _).2.1,(P _ _ _ _ _ _ _ _ _).2.2,by simp only; omega,by
   rw[<-a9.out.2, <-X.out.1]; rfl,Z1E _ _ (Nat.zero_le _) (fun b hb=>by
    have e:b=x:=by simpa using hb
    rw[e]; exact X.out.2)⟩}
end
end Go.Proofs.YtkncdbaoaeeoiaaGreatDoor
namespace Lex
theorem ZbU {c:UInt8} (h:digit c=true):lumpB c=true:=by unfold lumpB; rw[h]; simp
theorem Za7 {c:UInt8} (h:digit c=true):small c=false/\great c=false/\blank c=false:=by
 unfold digit at h;simp only[Bool.and_eq_true,decide_eq_true_eq] at h;refine ⟨?_, ?_, ?_⟩
 {unfold small; simp; omega}
 {unfold great; simp; omega}
 {unfold blank;have k: ∀n:UInt8,(c==n)=true->c.toNat=n.toNat:=fun n e=>by rw[eq_of_beq e]
  have b: (c==9)=false:=by cases e: (c==9) with | false=>rfl | true=>have:=k 9 e; simp at this; omega
  have e10: (c==10)=false:=by cases e: (c==10) with | false=>rfl | true=>have:=k 10 e; simp at this; omega
  have e13: (c==13)=false:=by cases e: (c==13) with | false=>rfl | true=>have:=k 13 e; simp at this; omega
  have a: (c==32)=false:=by cases e: (c==32) with | false=>rfl | true=>have:=k 32 e; simp at this; omega
  rw[b,e10,e13,a]; rfl}
theorem Z4n {p:UInt8->Bool}: ∀ {l:List UInt8},(∀x∈l,p x=true)->l.takeWhile p=l
 | [],_=>rfl
 | a::l,h=>by rw[List.takeWhile_cons,h a (by simp),if_pos rfl,Z4n (fun x hx=>h x (by simp[hx]))]
section
variable {s : List UInt8}
include s
theorem Za8 (h:number s=true):good ⟨3,s⟩:=by
 have g:=h;unfold number at h;simp only[Bool.and_eq_true,decide_eq_true_eq] at h;obtain ⟨⟨⟨a,i⟩,j⟩,_⟩:=h
 match s,i with
 | c::r,_=>
  rw[List.all_eq_true] at a;obtain ⟨d,e,f⟩:=Za7 (a c (by simp));refine ⟨c,r,rfl,by omega,f, ?_⟩;have k:=Z4n (p:=lumpB) (l:=c::r) (fun x hx=>ZbU (a x hx));have b:=a c (by simp);simp[token,d,e,b,k,g]
theorem Za9 {t:Tok} {n:Nat} (h:quoted s= .ok (t,n)):t.kind=4:=by
 unfold quoted finish at h;split at h
 {cases h}
 {split at h
  {simp only[Except.ok.injEq,Prod.mk.injEq] at h; rw[<-h.1]}
  {split at h <;> cases h}}
theorem Zaa (h:good ⟨3,s⟩):number s=true:=by
 obtain ⟨c,r,b,_,_,a⟩:=h;have d:s=c::r:=b;simp only[token] at a;split at a
 {split at a
  {simp at a}
  {split at a
   {simp at a}
   {split at a <;> simp at a}}}
 {split at a
  {split at a
   {next hn=>simp only[Except.ok.injEq,Prod.mk.injEq,Tok.mk.injEq,true_and] at a; rw[<-a.1]; exact hn}
   {split at a <;> simp at a}}
  {split at a
   {have:=Za9 a; simp at this}
   {split at a
    {simp at a}
    {split at a <;> simp at a}}}}
end
theorem Zab (s:List UInt8):mayShow [⟨3,s⟩] ↔ number s=true:=by
 constructor
 {intro h;rcases h _ (List.mem_singleton.2 rfl) with a | a
  {exact absurd a (by simp[endTok])}
  {exact Zaa a}}
 {intro h t b;rw[List.mem_singleton.1 b];exact Or.inr (Za8 h)}
end Lex
namespace Prs
theorem ZaF: ∀(s:List UInt8) (a:Nat),(∀c∈s,48<=c.toNat/\c.toNat<=57)->num s (a:Int)=((s.foldl (fun a c=>10 * a+(c.toNat - 48)) a:Nat):Int)
 | [],a,_=>rfl
 | c::r,a,h=>by
  have b:=h c (by simp);have e:10 * (a:Int)+((c.toNat:Int) - 48)=((10 * a+(c.toNat - 48):Nat):Int):=by omega
  rw[num,e,ZaF r _ (fun x hx=>h x (by simp[hx]))];rfl
theorem Z7f {s:List UInt8} (h:Lex.number s=true): (∀c∈s,48<=c.toNat/\c.toNat<=57)/\1<=s.length/\s.length<=15:=by
 unfold Lex.number at h;simp only[Bool.and_eq_true,decide_eq_true_eq] at h;obtain ⟨⟨⟨d,b⟩,a⟩,_⟩:=h;refine ⟨fun c hc=> ?_,b,a⟩;have:=List.all_eq_true.1 d c hc;unfold Lex.digit at this;simpa using this
theorem num_lt: ∀(s:List UInt8),(∀c∈s,48<=c.toNat/\c.toNat<=57)->Sem.num s < 10 ^ s.length
 | [],_=>by simp[Sem.num]
 | c::r,h=>by
  have a:=h c (by simp);have b:=num_lt r (fun x hx=>h x (by simp[hx]));have e:Sem.num (c::r)=(c.toNat - 48) * 10 ^ r.length+Sem.num r:=by
   show (c::r).foldl _ 0=_;rw[List.foldl_cons,Sem.Z5B]; congr 1; congr 1; omega
  rw[e,List.length_cons,Nat.pow_succ];have: (c.toNat - 48) * 10 ^ r.length<=9 * 10 ^ r.length:=Nat.mul_le_mul_right _ (by omega);omega
section
variable {s : List UInt8} (h : Lex.number s = true)
include s h
theorem num_number:num s 0=(Sem.num s:Int)/\Sem.num s < 1000000000000000:=by
 obtain ⟨b,c,a⟩:=Z7f h;refine ⟨ZaF s 0 b, ?_⟩;have d:=num_lt s b;have e:10 ^ s.length<=10 ^ 15:=Nat.pow_le_pow_right (by omega) a;have: (10:Nat) ^ 15=1000000000000000:=by decide
 omega
theorem atoi_number:Go.Lib.atoiAll s= .ok (num s 0):=by
 obtain ⟨a,d,f⟩:=Z7f h;obtain ⟨e,g⟩:=num_number h;have b:=Sem.Z6A s 0 a (by omega);rw[Nat.zero_mul,Nat.zero_add] at b
 match s,d with
 | c::r,_=>
  have j:=a c (by simp);have i:Go.Lib.parseMag (c::r)= .ok (Sem.num (c::r)):=by
   unfold Go.Lib.parseMag;rw[if_neg (by simp),b]
  rw[Go.Lib.atoiAll_plain c r (by omega) (by omega),i,e];show (if 9223372036854775808<=Sem.num (c::r) then Go.Lib.NumEnd.range else .ok (Sem.num (c::r):Int))=_;rw[if_neg (by omega)]
end
end Prs
