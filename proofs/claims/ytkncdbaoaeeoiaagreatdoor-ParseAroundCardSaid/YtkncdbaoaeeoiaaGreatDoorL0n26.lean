/- What the proofs of ParseAround want, part 26. -/
import Derived.Test.YtkncdbaoaeeoiaaGreatDoorL0n25
set_option linter.unusedVariables false
set_option linter.unusedSimpArgs false
set_option linter.unusedSectionVars false
set_option maxRecDepth 100000
set_option maxHeartbeats 16000000
namespace Go.Proofs.YtkncdbaoaeeoiaaGreatDoor
section
open Go.RowKit Tms
open Shp (Sh)
open Pso (St Ok Goes betw loop want)
def chW (w:World) (bp:Nat):World:=(w.alloc (.cells #[.pointer (some ⟨bp,0,none⟩)] 59)).alloc (.cells Ya 26)
section
variable (w : World) (bp : Nat)
include w bp
theorem ZeJ: (chW w bp).heap.size=w.heap.size+2:=by simp[chW]
theorem Z7g:Below w.heap.size w (chW w bp):=Z03 (Z01 _ _) _
theorem ZfE: (chW w bp).cell? ⟨w.heap.size,0,none⟩=some (.pointer (some ⟨bp,0,none⟩)):=by simp[chW,go_sem]
theorem ZfF:Zero9 (chW w bp) (w.heap.size+1):=by
 have h:=Z0h (w.alloc (.cells #[.pointer (some ⟨bp,0,none⟩)] 59)) (.int .i64 0) (.string ⟨#[]⟩) (.string ⟨#[]⟩) (.int .i64 0) (.slice none 0 0) (.slice none 0 0) (.slice none 0 0) (.slice none 0 0) (.int .i64 0) 26;have e: (w.alloc (.cells #[.pointer (some ⟨bp,0,none⟩)] 59)).heap.size=w.heap.size+1:=by simp
 rw[e] at h;exact h
end
structure LC (bp:Nat) (A:Option Addr) (c:Nat) (l:List Tk) (m:Nat) (a:Int) (y:Tm×St) (W1:World) (tb B0:Nat) (k n:Nat) (τ:St) (x:ET) (W:World):Prop where
 eq:Pso.chainL l (Pso.expr l m) a n τ x.t=y
 lt:l.length - τ.1 < n
 le:n<=k
 ok:Ok l τ
 mm:l.length - τ.1 < m+1
 par:PAt W bp A c l τ
 up:UpT [bp,tb] W1 W
 nine:XNine W tb x
 is:x.IsX tb W
 lo:B0<=x.lo
 fw:few x.t=true
section
variable {l : List Tk} {ex : St -> Tm × St} {a : Int} {n : Nat} {τ : St} {t : Tm}
include l ex a n τ t
theorem ZbW (h:Prs.sign l τ.1 [40]=true):Pso.chainL l ex a (n+1) τ t=Pso.chainL l ex a n (betw l [40] [44] [41] (Pso.argsR l ex) τ [t]).1 { Prs.tm 7 a with parts:=(betw l [40] [44] [41] (Pso.argsR l ex) τ [t]).2 }:=by
 conv=>lhs; unfold Pso.chainL
 rw[if_pos h]
theorem Zad (b:Prs.sign l τ.1 [40]=false) (h:Prs.sign l τ.1 [46]=true):Pso.chainL l ex a (n+1) τ t=Pso.chainL l ex a n (Pso.name l (τ.1+1,τ.2)).2 { Prs.tm 9 a with name:=(Pso.name l (τ.1+1,τ.2)).1,parts:= [t] }:=by
 conv=>lhs; unfold Pso.chainL
 rw[if_neg (by rw[b]; simp),if_pos h]
theorem ZdA (b:Prs.sign l τ.1 [40]=false) (h:Prs.sign l τ.1 [46]=false):Pso.chainL l ex a (n+1) τ t=(t,τ):=by
 conv=>lhs; unfold Pso.chainL
 rw[if_neg (by rw[b]; simp),if_neg (by rw[h]; simp)]
end
section
variable (bp : Nat) (A : Option Addr) (c : Nat) (l : List Tk) (m : Nat)
include bp A c l m
theorem ZbX (σ:St) (a:Int) (hl:TokOk l) (ha: -9223372036854775808<=a/\a<=9223372036854775807) (hσ:Ok l σ) (hE:ExC bp A c l m) (hm:l.length - σ.1 < m+1) (w:World) (h:PAt w bp A c l σ):
 Calls Tryz.prog 71 #[.pointer (some ⟨bp,0,none⟩),.int .i64 a] w (TmIs bp A c l (Pso.chainE l (Pso.expr l m) σ a) w):=by
 have HF:Hid (Pso.chainE l (Pso.expr l m) σ a=Pso.chainL l (Pso.expr l m) a (l.length+1) (Pso.atomE l (Pso.expr l m) σ a).2 (Pso.atomE l (Pso.expr l m) σ a).1):=Y1 rfl;rw[HF.out];have k0:=h.lt;have N:=hl.len;have t1:=Pso.to_atom (Pso.to_expr m) a _ hσ;change Pso.To l σ (Pso.atomE l (Pso.expr l m) σ a).2 at t1;have a5:=Y1 (Zdy bp A c l m σ a hl ha hσ hE hm _ (h.below (Z7g w bp)));have HL:=Y1 hl;have HE:=Y1 hE;have HA:=Y1 ha;have b5:=Y1 (Z7g w bp);have b2:=Y1 (ZfE w bp);have HZ:=Y1 (ZfF w bp);have c0:=Y1 (ZeJ w bp);obtain ⟨z,hz⟩: ∃z,z=Pso.atomE l (Pso.expr l m) σ a:=⟨_,rfl⟩;rw[<-hz] at a5 t1 ⊢;obtain ⟨y,hy⟩: ∃y,y=Pso.chainL l (Pso.expr l m) a (l.length+1) z.2 z.1:=⟨_,rfl⟩;rw[<-hy];have HY:=Y1 hy;have c8:=Y1 t1;have HM:=Y1 hm;have g7:chW w bp=(w.alloc (.cells #[.pointer (some ⟨bp,0,none⟩)] 59)).alloc (.cells Ya 26):=rfl;have f9:=Y1 g7;clear HF h t1 hz hy hl hE ha hm g7;go_enter Tryz.func71,Tryz.ntmps71
 go_wp2_with fail
 rw[<-f9.out];generalize chW w bp=Wc at a5 b5 b2 HZ c0 ⊢;clear f9;refine a5.out.mono ?_;rintro e G ⟨C,rfl,e1,a3,hx,k6,e4⟩;have p1:=a3.size;have p7:=c0.out;have a9:w.heap.size+2<=C.lo:=by omega
 have o9:bp < G.heap.size:=e1.lt;have l0:C.hi<=G.heap.size:=hx.hi_;have b8:Hid (LC bp A c l m a y (G.alloc (.cells (Y7 C.t C.q) 26)) G.heap.size (w.heap.size+2) (l.length+1) (l.length+1) z.2 C (G.alloc (.cells (Y7 C.t C.q) 26))):=Y1 ⟨by rw[e4.1]; exact HY.out.symm,by omega,Nat.le_refl _,c8.out.1,by have:=c8.out.2.1; have:=HM.out; omega,e1.alloc _,UpT.refl _ _,Z0h G (.int .i64 C.t.kind) (.string ⟨C.t.of_.toArray⟩) (.string ⟨C.t.name.toArray⟩) (.int .i64 C.t.n) (.slice C.q.A C.t.names.length C.q.c) (.slice C.q.V C.t.vars.length C.q.e) (.slice C.q.S C.t.shapes.length C.q.s) (.slice C.q.P C.t.parts.length C.q.d) (.int .i64 C.t.at_) _,(New.below hx (Z01 _ _)).x (by omega),a9,e4.2⟩;have g4:=Y1 (((Z05 (F:= [bp]) b5.out).trans a3).alloc (.cells (Y7 C.t C.q) 26));have g6:=Y1 ((HZ.out.up a3 (by simp; omega)).below (Z01 G (.cells (Y7 C.t C.q) 26)));have a6:Hid ((G.alloc (.cells (Y7 C.t C.q) 26)).cell? ⟨w.heap.size,0,none⟩=some (.pointer (some ⟨bp,0,none⟩))/\w.heap.size < (G.alloc (.cells (Y7 C.t C.q) 26)).heap.size):=Y1 ⟨((Z01 G (.cells (Y7 C.t C.q) 26)).cell (p:=⟨w.heap.size,0,none⟩) (by simp only; omega)).trans (((a3.same (b:=w.heap.size) (by omega) (by simp; omega)).1 0).trans b2.out),by simp; omega⟩;have g3:Hid (G.heap.size < (G.alloc (.cells (Y7 C.t C.q) 26)).heap.size):=Y1 (by simp);clear e1 a3 hx k6 e4 a5 b5 b2 HZ c0 HY c8 a9 l0;simp only[valT]
 go_wp2_with fail
 generalize G.alloc (.cells (Y7 C.t C.q) 26)=W1 at b8 g4 g6 a6 g3 ⊢;clear HM
 go_loopg [11] (l.length+1) (fun kx s11 wr=>Hid (∃n τ x,LC bp A c l m a y W1 G.heap.size (w.heap.size+2) kx n τ x wr))
 case atStart=>exact ⟨_,_,_,b8.out⟩
 case round=>
  obtain ⟨n,τ,x,hr⟩:=hrel.out;have D:=Y1 hr;have K:=hr.ok;have p9:=hr.up.size;have p8:=g3.out;have j2:Hid (wr.cell? ⟨w.heap.size,0,none⟩=some (.pointer (some ⟨bp,0,none⟩))/\w.heap.size < wr.heap.size):=Y1 ⟨((hr.up.same a6.out.2 (by simp; omega)).1 0).trans a6.out.1,by have:=a6.out.2; omega⟩;obtain ⟨b0,hb0⟩:=j2.out;clear hrel b8 hr;cases H:Prs.sign l τ.1 [40]
  {cases T:Prs.sign l τ.1 [46]
   {go_wp2_with fail
    refine (Z0A H N K.1 wr D.out.par).mono ?_;rintro e I ⟨rfl,hp2,E⟩;have i1:=E.size;have c2:=((E.same hb0 (by simp; omega)).1 0).trans b0;have l2:w.heap.size < I.heap.size:=by omega
    have Q:=Y1 hp2;have a2:=Y1 E;clear hp2 E
    go_wp2_with fail
    refine (Z0C T N K.1 I Q.out).mono ?_;rintro e w3 ⟨rfl,hp3,U⟩;have b7:=Y1 hp3;have S:=Y1 (a2.out.trans U);have a7:=Y1 (D.out.up.trans (S.out.mono (fun q hq _=>by simp at hq; simp[hq])));obtain ⟨r0,r1,r2,r3,r4,r5,r6,r7,r8,rf,rl⟩:=g6.out.up a7.out (by simp; omega);obtain ⟨x0,x1,x2,x3,x4,x5,x6,x7,x8,xf,xl⟩:=D.out.nine.up S.out (by simp; omega);have f0:=rf 0;have f1:=rf 1;have f2:=rf 2;have f3:=rf 3;have f4:=rf 4;have f5:=rf 5;have f6:=rf 6;have f7:=rf 7;have f8:=rf 8;have d7:=Y1 (D.out.is.up S.out (by simp; have:=D.out.lo; omega));have X:Hid ((x.t,τ)=y):=Y1 (by
     have h1:=D.out.eq;have h2:=D.out.lt;obtain ⟨V,rfl⟩: ∃V,n=V+1:=⟨n - 1,by omega⟩;rw[ZdA H T] at h1; exact h1)
    clear hp3 U rf xf a2 Q c2 l2 b0 hb0 H T;go_wp2;refine bodyPost_ret (v:=valT x) (by simp[results,Tryz.results71,go_sem,valT,r0,r1,r2,r3,r4,r5,r6,r7,r8,rl]) rfl ?_;have hE:=end9 b7.out (UpT.drop2 a7.out g4.out (by omega)) d7.out.new (rb:=w.heap.size+1) (by omega) (Or.inl (by have:=D.out.lo; omega)) k0;rw[<-X.out];exact ⟨x,rfl,(hE _ _ _ _ _ _ _ _ _).1,(hE _ _ _ _ _ _ _ _ _).2.1,(hE _ _ _ _ _ _ _ _ _).2.2,by have:=D.out.lo; omega,rfl,D.out.fw⟩}
   {go_wp2_with fail
    refine (Z0A H N K.1 wr D.out.par).mono ?_;rintro e I ⟨rfl,hp2,E⟩;have i1:=E.size;have c2:=((E.same hb0 (by simp; omega)).1 0).trans b0;have l2:w.heap.size < I.heap.size:=by omega
    have Q:=Y1 hp2;have a2:=Y1 E;clear hp2 E
    go_wp2_with fail
    refine (Z0N T N K.1 I Q.out).mono ?_;rintro e w3 ⟨rfl,hp3,U⟩;have p6:=U.size;have c3:=((U.same l2 (by simp; omega)).1 0).trans c2;have l3:w.heap.size < w3.heap.size:=by omega
    have b7:=Y1 hp3;have S:=Y1 (a2.out.trans U);have a7:=Y1 (D.out.up.trans (S.out.mono (fun q hq _=>by simp at hq; simp[hq])));have b4:=Y1 (D.out.nine.up S.out (by simp; omega));have d7:=Y1 (D.out.is.up S.out (by simp; have:=D.out.lo; omega));have g9:=D.out.lo;have n7:=D.out.is.hi_;have h0:=Pso.sign_lt T;have t2:=(Pso.to_next K h0).1;have t3:=Pso.to_name t2;have c9:=Y1 t3;have g2:=Y1 (fun (w:World) (h:PAt w bp A c l (τ.1+1,τ.2))=>Z1a bp A c l _ (by omega) t2.1 HL.out.txt w h);have b6:=Y1 (Z0q HL.out.txt (τ.1+1,τ.2) 1 (by decide) Lex.isName);change Hid ((Pso.name l (τ.1+1,τ.2)).1.length<=1000000) at b6;have X:=Y1 (fun V=>Zad (ex:=Pso.expr l m) (a:=a) (n:=V) (t:=x.t) H T);obtain ⟨nn,h4⟩: ∃nn,nn=Pso.name l (τ.1+1,τ.2):=⟨_,rfl⟩;rw[<-h4] at g2 b6 X c9;clear hp3 U a2 Q c2 l2 b0 hb0 H T t2 t3 h4
    go_wp2_with fail
    refine Z2c (rs:= [0,1,2,3,4,5,6,7,8]) (fun u=> { tmps:=#[.pointer (some ⟨bp,0,none⟩),.int .i64 a,.pointer (some ⟨w.heap.size,0,none⟩),undef,.pointer (some ⟨w.heap.size+1,0,none⟩),.pointer (some ⟨G.heap.size,0,none⟩),u6,.pointer (some ⟨bp,0,none⟩),.int .i64 a,.agg (Y7 C.t C.q),u10,.bool false,.pointer (some ⟨bp,0,none⟩),.pointer (some ⟨bp,0,none⟩),.pointer (some ⟨bp,0,none⟩),.slice (some ⟨wr.heap.size,0,none⟩) 1 1,.bool false,u17,u18,u19,u20,u21,u22,u23,u24,u25,u26,.bool true,.pointer (some ⟨bp,0,none⟩),.pointer (some ⟨bp,0,none⟩),.pointer (some ⟨bp,0,none⟩),.slice (some ⟨I.heap.size,0,none⟩) 1 1,.bool true,u 0,u 1,u 2,u 3,u 4,u 5,u 6,u 7],defers:= [] }) (fun j=>([u33,u34,u35,u36,u37,u38,u39,u40]:List Value).getD j undef)
     (FInv w3 bp A c l nn.2 nn.1 G.heap.size x a) (by kernel_rfl) (by kernel_rfl) (by kernel_rfl) ⟨nofun,nofun,nofun,nofun,nofun,nofun,nofun,nofun,nofun,fun _=>Y2.drew,fun _=>(UpT.refl _ _).drew,nofun,nofun,nofun,nofun⟩ ?_ ?_
    refine StepsInv.cons _ rfl (fun d u W K' k J hw hK=> ?_) ?_
    {have hp3:W.cell? ⟨w.heap.size,0,none⟩=some (.pointer (some ⟨bp,0,none⟩))/\w.heap.size < W.heap.size:=by
      cases h1:d 3 with
      | false=>have hb:=k.pre h1; exact ⟨(hb.cell (p:=⟨w.heap.size,0,none⟩) l3).trans c3,Nat.lt_of_lt_of_le l3 hb.size⟩
      | true=>
       cases h6:d 8 with
       | false=>have hb:=k.up h6; exact ⟨((hb.same l3 (by simp; omega)).1 0).trans c3,Nat.lt_of_lt_of_le l3 hb.size⟩
       | true=>
        obtain ⟨Wm,g,k1,k2,k3,k4⟩:=k.fin h6;have u1:UpT [G.heap.size] Wm W:=by rw[k4]; exact Z1X (UpT.refl _ _) (Or.inr (by simp)) _ _ _ _ _ _ _ _ _
        have l4:=Nat.lt_of_lt_of_le l3 k3.size;exact ⟨((u1.same l4 (by simp; omega)).1 0).trans (((k3.same l3 (by simp; omega)).1 0).trans c3),Nat.lt_of_lt_of_le l4 u1.size⟩
     obtain ⟨cc,ll⟩:=hp3;refine Z02 (v:= .pointer (some ⟨bp,0,none⟩)) (W':=W) rfl ?_ (hK.out _ _ (k.p0 _ rfl))
     try dsimp only
     go_simp}
    refine StepsInv.cons _ rfl (fun d u W K' k J hw hK=> ?_) ?_
    {have d0:=k.v0 (hw 0 (by kernel_rfl));refine Z02 (v:= .pointer (some ⟨bp,0,none⟩)) (W':=W) rfl ?_ (hK.out _ _ (k.pA _ rfl))
     try dsimp only
     all_goals first | (go_simp; done) | (go_simp; rfl)}
    refine StepsInv.cons _ rfl (fun d u W K' k J hw hK=> ?_) ?_
    {have d1:=k.vA (hw 1 (by kernel_rfl));refine Z02 (v:= .pointer (some ⟨bp,0,none⟩)) (W':=W) rfl ?_ (hK.out _ _ (k.pB _ rfl))
     try dsimp only
     all_goals first | (go_simp; done) | (go_simp; rfl)}
    refine StepsInv.cons _ rfl (fun d u W K' k J hw hK=> ?_) ?_
    {have d2:=k.vB (hw 2 (by kernel_rfl));have h8:=k.pre J;refine Z0M (f:=92) (args:=#[.pointer (some ⟨bp,0,none⟩)]) (W':=W) rfl ?_ ((g2.out W (b7.out.below h8)).mono ?_)
     {try dsimp only
      go_simp}
     {rintro e W' ⟨rfl,h1,h2⟩;exact ⟨_,rfl,hK.out _ _ (k.c1 J (by omega) _ rfl h2 h1)⟩}}
    refine StepsInv.cons _ rfl (fun d u W K' k J hw hK=> ?_) ?_
    {obtain ⟨x0,x1,x2,x3,x4,x5,x6,x7,x8,xf,xl⟩:=b4.out.up (k.up (k.not6 (i:=4) J (by omega))) (by simp; omega);refine Z02 (v:=valT x) (W':=W) rfl ?_ (hK.out _ _ (k.p2 _ rfl));simp only[valT]
     try dsimp only
     go_simp}
    refine StepsInv.cons _ rfl (fun d u W K' k J hw hK=> ?_) ?_
    {have k2:=hw 4 (by kernel_rfl);have d2:=k.v2 k2;simp only[valT] at d2;have d6:=k.not6 (i:=5) J (by omega);refine Z02 (v:= .slice (some ⟨W.heap.size,0,none⟩) 1 1) (W':=W.alloc (.cells (Y7 x.t x.q) 26)) rfl ?_ (hK.out _ _ (k.c3 J k2 _ (Z01 _ _) rfl (Row.oneT x (k.up d6).size)))
     try dsimp only
     go_simp}
    refine StepsInv.cons _ rfl (fun d u W K' k J hw hK=> ?_) ?_
    {refine Z02 (v:= .int .i64 a) (W':=W) rfl ?_ (hK.out _ _ (k.p4 _ rfl))
     try dsimp only
     go_simp}
    refine StepsInv.cons _ rfl (fun d u W K' k J hw hK=> ?_) ?_
    {have k1:=hw 3 (by kernel_rfl);have k3:=hw 5 (by kernel_rfl);have k4:=hw 6 (by kernel_rfl);have d6:=k.not6 (i:=7) J (by omega);obtain ⟨g,d3,_⟩:=k.s3 k3 d6;have d1:=k.v1 k1;have d4:=k.v4 k4;refine Z02 (v:= .agg #[.int .i64 9,.string ⟨#[]⟩,.string ⟨nn.1.toArray⟩,.int .i64 0,.slice none 0 0,.slice none 0 0,.slice none 0 0,.slice (some ⟨g,0,none⟩) 1 1,.int .i64 a]) (W':=W) rfl ?_ (hK.out _ _ (k.c5 k1 k3 k4 _ d3 rfl))
     try dsimp only
     go_simp}
    refine StepsInv.cons _ rfl (fun d u W K' k J hw hK=> ?_) StepsInv.nil
    {have k5:=hw 7 (by kernel_rfl);obtain ⟨k1,k3,k4⟩:=k.e5 k5;obtain ⟨g1,d3,k8⟩:=k.s3 k3 J;obtain ⟨g,e3,d5⟩:=k.v5 k5;rw[d3] at e3;simp only[Value.slice.injEq,Option.some.injEq,Addr.mk.injEq,and_true] at e3;obtain rfl:=e3;obtain ⟨x0,x1,x2,x3,x4,x5,x6,x7,x8,xf,xl⟩:=b4.out.up (k.up J) (by simp; omega);have f0:=xf 0;have f1:=xf 1;have f2:=xf 2;have f3:=xf 3;have f4:=xf 4;have f5:=xf 5;have f6:=xf 6;have f7:=xf 7;have f8:=xf 8;have h7:=k.c6 J k5 undef k8;clear xf d3;refine Z0B (W':=Z10 W G.heap.size (.int .i64 9) (.string ⟨#[]⟩) (.string ⟨nn.1.toArray⟩) (.int .i64 0) (.slice none 0 0) (.slice none 0 0) (.slice none 0 0) (.slice (some ⟨g1,0,none⟩) 1 1) (.int .i64 a)) rfl ?_ (hK.out _ _ h7)
     try dsimp only
     go_simp
     try rfl}
    intro d u W k J;obtain ⟨Wm,g,k1,k2,k3,k4⟩:=k.fin (J 8 (by decide));have u1:UpT [G.heap.size] Wm W:=by rw[k4]; exact Z1X (UpT.refl _ _) (Or.inr (by simp)) _ _ _ _ _ _ _ _ _
    have M:rowT (some (⟨g,0,none⟩:Addr))≠some G.heap.size:=fun e=>by have:=k2.lt _ e; omega
    have P:=ZaG (W:=Wm) (B:=w.heap.size+2) (ex:=G.heap.size) ⟨9,[],nn.1,0,a⟩ (some ⟨g,0,none⟩) 1 [x] ⟨by simp,b6.out,by simp,HA.out,by simp⟩ (Z2n k2 (by omega)) M (fun q hq=>by
     have e:q=x:=by simpa using hq
     rw[e]; exact ⟨d7.out.up k3 (by simp; omega),g9⟩) (by simp)
    have a0:=Z5O (b4.out.up k3 (by simp; omega)) (.int .i64 9) (.string ⟨#[]⟩) (.string ⟨nn.1.toArray⟩) (.int .i64 0) (.slice none 0 0) (.slice none 0 0) (.slice none 0 0) (.slice (some ⟨g,0,none⟩) 1 1) (.int .i64 a);rw[<-k4] at a0;have O:LC bp A c l m a y W1 G.heap.size (w.heap.size+2) (n - 1) (n - 1) nn.2 ⟨mkT ⟨9,[],nn.1,0,a⟩ ⟨none,0,[],none,0,[],none,0,[],some ⟨g,0,none⟩,1,[x]⟩,mkQ ⟨none,0,[],none,0,[],none,0,[],some ⟨g,0,none⟩,1,[x]⟩,w.heap.size+2,Wm.heap.size⟩ W:=by
     have q1:=D.out.lt;have q2:=c9.out.2.1;have q3:=D.out.mm;simp only at q2;refine ⟨?_,by omega,Nat.le_refl _,c9.out.1,by omega,k1.keep u1 (by simp; omega), ?_,a0,P.up u1 (by simp),Nat.le_refl _,Z1E _ _ (Nat.zero_le _) (fun q hq=>by
      have e:q=x:=by simpa using hq
      rw[e]; exact D.out.fw)⟩
     {rw[<-D.out.eq];obtain ⟨V,rfl⟩: ∃V,n=V+1:=⟨n - 1,by omega⟩;rw[X.out V]; rfl}
     {exact (a7.out.trans (k3.mono (fun q hq _=>by simp at hq; simp[hq]))).trans (u1.mono (fun q hq _=>by simp at hq; simp[hq]))}
    have a1:=Y1 O;clear O P a0 u1 k1 k2 k3 k4 k J M
    go_wp2_with fail
    go_roundg (n - 1)
    case measure=>have:=D.out.le; have:=D.out.lt; omega
    case rel=>exact Y1 ⟨_,_,_,a1.out⟩}}
  {go_wp2_with fail
   refine (Z0A H N K.1 wr D.out.par).mono ?_;rintro e I ⟨rfl,hp2,E⟩;have i1:=E.size;have c2:=((E.same hb0 (by simp; omega)).1 0).trans b0;have l2:w.heap.size < I.heap.size:=by omega
   have b3:=Y1 (D.out.nine.up E (by simp; omega));obtain ⟨x0,x1,x2,x3,x4,x5,x6,x7,x8,xf,xl⟩:=b3.out;have g5:=Y1 (D.out.is.up E (by simp; have:=D.out.lo; omega));have j4:=Y1 (D.out.up.trans (E.mono (fun q hq _=>by simp at hq; simp[hq])));have Q:=Y1 hp2;have hlo2:=D.out.lo;have n6:=g5.out.hi_;have j5:Hid (l.length - (want l τ [40]).1 < m):=Y1 (by rw[Z2k H]; have:=Pso.sign_lt H; have:=D.out.mm; simp only; omega);have i3:=Pso.to_betw (o:= [40]) (s:= [44]) (e:= [41]) (Pso.goes_args (Pso.to_expr m)) [x.t] K;have e0:=Zaz (o:= [40]) (s:= [44]) (e:= [41]) (Pso.goes_args (Pso.to_expr m)) [x.t] K;rw[Z2k H] at e0;have j3:=Y1 i3;have i9:=Y1 e0;have X:=Y1 (fun V=>ZbW (ex:=Pso.expr l m) (a:=a) (n:=V) (t:=x.t) H);have h0:=Pso.sign_lt H;clear hp2 E i3 e0 xf;have Z:=Z03 (Z01 I (.cells (Y7 x.t x.q) 26)) (.cells #[.slice (some ⟨I.heap.size,0,none⟩) 1 1] 24);have hJ:JC I bp (I.heap.size+1) G.heap.size (w.heap.size+2) (some ⟨I.heap.size,0,none⟩) 1 [x] ((I.alloc (.cells (Y7 x.t x.q) 26)).alloc (.cells #[.slice (some ⟨I.heap.size,0,none⟩) 1 1] 24)):=by
    refine ⟨Z05 Z,by simp,by omega,by omega,by omega,by omega, ?_, ?_,(Row.oneT x (Nat.le_refl _)).below (Z01 _ _),by simp[rowT],fun q hq=> ?_,fun q hq b hb=> ?_⟩
    {simp[go_sem]}
    {simp[go_sem]}
    {have e:q=x:=by simpa using hq
     rw[e]; exact ⟨g5.out.below Z,hlo2,by omega⟩}
    {have e:q=x:=by simpa using hq
     have e2:I.heap.size=b:=by simpa[rowT] using hb
     rw[e]; omega}
   have HB:=Y1 (Z15 bp A c l [40] [44] [41] 98 (enters_of Tryz.func98 (by kernel_rfl) rfl) (.pointer (some ⟨I.heap.size+1,0,none⟩)) (.pointer (some ⟨w.heap.size,0,none⟩)) (Z4g I bp (I.heap.size+1) G.heap.size (w.heap.size+2)) (Pso.argsR l (Pso.expr l m)) m (by omega) (Pso.goes_args (Pso.to_expr m)) (fun r W W' a h hu=>Zdz h hu)
    (ZeI bp A c l m HL.out HE.out I w.heap.size (I.heap.size+1) G.heap.size (w.heap.size+2) ⟨c2,l2,by omega⟩) τ [x.t] _ K j5.out (Q.out.below Z) ⟨_,_,_,hJ,rfl,by simp,fun q hq=>by
     have e:q=x:=by simpa using hq
     rw[e]; exact D.out.fw⟩)
   have o4:=Y1 Z;have j7:=(Z.cell (p:=⟨w.heap.size,0,none⟩) l2).trans c2;clear hJ Z b0 hb0
   go_wp2_with fail
   refine HB.out.mono ?_;rintro e w4 ⟨rfl,h5,r,i0,AP,cp,L,Y,i2,h3,g8⟩;have j1:=Y1 h5;have HJ:=Y1 Y;have b9:=Y1 (And.intro i2 (And.intro h3 (And.intro g8 i0)));have cP:=Y.c;have lP:=Y.lt;have n8:=Y.up.size;have e9:=Y1 (b3.out.up Y.up (by simp; omega));obtain ⟨x0,x1,x2,x3,x4,x5,x6,x7,x8,xf,xl⟩:=e9.out;have f0:=xf 0;have f1:=xf 1;have f2:=xf 2;have f3:=xf 3;have f4:=xf 4;have f5:=xf 5;have f6:=xf 6;have f7:=xf 7;have f8:=xf 8;clear h5 Y i2 h3 g8 i0 xf HB c2 j7 l2 b3
   go_wp2_with fail
   have M:rowT AP≠some G.heap.size:=fun e=>by have:=HJ.out.rP.lt _ e; omega
   have P:=ZaG (W:=w4) (B:=w.heap.size+2) (ex:=G.heap.size) ⟨7,[],[],0,a⟩ AP cp L ⟨by simp,by simp,by simp,HA.out,by simp⟩ (Z2n HJ.out.rP (by omega)) M (fun q hq=>⟨(HJ.out.isT q hq).1,(HJ.out.isT q hq).2.1⟩) (by have:=b9.out; omega);have a0:=Z5O e9.out (.int .i64 7) (.string ⟨#[]⟩) (.string ⟨#[]⟩) (.int .i64 0) (.slice none 0 0) (.slice none 0 0) (.slice none 0 0) (.slice AP L.length cp) (.int .i64 a);have u4:UpT [G.heap.size] w4 (Z10 w4 G.heap.size (.int .i64 7) (.string ⟨#[]⟩) (.string ⟨#[]⟩) (.int .i64 0) (.slice none 0 0) (.slice none 0 0) (.slice none 0 0) (.slice AP L.length cp) (.int .i64 a)):=Z1X (UpT.refl _ _) (Or.inr (by simp)) _ _ _ _ _ _ _ _ _;have O:LC bp A c l m a y W1 G.heap.size (w.heap.size+2) (n - 1) (n - 1) (betw l [40] [44] [41] (Pso.argsR l (Pso.expr l m)) τ [x.t]).1 ⟨mkT ⟨7,[],[],0,a⟩ ⟨none,0,[],none,0,[],none,0,[],AP,cp,L⟩,mkQ ⟨none,0,[],none,0,[],none,0,[],AP,cp,L⟩,w.heap.size+2,w4.heap.size⟩ (Z10 w4 G.heap.size (.int .i64 7) (.string ⟨#[]⟩) (.string ⟨#[]⟩) (.int .i64 0) (.slice none 0 0) (.slice none 0 0) (.slice none 0 0) (.slice AP L.length cp) (.int .i64 a)):=by
    have q1:=D.out.lt;have q2:=i9.out;have q3:=D.out.mm;refine ⟨?_,by omega,Nat.le_refl _,j3.out.1,by omega,j1.out.keep u4 (by simp; omega), ?_,by
     show Nine _ _ (.int .i64 7) (.string ⟨#[]⟩) (.string ⟨#[]⟩) (.int .i64 0) (.slice none 0 0) (.slice none 0 0) (.slice none 0 0) (.slice AP (L.map ET.t).length cp) (.int .i64 a);rw[List.length_map]; exact a0,P.up u4 (by simp),Nat.le_refl _,Z1E _ _ (Nat.zero_le _) b9.out.2.2.1⟩
    {rw[<-D.out.eq];obtain ⟨V,rfl⟩: ∃V,n=V+1:=⟨n - 1,by omega⟩;rw[X.out V, <-b9.out.1]; rfl}
    {exact (j4.out.trans (HJ.out.up.mono (fun q hq _=>by simp at hq; simp[hq]))).trans (u4.mono (fun q hq _=>by simp at hq; simp[hq]))}
   have a1:=Y1 O;clear O P a0 u4
   go_roundg (n - 1)
   case measure=>have:=D.out.le; have:=D.out.lt; omega
   case rel=>exact Y1 ⟨_,_,_,a1.out⟩}
theorem ZeK (σ τ:St) (a:Int) (B:TokOk l) (y:ExC bp A c l m) (L:Ok l σ) (hm:l.length - σ.1 < m+1) (k:a=(Prs.look l σ.1).at_) (C:τ=Pso.begin_ l σ) (w:World) (J:PAt w bp A c l σ):
 Calls Tryz.prog 36 #[.pointer (some ⟨bp,0,none⟩)] w (TmIs bp A c l (Pso.bodyE l (Pso.expr l m) σ) w):=by
 have K:=J.lt;have b:=B.len;have hb0:=Z01 w (.cells Ya 26);have z:=J.below hb0;have p:=Y1 (ZbS bp A c l σ b L _ z);rw[<-C, <-k] at p;have D:=Pso.to_begin L;rw[<-C] at D;have d:=D.1;have hg:=D.2.1;have I:=B.at_ σ.1;rw[<-k] at I;have E:=Y1 hb0;have H:=Y1 (Z0h w (.int .i64 0) (.string ⟨#[]⟩) (.string ⟨#[]⟩) (.int .i64 0) (.slice none 0 0) (.slice none 0 0) (.slice none 0 0) (.slice none 0 0) (.int .i64 0) 26);have t:=Y1 B;have r:=Y1 y;have q:=Y1 I;have u:=Y1 C;have i:=Y1 k;clear hb0 z J D B y I C k;go_enter Tryz.func36,Tryz.ntmps36
 go_wp2_with fail
 refine p.out.mono ?_;rintro e W ⟨rfl,M,N⟩;have g:=Y1 M;have f:=Y1 N;clear M N p
 go_wp2_with fail
 rcases Bool.eq_false_or_eq_true (Prs.sign l τ.1 [102,117,110]) with j | j
 rotate_left
 refine (hidC (Z0C j b d.1 _ g.out) f).mono ?_;rintro e W ⟨rfl,g,f⟩
 go_wp2_with fail
 rcases Bool.eq_false_or_eq_true (Prs.sign l τ.1 [108,101,116]) with n | n
 rotate_left
 refine (hidC (Z0C n b d.1 _ g.out) f).mono ?_;rintro e W ⟨rfl,g,f⟩
 go_wp2_with fail
 rcases Bool.eq_false_or_eq_true (Prs.sign l τ.1 [105,102]) with o | o
 rotate_left
 refine (hidC (Z0C o b d.1 _ g.out) f).mono ?_;rintro e W ⟨rfl,g,f⟩
 go_wp2_with fail
 rcases Bool.eq_false_or_eq_true (Prs.sign l τ.1 [99,97,115,101]) with s3 | s3
 rotate_left
 refine (hidC (Z0C s3 b d.1 _ g.out) f).mono ?_;rintro e W ⟨rfl,g,f⟩
 go_wp2_with fail
 rcases Bool.eq_false_or_eq_true (Prs.sign l τ.1 [91]) with s4 | s4
 rotate_left
 refine (hidC (Z0A s4 b d.1 _ g.out) f).mono ?_;rintro e W ⟨rfl,g,f⟩;have s:Hid (Pso.bodyE l (Pso.expr l m) σ=Pso.chainE l (Pso.expr l m) τ a):=Y1 (by unfold Pso.bodyE; simp only; rw[<-u.out, <-i.out,if_neg (by rw[j]; simp),if_neg (by rw[n]; simp),if_neg (by rw[o]; simp),if_neg (by rw[s3]; simp),if_neg (by rw[s4]; simp)])
 go_wp2_with fail
 refine (hidT (w.heap.size+1) (ZbX bp A c l m τ a t.out q.out d r.out (by omega) _ g.out) f (by simp)).mono ?_
 rotate_left
 have s:Hid (Pso.bodyE l (Pso.expr l m) σ=Pso.funE l (Pso.expr l m) (τ.1+1,τ.2) a):=Y1 (by unfold Pso.bodyE; simp only; rw[<-u.out, <-i.out,if_pos j]);refine (hidC (Z0N j b d.1 _ g.out) f).mono ?_;rintro e W ⟨rfl,g,f⟩;have h:=Pso.sign_lt j
 go_wp2_with fail
 refine (hidT (w.heap.size+1) (Zdt bp A c l m (τ.1+1,τ.2) a t.out q.out (Pso.to_next d h).1 r.out (by simp only; omega) _ g.out) f (by simp)).mono ?_
 rotate_left
 have s:Hid (Pso.bodyE l (Pso.expr l m) σ=Pso.letE l (Pso.expr l m) (τ.1+1,τ.2) a):=Y1 (by unfold Pso.bodyE; simp only; rw[<-u.out, <-i.out,if_neg (by rw[j]; simp),if_pos n]);refine (hidC (Z0N n b d.1 _ g.out) f).mono ?_;rintro e W ⟨rfl,g,f⟩;have h:=Pso.sign_lt n
 go_wp2_with fail
 refine (hidT (w.heap.size+1) (Zdu bp A c l m (τ.1+1,τ.2) a t.out q.out (Pso.to_next d h).1 r.out (by simp only; omega) _ g.out) f (by simp)).mono ?_
 rotate_left
 have s:Hid (Pso.bodyE l (Pso.expr l m) σ=Pso.choiceE l (Pso.expr l m) (τ.1+1,τ.2) a):=Y1 (by unfold Pso.bodyE; simp only; rw[<-u.out, <-i.out,if_neg (by rw[j]; simp),if_neg (by rw[n]; simp),if_pos o]);refine (hidC (Z0N o b d.1 _ g.out) f).mono ?_;rintro e W ⟨rfl,g,f⟩;have h:=Pso.sign_lt o
 go_wp2_with fail
 refine (hidT (w.heap.size+1) (Z8N bp A c l m (τ.1+1,τ.2) a t.out q.out (Pso.to_next d h).1 r.out (by simp only; omega) _ g.out) f (by simp)).mono ?_
 rotate_left
 have s:Hid (Pso.bodyE l (Pso.expr l m) σ=Pso.matchE l (Pso.expr l m) (τ.1+1,τ.2) a):=Y1 (by unfold Pso.bodyE; simp only; rw[<-u.out, <-i.out,if_neg (by rw[j]; simp),if_neg (by rw[n]; simp),if_neg (by rw[o]; simp),if_pos s3]);refine (hidC (Z0N s3 b d.1 _ g.out) f).mono ?_;rintro e W ⟨rfl,g,f⟩;have h:=Pso.sign_lt s3
 go_wp2_with fail
 refine (hidT (w.heap.size+1) (Za0 bp A c l m (τ.1+1,τ.2) a t.out q.out (Pso.to_next d h).1 r.out (by simp only; omega) _ g.out) f (by simp)).mono ?_
 rotate_left
 have s:Hid (Pso.bodyE l (Pso.expr l m) σ=Pso.listE l (Pso.expr l m) τ a):=Y1 (by unfold Pso.bodyE; simp only; rw[<-u.out, <-i.out,if_neg (by rw[j]; simp),if_neg (by rw[n]; simp),if_neg (by rw[o]; simp),if_neg (by rw[s3]; simp),if_pos s4]);refine (hidC (Z0A s4 b d.1 _ g.out) f).mono ?_;rintro e W ⟨rfl,g,f⟩;have h:=Pso.sign_lt s4
 go_wp2_with fail
 refine (hidT (w.heap.size+1) (ZbM bp A c l m τ a t.out q.out d r.out (by rw[Z2k s4]; simp only; omega) _ g.out) f (by simp)).mono ?_
 all_goals
  rintro e W ⟨x,rfl,g,f,O,P,G⟩;simp only[valT];obtain ⟨Q,S,T,U,V,X,Y,Z,r8,f0,f1,f2,f3,f4,f5,f6,f7,f8,rl⟩:=H.out.upf f.out (by simp; omega);go_wp2;refine bodyPost_ret (v:=valT x) (by simp[results,Tryz.results36,go_sem,valT,Q,S,T,U,V,X,Y,Z,r8,rl]) rfl ?_;have y:=end9 g.out ((Z05 (F:= [bp]) E.out).trans f.out) O.out (rb:=w.heap.size) (Nat.le_refl _) (Or.inl (by omega)) K;rw[s.out];exact ⟨x,rfl,(y _ _ _ _ _ _ _ _ _).1,(y _ _ _ _ _ _ _ _ _).2.1,(y _ _ _ _ _ _ _ _ _).2.2,by omega,G.out⟩
end
theorem Z7h (bp:Nat) (A:Option Addr) (c:Nat) (l:List Tk) (a:TokOk l): ∀m,ExC bp A c l m
 | 0=>fun W τ hO hm=>absurd hm (by omega)
 | m+1=>fun W τ hO hm hP=>ZeK bp A c l m τ _ _ a (Z7h bp A c l a m) hO hm rfl rfl W hP
theorem Z6M (bp:Nat) (A:Option Addr) (c:Nat) (l:List Tk) (X:TokOk l) (σ:St) (S:Ok l σ) (w:World) (T:PAt w bp A c l σ):
 Calls Tryz.prog 22 #[.pointer (some ⟨bp,0,none⟩)] w (TmIs bp A c l (Pso.wholeE l σ) w):=by
 have HF:Hid (Pso.wholeE l σ=((Pso.expr l (l.length+1) σ).1,if Tms.check (Pso.expr l (l.length+1) σ).1=0 then (Pso.expr l (l.length+1) σ).2 else Pso.fail l (Pso.expr l (l.length+1) σ).2 (Tms.check (Pso.expr l (l.length+1) σ).1) (Prs.look l σ.1).at_)):=Y1 rfl;rw[HF.out];have u:=X.len;have hb0:=Z01 w (.cells Ya 26);have E:=Y1 (T.below hb0);have D:=Y1 hb0;have H:=Y1 (Z0h w (.int .i64 0) (.string ⟨#[]⟩) (.string ⟨#[]⟩) (.int .i64 0) (.slice none 0 0) (.slice none 0 0) (.slice none 0 0) (.slice none 0 0) (.int .i64 0) 26);have K:=T.lt;have G:=Y1 (fun (W:World) (h:PAt W bp A c l σ)=>Z7h bp A c l X (l.length+1) W σ S (by omega) h);have b4:=Z47 (Prs.look l σ.1).t.kind ⟨(Prs.look l σ.1).t.text.toArray⟩ (Prs.look l σ.1).at_;obtain ⟨y,hy⟩: ∃y,y=Pso.expr l (l.length+1) σ:=⟨_,rfl⟩;rw[<-hy] at G ⊢;obtain ⟨k,V⟩: ∃k,k=Tms.check y.1:=⟨_,rfl⟩;have HK:=Y1 V;rw[<-V];clear HF hb0 T hy V X;by_cases m:k=0
 {have e0: (k !=0)=false:=by simpa using m
  rw[if_pos m];clear m;go_enter Tryz.func22,Tryz.ntmps22
  go_wp2_with fail
  refine (Z1A u S.1 _ E.out).mono ?_;rintro e w1 ⟨rfl,hp1,q⟩;have n:=Y1 hp1;have o:=Y1 q;clear hp1 q
  go_wp2_with fail
  refine (G.out w1 n.out).mono ?_;rintro e t ⟨x,rfl,hp2,hu2,hx,hlo,r⟩;have Y:w.heap.size+1<=x.lo:=by have Q:=o.out.size; simp at Q; omega
  have U:bp < t.heap.size:=hp2.lt;have g:=Z01 t (.cells (Y7 x.t x.q) 26);have a:=Y1 (hp2.below g);have i:=Y1 ((o.out.trans hu2).below g);have f:=Y1 (show x.Is _ from New.below hx g);have d:=Y1 (Z0h t (.int .i64 x.t.kind) (.string ⟨x.t.of_.toArray⟩) (.string ⟨x.t.name.toArray⟩) (.int .i64 x.t.n) (.slice x.q.A x.t.names.length x.q.c) (.slice x.q.V x.t.vars.length x.q.e) (.slice x.q.S x.t.shapes.length x.q.s) (.slice x.q.P x.t.parts.length x.q.d) (.int .i64 x.t.at_) 26);have j:=Y1 r;clear hp2 hu2 hx hlo r g G n;simp only[valT];obtain ⟨I,c1,c2,c3,c4,c5,c6,c7,c8,cf,J⟩:=d.out
  go_wp2_with fail
  generalize t.alloc (.cells (Y7 x.t x.q) 26)=W2 at a i f d I c1 c2 c3 c4 c5 c6 c7 c8 J ⊢;refine (Z2d x.t x.q W2 f.out.here a.out.gs.gl.s a.out.gs.gl.u j.out.2).mono ?_;rintro e L ⟨rfl,b⟩;rw[j.out.1, <-HK.out];clear I c1 c2 c3 c4 c5 c6 c7 c8 cf J;have z:=Y1 (a.out.below b);have p:=Y1 (i.out.below b);have B:=Y1 (show x.Is L from New.below f.out b);obtain ⟨x0,x1,x2,x3,x4,x5,x6,x7,x8,xf,xl⟩:=d.out.below b;obtain ⟨r0,r1,r2,r3,r4,r5,r6,r7,r8,rf,Z⟩:=H.out.up p.out (by simp; omega);have f0:=rf 0;have f1:=rf 1;have f2:=rf 2;have f3:=rf 3;have f4:=rf 4;have f5:=rf 5;have f6:=rf 6;have f7:=rf 7;have f8:=rf 8;clear rf xf d a i f;go_wp2;refine bodyPost_ret (v:=valT x) (by simp[results,Tryz.results22,go_sem,valT,r0,r1,r2,r3,r4,r5,r6,r7,r8,Z]) rfl ?_;have C:=end9 z.out ((Z05 (F:= [bp]) D.out).trans p.out) B.out (rb:=w.heap.size) (Nat.le_refl _) (Or.inl (by omega)) K;exact ⟨x,rfl,(C _ _ _ _ _ _ _ _ _).1,(C _ _ _ _ _ _ _ _ _).2.1,(C _ _ _ _ _ _ _ _ _).2.2,by omega,j.out⟩}
 {have e0: (k !=0)=true:=by simpa using m
  rw[if_neg m];clear m;go_enter Tryz.func22,Tryz.ntmps22
  go_wp2_with fail
  refine (Z1A u S.1 _ E.out).mono ?_;rintro e w1 ⟨rfl,hp1,q⟩;have n:=Y1 hp1;have o:=Y1 q;clear hp1 q
  go_wp2_with fail
  refine (G.out w1 n.out).mono ?_;rintro e t ⟨x,rfl,hp2,hu2,hx,hlo,r⟩;have Y:w.heap.size+1<=x.lo:=by have Q:=o.out.size; simp at Q; omega
  have U:bp < t.heap.size:=hp2.lt;have g:=Z01 t (.cells (Y7 x.t x.q) 26);have a:=Y1 (hp2.below g);have i:=Y1 ((o.out.trans hu2).below g);have f:=Y1 (show x.Is _ from New.below hx g);have d:=Y1 (Z0h t (.int .i64 x.t.kind) (.string ⟨x.t.of_.toArray⟩) (.string ⟨x.t.name.toArray⟩) (.int .i64 x.t.n) (.slice x.q.A x.t.names.length x.q.c) (.slice x.q.V x.t.vars.length x.q.e) (.slice x.q.S x.t.shapes.length x.q.s) (.slice x.q.P x.t.parts.length x.q.d) (.int .i64 x.t.at_) 26);have j:=Y1 r;clear hp2 hu2 hx hlo r g G n;simp only[valT];obtain ⟨I,c1,c2,c3,c4,c5,c6,c7,c8,cf,J⟩:=d.out
  go_wp2_with fail
  generalize t.alloc (.cells (Y7 x.t x.q) 26)=W2 at a i f d I c1 c2 c3 c4 c5 c6 c7 c8 J ⊢;refine (Z2d x.t x.q W2 f.out.here a.out.gs.gl.s a.out.gs.gl.u j.out.2).mono ?_;rintro e L ⟨rfl,b⟩;rw[j.out.1, <-HK.out];clear I c1 c2 c3 c4 c5 c6 c7 c8 cf J;have N:=Y1 (a.out.below b);have O:=Y1 (i.out.below b);have P:=Y1 (show x.Is L from New.below f.out b);have M:=Y1 (d.out.below b);clear b
  go_wp2_with fail
  refine (Z3j bp A c l y.2 k (Prs.look l σ.1).at_ (by omega) L N.out).mono ?_;rintro e w4 ⟨rfl,hp4,s⟩;have z:=Y1 hp4;have p:=Y1 (O.out.trans s);have B:=Y1 (show x.Is w4 from New.up P.out s (by simp; omega));obtain ⟨x0,x1,x2,x3,x4,x5,x6,x7,x8,xf,xl⟩:=M.out.up s (by simp; omega);clear hp4 s;obtain ⟨r0,r1,r2,r3,r4,r5,r6,r7,r8,rf,Z⟩:=H.out.up p.out (by simp; omega);have f0:=rf 0;have f1:=rf 1;have f2:=rf 2;have f3:=rf 3;have f4:=rf 4;have f5:=rf 5;have f6:=rf 6;have f7:=rf 7;have f8:=rf 8;clear rf xf d a i f;go_wp2;refine bodyPost_ret (v:=valT x) (by simp[results,Tryz.results22,go_sem,valT,r0,r1,r2,r3,r4,r5,r6,r7,r8,Z]) rfl ?_;have C:=end9 z.out ((Z05 (F:= [bp]) D.out).trans p.out) B.out (rb:=w.heap.size) (Nat.le_refl _) (Or.inl (by omega)) K;exact ⟨x,rfl,(C _ _ _ _ _ _ _ _ _).1,(C _ _ _ _ _ _ _ _ _).2.1,(C _ _ _ _ _ _ _ _ _).2.2,by omega,j.out⟩}
end
section
open Go.RowKit Tms
open Shp (Sh)
open Pso (St Ok Goes betw loop want)
open Prs (sign R Flt)
def aE (w:World):World:=(w.alloc (.cells Ya 26)).alloc (.cells Yc 29)
theorem Z0W (w:World):Below w.heap.size w (aE w):=Z03 (Z01 _ _) _
theorem Zero9.next {W W':World} {g:Nat} (h:Zero9 W g) (a:Below W.heap.size W W'):Zero9 W' g:=h.below a
theorem Z5c (w:World):Zero9 (aE w) w.heap.size:=(Z0h w _ _ _ _ _ _ _ _ _ _).below (Z01 _ _)
theorem Z6o (w:World):Box2 (aE w) (w.heap.size+1) 0 0:=by
 refine ⟨by simp[aE], ?_, ?_, ?_, ?_⟩ <;> simp[aE,go_sem]
def TmOut (r:R Tm) (w:World) (e:Ending) (w':World):Prop:=
 Below w.heap.size w w'/\match r with
 | .ok y=> ∃x:ET,e= .returned (.tuple #[valT x,.int .i64 (y.2:Int),.agg #[.int .i64 0,.int .i64 0]])/\x.Is w'/\w.heap.size<=x.lo/\x.t=y.1
 | .error f=>e= .returned (.tuple #[.agg #[.int .i64 0,.string ⟨#[]⟩,.string ⟨#[]⟩,.int .i64 0,.slice none 0 0,.slice none 0 0,.slice none 0 0,.slice none 0 0,.int .i64 0],.int .i64 0,.agg #[.int .i64 f.1,.int .i64 f.2]])
def TmFn (fn:Nat) (whole:List Tk->St->Tm×St):Prop:= ∀(bp:Nat) (A:Option Addr) (c:Nat) (l:List Tk),TokOk l-> ∀(σ:St),Ok l σ-> ∀(w:World),PAt w bp A c l σ->
 Calls Tryz.prog fn #[.pointer (some ⟨bp,0,none⟩)] w (TmIs bp A c l (whole l σ) w)
def bE (w:World):World:=(aE w).alloc (.cells Ya 26)
theorem ZaH (w:World):Zero9 (bE w) (w.heap.size+1+1):=by
 have h:=Z0h (aE w) (.int .i64 0) (.string ⟨#[]⟩) (.string ⟨#[]⟩) (.int .i64 0) (.slice none 0 0) (.slice none 0 0) (.slice none 0 0) (.slice none 0 0) (.int .i64 0) 26;rw[show (aE w).heap.size=w.heap.size+1+1 by simp[aE]] at h;exact h
theorem Zero9.upT {F:List Nat} {W W':World} {g:Nat} (h:Zero9 W g) (b:UpT F W W') (c:g∉F):Zero9 W' g:=by
 have a:=b.same h.lt c;exact ⟨(a.1 _).trans h.c0,(a.1 _).trans h.c1,(a.1 _).trans h.c2,(a.1 _).trans h.c3,(a.1 _).trans h.c4,(a.1 _).trans h.c5,(a.1 _).trans h.c6,(a.1 _).trans h.c7,(a.1 _).trans h.c8,fun j=>(a.2 j).trans (h.fz j),Nat.lt_of_lt_of_le h.lt b.size⟩
theorem Z6N {w V E:World} {x:ET} (d:x.Is V) (a:w.heap.size+1+1<=x.lo) (c:UpT [w.heap.size,w.heap.size+1] V E):x.Is E:=
 New.up d c (fun b hb=>by simp at hb; omega)
theorem Z7J (A:Option Addr) (c:Nat) (l:List Tk) (at_:Int) (s: ∀b∈l,b.t.text.length<=100000/\ -9223372036854775808<=b.at_/\b.at_<=9223372036854775807) (ha: -9223372036854775808<=at_/\at_<=9223372036854775807) (hl:l.length<=1000000000) (N:Nat) (V: ∀args W,(callFunc N args).run Tryz.prog W= .ok (.enter N args) W) (whole:List Tk->St->Tm×St) (D:TmFn N whole) (w:World) (h:Tks w w.heap.size A l) (T:Gl w):
 Calls Tryz.prog 21 #[.slice A l.length c,.int .i64 at_,.func (.func N) #[] #[]] w (TmOut (Pso.rd l at_ (whole l)) w):=by
 have HT:=Y1 D;have HB:=Y1 (Z0W w);have HZ:=Y1 (Z5c w);have HX:=Y1 (Z6o w);have HK:=Y1 (h.on (Z0W w));have HG:=Y1 (T.next (Z0W w));by_cases B:at_ < 0
 {have q:Hid (Pso.rd l at_ (whole l)= .error (2,0)):=Y1 (by unfold Pso.rd; rw[if_pos (Or.inl B)]);rw[q.out];have e1:decide (at_ < 0)=true:=by simpa using B
  clear h B D s;go_enter Tryz.func21,Tryz.ntmps21
  go_wp2_with fail
  refine bodyPost_ret (v:= .tuple #[.agg #[.int .i64 0,.string ⟨#[]⟩,.string ⟨#[]⟩,.int .i64 0,.slice none 0 0,.slice none 0 0,.slice none 0 0,.slice none 0 0,.int .i64 0],.int .i64 0,.agg #[.int .i64 2,.int .i64 0]]) (by simp[results,Tryz.results21,go_sem]) rfl ?_;exact ⟨Z03 (Z03 (Z01 _ _) _) _,rfl⟩}
 {have e1:decide (at_ < 0)=false:=by simpa using B
  obtain ⟨i,hi⟩: ∃i:Nat,at_=(i:Int):=⟨at_.toNat,by omega⟩;subst hi;by_cases Q:l.length < i
  {have q:Hid (Pso.rd l (i:Int) (whole l)= .error (2,0)):=Y1 (by unfold Pso.rd; rw[if_pos (Or.inr (by omega))]);rw[q.out];have e2:decide (l.length < i)=true:=by simpa using Q
   clear h B D s;go_enter Tryz.func21,Tryz.ntmps21
   go_wp2_with fail
   refine bodyPost_ret (v:= .tuple #[.agg #[.int .i64 0,.string ⟨#[]⟩,.string ⟨#[]⟩,.int .i64 0,.slice none 0 0,.slice none 0 0,.slice none 0 0,.slice none 0 0,.int .i64 0],.int .i64 0,.agg #[.int .i64 2,.int .i64 0]]) (by simp[results,Tryz.results21,go_sem]) rfl ?_;exact ⟨Z03 (Z03 (Z01 _ _) _) _,rfl⟩}
  {have e2:decide (l.length < i)=false:=by simpa using Q
   by_cases S:4097 < l.length
   {have q:Hid (Pso.rd l (i:Int) (whole l)= .error (3,0)):=Y1 (by unfold Pso.rd; rw[if_neg (by omega),if_pos S]);rw[q.out];have e3:decide ((4097:Int) < (l.length:Int))=true:=by simp; omega
    clear h B D s;go_enter Tryz.func21,Tryz.ntmps21
    go_wp2_with fail
    refine bodyPost_ret (v:= .tuple #[.agg #[.int .i64 0,.string ⟨#[]⟩,.string ⟨#[]⟩,.int .i64 0,.slice none 0 0,.slice none 0 0,.slice none 0 0,.slice none 0 0,.int .i64 0],.int .i64 0,.agg #[.int .i64 3,.int .i64 0]]) (by simp[results,Tryz.results21,go_sem]) rfl ?_;exact ⟨Z03 (Z03 (Z01 _ _) _) _,rfl⟩}
   {have e3:decide ((4097:Int) < (l.length:Int))=false:=by simp; omega
    have q:Hid (Pso.rd l (i:Int) (whole l)=if (whole l (i,(0,0))).2.2.1=0 then .ok ((whole l (i,(0,0))).1,(whole l (i,(0,0))).2.1) else .error (whole l (i,(0,0))).2.2):=Y1 (by unfold Pso.rd; rw[if_neg (by omega),if_neg S]; rfl);rw[q.out];have hO:Ok l (i,(0,0)):=⟨by show i<=l.length; omega,fun h=>absurd rfl h⟩;have L:=Y1 (show PAt ((bE w).alloc (.cells #[.slice A l.length c,.int .i64 (i:Int),.int .i64 0,.int .i64 0] 81)) (w.heap.size+1+1+1) A c l (i,(0,0)) from ?_);have K:=Y1 (fun W h=>D (w.heap.size+1+1+1) A c l ⟨by omega,fun b d=>by have:=(s b d).1; omega,fun b d=>(s b d).2,fun b d=>(s b d).1⟩ (i,(0,0)) hO W h);have u:=Y1 (show Below w.heap.size w ((bE w).alloc (.cells #[.slice A l.length c,.int .i64 (i:Int),.int .i64 0,.int .i64 0] 81)) from Z03 (Z03 (Z0W w) _) _);have g:=Y1 (show Zero9 ((bE w).alloc (.cells #[.slice A l.length c,.int .i64 (i:Int),.int .i64 0,.int .i64 0] 81)) w.heap.size/\Box2 ((bE w).alloc (.cells #[.slice A l.length c,.int .i64 (i:Int),.int .i64 0,.int .i64 0] 81)) (w.heap.size+1) 0 0/\Zero9 ((bE w).alloc (.cells #[.slice A l.length c,.int .i64 (i:Int),.int .i64 0,.int .i64 0] 81)) (w.heap.size+1+1) from ⟨(HZ.out.next (Z01 _ _)).next (Z01 _ _),(HX.out.next (Z01 _ _)).next (Z01 _ _),Zero9.next (ZaH w) (Z01 _ _)⟩);clear h B Q S D s q HT;obtain ⟨y,hy⟩: ∃y,y=whole l (i,(0,0)):=⟨_,rfl⟩;rw[<-hy] at K ⊢;clear hy;obtain ⟨ys,yj,C,Z⟩:=y;obtain ⟨r,Y⟩: ∃r:R Tm,r=if C=0 then .ok (ys,yj) else .error (C,Z):=⟨_,rfl⟩;have m:=Y1 Y;dsimp only at K ⊢;rw[<-Y];clear Y;go_enter Tryz.func21,Tryz.ntmps21
    go_wp2_with fail
    change Calls _ _ _ ((bE w).alloc (.cells #[.slice A l.length c,.int .i64 (i:Int),.int .i64 0,.int .i64 0] 81)) _;generalize (bE w).alloc (.cells #[.slice A l.length c,.int .i64 (i:Int),.int .i64 0,.int .i64 0] 81)=W3 at L u g ⊢;refine (K.out W3 L.out).mono ?_;rintro e M ⟨x,rfl,I,j,J,H,⟨t,a4⟩⟩;simp only[valT];have a:=Z01 M (.cells (Y7 x.t x.q) 26);have n:=I.below a;have U:w.heap.size+1+1+1 < W3.heap.size:=L.out.lt;have E:=Y1 (show Below w.heap.size w (M.alloc (.cells (Y7 x.t x.q) 26)) from Z00 (((Z05 (F:= [w.heap.size+1+1+1]) u.out).trans j).low (by intro b d; simp at d; omega)) a);have P:=Y1 (show x.Is (M.alloc (.cells (Y7 x.t x.q) 26)) from New.below J a);have G:Hid (w.heap.size+1+1<=x.lo):=Y1 (by omega);have O:=Y1 t;obtain ⟨z1,z2,z3,z4,z5,z6,z7,z8,z9,p,z0⟩:=(g.out.1.upT j (by intro d; simp at d; omega)).next a;have d7:=p 0;have d8:=p 1;have d9:=p 2;have e0:=p 3;have e4:=p 4;have e6:=p 5;have e7:=p 6;have e8:=p 7;have e9:=p 8;obtain ⟨x0,x1,x2,d5,d6⟩:=(g.out.2.1.upT j (by intro d; simp at d)).next a;obtain ⟨n1,n2,n3,n4,n5,n6,n7,n8,n9,o,n0⟩:=(g.out.2.2.upT j (by simp)).next a;have b7:=o 0;have b8:=o 1;have b9:=o 2;have c9:=o 3;have d0:=o 4;have d1:=o 5;have d2:=o 6;have d3:=o 7;have d4:=o 8;obtain ⟨c0,c1,c2,c3,c4,c5,c6,c7,c8,cf,cl⟩:=Z0h M (.int .i64 x.t.kind) (.string ⟨x.t.of_.toArray⟩) (.string ⟨x.t.name.toArray⟩) (.int .i64 x.t.n) (.slice x.q.A x.t.names.length x.q.c) (.slice x.q.V x.t.vars.length x.q.e) (.slice x.q.S x.t.shapes.length x.q.s) (.slice x.q.P x.t.parts.length x.q.d) (.int .i64 x.t.at_) 26;have p1:=n.c1;have p2:=n.c2;have p3:=n.c3;dsimp only at p1 p2 p3;clear I j J H t n a L u g K U HB HZ HX HK HG hO ha V T
    by_cases f:C=0
    {have z:Hid (r= .ok (ys,yj)):=Y1 (by rw[m.out,if_pos f]);have e5: (C !=0)=false:=by simpa using f
     clear m f
     go_wp2_with fail
     go_region
     all_goals go_wp2
     all_goals refine bodyPost_ret (v:= .tuple #[valT x,.int .i64 (yj:Int),.agg #[.int .i64 0,.int .i64 0]]) (by simp[results,Tryz.results21,go_sem,valT,z0,x0,z1,z2,z3,z4,z5,z6,z7,z8,z9,x1,x2]) rfl ?_
     all_goals rw[z.out]
     all_goals refine ⟨Z0U E.out ?_,x,rfl,Z6N P.out G.out ?_,by have:=G.out; omega,O.out⟩
     all_goals repeat' (with_reducible first | refine UpT.drew ?_ | refine UpT.set ?_ _ (Or.inr ?_) _ | exact UpT.refl _ _)
     all_goals simp}
    {have z:Hid (r= .error (C,Z)):=Y1 (by rw[m.out,if_neg f]);have e5: (C !=0)=true:=by simpa using f
     clear m f
     go_wp2_with fail
     go_region
     all_goals go_wp2
     all_goals refine bodyPost_ret (v:= .tuple #[.agg #[.int .i64 0,.string ⟨#[]⟩,.string ⟨#[]⟩,.int .i64 0,.slice none 0 0,.slice none 0 0,.slice none 0 0,.slice none 0 0,.int .i64 0],.int .i64 0,.agg #[.int .i64 C,.int .i64 Z]]) (by simp[results,Tryz.results21,go_sem,valT,z0,x0,z1,z2,z3,z4,z5,z6,z7,z8,z9,x1,x2]) rfl ?_
     all_goals rw[z.out]
     all_goals refine ⟨Z0U E.out ?_,rfl⟩
     all_goals repeat' (with_reducible first | refine UpT.drew ?_ | refine UpT.set ?_ _ (Or.inr ?_) _ | exact UpT.refl _ _)
     all_goals simp}
    {have e: (bE w).heap.size=w.heap.size+1+1+1:=by simp[bE,aE]
     have X:Tks (bE w) (w.heap.size+1+1+1) A l:=by rw[<-e]; exact h.on (Z03 (Z0W w) _)
     refine ⟨by simp[bE,aE], ?_, ?_, ?_, ?_,fun k=> ?_,X.same (fun b d=>(Z05 (F:= []) (Z01 _ _)).same (by omega) (by simp)),⟨w,by omega,Z03 (Z03 (Z0W w) _) _,T⟩,fun b d=>Nat.le_trans (s b d).1 (by decide)⟩
     all_goals rw[<-e]
     all_goals (first | done | simp[go_sem])}}}}
end
section
open Go.RowKit Tms
open Shp (Sh)
open Pso (St Ok)
open Prs (R)
theorem ZdB:TmFn 22 Pso.wholeE:=fun bp A c l hl σ hO w h=>Z6M bp A c l hl σ hO w h
theorem ZbY (A:Option Addr) (c:Nat) (l:List Tk) (at_:Int) (s: ∀b∈l,b.t.text.length<=100000/\ -9223372036854775808<=b.at_/\b.at_<=9223372036854775807) (N: -9223372036854775808<=at_/\at_<=9223372036854775807) (O:l.length<=1000000000) (w:World) (h:Tks w w.heap.size A l) (p:Gl w):
 Calls Tryz.prog 12 #[.slice A l.length c,.int .i64 at_] w (TmOut (Pso.rd l at_ (Pso.wholeE l)) w):=by
 have m:=Y1 (Z0W w);have j:=Y1 (Z5c w);have i:=Y1 (Z6o w);have n:=Y1 (Z7J A c l at_ s N O 22 (fun _ _=>rfl) Pso.wholeE ZdB (aE w) (h.on (Z0W w)) (p.next (Z0W w)));obtain ⟨r,u⟩: ∃r,r=Pso.rd l at_ (Pso.wholeE l):=⟨_,rfl⟩;rw[<-u] at n ⊢;clear h p s u;go_enter Tryz.func12,Tryz.ntmps12
 go_wp2_with fail
 change Calls _ _ _ (aE w) _;refine n.out.mono ?_;generalize aE w=W0 at m j i ⊢;rintro e W1 ⟨k,t⟩;have d:=Y1 (Z00 m.out k);have hz:=j.out.lt;have P:=i.out.1;obtain ⟨C,D,E,F,G,H,I,J,K,a,B⟩:=j.out.next k;have T:=a 0;have U:=a 1;have V:=a 2;have W:=a 3;have X:=a 4;have Y:=a 5;have Z:=a 6;have a0:=a 7;have a1:=a 8;obtain ⟨x0,x1,x2,Q,S⟩:=i.out.next k;cases r with
 | ok y=>
  obtain ⟨x,rfl,q,o,z⟩:=t;have L:=Y1 q;have g:Hid (w.heap.size+1+1<=x.lo):=Y1 (by omega);have M:=Y1 z;clear q o z k m j i n;simp only[valT]
  go_wp2_with fail
  all_goals refine bodyPost_ret (v:= .tuple #[valT x,.int .i64 (y.2:Int),.agg #[.int .i64 0,.int .i64 0]]) (by simp[results,Tryz.results12,go_sem,valT,B,x0,C,D,E,F,G,H,I,J,K,x1,x2]) rfl ?_
  all_goals refine ⟨Z0U d.out ?_,x,rfl,Z6N L.out g.out ?_,by have:=g.out; omega,M.out⟩
  all_goals repeat' (with_reducible first | refine UpT.drew ?_ | refine UpT.set ?_ _ (Or.inr ?_) _ | exact UpT.refl _ _)
  all_goals simp
 | error f=>
  obtain rfl:=t;clear k m j i n
  go_wp2_with fail
  all_goals refine bodyPost_ret (v:= .tuple #[.agg #[.int .i64 0,.string ⟨#[]⟩,.string ⟨#[]⟩,.int .i64 0,.slice none 0 0,.slice none 0 0,.slice none 0 0,.slice none 0 0,.int .i64 0],.int .i64 0,.agg #[.int .i64 f.1,.int .i64 f.2]]) (by simp[results,Tryz.results12,go_sem,B,x0,C,D,E,F,G,H,I,J,K,x1,x2]) rfl ?_
  all_goals refine ⟨Z0U d.out ?_,rfl⟩
  all_goals repeat' (with_reducible first | refine UpT.drew ?_ | refine UpT.set ?_ _ (Or.inr ?_) _ | exact UpT.refl _ _)
  all_goals simp
end
end Go.Proofs.YtkncdbaoaeeoiaaGreatDoor
