/- What the proofs of ParsePlaces want, part 28. -/
import Derived.Test.YtkncdbaoaeeoiaaGreatDoorK0n27
set_option linter.unusedVariables false
set_option linter.unusedSimpArgs false
set_option linter.unusedSectionVars false
set_option maxRecDepth 100000
set_option maxHeartbeats 16000000
namespace Go.Proofs.YtkncdbaoaeeoiaaGreatDoor
section
open Go.RowKit Tms
open Shp (Sh)
open Pso (St Ok Goes betw loop want)
def chW (w:World) (bp:Nat):World:=(w.alloc (.cells #[.pointer (some ⟨bp,0,none⟩)] 59)).alloc (.cells Ya 26)
section
variable (w : World) (bp : Nat)
include w bp
theorem ZeJ: (chW w bp).heap.size=w.heap.size+2:=by simp[chW]
theorem Z7g:Below w.heap.size w (chW w bp):=Z03 (Z01 _ _) _
theorem ZfE: (chW w bp).cell? ⟨w.heap.size,0,none⟩=some (.pointer (some ⟨bp,0,none⟩)):=by simp[chW,go_sem]
theorem ZfF:Zero9 (chW w bp) (w.heap.size+1):=by
 have h:=Z0h (w.alloc (.cells #[.pointer (some ⟨bp,0,none⟩)] 59)) (.int .i64 0) (.string ⟨#[]⟩) (.string ⟨#[]⟩) (.int .i64 0) (.slice none 0 0) (.slice none 0 0) (.slice none 0 0) (.slice none 0 0) (.int .i64 0) 26;have e: (w.alloc (.cells #[.pointer (some ⟨bp,0,none⟩)] 59)).heap.size=w.heap.size+1:=by simp
 rw[e] at h;exact h
end
structure LC (bp:Nat) (A:Option Addr) (c:Nat) (l:List Tk) (m:Nat) (a:Int) (y:Tm×St) (W1:World) (tb B0:Nat) (k n:Nat) (τ:St) (x:ET) (W:World):Prop where
 eq:Pso.chainL l (Pso.expr l m) a n τ x.t=y
 lt:l.length - τ.1 < n
 le:n<=k
 ok:Ok l τ
 mm:l.length - τ.1 < m+1
 par:PAt W bp A c l τ
 up:UpT [bp,tb] W1 W
 nine:XNine W tb x
 is:x.IsX tb W
 lo:B0<=x.lo
 fw:few x.t=true
section
variable {l : List Tk} {ex : St -> Tm × St} {a : Int} {n : Nat} {τ : St} {t : Tm}
include l ex a n τ t
theorem ZbW (h:Prs.sign l τ.1 [40]=true):Pso.chainL l ex a (n+1) τ t=Pso.chainL l ex a n (betw l [40] [44] [41] (Pso.argsR l ex) τ [t]).1 { Prs.tm 7 a with parts:=(betw l [40] [44] [41] (Pso.argsR l ex) τ [t]).2 }:=by
 conv=>lhs; unfold Pso.chainL
 rw[if_pos h]
theorem Zad (h0:Prs.sign l τ.1 [40]=false) (h:Prs.sign l τ.1 [46]=true):Pso.chainL l ex a (n+1) τ t=Pso.chainL l ex a n (Pso.name l (τ.1+1,τ.2)).2 { Prs.tm 9 a with name:=(Pso.name l (τ.1+1,τ.2)).1,parts:= [t] }:=by
 conv=>lhs; unfold Pso.chainL
 rw[if_neg (by rw[h0]; simp),if_pos h]
theorem ZdA (h0:Prs.sign l τ.1 [40]=false) (h:Prs.sign l τ.1 [46]=false):Pso.chainL l ex a (n+1) τ t=(t,τ):=by
 conv=>lhs; unfold Pso.chainL
 rw[if_neg (by rw[h0]; simp),if_neg (by rw[h]; simp)]
end
section
variable (bp : Nat) (A : Option Addr) (c : Nat) (l : List Tk) (m : Nat)
include bp A c l m
theorem ZbX (σ:St) (a:Int) (hl:TokOk l) (ha: -9223372036854775808<=a/\a<=9223372036854775807) (hσ:Ok l σ) (hE:ExC bp A c l m) (hm:l.length - σ.1 < m+1) (w:World) (h:PAt w bp A c l σ):
 Calls Tryz.prog 71 #[.pointer (some ⟨bp,0,none⟩),.int .i64 a] w (TmIs bp A c l (Pso.chainE l (Pso.expr l m) σ a) w):=by
 have HF:Hid (Pso.chainE l (Pso.expr l m) σ a=Pso.chainL l (Pso.expr l m) a (l.length+1) (Pso.atomE l (Pso.expr l m) σ a).2 (Pso.atomE l (Pso.expr l m) σ a).1):=Y1 rfl;rw[HF.out];have hbw:=h.lt;have HLEN:=hl.len;have t1:=Pso.to_atom (Pso.to_expr m) a _ hσ;change Pso.To l σ (Pso.atomE l (Pso.expr l m) σ a).2 at t1;have HAT:=Y1 (Zdy bp A c l m σ a hl ha hσ hE hm _ (h.below (Z7g w bp)));have HL:=Y1 hl;have HE:=Y1 hE;have HA:=Y1 ha;have HCB:=Y1 (Z7g w bp);have HBX:=Y1 (ZfE w bp);have HZ:=Y1 (ZfF w bp);have HSZ:=Y1 (ZeJ w bp);obtain ⟨z,hz⟩: ∃z,z=Pso.atomE l (Pso.expr l m) σ a:=⟨_,rfl⟩;rw[<-hz] at HAT t1 ⊢;obtain ⟨y,hy⟩: ∃y,y=Pso.chainL l (Pso.expr l m) a (l.length+1) z.2 z.1:=⟨_,rfl⟩;rw[<-hy];have HY:=Y1 hy;have HT1:=Y1 t1;have HM:=Y1 hm;have hcw:chW w bp=(w.alloc (.cells #[.pointer (some ⟨bp,0,none⟩)] 59)).alloc (.cells Ya 26):=rfl;have HCW:=Y1 hcw;clear HF h t1 hz hy hl hE ha hm hcw;go_enter Tryz.func71,Tryz.ntmps71
 go_wp2_with fail
 rw[<-HCW.out];generalize chW w bp=Wc at HAT HCB HBX HZ HSZ ⊢;clear HCW;refine HAT.out.mono ?_;rintro e w1 ⟨xi,rfl,hp1,hu1,hx,hlo,hxt⟩;have hs1:=hu1.size;have hsz:=HSZ.out;have hlo1:w.heap.size+2<=xi.lo:=by omega
 have hbl:bp < w1.heap.size:=hp1.lt;have hxh:xi.hi<=w1.heap.size:=hx.hi_;have HR0:Hid (LC bp A c l m a y (w1.alloc (.cells (Y7 xi.t xi.q) 26)) w1.heap.size (w.heap.size+2) (l.length+1) (l.length+1) z.2 xi (w1.alloc (.cells (Y7 xi.t xi.q) 26))):=Y1 ⟨by rw[hxt.1]; exact HY.out.symm,by omega,Nat.le_refl _,HT1.out.1,by have:=HT1.out.2.1; have:=HM.out; omega,hp1.alloc _,UpT.refl _ _,Z0h w1 (.int .i64 xi.t.kind) (.string ⟨xi.t.of_.toArray⟩) (.string ⟨xi.t.name.toArray⟩) (.int .i64 xi.t.n) (.slice xi.q.A xi.t.names.length xi.q.c) (.slice xi.q.V xi.t.vars.length xi.q.e) (.slice xi.q.S xi.t.shapes.length xi.q.s) (.slice xi.q.P xi.t.parts.length xi.q.d) (.int .i64 xi.t.at_) _,(New.below hx (Z01 _ _)).x (by omega),hlo1,hxt.2⟩;have HU1:=Y1 (((Z05 (F:= [bp]) HCB.out).trans hu1).alloc (.cells (Y7 xi.t xi.q) 26));have HZ1:=Y1 ((HZ.out.up hu1 (by simp; omega)).below (Z01 w1 (.cells (Y7 xi.t xi.q) 26)));have HB1:Hid ((w1.alloc (.cells (Y7 xi.t xi.q) 26)).cell? ⟨w.heap.size,0,none⟩=some (.pointer (some ⟨bp,0,none⟩))/\w.heap.size < (w1.alloc (.cells (Y7 xi.t xi.q) 26)).heap.size):=Y1 ⟨((Z01 w1 (.cells (Y7 xi.t xi.q) 26)).cell (p:=⟨w.heap.size,0,none⟩) (by simp only; omega)).trans (((hu1.same (b:=w.heap.size) (by omega) (by simp; omega)).1 0).trans HBX.out),by simp; omega⟩;have HTL:Hid (w1.heap.size < (w1.alloc (.cells (Y7 xi.t xi.q) 26)).heap.size):=Y1 (by simp);clear hp1 hu1 hx hlo hxt HAT HCB HBX HZ HSZ HY HT1 hlo1 hxh;simp only[valT]
 go_wp2_with fail
 generalize w1.alloc (.cells (Y7 xi.t xi.q) 26)=W1 at HR0 HU1 HZ1 HB1 HTL ⊢;clear HM
 go_loopg [11] (l.length+1) (fun kx s11 wr=>Hid (∃n τ x,LC bp A c l m a y W1 w1.heap.size (w.heap.size+2) kx n τ x wr))
 case atStart=>exact ⟨_,_,_,HR0.out⟩
 case round=>
  obtain ⟨n,τ,x,hr⟩:=hrel.out;have HR:=Y1 hr;have hok:=hr.ok;have hzr:=hr.up.size;have htl:=HTL.out;have HPB:Hid (wr.cell? ⟨w.heap.size,0,none⟩=some (.pointer (some ⟨bp,0,none⟩))/\w.heap.size < wr.heap.size):=Y1 ⟨((hr.up.same HB1.out.2 (by simp; omega)).1 0).trans HB1.out.1,by have:=HB1.out.2; omega⟩;obtain ⟨b0,hb0⟩:=HPB.out;clear hrel HR0 hr;cases h40:Prs.sign l τ.1 [40]
  {cases h46:Prs.sign l τ.1 [46]
   {go_wp2_with fail
    refine (Z0A h40 HLEN hok.1 wr HR.out.par).mono ?_;rintro e w2 ⟨rfl,hp2,hu2⟩;have hs2:=hu2.size;have c2:=((hu2.same hb0 (by simp; omega)).1 0).trans b0;have l2:w.heap.size < w2.heap.size:=by omega
    have HP2:=Y1 hp2;have HV2:=Y1 hu2;clear hp2 hu2
    go_wp2_with fail
    refine (Z0C h46 HLEN hok.1 w2 HP2.out).mono ?_;rintro e w3 ⟨rfl,hp3,hu3⟩;have HP3:=Y1 hp3;have HV3:=Y1 (HV2.out.trans hu3);have HU3:=Y1 (HR.out.up.trans (HV3.out.mono (fun q hq _=>by simp at hq; simp[hq])));obtain ⟨r0,r1,r2,r3,r4,r5,r6,r7,r8,rf,rl⟩:=HZ1.out.up HU3.out (by simp; omega);obtain ⟨x0,x1,x2,x3,x4,x5,x6,x7,x8,xf,xl⟩:=HR.out.nine.up HV3.out (by simp; omega);have f0:=rf 0;have f1:=rf 1;have f2:=rf 2;have f3:=rf 3;have f4:=rf 4;have f5:=rf 5;have f6:=rf 6;have f7:=rf 7;have f8:=rf 8;have HX3:=Y1 (HR.out.is.up HV3.out (by simp; have:=HR.out.lo; omega));have HEQ:Hid ((x.t,τ)=y):=Y1 (by
     have h1:=HR.out.eq;have h2:=HR.out.lt;obtain ⟨n',rfl⟩: ∃n',n=n'+1:=⟨n - 1,by omega⟩;rw[ZdA h40 h46] at h1; exact h1)
    clear hp3 hu3 rf xf HV2 HP2 c2 l2 b0 hb0 h40 h46;go_wp2;refine bodyPost_ret (v:=valT x) (by simp[results,Tryz.results71,go_sem,valT,r0,r1,r2,r3,r4,r5,r6,r7,r8,rl]) rfl ?_;have hE:=end9 HP3.out (UpT.drop2 HU3.out HU1.out (by omega)) HX3.out.new (rb:=w.heap.size+1) (by omega) (Or.inl (by have:=HR.out.lo; omega)) hbw;rw[<-HEQ.out];exact ⟨x,rfl,(hE _ _ _ _ _ _ _ _ _).1,(hE _ _ _ _ _ _ _ _ _).2.1,(hE _ _ _ _ _ _ _ _ _).2.2,by have:=HR.out.lo; omega,rfl,HR.out.fw⟩}
   {go_wp2_with fail
    refine (Z0A h40 HLEN hok.1 wr HR.out.par).mono ?_;rintro e w2 ⟨rfl,hp2,hu2⟩;have hs2:=hu2.size;have c2:=((hu2.same hb0 (by simp; omega)).1 0).trans b0;have l2:w.heap.size < w2.heap.size:=by omega
    have HP2:=Y1 hp2;have HV2:=Y1 hu2;clear hp2 hu2
    go_wp2_with fail
    refine (Z0N h46 HLEN hok.1 w2 HP2.out).mono ?_;rintro e w3 ⟨rfl,hp3,hu3⟩;have hs3:=hu3.size;have c3:=((hu3.same l2 (by simp; omega)).1 0).trans c2;have l3:w.heap.size < w3.heap.size:=by omega
    have HP3:=Y1 hp3;have HV3:=Y1 (HV2.out.trans hu3);have HU3:=Y1 (HR.out.up.trans (HV3.out.mono (fun q hq _=>by simp at hq; simp[hq])));have HC3:=Y1 (HR.out.nine.up HV3.out (by simp; omega));have HX3:=Y1 (HR.out.is.up HV3.out (by simp; have:=HR.out.lo; omega));have hlo3:=HR.out.lo;have hhi3:=HR.out.is.hi_;have hlt:=Pso.sign_lt h46;have t2:=(Pso.to_next hok hlt).1;have t3:=Pso.to_name t2;have HT3:=Y1 t3;have HNM:=Y1 (fun (w:World) (h:PAt w bp A c l (τ.1+1,τ.2))=>Z1a bp A c l _ (by omega) t2.1 HL.out.txt w h);have HNL:=Y1 (Z0q HL.out.txt (τ.1+1,τ.2) 1 (by decide) Lex.isName);change Hid ((Pso.name l (τ.1+1,τ.2)).1.length<=1000000) at HNL;have HEQ:=Y1 (fun n'=>Zad (ex:=Pso.expr l m) (a:=a) (n:=n') (t:=x.t) h40 h46);obtain ⟨nn,hnn⟩: ∃nn,nn=Pso.name l (τ.1+1,τ.2):=⟨_,rfl⟩;rw[<-hnn] at HNM HNL HEQ HT3;clear hp3 hu3 HV2 HP2 c2 l2 b0 hb0 h40 h46 t2 t3 hnn
    go_wp2_with fail
    refine Z2c (rs:= [0,1,2,3,4,5,6,7,8]) (fun u=> { tmps:=#[.pointer (some ⟨bp,0,none⟩),.int .i64 a,.pointer (some ⟨w.heap.size,0,none⟩),undef,.pointer (some ⟨w.heap.size+1,0,none⟩),.pointer (some ⟨w1.heap.size,0,none⟩),u6,.pointer (some ⟨bp,0,none⟩),.int .i64 a,.agg (Y7 xi.t xi.q),u10,.bool false,.pointer (some ⟨bp,0,none⟩),.pointer (some ⟨bp,0,none⟩),.pointer (some ⟨bp,0,none⟩),.slice (some ⟨wr.heap.size,0,none⟩) 1 1,.bool false,u17,u18,u19,u20,u21,u22,u23,u24,u25,u26,.bool true,.pointer (some ⟨bp,0,none⟩),.pointer (some ⟨bp,0,none⟩),.pointer (some ⟨bp,0,none⟩),.slice (some ⟨w2.heap.size,0,none⟩) 1 1,.bool true,u 0,u 1,u 2,u 3,u 4,u 5,u 6,u 7],defers:= [] }) (fun j=>([u33,u34,u35,u36,u37,u38,u39,u40]:List Value).getD j undef)
     (FInv w3 bp A c l nn.2 nn.1 w1.heap.size x a) (by kernel_rfl) (by kernel_rfl) (by kernel_rfl) ⟨nofun,nofun,nofun,nofun,nofun,nofun,nofun,nofun,nofun,fun _=>Y2.drew,fun _=>(UpT.refl _ _).drew,nofun,nofun,nofun,nofun⟩ ?_ ?_
    refine StepsInv.cons _ rfl (fun d u W K' hI hd hw hK=> ?_) ?_
    {have hp3:W.cell? ⟨w.heap.size,0,none⟩=some (.pointer (some ⟨bp,0,none⟩))/\w.heap.size < W.heap.size:=by
      cases h1:d 3 with
      | false=>have hb:=hI.pre h1; exact ⟨(hb.cell (p:=⟨w.heap.size,0,none⟩) l3).trans c3,Nat.lt_of_lt_of_le l3 hb.size⟩
      | true=>
       cases h6:d 8 with
       | false=>have hb:=hI.up h6; exact ⟨((hb.same l3 (by simp; omega)).1 0).trans c3,Nat.lt_of_lt_of_le l3 hb.size⟩
       | true=>
        obtain ⟨Wm,g,k1,k2,k3,k4⟩:=hI.fin h6;have u1:UpT [w1.heap.size] Wm W:=by rw[k4]; exact Z1X (UpT.refl _ _) (Or.inr (by simp)) _ _ _ _ _ _ _ _ _
        have l4:=Nat.lt_of_lt_of_le l3 k3.size;exact ⟨((u1.same l4 (by simp; omega)).1 0).trans (((k3.same l3 (by simp; omega)).1 0).trans c3),Nat.lt_of_lt_of_le l4 u1.size⟩
     obtain ⟨cc,ll⟩:=hp3;refine Z02 (v:= .pointer (some ⟨bp,0,none⟩)) (W':=W) rfl ?_ (hK.out _ _ (hI.p0 _ rfl))
     try dsimp only
     go_simp}
    refine StepsInv.cons _ rfl (fun d u W K' hI hd hw hK=> ?_) ?_
    {have d0:=hI.v0 (hw 0 (by kernel_rfl));refine Z02 (v:= .pointer (some ⟨bp,0,none⟩)) (W':=W) rfl ?_ (hK.out _ _ (hI.pA _ rfl))
     try dsimp only
     all_goals first | (go_simp; done) | (go_simp; rfl)}
    refine StepsInv.cons _ rfl (fun d u W K' hI hd hw hK=> ?_) ?_
    {have d1:=hI.vA (hw 1 (by kernel_rfl));refine Z02 (v:= .pointer (some ⟨bp,0,none⟩)) (W':=W) rfl ?_ (hK.out _ _ (hI.pB _ rfl))
     try dsimp only
     all_goals first | (go_simp; done) | (go_simp; rfl)}
    refine StepsInv.cons _ rfl (fun d u W K' hI hd hw hK=> ?_) ?_
    {have d2:=hI.vB (hw 2 (by kernel_rfl));have hpre:=hI.pre hd;refine Z0M (f:=92) (args:=#[.pointer (some ⟨bp,0,none⟩)]) (W':=W) rfl ?_ ((HNM.out W (HP3.out.below hpre)).mono ?_)
     {try dsimp only
      go_simp}
     {rintro e W' ⟨rfl,h1,h2⟩;exact ⟨_,rfl,hK.out _ _ (hI.c1 hd (by omega) _ rfl h2 h1)⟩}}
    refine StepsInv.cons _ rfl (fun d u W K' hI hd hw hK=> ?_) ?_
    {obtain ⟨x0,x1,x2,x3,x4,x5,x6,x7,x8,xf,xl⟩:=HC3.out.up (hI.up (hI.not6 (i:=4) hd (by omega))) (by simp; omega);refine Z02 (v:=valT x) (W':=W) rfl ?_ (hK.out _ _ (hI.p2 _ rfl));simp only[valT]
     try dsimp only
     go_simp}
    refine StepsInv.cons _ rfl (fun d u W K' hI hd hw hK=> ?_) ?_
    {have k2:=hw 4 (by kernel_rfl);have d2:=hI.v2 k2;simp only[valT] at d2;have d6:=hI.not6 (i:=5) hd (by omega);refine Z02 (v:= .slice (some ⟨W.heap.size,0,none⟩) 1 1) (W':=W.alloc (.cells (Y7 x.t x.q) 26)) rfl ?_ (hK.out _ _ (hI.c3 hd k2 _ (Z01 _ _) rfl (Row.oneT x (hI.up d6).size)))
     try dsimp only
     go_simp}
    refine StepsInv.cons _ rfl (fun d u W K' hI hd hw hK=> ?_) ?_
    {refine Z02 (v:= .int .i64 a) (W':=W) rfl ?_ (hK.out _ _ (hI.p4 _ rfl))
     try dsimp only
     go_simp}
    refine StepsInv.cons _ rfl (fun d u W K' hI hd hw hK=> ?_) ?_
    {have k1:=hw 3 (by kernel_rfl);have k3:=hw 5 (by kernel_rfl);have k4:=hw 6 (by kernel_rfl);have d6:=hI.not6 (i:=7) hd (by omega);obtain ⟨g,d3,_⟩:=hI.s3 k3 d6;have d1:=hI.v1 k1;have d4:=hI.v4 k4;refine Z02 (v:= .agg #[.int .i64 9,.string ⟨#[]⟩,.string ⟨nn.1.toArray⟩,.int .i64 0,.slice none 0 0,.slice none 0 0,.slice none 0 0,.slice (some ⟨g,0,none⟩) 1 1,.int .i64 a]) (W':=W) rfl ?_ (hK.out _ _ (hI.c5 k1 k3 k4 _ d3 rfl))
     try dsimp only
     go_simp}
    refine StepsInv.cons _ rfl (fun d u W K' hI hd hw hK=> ?_) StepsInv.nil
    {have k5:=hw 7 (by kernel_rfl);obtain ⟨k1,k3,k4⟩:=hI.e5 k5;obtain ⟨g1,d3,hr1⟩:=hI.s3 k3 hd;obtain ⟨g,e3,d5⟩:=hI.v5 k5;rw[d3] at e3;simp only[Value.slice.injEq,Option.some.injEq,Addr.mk.injEq,and_true] at e3;obtain rfl:=e3;obtain ⟨x0,x1,x2,x3,x4,x5,x6,x7,x8,xf,xl⟩:=HC3.out.up (hI.up hd) (by simp; omega);have f0:=xf 0;have f1:=xf 1;have f2:=xf 2;have f3:=xf 3;have f4:=xf 4;have f5:=xf 5;have f6:=xf 6;have f7:=xf 7;have f8:=xf 8;have h7:=hI.c6 hd k5 undef hr1;clear xf d3;refine Z0B (W':=Z10 W w1.heap.size (.int .i64 9) (.string ⟨#[]⟩) (.string ⟨nn.1.toArray⟩) (.int .i64 0) (.slice none 0 0) (.slice none 0 0) (.slice none 0 0) (.slice (some ⟨g1,0,none⟩) 1 1) (.int .i64 a)) rfl ?_ (hK.out _ _ h7)
     try dsimp only
     go_simp
     try rfl}
    intro d u W hI hd;obtain ⟨Wm,g,k1,k2,k3,k4⟩:=hI.fin (hd 8 (by decide));have u1:UpT [w1.heap.size] Wm W:=by rw[k4]; exact Z1X (UpT.refl _ _) (Or.inr (by simp)) _ _ _ _ _ _ _ _ _
    have hrows:rowT (some (⟨g,0,none⟩:Addr))≠some w1.heap.size:=fun e=>by have:=k2.lt _ e; omega
    have hisx:=ZaG (W:=Wm) (B:=w.heap.size+2) (ex:=w1.heap.size) ⟨9,[],nn.1,0,a⟩ (some ⟨g,0,none⟩) 1 [x] ⟨by simp,HNL.out,by simp,HA.out,by simp⟩ (Z2n k2 (by omega)) hrows (fun q hq=>by
     have e:q=x:=by simpa using hq
     rw[e]; exact ⟨HX3.out.up k3 (by simp; omega),hlo3⟩) (by simp)
    have hnp:=Z5O (HC3.out.up k3 (by simp; omega)) (.int .i64 9) (.string ⟨#[]⟩) (.string ⟨nn.1.toArray⟩) (.int .i64 0) (.slice none 0 0) (.slice none 0 0) (.slice none 0 0) (.slice (some ⟨g,0,none⟩) 1 1) (.int .i64 a);rw[<-k4] at hnp;have hfin:LC bp A c l m a y W1 w1.heap.size (w.heap.size+2) (n - 1) (n - 1) nn.2 ⟨mkT ⟨9,[],nn.1,0,a⟩ ⟨none,0,[],none,0,[],none,0,[],some ⟨g,0,none⟩,1,[x]⟩,mkQ ⟨none,0,[],none,0,[],none,0,[],some ⟨g,0,none⟩,1,[x]⟩,w.heap.size+2,Wm.heap.size⟩ W:=by
     have q1:=HR.out.lt;have q2:=HT3.out.2.1;have q3:=HR.out.mm;simp only at q2;refine ⟨?_,by omega,Nat.le_refl _,HT3.out.1,by omega,k1.keep u1 (by simp; omega), ?_,hnp,hisx.up u1 (by simp),Nat.le_refl _,Z1E _ _ (Nat.zero_le _) (fun q hq=>by
      have e:q=x:=by simpa using hq
      rw[e]; exact HR.out.fw)⟩
     {rw[<-HR.out.eq];obtain ⟨n',rfl⟩: ∃n',n=n'+1:=⟨n - 1,by omega⟩;rw[HEQ.out n']; rfl}
     {exact (HU3.out.trans (k3.mono (fun q hq _=>by simp at hq; simp[hq]))).trans (u1.mono (fun q hq _=>by simp at hq; simp[hq]))}
    have HFIN:=Y1 hfin;clear hfin hisx hnp u1 k1 k2 k3 k4 hI hd hrows
    go_wp2_with fail
    go_roundg (n - 1)
    case measure=>have:=HR.out.le; have:=HR.out.lt; omega
    case rel=>exact Y1 ⟨_,_,_,HFIN.out⟩}}
  {go_wp2_with fail
   refine (Z0A h40 HLEN hok.1 wr HR.out.par).mono ?_;rintro e w2 ⟨rfl,hp2,hu2⟩;have hs2:=hu2.size;have c2:=((hu2.same hb0 (by simp; omega)).1 0).trans b0;have l2:w.heap.size < w2.heap.size:=by omega
   have HC2:=Y1 (HR.out.nine.up hu2 (by simp; omega));obtain ⟨x0,x1,x2,x3,x4,x5,x6,x7,x8,xf,xl⟩:=HC2.out;have HX2:=Y1 (HR.out.is.up hu2 (by simp; have:=HR.out.lo; omega));have HU2:=Y1 (HR.out.up.trans (hu2.mono (fun q hq _=>by simp at hq; simp[hq])));have HP2:=Y1 hp2;have hlo2:=HR.out.lo;have hhi2:=HX2.out.hi_;have HWT:Hid (l.length - (want l τ [40]).1 < m):=Y1 (by rw[Z2k h40]; have:=Pso.sign_lt h40; have:=HR.out.mm; simp only; omega);have hto:=Pso.to_betw (o:= [40]) (s:= [44]) (e:= [41]) (Pso.goes_args (Pso.to_expr m)) [x.t] hok;have hge:=Zaz (o:= [40]) (s:= [44]) (e:= [41]) (Pso.goes_args (Pso.to_expr m)) [x.t] hok;rw[Z2k h40] at hge;have HTO:=Y1 hto;have HGE:=Y1 hge;have HEQ:=Y1 (fun n'=>ZbW (ex:=Pso.expr l m) (a:=a) (n:=n') (t:=x.t) h40);have hlt:=Pso.sign_lt h40;clear hp2 hu2 hto hge xf;have hbn:=Z03 (Z01 w2 (.cells (Y7 x.t x.q) 26)) (.cells #[.slice (some ⟨w2.heap.size,0,none⟩) 1 1] 24);have hJ:JC w2 bp (w2.heap.size+1) w1.heap.size (w.heap.size+2) (some ⟨w2.heap.size,0,none⟩) 1 [x] ((w2.alloc (.cells (Y7 x.t x.q) 26)).alloc (.cells #[.slice (some ⟨w2.heap.size,0,none⟩) 1 1] 24)):=by
    refine ⟨Z05 hbn,by simp,by omega,by omega,by omega,by omega, ?_, ?_,(Row.oneT x (Nat.le_refl _)).below (Z01 _ _),by simp[rowT],fun q hq=> ?_,fun q hq b hb=> ?_⟩
    {simp[go_sem]}
    {simp[go_sem]}
    {have e:q=x:=by simpa using hq
     rw[e]; exact ⟨HX2.out.below hbn,hlo2,by omega⟩}
    {have e:q=x:=by simpa using hq
     have e2:w2.heap.size=b:=by simpa[rowT] using hb
     rw[e]; omega}
   have HB:=Y1 (Z15 bp A c l [40] [44] [41] 98 (enters_of Tryz.func98 (by kernel_rfl) rfl) (.pointer (some ⟨w2.heap.size+1,0,none⟩)) (.pointer (some ⟨w.heap.size,0,none⟩)) (Z4g w2 bp (w2.heap.size+1) w1.heap.size (w.heap.size+2)) (Pso.argsR l (Pso.expr l m)) m (by omega) (Pso.goes_args (Pso.to_expr m)) (fun r W W' a h hu=>Zdz h hu)
    (ZeI bp A c l m HL.out HE.out w2 w.heap.size (w2.heap.size+1) w1.heap.size (w.heap.size+2) ⟨c2,l2,by omega⟩) τ [x.t] _ hok HWT.out (HP2.out.below hbn) ⟨_,_,_,hJ,rfl,by simp,fun q hq=>by
     have e:q=x:=by simpa using hq
     rw[e]; exact HR.out.fw⟩)
   have HBN:=Y1 hbn;have c2b:=(hbn.cell (p:=⟨w.heap.size,0,none⟩) l2).trans c2;clear hJ hbn b0 hb0
   go_wp2_with fail
   refine HB.out.mono ?_;rintro e w4 ⟨rfl,hp4,r,hrr,AP,cp,L,hJ4,hs4,hn4,hf4⟩;have HP4:=Y1 hp4;have HJ:=Y1 hJ4;have HS4:=Y1 (And.intro hs4 (And.intro hn4 (And.intro hf4 hrr)));have cP:=hJ4.c;have lP:=hJ4.lt;have hs4b:=hJ4.up.size;have HC4:=Y1 (HC2.out.up hJ4.up (by simp; omega));obtain ⟨x0,x1,x2,x3,x4,x5,x6,x7,x8,xf,xl⟩:=HC4.out;have f0:=xf 0;have f1:=xf 1;have f2:=xf 2;have f3:=xf 3;have f4:=xf 4;have f5:=xf 5;have f6:=xf 6;have f7:=xf 7;have f8:=xf 8;clear hp4 hJ4 hs4 hn4 hf4 hrr xf HB c2 c2b l2 HC2
   go_wp2_with fail
   have hrows:rowT AP≠some w1.heap.size:=fun e=>by have:=HJ.out.rP.lt _ e; omega
   have hisx:=ZaG (W:=w4) (B:=w.heap.size+2) (ex:=w1.heap.size) ⟨7,[],[],0,a⟩ AP cp L ⟨by simp,by simp,by simp,HA.out,by simp⟩ (Z2n HJ.out.rP (by omega)) hrows (fun q hq=>⟨(HJ.out.isT q hq).1,(HJ.out.isT q hq).2.1⟩) (by have:=HS4.out; omega);have hnp:=Z5O HC4.out (.int .i64 7) (.string ⟨#[]⟩) (.string ⟨#[]⟩) (.int .i64 0) (.slice none 0 0) (.slice none 0 0) (.slice none 0 0) (.slice AP L.length cp) (.int .i64 a);have u4:UpT [w1.heap.size] w4 (Z10 w4 w1.heap.size (.int .i64 7) (.string ⟨#[]⟩) (.string ⟨#[]⟩) (.int .i64 0) (.slice none 0 0) (.slice none 0 0) (.slice none 0 0) (.slice AP L.length cp) (.int .i64 a)):=Z1X (UpT.refl _ _) (Or.inr (by simp)) _ _ _ _ _ _ _ _ _;have hfin:LC bp A c l m a y W1 w1.heap.size (w.heap.size+2) (n - 1) (n - 1) (betw l [40] [44] [41] (Pso.argsR l (Pso.expr l m)) τ [x.t]).1 ⟨mkT ⟨7,[],[],0,a⟩ ⟨none,0,[],none,0,[],none,0,[],AP,cp,L⟩,mkQ ⟨none,0,[],none,0,[],none,0,[],AP,cp,L⟩,w.heap.size+2,w4.heap.size⟩ (Z10 w4 w1.heap.size (.int .i64 7) (.string ⟨#[]⟩) (.string ⟨#[]⟩) (.int .i64 0) (.slice none 0 0) (.slice none 0 0) (.slice none 0 0) (.slice AP L.length cp) (.int .i64 a)):=by
    have q1:=HR.out.lt;have q2:=HGE.out;have q3:=HR.out.mm;refine ⟨?_,by omega,Nat.le_refl _,HTO.out.1,by omega,HP4.out.keep u4 (by simp; omega), ?_,by
     show Nine _ _ (.int .i64 7) (.string ⟨#[]⟩) (.string ⟨#[]⟩) (.int .i64 0) (.slice none 0 0) (.slice none 0 0) (.slice none 0 0) (.slice AP (L.map ET.t).length cp) (.int .i64 a);rw[List.length_map]; exact hnp,hisx.up u4 (by simp),Nat.le_refl _,Z1E _ _ (Nat.zero_le _) HS4.out.2.2.1⟩
    {rw[<-HR.out.eq];obtain ⟨n',rfl⟩: ∃n',n=n'+1:=⟨n - 1,by omega⟩;rw[HEQ.out n', <-HS4.out.1]; rfl}
    {exact (HU2.out.trans (HJ.out.up.mono (fun q hq _=>by simp at hq; simp[hq]))).trans (u4.mono (fun q hq _=>by simp at hq; simp[hq]))}
   have HFIN:=Y1 hfin;clear hfin hisx hnp u4
   go_roundg (n - 1)
   case measure=>have:=HR.out.le; have:=HR.out.lt; omega
   case rel=>exact Y1 ⟨_,_,_,HFIN.out⟩}
theorem ZeK (σ τ:St) (a:Int) (hl:TokOk l) (hE:ExC bp A c l m) (hO:Ok l σ) (hm:l.length - σ.1 < m+1) (haa:a=(Prs.look l σ.1).at_) (hτ:τ=Pso.begin_ l σ) (w:World) (hP:PAt w bp A c l σ):
 Calls Tryz.prog 36 #[.pointer (some ⟨bp,0,none⟩)] w (TmIs bp A c l (Pso.bodyE l (Pso.expr l m) σ) w):=by
 have hbw:=hP.lt;have HLEN:=hl.len;have hb0:=Z01 w (.cells Ya 26);have hp0:=hP.below hb0;have HBG:=Y1 (ZbS bp A c l σ HLEN hO _ hp0);rw[<-hτ, <-haa] at HBG;have t0:=Pso.to_begin hO;rw[<-hτ] at t0;have hO2:=t0.1;have hg:=t0.2.1;have hA:=hl.at_ σ.1;rw[<-haa] at hA;have HB0:=Y1 hb0;have HZ0:=Y1 (Z0h w (.int .i64 0) (.string ⟨#[]⟩) (.string ⟨#[]⟩) (.int .i64 0) (.slice none 0 0) (.slice none 0 0) (.slice none 0 0) (.slice none 0 0) (.int .i64 0) 26);have HL:=Y1 hl;have HE:=Y1 hE;have HA:=Y1 hA;have HT:=Y1 hτ;have HAA:=Y1 haa;clear hb0 hp0 hP t0 hl hE hA hτ haa;go_enter Tryz.func36,Tryz.ntmps36
 go_wp2_with fail
 refine HBG.out.mono ?_;rintro e W ⟨rfl,hp,hu⟩;have HP:=Y1 hp;have HV:=Y1 hu;clear hp hu HBG
 go_wp2_with fail
 rcases Bool.eq_false_or_eq_true (Prs.sign l τ.1 [102,117,110]) with s0 | s0
 rotate_left
 refine (hidC (Z0C s0 HLEN hO2.1 _ HP.out) HV).mono ?_;rintro e W ⟨rfl,HP,HV⟩
 go_wp2_with fail
 rcases Bool.eq_false_or_eq_true (Prs.sign l τ.1 [108,101,116]) with s1 | s1
 rotate_left
 refine (hidC (Z0C s1 HLEN hO2.1 _ HP.out) HV).mono ?_;rintro e W ⟨rfl,HP,HV⟩
 go_wp2_with fail
 rcases Bool.eq_false_or_eq_true (Prs.sign l τ.1 [105,102]) with s2 | s2
 rotate_left
 refine (hidC (Z0C s2 HLEN hO2.1 _ HP.out) HV).mono ?_;rintro e W ⟨rfl,HP,HV⟩
 go_wp2_with fail
 rcases Bool.eq_false_or_eq_true (Prs.sign l τ.1 [99,97,115,101]) with s3 | s3
 rotate_left
 refine (hidC (Z0C s3 HLEN hO2.1 _ HP.out) HV).mono ?_;rintro e W ⟨rfl,HP,HV⟩
 go_wp2_with fail
 rcases Bool.eq_false_or_eq_true (Prs.sign l τ.1 [91]) with s4 | s4
 rotate_left
 refine (hidC (Z0A s4 HLEN hO2.1 _ HP.out) HV).mono ?_;rintro e W ⟨rfl,HP,HV⟩;have HF:Hid (Pso.bodyE l (Pso.expr l m) σ=Pso.chainE l (Pso.expr l m) τ a):=Y1 (by unfold Pso.bodyE; simp only; rw[<-HT.out, <-HAA.out,if_neg (by rw[s0]; simp),if_neg (by rw[s1]; simp),if_neg (by rw[s2]; simp),if_neg (by rw[s3]; simp),if_neg (by rw[s4]; simp)])
 go_wp2_with fail
 refine (hidT (w.heap.size+1) (ZbX bp A c l m τ a HL.out HA.out hO2 HE.out (by omega) _ HP.out) HV (by simp)).mono ?_
 rotate_left
 have HF:Hid (Pso.bodyE l (Pso.expr l m) σ=Pso.funE l (Pso.expr l m) (τ.1+1,τ.2) a):=Y1 (by unfold Pso.bodyE; simp only; rw[<-HT.out, <-HAA.out,if_pos s0]);refine (hidC (Z0N s0 HLEN hO2.1 _ HP.out) HV).mono ?_;rintro e W ⟨rfl,HP,HV⟩;have hlt:=Pso.sign_lt s0
 go_wp2_with fail
 refine (hidT (w.heap.size+1) (Zdt bp A c l m (τ.1+1,τ.2) a HL.out HA.out (Pso.to_next hO2 hlt).1 HE.out (by simp only; omega) _ HP.out) HV (by simp)).mono ?_
 rotate_left
 have HF:Hid (Pso.bodyE l (Pso.expr l m) σ=Pso.letE l (Pso.expr l m) (τ.1+1,τ.2) a):=Y1 (by unfold Pso.bodyE; simp only; rw[<-HT.out, <-HAA.out,if_neg (by rw[s0]; simp),if_pos s1]);refine (hidC (Z0N s1 HLEN hO2.1 _ HP.out) HV).mono ?_;rintro e W ⟨rfl,HP,HV⟩;have hlt:=Pso.sign_lt s1
 go_wp2_with fail
 refine (hidT (w.heap.size+1) (Zdu bp A c l m (τ.1+1,τ.2) a HL.out HA.out (Pso.to_next hO2 hlt).1 HE.out (by simp only; omega) _ HP.out) HV (by simp)).mono ?_
 rotate_left
 have HF:Hid (Pso.bodyE l (Pso.expr l m) σ=Pso.choiceE l (Pso.expr l m) (τ.1+1,τ.2) a):=Y1 (by unfold Pso.bodyE; simp only; rw[<-HT.out, <-HAA.out,if_neg (by rw[s0]; simp),if_neg (by rw[s1]; simp),if_pos s2]);refine (hidC (Z0N s2 HLEN hO2.1 _ HP.out) HV).mono ?_;rintro e W ⟨rfl,HP,HV⟩;have hlt:=Pso.sign_lt s2
 go_wp2_with fail
 refine (hidT (w.heap.size+1) (Z8N bp A c l m (τ.1+1,τ.2) a HL.out HA.out (Pso.to_next hO2 hlt).1 HE.out (by simp only; omega) _ HP.out) HV (by simp)).mono ?_
 rotate_left
 have HF:Hid (Pso.bodyE l (Pso.expr l m) σ=Pso.matchE l (Pso.expr l m) (τ.1+1,τ.2) a):=Y1 (by unfold Pso.bodyE; simp only; rw[<-HT.out, <-HAA.out,if_neg (by rw[s0]; simp),if_neg (by rw[s1]; simp),if_neg (by rw[s2]; simp),if_pos s3]);refine (hidC (Z0N s3 HLEN hO2.1 _ HP.out) HV).mono ?_;rintro e W ⟨rfl,HP,HV⟩;have hlt:=Pso.sign_lt s3
 go_wp2_with fail
 refine (hidT (w.heap.size+1) (Za0 bp A c l m (τ.1+1,τ.2) a HL.out HA.out (Pso.to_next hO2 hlt).1 HE.out (by simp only; omega) _ HP.out) HV (by simp)).mono ?_
 rotate_left
 have HF:Hid (Pso.bodyE l (Pso.expr l m) σ=Pso.listE l (Pso.expr l m) τ a):=Y1 (by unfold Pso.bodyE; simp only; rw[<-HT.out, <-HAA.out,if_neg (by rw[s0]; simp),if_neg (by rw[s1]; simp),if_neg (by rw[s2]; simp),if_neg (by rw[s3]; simp),if_pos s4]);refine (hidC (Z0A s4 HLEN hO2.1 _ HP.out) HV).mono ?_;rintro e W ⟨rfl,HP,HV⟩;have hlt:=Pso.sign_lt s4
 go_wp2_with fail
 refine (hidT (w.heap.size+1) (ZbM bp A c l m τ a HL.out HA.out hO2 HE.out (by rw[Z2k s4]; simp only; omega) _ HP.out) HV (by simp)).mono ?_
 all_goals
  rintro e W ⟨x,rfl,HP,HV,HX,hlo,HXT⟩;simp only[valT];obtain ⟨r0,r1,r2,r3,r4,r5,r6,r7,r8,f0,f1,f2,f3,f4,f5,f6,f7,f8,rl⟩:=HZ0.out.upf HV.out (by simp; omega);go_wp2;refine bodyPost_ret (v:=valT x) (by simp[results,Tryz.results36,go_sem,valT,r0,r1,r2,r3,r4,r5,r6,r7,r8,rl]) rfl ?_;have hE:=end9 HP.out ((Z05 (F:= [bp]) HB0.out).trans HV.out) HX.out (rb:=w.heap.size) (Nat.le_refl _) (Or.inl (by omega)) hbw;rw[HF.out];exact ⟨x,rfl,(hE _ _ _ _ _ _ _ _ _).1,(hE _ _ _ _ _ _ _ _ _).2.1,(hE _ _ _ _ _ _ _ _ _).2.2,by omega,HXT.out⟩
end
theorem Z7h (bp:Nat) (A:Option Addr) (c:Nat) (l:List Tk) (hl:TokOk l): ∀m,ExC bp A c l m
 | 0=>fun W τ hO hm=>absurd hm (by omega)
 | m+1=>fun W τ hO hm hP=>ZeK bp A c l m τ _ _ hl (Z7h bp A c l hl m) hO hm rfl rfl W hP
theorem Z6M (bp:Nat) (A:Option Addr) (c:Nat) (l:List Tk) (hl:TokOk l) (σ:St) (hO:Ok l σ) (w:World) (hP:PAt w bp A c l σ):
 Calls Tryz.prog 22 #[.pointer (some ⟨bp,0,none⟩)] w (TmIs bp A c l (Pso.wholeE l σ) w):=by
 have HF:Hid (Pso.wholeE l σ=((Pso.expr l (l.length+1) σ).1,if Tms.check (Pso.expr l (l.length+1) σ).1=0 then (Pso.expr l (l.length+1) σ).2 else Pso.fail l (Pso.expr l (l.length+1) σ).2 (Tms.check (Pso.expr l (l.length+1) σ).1) (Prs.look l σ.1).at_)):=Y1 rfl;rw[HF.out];have HLEN:=hl.len;have hb0:=Z01 w (.cells Ya 26);have HP0:=Y1 (hP.below hb0);have HB0:=Y1 hb0;have HZ0:=Y1 (Z0h w (.int .i64 0) (.string ⟨#[]⟩) (.string ⟨#[]⟩) (.int .i64 0) (.slice none 0 0) (.slice none 0 0) (.slice none 0 0) (.slice none 0 0) (.int .i64 0) 26);have hbw:=hP.lt;have HT:=Y1 (fun (W:World) (h:PAt W bp A c l σ)=>Z7h bp A c l hl (l.length+1) W σ hO (by omega) h);have hfd:=Z47 (Prs.look l σ.1).t.kind ⟨(Prs.look l σ.1).t.text.toArray⟩ (Prs.look l σ.1).at_;obtain ⟨y,hy⟩: ∃y,y=Pso.expr l (l.length+1) σ:=⟨_,rfl⟩;rw[<-hy] at HT ⊢;obtain ⟨k,hk⟩: ∃k,k=Tms.check y.1:=⟨_,rfl⟩;have HK:=Y1 hk;rw[<-hk];clear HF hb0 hP hy hk hl;by_cases hk0:k=0
 {have e0: (k !=0)=false:=by simpa using hk0
  rw[if_pos hk0];clear hk0;go_enter Tryz.func22,Tryz.ntmps22
  go_wp2_with fail
  refine (Z1A HLEN hO.1 _ HP0.out).mono ?_;rintro e w1 ⟨rfl,hp1,hu1⟩;have HP1:=Y1 hp1;have HV1:=Y1 hu1;clear hp1 hu1
  go_wp2_with fail
  refine (HT.out w1 HP1.out).mono ?_;rintro e w2 ⟨x,rfl,hp2,hu2,hx,hlo,hxt⟩;have hlz:w.heap.size+1<=x.lo:=by have h1:=HV1.out.size; simp at h1; omega
  have hbl:bp < w2.heap.size:=hp2.lt;have hb2:=Z01 w2 (.cells (Y7 x.t x.q) 26);have HP2:=Y1 (hp2.below hb2);have HV2:=Y1 ((HV1.out.trans hu2).below hb2);have HX2:=Y1 (show x.Is _ from New.below hx hb2);have HC2:=Y1 (Z0h w2 (.int .i64 x.t.kind) (.string ⟨x.t.of_.toArray⟩) (.string ⟨x.t.name.toArray⟩) (.int .i64 x.t.n) (.slice x.q.A x.t.names.length x.q.c) (.slice x.q.V x.t.vars.length x.q.e) (.slice x.q.S x.t.shapes.length x.q.s) (.slice x.q.P x.t.parts.length x.q.d) (.int .i64 x.t.at_) 26);have HXT:=Y1 hxt;clear hp2 hu2 hx hlo hxt hb2 HT HP1;simp only[valT];obtain ⟨c0,c1,c2,c3,c4,c5,c6,c7,c8,cf,cl⟩:=HC2.out
  go_wp2_with fail
  generalize w2.alloc (.cells (Y7 x.t x.q) 26)=W2 at HP2 HV2 HX2 HC2 c0 c1 c2 c3 c4 c5 c6 c7 c8 cl ⊢;refine (Z2d x.t x.q W2 HX2.out.here HP2.out.gs.gl.s HP2.out.gs.gl.u HXT.out.2).mono ?_;rintro e w3 ⟨rfl,hb3⟩;rw[HXT.out.1, <-HK.out];clear c0 c1 c2 c3 c4 c5 c6 c7 c8 cf cl;have HP3:=Y1 (HP2.out.below hb3);have HV3:=Y1 (HV2.out.below hb3);have HX3:=Y1 (show x.Is w3 from New.below HX2.out hb3);obtain ⟨x0,x1,x2,x3,x4,x5,x6,x7,x8,xf,xl⟩:=HC2.out.below hb3;obtain ⟨r0,r1,r2,r3,r4,r5,r6,r7,r8,rf,rl⟩:=HZ0.out.up HV3.out (by simp; omega);have f0:=rf 0;have f1:=rf 1;have f2:=rf 2;have f3:=rf 3;have f4:=rf 4;have f5:=rf 5;have f6:=rf 6;have f7:=rf 7;have f8:=rf 8;clear rf xf HC2 HP2 HV2 HX2;go_wp2;refine bodyPost_ret (v:=valT x) (by simp[results,Tryz.results22,go_sem,valT,r0,r1,r2,r3,r4,r5,r6,r7,r8,rl]) rfl ?_;have hE:=end9 HP3.out ((Z05 (F:= [bp]) HB0.out).trans HV3.out) HX3.out (rb:=w.heap.size) (Nat.le_refl _) (Or.inl (by omega)) hbw;exact ⟨x,rfl,(hE _ _ _ _ _ _ _ _ _).1,(hE _ _ _ _ _ _ _ _ _).2.1,(hE _ _ _ _ _ _ _ _ _).2.2,by omega,HXT.out⟩}
 {have e0: (k !=0)=true:=by simpa using hk0
  rw[if_neg hk0];clear hk0;go_enter Tryz.func22,Tryz.ntmps22
  go_wp2_with fail
  refine (Z1A HLEN hO.1 _ HP0.out).mono ?_;rintro e w1 ⟨rfl,hp1,hu1⟩;have HP1:=Y1 hp1;have HV1:=Y1 hu1;clear hp1 hu1
  go_wp2_with fail
  refine (HT.out w1 HP1.out).mono ?_;rintro e w2 ⟨x,rfl,hp2,hu2,hx,hlo,hxt⟩;have hlz:w.heap.size+1<=x.lo:=by have h1:=HV1.out.size; simp at h1; omega
  have hbl:bp < w2.heap.size:=hp2.lt;have hb2:=Z01 w2 (.cells (Y7 x.t x.q) 26);have HP2:=Y1 (hp2.below hb2);have HV2:=Y1 ((HV1.out.trans hu2).below hb2);have HX2:=Y1 (show x.Is _ from New.below hx hb2);have HC2:=Y1 (Z0h w2 (.int .i64 x.t.kind) (.string ⟨x.t.of_.toArray⟩) (.string ⟨x.t.name.toArray⟩) (.int .i64 x.t.n) (.slice x.q.A x.t.names.length x.q.c) (.slice x.q.V x.t.vars.length x.q.e) (.slice x.q.S x.t.shapes.length x.q.s) (.slice x.q.P x.t.parts.length x.q.d) (.int .i64 x.t.at_) 26);have HXT:=Y1 hxt;clear hp2 hu2 hx hlo hxt hb2 HT HP1;simp only[valT];obtain ⟨c0,c1,c2,c3,c4,c5,c6,c7,c8,cf,cl⟩:=HC2.out
  go_wp2_with fail
  generalize w2.alloc (.cells (Y7 x.t x.q) 26)=W2 at HP2 HV2 HX2 HC2 c0 c1 c2 c3 c4 c5 c6 c7 c8 cl ⊢;refine (Z2d x.t x.q W2 HX2.out.here HP2.out.gs.gl.s HP2.out.gs.gl.u HXT.out.2).mono ?_;rintro e w3 ⟨rfl,hb3⟩;rw[HXT.out.1, <-HK.out];clear c0 c1 c2 c3 c4 c5 c6 c7 c8 cf cl;have HP9:=Y1 (HP2.out.below hb3);have HV9:=Y1 (HV2.out.below hb3);have HX9:=Y1 (show x.Is w3 from New.below HX2.out hb3);have HC9:=Y1 (HC2.out.below hb3);clear hb3
  go_wp2_with fail
  refine (Z3j bp A c l y.2 k (Prs.look l σ.1).at_ (by omega) w3 HP9.out).mono ?_;rintro e w4 ⟨rfl,hp4,hu4⟩;have HP3:=Y1 hp4;have HV3:=Y1 (HV9.out.trans hu4);have HX3:=Y1 (show x.Is w4 from New.up HX9.out hu4 (by simp; omega));obtain ⟨x0,x1,x2,x3,x4,x5,x6,x7,x8,xf,xl⟩:=HC9.out.up hu4 (by simp; omega);clear hp4 hu4;obtain ⟨r0,r1,r2,r3,r4,r5,r6,r7,r8,rf,rl⟩:=HZ0.out.up HV3.out (by simp; omega);have f0:=rf 0;have f1:=rf 1;have f2:=rf 2;have f3:=rf 3;have f4:=rf 4;have f5:=rf 5;have f6:=rf 6;have f7:=rf 7;have f8:=rf 8;clear rf xf HC2 HP2 HV2 HX2;go_wp2;refine bodyPost_ret (v:=valT x) (by simp[results,Tryz.results22,go_sem,valT,r0,r1,r2,r3,r4,r5,r6,r7,r8,rl]) rfl ?_;have hE:=end9 HP3.out ((Z05 (F:= [bp]) HB0.out).trans HV3.out) HX3.out (rb:=w.heap.size) (Nat.le_refl _) (Or.inl (by omega)) hbw;exact ⟨x,rfl,(hE _ _ _ _ _ _ _ _ _).1,(hE _ _ _ _ _ _ _ _ _).2.1,(hE _ _ _ _ _ _ _ _ _).2.2,by omega,HXT.out⟩}
end
section
open Go.RowKit Tms
open Shp (Sh)
open Pso (St Ok Goes betw loop want)
open Prs (sign R Flt)
def aE (w:World):World:=(w.alloc (.cells Ya 26)).alloc (.cells Yc 29)
theorem Z0W (w:World):Below w.heap.size w (aE w):=Z03 (Z01 _ _) _
theorem Zero9.next {W W':World} {g:Nat} (h:Zero9 W g) (hb:Below W.heap.size W W'):Zero9 W' g:=h.below hb
theorem Z5c (w:World):Zero9 (aE w) w.heap.size:=(Z0h w _ _ _ _ _ _ _ _ _ _).below (Z01 _ _)
theorem Z6o (w:World):Box2 (aE w) (w.heap.size+1) 0 0:=by
 refine ⟨by simp[aE], ?_, ?_, ?_, ?_⟩ <;> simp[aE,go_sem]
def TmOut (r:R Tm) (w:World) (e:Ending) (w':World):Prop:=
 Below w.heap.size w w'/\match r with
 | .ok y=> ∃x:ET,e= .returned (.tuple #[valT x,.int .i64 (y.2:Int),.agg #[.int .i64 0,.int .i64 0]])/\x.Is w'/\w.heap.size<=x.lo/\x.t=y.1
 | .error f=>e= .returned (.tuple #[.agg #[.int .i64 0,.string ⟨#[]⟩,.string ⟨#[]⟩,.int .i64 0,.slice none 0 0,.slice none 0 0,.slice none 0 0,.slice none 0 0,.int .i64 0],.int .i64 0,.agg #[.int .i64 f.1,.int .i64 f.2]])
def TmFn (fn:Nat) (whole:List Tk->St->Tm×St):Prop:= ∀(bp:Nat) (A:Option Addr) (c:Nat) (l:List Tk),TokOk l-> ∀(σ:St),Ok l σ-> ∀(w:World),PAt w bp A c l σ->
 Calls Tryz.prog fn #[.pointer (some ⟨bp,0,none⟩)] w (TmIs bp A c l (whole l σ) w)
def bE (w:World):World:=(aE w).alloc (.cells Ya 26)
theorem ZaH (w:World):Zero9 (bE w) (w.heap.size+1+1):=by
 have h:=Z0h (aE w) (.int .i64 0) (.string ⟨#[]⟩) (.string ⟨#[]⟩) (.int .i64 0) (.slice none 0 0) (.slice none 0 0) (.slice none 0 0) (.slice none 0 0) (.int .i64 0) 26;rw[show (aE w).heap.size=w.heap.size+1+1 by simp[aE]] at h;exact h
theorem Zero9.upT {F:List Nat} {W W':World} {g:Nat} (h:Zero9 W g) (hu:UpT F W W') (hF:g∉F):Zero9 W' g:=by
 have hs:=hu.same h.lt hF;exact ⟨(hs.1 _).trans h.c0,(hs.1 _).trans h.c1,(hs.1 _).trans h.c2,(hs.1 _).trans h.c3,(hs.1 _).trans h.c4,(hs.1 _).trans h.c5,(hs.1 _).trans h.c6,(hs.1 _).trans h.c7,(hs.1 _).trans h.c8,fun j=>(hs.2 j).trans (h.fz j),Nat.lt_of_lt_of_le h.lt hu.size⟩
theorem Z6N {w V E:World} {x:ET} (hx:x.Is V) (hlo:w.heap.size+1+1<=x.lo) (hu:UpT [w.heap.size,w.heap.size+1] V E):x.Is E:=
 New.up hx hu (fun b hb=>by simp at hb; omega)
theorem Z7J (A:Option Addr) (c:Nat) (l:List Tk) (at_:Int) (hk: ∀b∈l,b.t.text.length<=100000/\ -9223372036854775808<=b.at_/\b.at_<=9223372036854775807) (ha: -9223372036854775808<=at_/\at_<=9223372036854775807) (hl:l.length<=1000000000) (fn:Nat) (hen: ∀args W,(callFunc fn args).run Tryz.prog W= .ok (.enter fn args) W) (whole:List Tk->St->Tm×St) (hT:TmFn fn whole) (w:World) (h:Tks w w.heap.size A l) (hG:Gl w):
 Calls Tryz.prog 21 #[.slice A l.length c,.int .i64 at_,.func (.func fn) #[] #[]] w (TmOut (Pso.rd l at_ (whole l)) w):=by
 have HT:=Y1 hT;have HB:=Y1 (Z0W w);have HZ:=Y1 (Z5c w);have HX:=Y1 (Z6o w);have HK:=Y1 (h.on (Z0W w));have HG:=Y1 (hG.next (Z0W w));by_cases h1:at_ < 0
 {have HR:Hid (Pso.rd l at_ (whole l)= .error (2,0)):=Y1 (by unfold Pso.rd; rw[if_pos (Or.inl h1)]);rw[HR.out];have e1:decide (at_ < 0)=true:=by simpa using h1
  clear h h1 hT hk;go_enter Tryz.func21,Tryz.ntmps21
  go_wp2_with fail
  refine bodyPost_ret (v:= .tuple #[.agg #[.int .i64 0,.string ⟨#[]⟩,.string ⟨#[]⟩,.int .i64 0,.slice none 0 0,.slice none 0 0,.slice none 0 0,.slice none 0 0,.int .i64 0],.int .i64 0,.agg #[.int .i64 2,.int .i64 0]]) (by simp[results,Tryz.results21,go_sem]) rfl ?_;exact ⟨Z03 (Z03 (Z01 _ _) _) _,rfl⟩}
 {have e1:decide (at_ < 0)=false:=by simpa using h1
  obtain ⟨i,hi⟩: ∃i:Nat,at_=(i:Int):=⟨at_.toNat,by omega⟩;subst hi;by_cases h2:l.length < i
  {have HR:Hid (Pso.rd l (i:Int) (whole l)= .error (2,0)):=Y1 (by unfold Pso.rd; rw[if_pos (Or.inr (by omega))]);rw[HR.out];have e2:decide (l.length < i)=true:=by simpa using h2
   clear h h1 hT hk;go_enter Tryz.func21,Tryz.ntmps21
   go_wp2_with fail
   refine bodyPost_ret (v:= .tuple #[.agg #[.int .i64 0,.string ⟨#[]⟩,.string ⟨#[]⟩,.int .i64 0,.slice none 0 0,.slice none 0 0,.slice none 0 0,.slice none 0 0,.int .i64 0],.int .i64 0,.agg #[.int .i64 2,.int .i64 0]]) (by simp[results,Tryz.results21,go_sem]) rfl ?_;exact ⟨Z03 (Z03 (Z01 _ _) _) _,rfl⟩}
  {have e2:decide (l.length < i)=false:=by simpa using h2
   by_cases h3:4097 < l.length
   {have HR:Hid (Pso.rd l (i:Int) (whole l)= .error (3,0)):=Y1 (by unfold Pso.rd; rw[if_neg (by omega),if_pos h3]);rw[HR.out];have e3:decide ((4097:Int) < (l.length:Int))=true:=by simp; omega
    clear h h1 hT hk;go_enter Tryz.func21,Tryz.ntmps21
    go_wp2_with fail
    refine bodyPost_ret (v:= .tuple #[.agg #[.int .i64 0,.string ⟨#[]⟩,.string ⟨#[]⟩,.int .i64 0,.slice none 0 0,.slice none 0 0,.slice none 0 0,.slice none 0 0,.int .i64 0],.int .i64 0,.agg #[.int .i64 3,.int .i64 0]]) (by simp[results,Tryz.results21,go_sem]) rfl ?_;exact ⟨Z03 (Z03 (Z01 _ _) _) _,rfl⟩}
   {have e3:decide ((4097:Int) < (l.length:Int))=false:=by simp; omega
    have HR:Hid (Pso.rd l (i:Int) (whole l)=if (whole l (i,(0,0))).2.2.1=0 then .ok ((whole l (i,(0,0))).1,(whole l (i,(0,0))).2.1) else .error (whole l (i,(0,0))).2.2):=Y1 (by unfold Pso.rd; rw[if_neg (by omega),if_neg h3]; rfl);rw[HR.out];have hO:Ok l (i,(0,0)):=⟨by show i<=l.length; omega,fun h=>absurd rfl h⟩;have HP:=Y1 (show PAt ((bE w).alloc (.cells #[.slice A l.length c,.int .i64 (i:Int),.int .i64 0,.int .i64 0] 81)) (w.heap.size+1+1+1) A c l (i,(0,0)) from ?_);have HC:=Y1 (fun W h=>hT (w.heap.size+1+1+1) A c l ⟨by omega,fun b hb=>by have:=(hk b hb).1; omega,fun b hb=>(hk b hb).2,fun b hb=>(hk b hb).1⟩ (i,(0,0)) hO W h);have HB3:=Y1 (show Below w.heap.size w ((bE w).alloc (.cells #[.slice A l.length c,.int .i64 (i:Int),.int .i64 0,.int .i64 0] 81)) from Z03 (Z03 (Z0W w) _) _);have HZ3:=Y1 (show Zero9 ((bE w).alloc (.cells #[.slice A l.length c,.int .i64 (i:Int),.int .i64 0,.int .i64 0] 81)) w.heap.size/\Box2 ((bE w).alloc (.cells #[.slice A l.length c,.int .i64 (i:Int),.int .i64 0,.int .i64 0] 81)) (w.heap.size+1) 0 0/\Zero9 ((bE w).alloc (.cells #[.slice A l.length c,.int .i64 (i:Int),.int .i64 0,.int .i64 0] 81)) (w.heap.size+1+1) from ⟨(HZ.out.next (Z01 _ _)).next (Z01 _ _),(HX.out.next (Z01 _ _)).next (Z01 _ _),Zero9.next (ZaH w) (Z01 _ _)⟩);clear h h1 h2 h3 hT hk HR HT;obtain ⟨y,hy⟩: ∃y,y=whole l (i,(0,0)):=⟨_,rfl⟩;rw[<-hy] at HC ⊢;clear hy;obtain ⟨ys,yj,ye,ya⟩:=y;obtain ⟨r,hr⟩: ∃r:R Tm,r=if ye=0 then .ok (ys,yj) else .error (ye,ya):=⟨_,rfl⟩;have HRR:=Y1 hr;dsimp only at HC ⊢;rw[<-hr];clear hr;go_enter Tryz.func21,Tryz.ntmps21
    go_wp2_with fail
    change Calls _ _ _ ((bE w).alloc (.cells #[.slice A l.length c,.int .i64 (i:Int),.int .i64 0,.int .i64 0] 81)) _;generalize (bE w).alloc (.cells #[.slice A l.length c,.int .i64 (i:Int),.int .i64 0,.int .i64 0] 81)=W3 at HP HB3 HZ3 ⊢;refine (HC.out W3 HP.out).mono ?_;rintro e W4 ⟨x,rfl,hp4,hu4,hx4,hlo4,⟨hxt4,hfw4⟩⟩;simp only[valT];have hbl:=Z01 W4 (.cells (Y7 x.t x.q) 26);have hp5:=hp4.below hbl;have hbp:w.heap.size+1+1+1 < W3.heap.size:=HP.out.lt;have HB5:=Y1 (show Below w.heap.size w (W4.alloc (.cells (Y7 x.t x.q) 26)) from Z00 (((Z05 (F:= [w.heap.size+1+1+1]) HB3.out).trans hu4).low (by intro b hb; simp at hb; omega)) hbl);have HX5:=Y1 (show x.Is (W4.alloc (.cells (Y7 x.t x.q) 26)) from New.below hx4 hbl);have HL5:Hid (w.heap.size+1+1<=x.lo):=Y1 (by omega);have HT5:=Y1 hxt4;obtain ⟨z1,z2,z3,z4,z5,z6,z7,z8,z9,zf,z0⟩:=(HZ3.out.1.upT hu4 (by intro hb; simp at hb; omega)).next hbl;have zf1:=zf 0;have zf2:=zf 1;have zf3:=zf 2;have zf4:=zf 3;have zf5:=zf 4;have zf6:=zf 5;have zf7:=zf 6;have zf8:=zf 7;have zf9:=zf 8;obtain ⟨x0,x1,x2,xf1,xf2⟩:=(HZ3.out.2.1.upT hu4 (by intro hb; simp at hb)).next hbl;obtain ⟨n1,n2,n3,n4,n5,n6,n7,n8,n9,nf,n0⟩:=(HZ3.out.2.2.upT hu4 (by simp)).next hbl;have nf1:=nf 0;have nf2:=nf 1;have nf3:=nf 2;have nf4:=nf 3;have nf5:=nf 4;have nf6:=nf 5;have nf7:=nf 6;have nf8:=nf 7;have nf9:=nf 8;obtain ⟨c0,c1,c2,c3,c4,c5,c6,c7,c8,cf,cl⟩:=Z0h W4 (.int .i64 x.t.kind) (.string ⟨x.t.of_.toArray⟩) (.string ⟨x.t.name.toArray⟩) (.int .i64 x.t.n) (.slice x.q.A x.t.names.length x.q.c) (.slice x.q.V x.t.vars.length x.q.e) (.slice x.q.S x.t.shapes.length x.q.s) (.slice x.q.P x.t.parts.length x.q.d) (.int .i64 x.t.at_) 26;have p1:=hp5.c1;have p2:=hp5.c2;have p3:=hp5.c3;dsimp only at p1 p2 p3;clear hp4 hu4 hx4 hlo4 hxt4 hp5 hbl HP HB3 HZ3 HC hbp HB HZ HX HK HG hO ha hen hG
    by_cases hye:ye=0
    {have HR2:Hid (r= .ok (ys,yj)):=Y1 (by rw[HRR.out,if_pos hye]);have e5: (ye !=0)=false:=by simpa using hye
     clear HRR hye
     go_wp2_with fail
     go_region
     all_goals go_wp2
     all_goals refine bodyPost_ret (v:= .tuple #[valT x,.int .i64 (yj:Int),.agg #[.int .i64 0,.int .i64 0]]) (by simp[results,Tryz.results21,go_sem,valT,z0,x0,z1,z2,z3,z4,z5,z6,z7,z8,z9,x1,x2]) rfl ?_
     all_goals rw[HR2.out]
     all_goals refine ⟨Z0U HB5.out ?_,x,rfl,Z6N HX5.out HL5.out ?_,by have:=HL5.out; omega,HT5.out⟩
     all_goals repeat' (with_reducible first | refine UpT.drew ?_ | refine UpT.set ?_ _ (Or.inr ?_) _ | exact UpT.refl _ _)
     all_goals simp}
    {have HR2:Hid (r= .error (ye,ya)):=Y1 (by rw[HRR.out,if_neg hye]);have e5: (ye !=0)=true:=by simpa using hye
     clear HRR hye
     go_wp2_with fail
     go_region
     all_goals go_wp2
     all_goals refine bodyPost_ret (v:= .tuple #[.agg #[.int .i64 0,.string ⟨#[]⟩,.string ⟨#[]⟩,.int .i64 0,.slice none 0 0,.slice none 0 0,.slice none 0 0,.slice none 0 0,.int .i64 0],.int .i64 0,.agg #[.int .i64 ye,.int .i64 ya]]) (by simp[results,Tryz.results21,go_sem,valT,z0,x0,z1,z2,z3,z4,z5,z6,z7,z8,z9,x1,x2]) rfl ?_
     all_goals rw[HR2.out]
     all_goals refine ⟨Z0U HB5.out ?_,rfl⟩
     all_goals repeat' (with_reducible first | refine UpT.drew ?_ | refine UpT.set ?_ _ (Or.inr ?_) _ | exact UpT.refl _ _)
     all_goals simp}
    {have e: (bE w).heap.size=w.heap.size+1+1+1:=by simp[bE,aE]
     have hkk:Tks (bE w) (w.heap.size+1+1+1) A l:=by rw[<-e]; exact h.on (Z03 (Z0W w) _)
     refine ⟨by simp[bE,aE], ?_, ?_, ?_, ?_,fun k=> ?_,hkk.same (fun b hb=>(Z05 (F:= []) (Z01 _ _)).same (by omega) (by simp)),⟨w,by omega,Z03 (Z03 (Z0W w) _) _,hG⟩,fun b hb=>Nat.le_trans (hk b hb).1 (by decide)⟩
     all_goals rw[<-e]
     all_goals (first | done | simp[go_sem])}}}}
end
section
open Go.RowKit Tms
open Shp (Sh)
open Pso (St Ok)
open Prs (R)
theorem ZdB:TmFn 22 Pso.wholeE:=fun bp A c l hl σ hO w h=>Z6M bp A c l hl σ hO w h
theorem ZbY (A:Option Addr) (c:Nat) (l:List Tk) (at_:Int) (hk: ∀b∈l,b.t.text.length<=100000/\ -9223372036854775808<=b.at_/\b.at_<=9223372036854775807) (ha: -9223372036854775808<=at_/\at_<=9223372036854775807) (hl:l.length<=1000000000) (w:World) (h:Tks w w.heap.size A l) (hG:Gl w):
 Calls Tryz.prog 12 #[.slice A l.length c,.int .i64 at_] w (TmOut (Pso.rd l at_ (Pso.wholeE l)) w):=by
 have HB:=Y1 (Z0W w);have HZ:=Y1 (Z5c w);have HX:=Y1 (Z6o w);have HC:=Y1 (Z7J A c l at_ hk ha hl 22 (fun _ _=>rfl) Pso.wholeE ZdB (aE w) (h.on (Z0W w)) (hG.next (Z0W w)));obtain ⟨r,hr⟩: ∃r,r=Pso.rd l at_ (Pso.wholeE l):=⟨_,rfl⟩;rw[<-hr] at HC ⊢;clear h hG hk hr;go_enter Tryz.func12,Tryz.ntmps12
 go_wp2_with fail
 change Calls _ _ _ (aE w) _;refine HC.out.mono ?_;generalize aE w=W0 at HB HZ HX ⊢;rintro e W1 ⟨hb,hm⟩;have HB1:=Y1 (Z00 HB.out hb);have hz:=HZ.out.lt;have hx0:=HX.out.1;obtain ⟨z1,z2,z3,z4,z5,z6,z7,z8,z9,zf,z0⟩:=HZ.out.next hb;have zf1:=zf 0;have zf2:=zf 1;have zf3:=zf 2;have zf4:=zf 3;have zf5:=zf 4;have zf6:=zf 5;have zf7:=zf 6;have zf8:=zf 7;have zf9:=zf 8;obtain ⟨x0,x1,x2,xf1,xf2⟩:=HX.out.next hb;cases r with
 | ok y=>
  obtain ⟨x,rfl,hi,hlo,ht⟩:=hm;have HI:=Y1 hi;have HLO:Hid (w.heap.size+1+1<=x.lo):=Y1 (by omega);have HT:=Y1 ht;clear hi hlo ht hb HB HZ HX HC;simp only[valT]
  go_wp2_with fail
  all_goals refine bodyPost_ret (v:= .tuple #[valT x,.int .i64 (y.2:Int),.agg #[.int .i64 0,.int .i64 0]]) (by simp[results,Tryz.results12,go_sem,valT,z0,x0,z1,z2,z3,z4,z5,z6,z7,z8,z9,x1,x2]) rfl ?_
  all_goals refine ⟨Z0U HB1.out ?_,x,rfl,Z6N HI.out HLO.out ?_,by have:=HLO.out; omega,HT.out⟩
  all_goals repeat' (with_reducible first | refine UpT.drew ?_ | refine UpT.set ?_ _ (Or.inr ?_) _ | exact UpT.refl _ _)
  all_goals simp
 | error f=>
  obtain rfl:=hm;clear hb HB HZ HX HC
  go_wp2_with fail
  all_goals refine bodyPost_ret (v:= .tuple #[.agg #[.int .i64 0,.string ⟨#[]⟩,.string ⟨#[]⟩,.int .i64 0,.slice none 0 0,.slice none 0 0,.slice none 0 0,.slice none 0 0,.int .i64 0],.int .i64 0,.agg #[.int .i64 f.1,.int .i64 f.2]]) (by simp[results,Tryz.results12,go_sem,z0,x0,z1,z2,z3,z4,z5,z6,z7,z8,z9,x1,x2]) rfl ?_
  all_goals refine ⟨Z0U HB1.out ?_,rfl⟩
  all_goals repeat' (with_reducible first | refine UpT.drew ?_ | refine UpT.set ?_ _ (Or.inr ?_) _ | exact UpT.refl _ _)
  all_goals simp
end
end Go.Proofs.YtkncdbaoaeeoiaaGreatDoor
