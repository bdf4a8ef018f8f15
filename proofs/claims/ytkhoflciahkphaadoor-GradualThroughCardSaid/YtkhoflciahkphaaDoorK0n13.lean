/- What the proofs of GradualAlike, GradualMoves, GradualPlain, GradualThrough, GradualWitness want, part 13. -/
import Derived.Lib.SmallJoins
import Derived.Test.YtkhoflciahkphaaDoorK0n12
set_option linter.unusedVariables false
set_option linter.unusedSimpArgs false
set_option linter.unusedSectionVars false
set_option maxRecDepth 100000
set_option maxHeartbeats 16000000
namespace Go.Proofs.YtkhoflciahkphaaDoor
open Go.RowKit Shp Sub
namespace SubM
theorem Z07 (w:World) (hg:WGlobs w):Y9 9 #[] w (.bool true):=by
 have HBW:=Y1 (Z4d w);have HG:=Y1 (hg.next (Z4d w));have HXi:=Y1 (gW_i w);have HXx:=Y1 (gW_t w);have HXy:=Y1 (gW_y w);have HXa:=Y1 (gW_a w);have HXb:=Y1 (gW_b w);have HAa:=Y1 (gW_A w);have HAb:=Y1 (gW_B w);have HAi:Hid (ShAt (gW w) (gW w).heap.size noneQ12 gkI):=Y1 (Z1C _ _ gkI rfl rfl (by decide) (by decide));have HAx:Hid (ShAt (gW w) (gW w).heap.size noneQ12 gkT):=Y1 (Z1C _ _ gkT rfl rfl (by decide) (by decide));have HAy:Hid (ShAt (gW w) (gW w).heap.size noneQ12 gkY):=Y1 (Z1C _ _ gkY rfl rfl (by decide) (by decide));have HR:=Y1 (Z0X gkA gkB (gqA w.heap.size) (gqB w.heap.size) (gW w) (gW_A w) (gW_B w) (hg.next (Z4d w)));have HSZ:=Y1 (Z1c w);clear hg;go_enter Tryd.func9,Tryd.ntmps9
 go_wp2_with fail
 change Calls _ _ _ (gW w) _;obtain ⟨qa,hqa⟩: ∃qa,qa=gqA w.heap.size:=⟨_,rfl⟩;obtain ⟨qb,hqb⟩: ∃qb,qb=gqB w.heap.size:=⟨_,rfl⟩;obtain ⟨H,hH⟩: ∃H,H=w.heap.size:=⟨_,rfl⟩;obtain ⟨a,ha⟩: ∃a,a=gkA:=⟨_,rfl⟩;obtain ⟨b,hb⟩: ∃b,b=gkB:=⟨_,rfl⟩;obtain ⟨i,hi⟩: ∃i,i=gkI:=⟨_,rfl⟩;obtain ⟨x,hx⟩: ∃x,x=gkT:=⟨_,rfl⟩;obtain ⟨y,hy⟩: ∃y,y=gkY:=⟨_,rfl⟩;obtain ⟨q0,hq0⟩: ∃q0,q0=noneQ12:=⟨_,rfl⟩;have HE:=Y1 (And.intro ha (And.intro hb (And.intro hi (And.intro hx hy))));rw[<-hqa, <-ha] at HXa HAa;rw[<-hqb, <-hb] at HXb HAb;rw[<-hi, <-hq0] at HXi HAi;rw[<-hx, <-hq0] at HXx HAx;rw[<-hy, <-hq0] at HXy HAy;rw[<-hH] at HXi HXx HXy HXa HXb HSZ HR ⊢;generalize gW w=W0 at HBW HG HXi HXx HXy HXa HXb HAa HAb HAi HAx HAy HR HSZ ⊢;refine HR.out.mono ?_;rintro e w1 ⟨qu,he,hat,hb1⟩;rw[gk8] at he hat;obtain ⟨u,hu⟩: ∃u,u=gkU:=⟨_,rfl⟩;simp only[Option.getD_some,Option.isSome_some, <-hu] at he hat;subst he;have hb2:=Z01 w1 (.cells (Y8 u qu) 25);have HB0:=Y1 (Z00 hb1 hb2);have HXu:=Y1 (Z02 w1 u qu);have HAu:=Y1 (hat.here.next hb2);have HEU:=Y1 hu;obtain ⟨W2,hW2⟩: ∃W2,w1.alloc (.cells (Y8 u qu) 25)=W2:=⟨_,rfl⟩;rw[hW2] at HXu HB0 HAu;have HXi:=Y1 (HXi.out.next HB0.out);have HXx:=Y1 (HXx.out.next HB0.out);have HXy:=Y1 (HXy.out.next HB0.out);have HXa:=Y1 (HXa.out.next HB0.out);have HXb:=Y1 (HXb.out.next HB0.out);have HAi:=Y1 (HAi.out.next HB0.out);have HAx:=Y1 (HAx.out.next HB0.out);have HAy:=Y1 (HAy.out.next HB0.out);have HAa:=Y1 (HAa.out.next HB0.out);have HAb:=Y1 (HAb.out.next HB0.out);have HG:=Y1 (HG.out.next HB0.out);have HB1:=Y1 (Z00 HBW.out HB0.out);have HB:=Y1 (Below.refl W2.heap.size W2);clear HR hb1 hb2 hat ha hb hi hx hy hu hqa hqb hH hq0 HB0 HBW HSZ;unfold sv;obtain ⟨_,⟨a0,a1,a2,a3,a4⟩,_⟩:=HXa.out.next HB.out;simp only[Nat.zero_add] at a0 a1 a2 a3 a4;obtain ⟨_,⟨b0,b1,b2,b3,b4⟩,_⟩:=HXb.out.next HB.out;simp only[Nat.zero_add] at b0 b1 b2 b3 b4
 have HU:=Y1 (Z0a a b qa qb _ (HAa.out.next HB.out) (HAb.out.next HB.out) (HG.out.next HB.out));unfold sv at HU;rw[show Grd.near a b=true from by rw[HE.out.1,HE.out.2.1,gk1]] at HU
 go_wp2_with fail
 refine HU.out.mono ?_;rintro e v1 ⟨rfl,hb1⟩;have HB:=Y1 (Z00 HB.out hb1);clear hb1 HU a0 a1 a2 a3 a4 b0 b1 b2 b3 b4;clear hW2;obtain ⟨_,⟨b0,b1,b2,b3,b4⟩,_⟩:=HXb.out.next HB.out;simp only[Nat.zero_add] at b0 b1 b2 b3 b4;obtain ⟨_,⟨a0,a1,a2,a3,a4⟩,_⟩:=HXa.out.next HB.out;simp only[Nat.zero_add] at a0 a1 a2 a3 a4;have HU:=Y1 (Z0a b a qb qa _ (HAb.out.next HB.out) (HAa.out.next HB.out) (HG.out.next HB.out));unfold sv at HU;rw[show Grd.near b a=false from by rw[HE.out.2.1,HE.out.1,gk2]] at HU
 go_wp2_with fail
 refine HU.out.mono ?_;rintro e v2 ⟨rfl,hb1⟩;have HB:=Y1 (Z00 HB.out hb1);clear hb1 HU b0 b1 b2 b3 b4 a0 a1 a2 a3 a4;obtain ⟨_,⟨i0,i1,i2,i3,i4⟩,_⟩:=HXi.out.next HB.out;simp only[Nat.zero_add] at i0 i1 i2 i3 i4;obtain ⟨_,⟨y0,y1,y2,y3,y4⟩,_⟩:=HXy.out.next HB.out;simp only[Nat.zero_add] at y0 y1 y2 y3 y4;have HU:=Y1 (Z0a i y q0 q0 _ (HAi.out.next HB.out) (HAy.out.next HB.out) (HG.out.next HB.out));unfold sv at HU;rw[show Grd.near i y=true from by rw[HE.out.2.2.1,HE.out.2.2.2.2,gk3]] at HU
 go_wp2_with fail
 refine HU.out.mono ?_;rintro e v3 ⟨rfl,hb1⟩;have HB:=Y1 (Z00 HB.out hb1);clear hb1 HU i0 i1 i2 i3 i4 y0 y1 y2 y3 y4;obtain ⟨_,⟨y0,y1,y2,y3,y4⟩,_⟩:=HXy.out.next HB.out;simp only[Nat.zero_add] at y0 y1 y2 y3 y4;obtain ⟨_,⟨x0,x1,x2,x3,x4⟩,_⟩:=HXx.out.next HB.out;simp only[Nat.zero_add] at x0 x1 x2 x3 x4;have HU:=Y1 (Z0h y x q0 q0 _ (HAy.out.next HB.out) (HAx.out.next HB.out) (HG.out.next HB.out));unfold sv at HU;rw[show Grd.alike y x=true from by rw[HE.out.2.2.2.2,HE.out.2.2.2.1,gk4]] at HU
 go_wp2_with fail
 refine HU.out.mono ?_;rintro e v4 ⟨rfl,hb1⟩;have HB:=Y1 (Z00 HB.out hb1);clear hb1 HU y0 y1 y2 y3 y4 x0 x1 x2 x3 x4;obtain ⟨_,⟨i0,i1,i2,i3,i4⟩,_⟩:=HXi.out.next HB.out;simp only[Nat.zero_add] at i0 i1 i2 i3 i4;obtain ⟨_,⟨x0,x1,x2,x3,x4⟩,_⟩:=HXx.out.next HB.out;simp only[Nat.zero_add] at x0 x1 x2 x3 x4;have HU:=Y1 (Z0h i x q0 q0 _ (HAi.out.next HB.out) (HAx.out.next HB.out) (HG.out.next HB.out));unfold sv at HU;rw[show Grd.alike i x=false from by rw[HE.out.2.2.1,HE.out.2.2.2.1,gk5]] at HU
 go_wp2_with fail
 refine HU.out.mono ?_;rintro e v5 ⟨rfl,hb1⟩;have HB:=Y1 (Z00 HB.out hb1);clear hb1 HU i0 i1 i2 i3 i4 x0 x1 x2 x3 x4;obtain ⟨_,⟨b0,b1,b2,b3,b4⟩,_⟩:=HXb.out.next HB.out;simp only[Nat.zero_add] at b0 b1 b2 b3 b4;have HU:=Y1 (Z1T b qb _ (HAb.out.next HB.out) (HG.out.next HB.out));unfold sv at HU;rw[show Grd.plain b=true from by rw[HE.out.2.1,gk6]] at HU
 go_wp2_with fail
 refine HU.out.mono ?_;rintro e v6 ⟨rfl,hb1⟩;have HB:=Y1 (Z00 HB.out hb1);clear hb1 HU b0 b1 b2 b3 b4;obtain ⟨_,⟨a0,a1,a2,a3,a4⟩,_⟩:=HXa.out.next HB.out;simp only[Nat.zero_add] at a0 a1 a2 a3 a4;have HU:=Y1 (Z1T a qa _ (HAa.out.next HB.out) (HG.out.next HB.out));unfold sv at HU;rw[show Grd.plain a=false from by rw[HE.out.1,gk7]] at HU
 go_wp2_with fail
 refine HU.out.mono ?_;rintro e v7 ⟨rfl,hb1⟩;have HB:=Y1 (Z00 HB.out hb1);clear hb1 HU a0 a1 a2 a3 a4;obtain ⟨_,⟨u0,u1,u2,u3,u4⟩,_⟩:=HXu.out.next HB.out;simp only[Nat.zero_add] at u0 u1 u2 u3 u4;have hsx: (v7.alloc (.cells #[.string ⟨#[97]⟩] 9)).heap.size=v7.heap.size+1:=by simp
 obtain ⟨_,⟨y0,y1,y2,y3,y4⟩,_⟩:=(HXy.out.next HB.out).next (Z01 v7 (.cells #[.string ⟨#[97]⟩] 9));simp only[Nat.zero_add] at y0 y1 y2 y3 y4;have hb6:Below v7.heap.size v7 ((v7.alloc (.cells #[.string ⟨#[97]⟩] 9)).alloc (.cells (Y8 y q0) 25)):=Z0i (Z01 _ _) _;have hs6: ((v7.alloc (.cells #[.string ⟨#[97]⟩] 9)).alloc (.cells (Y8 y q0) 25)).heap.size=v7.heap.size+2:=by simp
 have hlit:ShAt ((v7.alloc (.cells #[.string ⟨#[97]⟩] 9)).alloc (.cells (Y8 y q0) 25)) (v7.heap.size+2) ⟨some ⟨v7.heap.size,0,none⟩,1,some ⟨v7.heap.size+1,0,none⟩,1⟩ ⟨6,[],[],[[97]],[y]⟩:=by
  refine .mk _ _ (v7.heap.size+1) 0 (fun _=>q0) ⟨by simp,by simp,by simp,by simp,by simp,Nat.le_refl _,by simp,nofun,nofun⟩ (Or.inr ⟨v7.heap.size,0,rfl,by omega,fun i hi=> ?_⟩) (Or.inr ⟨rfl,by omega⟩) (fun i h=> ?_) (fun i h=> ?_)
  {have h2:i < 1:=hi
   match i,h2 with
   | 0,_=>simp[go_sem,strs]}
  {have h2:i < 1:=h
   match i,h2 with
   | 0,_=>refine ⟨?_, ?_, ?_, ?_, ?_⟩ <;> simp[go_sem]}
  {have h2:i < 1:=h
   match i,h2 with
   | 0,_=>rw[<-hs6]; exact (HAy.out.next HB.out).next hb6}
 rw[<-hs6] at hlit;have HQ:=Y1 (Z7d u ⟨6,[],[],[[97]],[y]⟩ qu _ _ ((HAu.out.next HB.out).next hb6) hlit);have HB6:=Y1 (Z00 HB1.out (Z00 HB.out hb6));have heq:eqB u ⟨6,[],[],[[97]],[y]⟩=true:=by rw[HEU.out,HE.out.2.2.2.2]; exact Z44 _
 rw[heq] at HQ;clear hb6 hs6 hlit heq
 go_wp2_with fail
 refine HQ.out.mono ?_;rintro e w9 ⟨rfl,hb9⟩;have HB9:=Y1 (Z00 HB6.out hb9);clear hb9 HQ u0 u1 u2 u3 u4 y0 y1 y2 y3 y4;go_wp2;go_ret;exact ⟨rfl,HB9.out⟩
end SubM
end Go.Proofs.YtkhoflciahkphaaDoor
namespace Go.Proofs.YtkhoflciahkphaaDoor
section
open Go.RowKit Shp
theorem Z0A {H:Type} {enc:TypeId×Value->H} {W:World} {base b0:Nat} {held:Bool} {v:Value} {d:DataW H} {p:List MemPlace}
 (hv:Value.okWide Tryd.prog W .any b0 25 v) (h:DataW.Trod enc Tryd.prog W base (fun _=>true) held 25 v d p):
 ∃(t:Sh) (q:Ptr),v= .agg (Y8 t q)/\ShAt W W.heap.size q t:=by
 obtain ⟨cs,rfl,hsz⟩:=Go.WideShapes.okWide_struct Tryd.underlying25 hv;obtain ⟨n,hn⟩:=h;obtain ⟨t,q,hcs,hat⟩:=Z7F n hn;refine ⟨t,q, ?_,hat⟩;congr 1;apply Array.ext';exact hcs
end
end Go.Proofs.YtkhoflciahkphaaDoor
