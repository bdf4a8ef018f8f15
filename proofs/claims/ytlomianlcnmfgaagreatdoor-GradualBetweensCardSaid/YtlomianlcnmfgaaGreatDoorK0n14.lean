/- What the proofs of GradualBetweens want, part 14. -/
import Derived.Test.YtlomianlcnmfgaaGreatDoorK0n13
set_option linter.unusedVariables false
set_option linter.unusedSimpArgs false
set_option linter.unusedSectionVars false
set_option maxRecDepth 100000
set_option maxHeartbeats 16000000
namespace Go.Proofs.YtlomianlcnmfgaaGreatDoor
open Go.RowKit Shp Sub
namespace SubM
theorem Z6P (w:World) (hg:WGlobs w):Y9 16 #[] w (.bool true):=by
 have HBW:=Y1 (Z4F w);have HG:=Y1 (hg.next (Z4F w));have HXi:=Y1 (gW_i w);have HXx:=Y1 (gW_t w);have HXy:=Y1 (gW_y w);have HXa:=Y1 (gW_a w);have HXb:=Y1 (gW_b w);have HAa:=Y1 (gW_A w);have HAb:=Y1 (gW_B w);have HAi:Hid (ShAt (gW w) (gW w).heap.size noneQ12 gkI):=Y1 (Z1S _ _ gkI rfl rfl (by decide) (by decide));have HAx:Hid (ShAt (gW w) (gW w).heap.size noneQ12 gkT):=Y1 (Z1S _ _ gkT rfl rfl (by decide) (by decide));have HAy:Hid (ShAt (gW w) (gW w).heap.size noneQ12 gkY):=Y1 (Z1S _ _ gkY rfl rfl (by decide) (by decide));have HR:=Y1 (Z3K gkA gkB (gqA w.heap.size) (gqB w.heap.size) (gW w) (gW_A w) (gW_B w) (hg.next (Z4F w)));have HSZ:=Y1 (Z1v w);clear hg;go_enter Tryz.func16,Tryz.ntmps16
 go_wp2_with fail
 change Calls _ _ _ (gW w) _;obtain ⟨qa,hqa⟩: ∃qa,qa=gqA w.heap.size:=⟨_,rfl⟩;obtain ⟨qb,hqb⟩: ∃qb,qb=gqB w.heap.size:=⟨_,rfl⟩;obtain ⟨H,hH⟩: ∃H,H=w.heap.size:=⟨_,rfl⟩;obtain ⟨a,ha⟩: ∃a,a=gkA:=⟨_,rfl⟩;obtain ⟨b,hb⟩: ∃b,b=gkB:=⟨_,rfl⟩;obtain ⟨i,hi⟩: ∃i,i=gkI:=⟨_,rfl⟩;obtain ⟨x,hx⟩: ∃x,x=gkT:=⟨_,rfl⟩;obtain ⟨y,hy⟩: ∃y,y=gkY:=⟨_,rfl⟩;obtain ⟨q0,hq0⟩: ∃q0,q0=noneQ12:=⟨_,rfl⟩;have HE:=Y1 (And.intro ha (And.intro hb (And.intro hi (And.intro hx hy))));rw[<-hqa, <-ha] at HXa HAa;rw[<-hqb, <-hb] at HXb HAb;rw[<-hi, <-hq0] at HXi HAi;rw[<-hx, <-hq0] at HXx HAx;rw[<-hy, <-hq0] at HXy HAy;rw[<-hH] at HXi HXx HXy HXa HXb HSZ HR ⊢;generalize gW w=W0 at HBW HG HXi HXx HXy HXa HXb HAa HAb HAi HAx HAy HR HSZ ⊢;refine HR.out.mono ?_;rintro e w1 ⟨qu,he,hat,hb1⟩;rw[gk8] at he hat;obtain ⟨u,hu⟩: ∃u,u=gkU:=⟨_,rfl⟩;simp only[Option.getD_some,Option.isSome_some, <-hu] at he hat;subst he;have hb2:=Z01 w1 (.cells (Y8 u qu) 25);have HB0:=Y1 (Z00 hb1 hb2);have HXu:=Y1 (Z05 w1 u qu);have HAu:=Y1 (hat.here.next hb2);have HEU:=Y1 hu;obtain ⟨W2,hW2⟩: ∃W2,w1.alloc (.cells (Y8 u qu) 25)=W2:=⟨_,rfl⟩;rw[hW2] at HXu HB0 HAu;have HXi:=Y1 (HXi.out.next HB0.out);have HXx:=Y1 (HXx.out.next HB0.out);have HXy:=Y1 (HXy.out.next HB0.out);have HXa:=Y1 (HXa.out.next HB0.out);have HXb:=Y1 (HXb.out.next HB0.out);have HAi:=Y1 (HAi.out.next HB0.out);have HAx:=Y1 (HAx.out.next HB0.out);have HAy:=Y1 (HAy.out.next HB0.out);have HAa:=Y1 (HAa.out.next HB0.out);have HAb:=Y1 (HAb.out.next HB0.out);have HG:=Y1 (HG.out.next HB0.out);have HB1:=Y1 (Z00 HBW.out HB0.out);have HB:=Y1 (Below.refl W2.heap.size W2);clear HR hb1 hb2 hat ha hb hi hx hy hu hqa hqb hH hq0 HB0 HBW HSZ;unfold sv;obtain ⟨_,⟨a0,a1,a2,a3,a4⟩,_⟩:=HXa.out.next HB.out;simp only[Nat.zero_add] at a0 a1 a2 a3 a4;obtain ⟨_,⟨b0,b1,b2,b3,b4⟩,_⟩:=HXb.out.next HB.out;simp only[Nat.zero_add] at b0 b1 b2 b3 b4
 have HU:=Y1 (Z20 a b qa qb _ (HAa.out.next HB.out) (HAb.out.next HB.out) (HG.out.next HB.out));unfold sv at HU;rw[show Grd.near a b=true from by rw[HE.out.1,HE.out.2.1,gk1]] at HU
 go_wp2_with fail
 refine HU.out.mono ?_;rintro e v1 ⟨rfl,hb1⟩;have HB:=Y1 (Z00 HB.out hb1);clear hb1 HU a0 a1 a2 a3 a4 b0 b1 b2 b3 b4;clear hW2;obtain ⟨_,⟨b0,b1,b2,b3,b4⟩,_⟩:=HXb.out.next HB.out;simp only[Nat.zero_add] at b0 b1 b2 b3 b4;obtain ⟨_,⟨a0,a1,a2,a3,a4⟩,_⟩:=HXa.out.next HB.out;simp only[Nat.zero_add] at a0 a1 a2 a3 a4;have HU:=Y1 (Z20 b a qb qa _ (HAb.out.next HB.out) (HAa.out.next HB.out) (HG.out.next HB.out));unfold sv at HU;rw[show Grd.near b a=false from by rw[HE.out.2.1,HE.out.1,gk2]] at HU
 go_wp2_with fail
 refine HU.out.mono ?_;rintro e v2 ⟨rfl,hb1⟩;have HB:=Y1 (Z00 HB.out hb1);clear hb1 HU b0 b1 b2 b3 b4 a0 a1 a2 a3 a4;obtain ⟨_,⟨i0,i1,i2,i3,i4⟩,_⟩:=HXi.out.next HB.out;simp only[Nat.zero_add] at i0 i1 i2 i3 i4;obtain ⟨_,⟨y0,y1,y2,y3,y4⟩,_⟩:=HXy.out.next HB.out;simp only[Nat.zero_add] at y0 y1 y2 y3 y4;have HU:=Y1 (Z20 i y q0 q0 _ (HAi.out.next HB.out) (HAy.out.next HB.out) (HG.out.next HB.out));unfold sv at HU;rw[show Grd.near i y=true from by rw[HE.out.2.2.1,HE.out.2.2.2.2,gk3]] at HU
 go_wp2_with fail
 refine HU.out.mono ?_;rintro e v3 ⟨rfl,hb1⟩;have HB:=Y1 (Z00 HB.out hb1);clear hb1 HU i0 i1 i2 i3 i4 y0 y1 y2 y3 y4;obtain ⟨_,⟨y0,y1,y2,y3,y4⟩,_⟩:=HXy.out.next HB.out;simp only[Nat.zero_add] at y0 y1 y2 y3 y4;obtain ⟨_,⟨x0,x1,x2,x3,x4⟩,_⟩:=HXx.out.next HB.out;simp only[Nat.zero_add] at x0 x1 x2 x3 x4;have HU:=Y1 (Z4p y x q0 q0 _ (HAy.out.next HB.out) (HAx.out.next HB.out) (HG.out.next HB.out));unfold sv at HU;rw[show Grd.alike y x=true from by rw[HE.out.2.2.2.2,HE.out.2.2.2.1,gk4]] at HU
 go_wp2_with fail
 refine HU.out.mono ?_;rintro e v4 ⟨rfl,hb1⟩;have HB:=Y1 (Z00 HB.out hb1);clear hb1 HU y0 y1 y2 y3 y4 x0 x1 x2 x3 x4;obtain ⟨_,⟨i0,i1,i2,i3,i4⟩,_⟩:=HXi.out.next HB.out;simp only[Nat.zero_add] at i0 i1 i2 i3 i4;obtain ⟨_,⟨x0,x1,x2,x3,x4⟩,_⟩:=HXx.out.next HB.out;simp only[Nat.zero_add] at x0 x1 x2 x3 x4;have HU:=Y1 (Z4p i x q0 q0 _ (HAi.out.next HB.out) (HAx.out.next HB.out) (HG.out.next HB.out));unfold sv at HU;rw[show Grd.alike i x=false from by rw[HE.out.2.2.1,HE.out.2.2.2.1,gk5]] at HU
 go_wp2_with fail
 refine HU.out.mono ?_;rintro e v5 ⟨rfl,hb1⟩;have HB:=Y1 (Z00 HB.out hb1);clear hb1 HU i0 i1 i2 i3 i4 x0 x1 x2 x3 x4;obtain ⟨_,⟨b0,b1,b2,b3,b4⟩,_⟩:=HXb.out.next HB.out;simp only[Nat.zero_add] at b0 b1 b2 b3 b4;have HU:=Y1 (Z4r b qb _ (HAb.out.next HB.out) (HG.out.next HB.out));unfold sv at HU;rw[show Grd.plain b=true from by rw[HE.out.2.1,gk6]] at HU
 go_wp2_with fail
 refine HU.out.mono ?_;rintro e v6 ⟨rfl,hb1⟩;have HB:=Y1 (Z00 HB.out hb1);clear hb1 HU b0 b1 b2 b3 b4;obtain ⟨_,⟨a0,a1,a2,a3,a4⟩,_⟩:=HXa.out.next HB.out;simp only[Nat.zero_add] at a0 a1 a2 a3 a4;have HU:=Y1 (Z4r a qa _ (HAa.out.next HB.out) (HG.out.next HB.out));unfold sv at HU;rw[show Grd.plain a=false from by rw[HE.out.1,gk7]] at HU
 go_wp2_with fail
 refine HU.out.mono ?_;rintro e v7 ⟨rfl,hb1⟩;have HB:=Y1 (Z00 HB.out hb1);clear hb1 HU a0 a1 a2 a3 a4;obtain ⟨_,⟨u0,u1,u2,u3,u4⟩,_⟩:=HXu.out.next HB.out;simp only[Nat.zero_add] at u0 u1 u2 u3 u4;have hsx: (v7.alloc (.cells #[.string ⟨#[97]⟩] 9)).heap.size=v7.heap.size+1:=by simp
 obtain ⟨_,⟨y0,y1,y2,y3,y4⟩,_⟩:=(HXy.out.next HB.out).next (Z01 v7 (.cells #[.string ⟨#[97]⟩] 9));simp only[Nat.zero_add] at y0 y1 y2 y3 y4;have hb6:Below v7.heap.size v7 ((v7.alloc (.cells #[.string ⟨#[97]⟩] 9)).alloc (.cells (Y8 y q0) 25)):=Z0x (Z01 _ _) _;have hs6: ((v7.alloc (.cells #[.string ⟨#[97]⟩] 9)).alloc (.cells (Y8 y q0) 25)).heap.size=v7.heap.size+2:=by simp
 have hlit:ShAt ((v7.alloc (.cells #[.string ⟨#[97]⟩] 9)).alloc (.cells (Y8 y q0) 25)) (v7.heap.size+2) ⟨some ⟨v7.heap.size,0,none⟩,1,some ⟨v7.heap.size+1,0,none⟩,1⟩ ⟨6,[],[],[[97]],[y]⟩:=by
  refine .mk _ _ (v7.heap.size+1) 0 (fun _=>q0) ⟨by simp,by simp,by simp,by simp,by simp,Nat.le_refl _,by simp,nofun,nofun⟩ (Or.inr ⟨v7.heap.size,0,rfl,by omega,fun i hi=> ?_⟩) (Or.inr ⟨rfl,by omega⟩) (fun i h=> ?_) (fun i h=> ?_)
  {have h2:i < 1:=hi
   match i,h2 with
   | 0,_=>simp[go_sem,strs]}
  {have h2:i < 1:=h
   match i,h2 with
   | 0,_=>refine ⟨?_, ?_, ?_, ?_, ?_⟩ <;> simp[go_sem]}
  {have h2:i < 1:=h
   match i,h2 with
   | 0,_=>rw[<-hs6]; exact (HAy.out.next HB.out).next hb6}
 rw[<-hs6] at hlit;have HQ:=Y1 (Z39 u ⟨6,[],[],[[97]],[y]⟩ qu _ _ ((HAu.out.next HB.out).next hb6) hlit);have HB6:=Y1 (Z00 HB1.out (Z00 HB.out hb6));have heq:eqB u ⟨6,[],[],[[97]],[y]⟩=true:=by rw[HEU.out,HE.out.2.2.2.2]; exact Z2y _
 rw[heq] at HQ;clear hb6 hs6 hlit heq
 go_wp2_with fail
 refine HQ.out.mono ?_;rintro e w9 ⟨rfl,hb9⟩;have HB9:=Y1 (Z00 HB6.out hb9);clear hb9 HQ u0 u1 u2 u3 u4 y0 y1 y2 y3 y4;go_wp2;go_ret;exact ⟨rfl,HB9.out⟩
end SubM
end Go.Proofs.YtlomianlcnmfgaaGreatDoor
namespace Go.Proofs.YtlomianlcnmfgaaGreatDoor
open Go.RowKit Shp Sub
namespace SubM
theorem ZaC {g gm hi b:Nat} (hg:hi<=g) (hh:gm < hi) (hb:rowB (some ⟨g,0,none⟩)=some b) (e:b=gm):False:=by
 have e2:g=b:=by simpa[rowB] using hb
 omega
section
variable {w0 W W1 : World} {gm hi : Nat} {k : Int} {o nm : List UInt8} {nl : List (List UInt8)} {l : List El} {AN AP : Option Addr} {cN cP : Nat}
theorem Mk.ups (h:Mk w0 gm hi k o nm nl l AN cN AP cP W) {b:Nat} (hb:b=gm\/rowB AN=some b\/rowB AP=some b):w0.heap.size<=b:=by
 rcases hb with rfl | hb | hb
 {exact h.lo}
 {have:=(Z08 h.rN b hb).1; have:=h.lo; have:=h.gh; omega}
 {have:=(Z08 h.rP b hb).1; have:=h.lo; have:=h.gh; omega}
theorem soc3 {W:World} {b x y:Nat} {v:Value} (h:x≠y): (W.setCell ⟨b,x,none⟩ v).cell? ⟨b,y,none⟩=W.cell? ⟨b,y,none⟩:=RX.soc h
section
variable (h : Mk w0 gm hi k o nm nl l AN cN AP cP W) {g c : Nat}
include h g c
theorem Mk.putN {n:List UInt8} (hg:W.grownBy W1 (rowB AN)) (hrow:W1.ownsRow hi 9 1 (.slice (some ⟨g,0,none⟩) (nl.length+1) c) (nl.length+1) (namesE nl++ [.string ⟨n.toArray⟩]))
 (hat:rowB AN=some g\/g=W.heap.size):Mk w0 gm hi k o nm (nl++ [n]) l (some ⟨g,0,none⟩) c AP cP (W1.setCell ⟨gm,3,none⟩ (.slice (some ⟨g,0,none⟩) (nl.length+1) c)):=by
 have hgm:gm < W.heap.size:=Nat.lt_of_lt_of_le h.gh h.hw;have hu:Upd (fun b=>rowB AN=some b) W W1:=(Upd.refl _ W).grown hg (fun k h _=>h);have hn: ¬rowB AN=some gm:=fun e=>by have:=(Z08 h.rN _ e).1; have:=h.gh; omega
 have hu2:Upd (fun b=>b=gm) W1 (W1.setCell ⟨gm,3,none⟩ (.slice (some ⟨g,0,none⟩) (nl.length+1) c)):=Upd.set (Upd.refl (fun b=>b=gm) W1) ⟨gm,3,none⟩ (fun _=>rfl) _;have hgh:=h.gh;have hgg:=(Z08 hrow g rfl).1;refine ⟨h.up.trans (((hu.mono (T:=fun b=>b=gm\/rowB AN=some b\/rowB AP=some b) (fun b _ hb=>Or.inr (Or.inl hb))).trans (hu2.mono (fun b _ hb=>Or.inl hb))).below h.up.size (fun b hb=>h.ups hb)),h.lo,h.gh,Nat.le_trans h.hw (Nat.le_trans hu.size hu2.size),
  (soc3 (by omega)).trans ((hu.cell hgm hn).trans h.c0),(soc3 (by omega)).trans ((hu.cell hgm hn).trans h.c1),(soc3 (by omega)).trans ((hu.cell hgm hn).trans h.c2), ?_,(soc3 (by omega)).trans ((hu.cell hgm hn).trans h.c4),fun j=>(World.frozen?_setCell ..).trans ((hu.frozen hgm hn).trans (h.fz j)), ?_, ?_,Or.inr ?_⟩
 {rw[List.length_append]; exact World.cell?_setCell_same _ _ _ ((hu.cell hgm hn).trans h.c3)}
 {rw[List.length_append,namesE_append]; exact Z0g hrow hu2 (fun b hb e=>ZaC hgg hgh hb e)}
 {refine Z0g (Z0g h.rP hu (fun b hb e=> ?_)) hu2 (fun b hb e=> ?_)
  {rcases h.ne with hne | hne
   {rw[hne] at e; cases e}
   {exact hne (e.trans hb.symm)}}
  {have:=(Z08 h.rP b hb).1;have e3:b=gm:=e;omega}}
 {intro e;have e2:rowB AP=some g:=by rw[<-e]; rfl
  rcases hat with h1 | h1
  {rcases h.ne with hne | hne
   {rw[hne] at h1; cases h1}
   {exact hne (h1.trans e2.symm)}}
  {have:=(Z08 h.rP g e2).2; omega}}
theorem Mk.putP {x:El} (hg:W.grownBy W1 (rowB AP)) (hrow:W1.ownsRow hi 25 5 (.slice (some ⟨g,0,none⟩) (l.length+1) c) (l.length+1) (cellsE l++cells5 x))
 (hat:rowB AP=some g\/g=W.heap.size):Mk w0 gm hi k o nm nl (l++ [x]) AN cN (some ⟨g,0,none⟩) c (W1.setCell ⟨gm,4,none⟩ (.slice (some ⟨g,0,none⟩) (l.length+1) c)):=by
 have hgm:gm < W.heap.size:=Nat.lt_of_lt_of_le h.gh h.hw;have hu:Upd (fun b=>rowB AP=some b) W W1:=(Upd.refl _ W).grown hg (fun k h _=>h);have hn: ¬rowB AP=some gm:=fun e=>by have:=(Z08 h.rP _ e).1; have:=h.gh; omega
 have hu2:Upd (fun b=>b=gm) W1 (W1.setCell ⟨gm,4,none⟩ (.slice (some ⟨g,0,none⟩) (l.length+1) c)):=Upd.set (Upd.refl (fun b=>b=gm) W1) ⟨gm,4,none⟩ (fun _=>rfl) _;have hgh:=h.gh;have hgg:=(Z08 hrow g rfl).1;refine ⟨h.up.trans (((hu.mono (T:=fun b=>b=gm\/rowB AN=some b\/rowB AP=some b) (fun b _ hb=>Or.inr (Or.inr hb))).trans (hu2.mono (fun b _ hb=>Or.inl hb))).below h.up.size (fun b hb=>h.ups hb)),h.lo,h.gh,Nat.le_trans h.hw (Nat.le_trans hu.size hu2.size),
  (soc3 (by omega)).trans ((hu.cell hgm hn).trans h.c0),(soc3 (by omega)).trans ((hu.cell hgm hn).trans h.c1),(soc3 (by omega)).trans ((hu.cell hgm hn).trans h.c2),(soc3 (by omega)).trans ((hu.cell hgm hn).trans h.c3), ?_,fun j=>(World.frozen?_setCell ..).trans ((hu.frozen hgm hn).trans (h.fz j)), ?_, ?_, ?_⟩
 {rw[List.length_append]; exact World.cell?_setCell_same _ _ _ ((hu.cell hgm hn).trans h.c4)}
 {refine Z0g (Z0g h.rN hu (fun b hb e=> ?_)) hu2 (fun b hb e=> ?_)
  {rcases h.ne with hne | hne
   {rw[hne] at hb; cases hb}
   {exact hne (hb.trans e.symm)}}
  {have:=(Z08 h.rN b hb).1;have e3:b=gm:=e;omega}}
 {rw[List.length_append,cellsE_append,cellsE_one]; exact Z0g hrow hu2 (fun b hb e=>ZaC hgg hgh hb e)}
 {rcases h.ne with hne | hne
  {exact Or.inl hne}
  {refine Or.inr (fun e=> ?_);have e2:rowB AN=some g:=by rw[e]; rfl
   rcases hat with h1 | h1
   {exact hne (e2.trans h1.symm)}
   {have:=(Z08 h.rN g e2).2; omega}}}
end
end
end SubM
end Go.Proofs.YtlomianlcnmfgaaGreatDoor
namespace Go.Proofs.YtlomianlcnmfgaaGreatDoor
open Go.RowKit Shp Sub
namespace SubM
structure NX where
 W0:World
 gm:Nat
 hi:Nat
 AN:Option Addr
 cN:Nat
 nl:List (List UInt8)
 bx:Nat
 g:Nat
 off:Nat
 m:Nat
 c:Nat
 i:Nat
 nm:List UInt8
namespace NX
variable (X : NX)
def val (j:Nat):Option Value:=match j with
 | 0 | 9=>some (.pointer (some ⟨X.gm,3,none⟩))
 | 1=>some (.slice X.AN X.nl.length X.cN)
 | 2=>some (.pointer (some ⟨X.bx,3,none⟩))
 | 3=>some (.slice (some ⟨X.g,X.off,none⟩) X.m X.c)
 | 4=>some (.int .i64 (X.i:Int))
 | 5=>some (.pointer (some ⟨X.g,X.off+X.i,none⟩))
 | 6=>some (.string ⟨X.nm.toArray⟩)
 | _=>none
def set (b:Nat):Prop:=b=X.gm\/rowB X.AN=some b
structure Good:Prop where
 gh:X.gm < X.hi
 hw:X.hi<=X.W0.heap.size
 c3:X.W0.cell? ⟨X.gm,3,none⟩=some (.slice X.AN X.nl.length X.cN)
 fz: ∀j,X.W0.frozen? ⟨X.gm,j,none⟩=false
 rN:X.W0.ownsRow X.hi 9 1 (.slice X.AN X.nl.length X.cN) X.nl.length (namesE X.nl)
 b3:X.bx < X.gm/\X.W0.cell? ⟨X.bx,3,none⟩=some (.slice (some ⟨X.g,X.off,none⟩) X.m X.c)
 s3:X.g < X.gm/\X.W0.cell? ⟨X.g,X.off+X.i,none⟩=some (.string ⟨X.nm.toArray⟩)
 ln:X.nl.length<=1000
structure NI (d:Nat->Bool) (u:Nat->Value) (W:World):Prop where
 vals: ∀j,d j=true-> ∀v,X.val j=some v->u j=v
 up:Upd X.set X.W0 W
 f7:d 7=true->d 8=false-> ∃z,u 7= .slice (some ⟨z,0,none⟩) 1 1/\X.W0.heap.size<=z/\z < W.heap.size/\W.cell? ⟨z,0,none⟩=some (.string ⟨X.nm.toArray⟩)
 n0:d 8=false->W.ownsRow X.hi 9 1 (.slice X.AN X.nl.length X.cN) X.nl.length (namesE X.nl)
 n1:d 8=true-> ∃g c,u 8= .slice (some ⟨g,0,none⟩) (X.nl.length+1) c/\W.ownsRow X.hi 9 1 (.slice (some ⟨g,0,none⟩) (X.nl.length+1) c) (X.nl.length+1) (namesE X.nl++ [.string ⟨X.nm.toArray⟩])/\(rowB X.AN=some g\/X.W0.heap.size<=g)
 c3:W.cell? ⟨X.gm,3,none⟩=some (if d 10=true then u 8 else .slice X.AN X.nl.length X.cN)
 cr: ∀j,j≠3->W.cell? ⟨X.gm,j,none⟩=X.W0.cell? ⟨X.gm,j,none⟩
 fz: ∀j,W.frozen? ⟨X.gm,j,none⟩=false
variable {X : NX} {d : Nat -> Bool} {u : Nat -> Value} {W W' : World}
theorem NI.vals' (h:X.NI d u W) {i:Nat} {v:Value} (hv: ∀v',X.val i=some v'->v=v'): ∀j,also d i j=true-> ∀v',X.val j=some v'->upd u i v j=v':=fun j hj v' hv'=>by
 by_cases hij:j=i
 {subst hij; rw[Z0h]; exact hv v' hv'}
 {rw[Z0k d hij] at hj; rw[Z04 u v hij]; exact h.vals j hj v' hv'}
theorem Good.start (h:X.Good):X.NI (fun _=>false) u X.W0.drew:=
 ⟨nofun,(Upd.refl _ _).drew,nofun,fun _=>h.rN,nofun,h.c3,fun _ _=>rfl,h.fz⟩
theorem NI.pure (h:X.NI d u W) {i:Nat} (hi:i≠7/\i≠8/\i≠10) {v:Value} (hv: ∀v',X.val i=some v'->v=v'):X.NI (also d i) (upd u i v) W:=by
 have k: ∀j,j=7\/j=8\/j=10->also d i j=d j/\upd u i v j=u j:=fun j hj=>⟨Z0k d (by omega),Z04 u v (by omega)⟩;refine ⟨h.vals' hv,h.up, ?_, ?_, ?_, ?_,h.cr,h.fz⟩
 {rw[(k 7 (by omega)).1,(k 7 (by omega)).2,(k 8 (by omega)).1]; exact h.f7}
 {rw[(k 8 (by omega)).1]; exact h.n0}
 {rw[(k 8 (by omega)).1,(k 8 (by omega)).2]; exact h.n1}
 {rw[(k 10 (by omega)).1,(k 8 (by omega)).2]; exact h.c3}
theorem Good.set_lt (h:X.Good) {b:Nat} (hb:X.set b):X.gm<=b/\b < X.W0.heap.size:=by
 have h1:=h.gh;have h2:=h.hw;rcases hb with rfl | hb
 {omega}
 {have:=Z08 h.rN b hb; omega}
section
variable (h : X.NI d u W) (hX : X.Good)
include h hX
theorem NI.look:W.cell? ⟨X.bx,3,none⟩=some (.slice (some ⟨X.g,X.off,none⟩) X.m X.c)/\W.cell? ⟨X.g,X.off+X.i,none⟩=some (.string ⟨X.nm.toArray⟩):=by
 have hg:=hX.gh;have hw:=hX.hw;exact ⟨(h.up.cell (by have:=hX.b3.1; omega) (fun hs=>by have:=(hX.set_lt hs).1; have:=hX.b3.1; omega)).trans hX.b3.2,(h.up.cell (by have:=hX.s3.1; omega) (fun hs=>by have:=(hX.set_lt hs).1; have:=hX.s3.1; omega)).trans hX.s3.2⟩
theorem NI.gmw:X.gm < W.heap.size:=by have:=hX.gh; have:=hX.hw; have:=h.up.size; omega
theorem NI.s7 (h8:d 8=false):X.NI (also d 7) (upd u 7 (.slice (some ⟨W.heap.size,0,none⟩) 1 1)) (W.alloc (.cells #[.string ⟨X.nm.toArray⟩] 9)):=by
 have hu:Upd (fun _=>False) W (W.alloc (.cells #[.string ⟨X.nm.toArray⟩] 9)):=Upd.new (Z01 _ _);have k: ∀j,j≠7->also d 7 j=d j/\ ∀v,upd u 7 v j=u j:=fun j hj=>⟨Z0k d hj,fun v=>Z04 u v hj⟩;have hs:=h.up.size;have hgm:=h.gmw hX;refine ⟨h.vals' (fun v' h=>by cases h),h.up.trans (hu.mono (fun _ _ h=>h.elim)),fun _ _=>⟨W.heap.size,Z0h _ _ _,hs,by simp,by simp[go_sem]⟩, ?_, ?_, ?_,fun j hj=>(hu.cell hgm (fun h=>h)).trans (h.cr j hj),fun j=>(hu.frozen hgm (fun h=>h)).trans (h.fz j)⟩
 {rw[(k 8 (by omega)).1]; exact fun h8=>Z0g (h.n0 h8) hu (fun _ _ h=>h)}
 {rw[(k 8 (by omega)).1,h8]; nofun}
 {rw[(k 10 (by omega)).1,(k 8 (by omega)).2]; exact (hu.cell hgm (fun h=>h)).trans h.c3}
theorem NI.s8 (h10:d 10=false) {g c:Nat} (hown:W'.ownsRow X.hi 9 1 (.slice (some ⟨g,0,none⟩) (X.nl.length+1) c) (X.nl.length+1) (namesE X.nl++ [.string ⟨X.nm.toArray⟩]))
 (hg:W.grownBy W' (rowB X.AN)) (hat:rowB X.AN=some g\/g=W.heap.size):X.NI (also d 8) (upd u 8 (.slice (some ⟨g,0,none⟩) (X.nl.length+1) c)) W':=by
 have k: ∀j,j≠8->also d 8 j=d j/\ ∀v,upd u 8 v j=u j:=fun j hj=>⟨Z0k d hj,fun v=>Z04 u v hj⟩;have hu:Upd (fun b=>rowB X.AN=some b) W W':=(Upd.refl _ W).grown hg (fun k h _=>h);have hgm:=h.gmw hX;have hgN: ¬rowB X.AN=some X.gm:=fun e=>by have:=(Z08 hX.rN _ e).1; have:=hX.gh; omega
 have hs:=h.up.size;refine ⟨h.vals' (fun v' h=>by cases h),h.up.trans (hu.mono (fun b _ hb=>Or.inr hb)), ?_, ?_, ?_, ?_,fun j hj=>(hu.cell hgm hgN).trans (h.cr j hj),fun j=>(hu.frozen hgm hgN).trans (h.fz j)⟩
 {rw[Z0o]; exact fun _ h=>by cases h}
 {rw[Z0o]; nofun}
 {exact fun _=>⟨g,c,Z0h _ _ _,hown,hat.imp id (fun e=>by omega)⟩}
 {rw[(k 10 (by omega)).1,h10];have:=h.c3;rw[h10] at this;exact (hu.cell hgm hgN).trans this}
theorem NI.s10 (h8:d 8=true):X.NI (also d 10) (upd u 10 undef) (W.setCell ⟨X.gm,3,none⟩ (u 8)):=by
 have k: ∀j,j≠10->also d 10 j=d j/\ ∀v,upd u 10 v j=u j:=fun j hj=>⟨Z0k d hj,fun v=>Z04 u v hj⟩;have hgm:=h.gmw hX;obtain ⟨g8,c8,e8,r8,n8⟩:=h.n1 h8;have hu:Upd (fun b=>b=X.gm) W (W.setCell ⟨X.gm,3,none⟩ (u 8)):=Upd.set (Upd.refl (fun b=>b=X.gm) W) ⟨X.gm,3,none⟩ (fun _=>rfl) _;have far: ∀j,j≠3->(W.setCell ⟨X.gm,3,none⟩ (u 8)).cell? ⟨X.gm,j,none⟩=W.cell? ⟨X.gm,j,none⟩:=fun j hj=>World.cell?_setCell_other _ _ _ _ (fun e=>by have:=congrArg Addr.off e; simp at this; omega);have hgh:=hX.gh;have hgg:=(Z08 r8 g8 rfl).1;refine ⟨h.vals' (fun v' h=>by cases h),h.up.trans (hu.mono (fun b _ hb=>Or.inl hb)), ?_, ?_, ?_, ?_,fun j hj=>(far j hj).trans (h.cr j hj),fun j=>(World.frozen?_setCell ..).trans (h.fz j)⟩
 {rw[(k 8 (by omega)).1,h8]; exact fun _ h=>by cases h}
 {rw[(k 8 (by omega)).1,h8]; nofun}
 {rw[(k 8 (by omega)).2];exact fun _=>⟨g8,c8,e8,Z0g r8 hu (fun b hb e=>by
   have e1:g8=b:=by simpa[rowB] using hb
   have e2:b=X.gm:=e;omega),n8⟩}
 {rw[(k 8 (by omega)).2,Z0o,if_pos rfl];exact World.cell?_setCell_same _ _ _ h.c3}
end
end NX
end SubM
end Go.Proofs.YtlomianlcnmfgaaGreatDoor
namespace Sub
open Shp Go.Proofs.YtlomianlcnmfgaaGreatDoor
theorem Z1A {t:Sh} (h:Rec t) {n:List UInt8} {p:Sh} (hp:get t n=some p): ∃i,∃h1:i < t.names.length,∃h2:i < t.parts.length,t.names[i]'h1=n/\t.parts[i]'h2=p:=by
 obtain ⟨i,hi,e⟩:=List.mem_iff_getElem.1 (h.get_iff.1 hp);rw[List.length_zip] at hi;rw[List.getElem_zip] at e;injection e with e1 e2;exact ⟨i,by omega,by omega,e1,e2⟩
theorem Z1a {t:Sh} (h:Rec t) {i:Nat} (h1:i < t.names.length) (h2:i < t.parts.length):get t (t.names[i]'h1)=some (t.parts[i]'h2):=Z5e h.nodup h1 h2
section
variable {f : Nat} {a b : Sh}
theorem Z0d {t:Sh} (h:right t=true) (hk:t.kind=6\/t.kind=7):Rec t:=Z0p (Z0b h) hk
end
end Sub
namespace Grd
open Shp Sub Go.Proofs.YtlomianlcnmfgaaGreatDoor
section
variable {w : Bool} {f : Nat} {a b : Sh}
theorem Z1q (ra:right a=true) (rb:right b=true) (h: ¬R w f true a b):hold w f a b=false:=by
 cases e:hold w f a b with
 | false=>rfl
 | true=>exact absurd ((Z0t ra rb).1 e) h
theorem nd_any (h:a.kind=4\/b.kind=4):hold w (f+1) a b=true:=by unfold hold; rw[if_pos h]
theorem Z1K (h4: ¬(a.kind=4\/b.kind=4)) (h:R w (f+1) true a b):a.kind=b.kind/\
 (a.kind=6\/a.kind=7->(∀n p q,get a n=some p->get b n=some q->R w f true p q)/\
  (∀n p,get a n=some p->get b n=none->w=true/\Narrow true a.kind)/\
  (∀n q,get a n=none->get b n=some q->w=true/\Wide true a.kind))/\
 (¬(a.kind=6\/a.kind=7)->a.of_=b.of_/\a.name=b.name/\a.parts.length=b.parts.length/\
  ∀(i:Nat) (p q:Sh),a.parts[i]? =some p->b.parts[i]? =some q->R w f (if i+1=a.parts.length then true else !true) p q):=by
 rcases h with h | h | h
 {exact absurd (Or.inl h) h4}
 {exact absurd (Or.inr h) h4}
 {exact h}
section
variable (ra : right a = true) (rb : right b = true)
include ra rb
theorem nd_head (h4: ¬(a.kind=4\/b.kind=4)) (h: ¬(a.kind=b.kind/\a.of_=b.of_/\a.name=b.name)):hold w (f+1) a b=false:=by
 refine Z1q ra rb (fun hr=>h ?_);obtain ⟨hk,_,h2⟩:=Z1K h4 hr;by_cases h6:a.kind=6\/a.kind=7
 {have e1:=(Z0Q a).1 (Z0d ra h6).b;have e2:=(Z0Q b).1 (Z0d rb (hk▸h6)).b;exact ⟨hk,e1.1.trans e2.1.symm,e1.2.trans e2.2.symm⟩}
 {exact ⟨hk,(h2 h6).1,(h2 h6).2.1⟩}
theorem nr_yes (hk:a.kind=b.kind) (h6:a.kind=6)
 (h: ∀j (h1:j < b.names.length) (h2:j < b.parts.length),∃p,get a (b.names[j]'h1)=some p/\hold true f p (b.parts[j]'h2)=true):hold true (f+1) a b=true:=by
 have hB:=Z0d rb (by rw[<-hk]; exact Or.inl h6);refine (Z0t ra rb).2 (Or.inr (Or.inr ⟨hk,fun _=>⟨fun n p q hp hq=> ?_,fun n p hp hq=>⟨rfl,by rw[h6]; decide⟩,fun n q hp hq=> ?_⟩,fun e=>absurd (Or.inl h6) e⟩))
 {obtain ⟨i,h1,h2,e1,e2⟩:=Z1A hB hq;obtain ⟨p',hp',hv⟩:=h i h1 h2;rw[e1,hp] at hp'; cases hp';rw[e2] at hv;exact (Z0t (Z03 ra (Z06 hp)) (Z03 rb (Z06 hq))).1 hv}
 {obtain ⟨i,h1,h2,e1,e2⟩:=Z1A hB hq;obtain ⟨p',hp',hv⟩:=h i h1 h2;rw[e1,hp] at hp'; cases hp'}
theorem nr_none (hk:a.kind=b.kind) (h6:a.kind=6) {j:Nat} (h1:j < b.names.length) (h:get a (b.names[j]'h1)=none):hold true (f+1) a b=false:=by
 have hB:=Z0d rb (by rw[<-hk]; exact Or.inl h6);refine Z1q ra rb (fun hr=> ?_);obtain ⟨_,h3,_⟩:=Z1K (by omega) hr;have:=(h3 (Or.inl h6)).2.2 _ _ h (Z1a hB h1 (by rw[<-hB.l]; exact h1));rw[h6] at this;exact absurd this.2 (by decide)
theorem nr_no (hk:a.kind=b.kind) (h6:a.kind=6) {j:Nat} (h1:j < b.names.length) (h2:j < b.parts.length) {p:Sh} (hp:get a (b.names[j]'h1)=some p) (h:hold true f p (b.parts[j]'h2)=false):hold true (f+1) a b=false:=by
 have hB:=Z0d rb (by rw[<-hk]; exact Or.inl h6);refine Z1q ra rb (fun hr=> ?_);obtain ⟨_,h3,_⟩:=Z1K (by omega) hr;have hq:=Z1a hB h1 h2;have:=(h3 (Or.inl h6)).1 _ _ _ hp hq;rw[(Z0t (Z03 ra (Z06 hp)) (Z03 rb (Z06 hq))).2 this] at h; cases h
theorem nv_yes (hk:a.kind=b.kind) (h6:a.kind=7)
 (h: ∀j (h1:j < a.names.length) (h2:j < a.parts.length),∃p,get b (a.names[j]'h1)=some p/\hold true f (a.parts[j]'h2) p=true):hold true (f+1) a b=true:=by
 have hA:=Z0d ra (Or.inr h6);refine (Z0t ra rb).2 (Or.inr (Or.inr ⟨hk,fun _=>⟨fun n p q hp hq=> ?_,fun n p hp hq=> ?_,fun n q hp hq=>⟨rfl,by rw[h6]; decide⟩⟩,fun e=>absurd (Or.inr h6) e⟩))
 {obtain ⟨i,h1,h2,e1,e2⟩:=Z1A hA hp;obtain ⟨p',hp',hv⟩:=h i h1 h2;rw[e1,hq] at hp'; cases hp';rw[e2] at hv;exact (Z0t (Z03 ra (Z06 hp)) (Z03 rb (Z06 hq))).1 hv}
 {obtain ⟨i,h1,h2,e1,e2⟩:=Z1A hA hp;obtain ⟨p',hp',hv⟩:=h i h1 h2;rw[e1,hq] at hp'; cases hp'}
theorem nv_none (hk:a.kind=b.kind) (h6:a.kind=7) {j:Nat} (h1:j < a.names.length) (h:get b (a.names[j]'h1)=none):hold true (f+1) a b=false:=by
 have hA:=Z0d ra (Or.inr h6);refine Z1q ra rb (fun hr=> ?_);obtain ⟨_,h3,_⟩:=Z1K (by omega) hr;have:=(h3 (Or.inr h6)).2.1 _ _ (Z1a hA h1 (by rw[<-hA.l]; exact h1)) h;rw[h6] at this;exact absurd this.2 (by decide)
theorem nv_no (hk:a.kind=b.kind) (h6:a.kind=7) {j:Nat} (h1:j < a.names.length) (h2:j < a.parts.length) {p:Sh} (hp:get b (a.names[j]'h1)=some p) (h:hold true f (a.parts[j]'h2) p=false):hold true (f+1) a b=false:=by
 have hA:=Z0d ra (Or.inr h6);refine Z1q ra rb (fun hr=> ?_);obtain ⟨_,h3,_⟩:=Z1K (by omega) hr;have hq:=Z1a hA h1 h2;have:=(h3 (Or.inr h6)).1 _ _ _ hq hp;rw[(Z0t (Z03 ra (Z06 hq)) (Z03 rb (Z06 hp))).2 this] at h; cases h
theorem np_len (h4: ¬(a.kind=4\/b.kind=4)) (h6: ¬(a.kind=6\/a.kind=7)) (h:a.parts.length≠b.parts.length):hold w (f+1) a b=false:=
 Z1q ra rb (fun hr=>h ((Z1K h4 hr).2.2 h6).2.2.1)
theorem np_yes (hk:a.kind=b.kind) (ho:a.of_=b.of_) (hn:a.name=b.name) (h6: ¬(a.kind=6\/a.kind=7)) (hl:a.parts.length=b.parts.length)
 (h: ∀j (h1:j < a.parts.length) (h2:j < b.parts.length),(if j+1=a.parts.length then hold w f (a.parts[j]'h1) (b.parts[j]'h2) else hold w f (b.parts[j]'h2) (a.parts[j]'h1))=true):hold w (f+1) a b=true:=by
 refine (Z0t ra rb).2 (Or.inr (Or.inr ⟨hk,fun e=>absurd e h6,fun _=>⟨ho,hn,hl,fun i p q hp hq=> ?_⟩⟩));obtain ⟨h1,rfl⟩:=List.getElem?_eq_some_iff.1 hp;obtain ⟨h2,rfl⟩:=List.getElem?_eq_some_iff.1 hq;have r1:=Z03 ra (List.getElem_mem h1);have r2:=Z03 rb (List.getElem_mem h2);have:=h i h1 h2;by_cases e:i+1=a.parts.length
 {rw[if_pos e] at this ⊢; exact (Z0t r1 r2).1 this}
 {rw[if_neg e] at this ⊢; exact R.flip_iff.2 (by rw[Bool.not_not]; exact (Z0t r2 r1).1 this)}
theorem np_last (h4: ¬(a.kind=4\/b.kind=4)) (h6: ¬(a.kind=6\/a.kind=7)) {j:Nat} (h1:j < a.parts.length) (h2:j < b.parts.length) (e:j+1=a.parts.length) (h:hold w f (a.parts[j]'h1) (b.parts[j]'h2)=false):hold w (f+1) a b=false:=by
 refine Z1q ra rb (fun hr=> ?_);have:=((Z1K h4 hr).2.2 h6).2.2.2 j _ _ (List.getElem?_eq_getElem h1) (List.getElem?_eq_getElem h2);rw[if_pos e] at this;rw[(Z0t (Z03 ra (List.getElem_mem h1)) (Z03 rb (List.getElem_mem h2))).2 this] at h; cases h
theorem np_more (h4: ¬(a.kind=4\/b.kind=4)) (h6: ¬(a.kind=6\/a.kind=7)) {j:Nat} (h1:j < a.parts.length) (h2:j < b.parts.length) (e:j+1≠a.parts.length) (h:hold w f (b.parts[j]'h2) (a.parts[j]'h1)=false):hold w (f+1) a b=false:=by
 refine Z1q ra rb (fun hr=> ?_);have:=((Z1K h4 hr).2.2 h6).2.2.2 j _ _ (List.getElem?_eq_getElem h1) (List.getElem?_eq_getElem h2);rw[if_neg e] at this;have:=R.flip_iff.1 this;rw[Bool.not_not] at this;rw[(Z0t (Z03 rb (List.getElem_mem h2)) (Z03 ra (List.getElem_mem h1))).2 this] at h; cases h
theorem np_leaf (hk:a.kind=b.kind) (ho:a.of_=b.of_) (hn:a.name=b.name) (h5:a.kind≠5) (h6: ¬(a.kind=6\/a.kind=7)) (h8:a.kind≠8):hold w (f+1) a b=true:=by
 have key: ∀ {t:Sh},right t=true->t.kind≠5-> ¬(t.kind=6\/t.kind=7)->t.kind≠8->t.parts= []:=fun rt k5 k6 k8=>by
  rcases Z1C (Z0b rt) with h | h | h | h | h
  {exact h.2.2.2}
  {exact absurd h.1 k5}
  {exact absurd h.1 k6}
  {exact absurd h.1 k8}
  {exact h.2.2.1}
 have pa:=key ra h5 h6 h8;have pb:=key rb (by rw[<-hk]; exact h5) (by rw[<-hk]; exact h6) (by rw[<-hk]; exact h8);exact np_yes ra rb hk ho hn h6 (by rw[pa,pb]) (fun j h1 _=>by rw[pa] at h1; exact absurd h1 (by simp))
end
theorem list_one {t:Sh} (rt:right t=true) (h:t.kind=5):t.parts.length=1:=by
 rcases Z1C (Z0b rt) with h1 | h1 | h1 | h1 | h1
 {omega}
 {exact h1.2.2}
 {omega}
 {omega}
 {omega}
theorem fun_one {t:Sh} (rt:right t=true) (h:t.kind=8):1<=t.parts.length:=by
 rcases Z1C (Z0b rt) with h1 | h1 | h1 | h1 | h1
 {omega}
 {omega}
 {omega}
 {exact h1.2.2}
 {omega}
theorem np_list (ra:right a=true) (rb:right b=true) (hk:a.kind=b.kind) (ho:a.of_=b.of_) (hn:a.name=b.name) (h5:a.kind=5) (h1:0 < a.parts.length) (h2:0 < b.parts.length):hold w (f+1) a b=hold w f (a.parts[0]'h1) (b.parts[0]'h2):=by
 have la:=list_one ra h5;have lb:=list_one rb (by rw[<-hk]; exact h5);cases h:hold w f (a.parts[0]'h1) (b.parts[0]'h2) with
 | false=>exact np_last ra rb (by omega) (by omega) h1 h2 (by omega) h
 | true=>
  refine np_yes ra rb hk ho hn (by omega) (by omega) (fun j g1 g2=> ?_);obtain rfl:j=0:=by omega
  rw[if_pos (by omega)]; exact h
end
end Grd
namespace Grd
section
open Shp Sub Go.Proofs.YtlomianlcnmfgaaGreatDoor
def dpart (g:Sh->Sh->Sh) (s:Sh) (x:Fld):Sh:=match get s x.1 with
 | some p=>g p x.2
 | none=>x.2
def dflds (g:Sh->Sh->Sh) (s t:Sh):List Fld:=(t.names.zip t.parts).map (fun x=>(x.1,dpart g s x))
def dnamed:Nat->Sh->Sh->Sh
 | 0,s,_=>s
 | f+1,s,t=>
  if s.kind=4\/t.kind=4 then s
  else if s.kind=6\/s.kind=7 then ⟨s.kind,s.of_,s.name,(dflds (dnamed f) s t).map Prod.fst,(dflds (dnamed f) s t).map Prod.snd⟩
  else ⟨s.kind,s.of_,s.name,[],List.zipWith (dnamed f) s.parts t.parts⟩
section
variable {g : Sh -> Sh -> Sh} {s t : Sh}
include g s t
theorem dflds_fst (h:t.names.length=t.parts.length): (dflds g s t).map Prod.fst=t.names:=by
 unfold dflds;rw[List.map_map];exact List.map_fst_zip (by omega)
theorem dflds_len (h:t.names.length=t.parts.length): (dflds g s t).length=t.names.length:=by
 rw[<-dflds_fst (g:=g) (s:=s) h,List.length_map]
theorem dflds_at {i:Nat} (h1:i < t.names.length) (h2:i < t.parts.length): (dflds g s t)[i]? =some (t.names[i]'h1,dpart g s (t.names[i]'h1,t.parts[i]'h2)):=by
 unfold dflds;rw[List.getElem?_map,List.getElem?_eq_getElem (by rw[List.length_zip]; omega),List.getElem_zip];rfl
theorem ZaD (T:Rec t) {n:List UInt8} {x:Sh}: (n,x)∈dflds g s t ↔ ∃q,get t n=some q/\x=dpart g s (n,q):=by
 unfold dflds;rw[List.mem_map];constructor
 {rintro ⟨⟨m,q⟩,hm,e⟩;simp only[Prod.mk.injEq] at e;obtain ⟨rfl,rfl⟩:=e;exact ⟨q,T.get_iff.2 hm,rfl⟩}
 {rintro ⟨q,hq,rfl⟩;exact ⟨(n,q),T.get_iff.1 hq,rfl⟩}
end
structure Dis (f:Nat) (s t:Sh):Prop where
 r:right (dnamed f s t)=true
 e: ∀up,V f up (named f s t) (dnamed f s t)/\V f up (dnamed f s t) (named f s t)
theorem ZaE {f:Nat}: ∀ {up:Bool} {s t:Sh},right s=true->right t=true->deep s<=f->deep t<=f->R true f up s t->Dis f s t:=by
 induction f with
 | zero=>intro up s t _ _ _ _ h; exact h.elim
 | succ f ih=>
  intro up s t rs rt ds dt h;have pa: ∀p∈s.parts,right p=true/\deep p<=f:=fun p hp=>⟨Z03 rs hp,by have:=Z0v hp; rw[Z0j] at ds; omega⟩;have pb: ∀p∈t.parts,right p=true/\deep p<=f:=fun p hp=>⟨Z03 rt hp,by have:=Z0v hp; rw[Z0j] at dt; omega⟩;by_cases h4:s.kind=4\/t.kind=4
  {have e1:dnamed (f+1) s t=s:=by unfold dnamed; rw[if_pos h4]
   have e2:named (f+1) s t=s:=by unfold named; rw[if_pos h4]
   exact ⟨by rw[e1]; exact rs,fun up=>by rw[e1,e2]; exact ⟨V.refl ds,V.refl ds⟩⟩}
  have h4a:s.kind≠4:=fun h=>h4 (Or.inl h);have h4b:t.kind≠4:=fun h=>h4 (Or.inr h);rcases h with h | h | ⟨hk,h1,h2⟩
  {exact absurd h h4a}
  {exact absurd h h4b}
  by_cases h6:s.kind=6\/s.kind=7
  {have A:=Z0p (Z0b rs) h6;have B:=Z0p (Z0b rt) (hk▸h6);obtain ⟨g1,g2,g3⟩:=h1 h6;have hof:s.of_= []/\s.name= []:=(Z0Q s).1 A.b;obtain ⟨L,hL⟩: ∃L,L=(calls s t).filterMap (nstep (named f)):=⟨_,rfl⟩;obtain ⟨M,hM⟩: ∃M,M=dflds (dnamed f) s t:=⟨_,rfl⟩;have e1:named (f+1) s t=made s.kind L:=by
    conv=>lhs; unfold named; rw[if_neg h4,if_pos h6,hof.1,hof.2, <-hL]
    rfl
   have e2:dnamed (f+1) s t=made s.kind M:=by
    conv=>lhs; unfold dnamed; rw[if_neg h4,if_pos h6,hof.1,hof.2, <-hM]
    rfl
   have hsub: (L.map Prod.fst).Sublist ((calls s t).map Prod.fst):=by rw[hL]; exact Z1o (fun c x h=>nstep_fst h) _
   have dL: (L.map Prod.fst).Nodup:=hsub.nodup (Z10 A B);have fM:M.map Prod.fst=t.names:=by rw[hM]; exact dflds_fst B.l
   have dM: (M.map Prod.fst).Nodup:=by rw[fM]; exact B.nodup
   have hR:=Z3u (k:=s.kind) h6 dM (fun n hn=>by rw[fM] at hn; exact B.isName hn);have mL: ∀n x,get (made s.kind L) n=some x ↔ ∃q,get t n=some q/\((∃p,get s n=some p/\x=named f p q)\/(get s n=none/\x=q)):=fun n x=>(Z1b dL).trans (by rw[hL]; exact Z5u A B);have mM: ∀n x,get (made s.kind M) n=some x ↔ ∃q,get t n=some q/\x=dpart (dnamed f) s (n,q):=fun n x=>(Z1b dM).trans (by rw[hM]; exact ZaD B);have hI: ∀n p q,get s n=some p->get t n=some q->Dis f p q:=fun n p q hp hq=>ih (pa p (Z06 hp)).1 (pb q (Z06 hq)).1 (pa p (Z06 hp)).2 (pb q (Z06 hq)).2 (g1 n p q hp hq);have key: ∀n,(∀x,get (made s.kind L) n=some x-> ∃y,get (made s.kind M) n=some y/\ ∀up,V f up x y/\V f up y x)/\(∀y,get (made s.kind M) n=some y-> ∃x,get (made s.kind L) n=some x/\ ∀up,V f up x y/\V f up y x):=fun n=>by
    refine ⟨fun x hx=> ?_,fun y hy=> ?_⟩
    {obtain ⟨q,hq,⟨p,hp,rfl⟩ | ⟨hp,rfl⟩⟩:=(mL n x).1 hx
     {refine ⟨_,(mM n _).2 ⟨q,hq,rfl⟩,fun up=> ?_⟩;rw[show dpart (dnamed f) s (n,q)=dnamed f p q from by unfold dpart; rw[hp]];exact (hI n p q hp hq).e up}
     {refine ⟨_,(mM n _).2 ⟨_,hq,rfl⟩,fun up=> ?_⟩;rw[show dpart (dnamed f) s (n,x)=x from by unfold dpart; rw[hp]];exact ⟨V.refl (pb _ (Z06 hq)).2,V.refl (pb _ (Z06 hq)).2⟩}}
    {obtain ⟨q,hq,rfl⟩:=(mM n y).1 hy;cases hp:get s n with
     | none=>
      refine ⟨q,(mL n q).2 ⟨q,hq,Or.inr ⟨hp,rfl⟩⟩,fun up=> ?_⟩;rw[show dpart (dnamed f) s (n,q)=q from by unfold dpart; rw[hp]];exact ⟨V.refl (pb _ (Z06 hq)).2,V.refl (pb _ (Z06 hq)).2⟩
     | some p=>
      refine ⟨_,(mL n _).2 ⟨q,hq,Or.inl ⟨p,hp,rfl⟩⟩,fun up=> ?_⟩;rw[show dpart (dnamed f) s (n,q)=dnamed f p q from by unfold dpart; rw[hp]];exact (hI n p q hp hq).e up}
   refine ⟨?_,fun up=> ?_⟩
   {rw[e2];refine Z1k hR.fits (fun y hy=> ?_);obtain ⟨⟨n,y⟩,hm,rfl⟩:=List.mem_map.1 hy;obtain ⟨q,hq,rfl⟩:=(mM n _).1 ((Z1b dM).2 hm);cases hp:get s n with
    | none=>rw[show dpart (dnamed f) s (n,q)=q from by unfold dpart; rw[hp]]; exact (pb _ (Z06 hq)).1
    | some p=>rw[show dpart (dnamed f) s (n,q)=dnamed f p q from by unfold dpart; rw[hp]]; exact (hI n p q hp hq).r}
   {rw[e1,e2];refine ⟨⟨rfl,fun _ n y hy=> ?_,fun _ n x hx=> ?_,fun h=>absurd h6 h⟩,⟨rfl,fun _ n x hx=> ?_,fun _ n y hy=> ?_,fun h=>absurd h6 h⟩⟩
    {obtain ⟨x,hx,v⟩:=(key n).2 y hy; exact ⟨x,hx,(v up).1⟩}
    {obtain ⟨y,hy,v⟩:=(key n).1 x hx; exact ⟨y,hy,(v up).1⟩}
    {obtain ⟨y,hy,v⟩:=(key n).1 x hx; exact ⟨y,hy,(v up).2⟩}
    {obtain ⟨x,hx,v⟩:=(key n).2 y hy; exact ⟨x,hx,(v up).2⟩}}}
  {obtain ⟨e1,e2,e3,e4⟩:=h2 h6;have hns:=Z1Q (Z0b rs) h6;have n1:named (f+1) s t=⟨s.kind,s.of_,s.name,[],List.zipWith (named f) s.parts t.parts⟩:=by conv=>lhs; unfold named; rw[if_neg h4,if_neg h6]
   have n2:dnamed (f+1) s t=⟨s.kind,s.of_,s.name,[],List.zipWith (dnamed f) s.parts t.parts⟩:=by conv=>lhs; unfold dnamed; rw[if_neg h4,if_neg h6]
   have l1: (List.zipWith (named f) s.parts t.parts).length=s.parts.length:=by rw[List.length_zipWith, <-e3,Nat.min_self]
   have l2: (List.zipWith (dnamed f) s.parts t.parts).length=s.parts.length:=by rw[List.length_zipWith, <-e3,Nat.min_self]
   have hI: ∀(i:Nat) (h1:i < s.parts.length) (h2:i < t.parts.length),Dis f (s.parts[i]'h1) (t.parts[i]'h2):=fun i h1 h2=>
    ih (pa _ (List.getElem_mem h1)).1 (pb _ (List.getElem_mem h2)).1 (pa _ (List.getElem_mem h1)).2 (pb _ (List.getElem_mem h2)).2 (e4 i _ _ (List.getElem?_eq_getElem h1) (List.getElem?_eq_getElem h2))
   have key: ∀(i:Nat) (x y:Sh),(List.zipWith (named f) s.parts t.parts)[i]? =some x->(List.zipWith (dnamed f) s.parts t.parts)[i]? =some y-> ∀up,V f up x y/\V f up y x:=fun i x y hx hy up=>by
    obtain ⟨hi,rfl⟩:=List.getElem?_eq_some_iff.1 hx;obtain ⟨hj,rfl⟩:=List.getElem?_eq_some_iff.1 hy;rw[List.getElem_zipWith,List.getElem_zipWith];exact (hI i (by omega) (by omega)).e up
   refine ⟨?_,fun up=> ?_⟩
   {rw[n2];refine Z1k ?_ (fun y hy=> ?_)
    {rw[Z3X (t:=s) (u:=⟨s.kind,s.of_,s.name,[],List.zipWith (dnamed f) s.parts t.parts⟩) rfl rfl rfl hns.symm l2]; exact Z0b rs}
    {obtain ⟨i,hi,rfl⟩:=List.getElem_of_mem hy;simp only[List.getElem_zipWith];exact (hI i (by simp only at hi; omega) (by simp only at hi; omega)).r}}
   {rw[n1,n2];refine ⟨⟨rfl,fun h=>absurd (Z0w h) h6,fun h=>absurd (Z0D h) h6,fun _=>⟨rfl,rfl,l1.trans l2.symm,fun i x y hx hy=> ?_⟩⟩,⟨rfl,fun h=>absurd (Z0w h) h6,fun h=>absurd (Z0D h) h6,fun _=>⟨rfl,rfl,l2.trans l1.symm,fun i y x hy hx=> ?_⟩⟩⟩
    {exact (key i x y hx hy _).1}
    {exact (key i x y hx hy _).2}}}
theorem dwhole {a b:Sh} {up:Bool} (ra:right a=true) (rb:right b=true) (da:deep a<=40) (db:deep b<=40) (h:R true 40 up a b):whole (some (dnamed 40 a b))=whole (some (named 40 a b)):=by
 have hi:=ZaE ra rb da db h;have hn:=Z2J ra rb da db h;exact Z2p hi.r hn.r (V.anti hi.r hn.r (hi.e up).2 (hi.e up).1)
end
end Grd
namespace Go.Proofs.YtlomianlcnmfgaaGreatDoor
open Go.RowKit Shp Sub
namespace SubM
structure KBs (w0 w4:World) (n0 gm hi rc:Nat) (k:Int) (o nm:List UInt8) (nl:List (List UInt8)) (ps:List Sh) (l:List El) (AN:Option Addr) (cN:Nat) (AP:Option Addr) (cP:Nat) (W:World):Prop where
 mm:Mk w0 gm hi k o nm nl l AN cN AP cP W
 eq:l.map Prod.fst=ps
 kp: ∀x∈l,Kept (Free n0 hi AN AP) W x
 rr:Rc rc W
 up:Upd (fun b=>b=gm\/hi<=b) w4 W
section
variable {w0 w4 W W' : World} {n0 gm hi rc : Nat} {k : Int} {o nm : List UInt8} {nl : List (List UInt8)} {ps : List Sh} {l : List El} {AN AP : Option Addr} {cN cP : Nat}
theorem KBs.len (h:KBs w0 w4 n0 gm hi rc k o nm nl ps l AN cN AP cP W):l.length=ps.length:=by have:=congrArg List.length h.eq; simpa using this
theorem KBs.new (h:KBs w0 w4 n0 gm hi rc k o nm nl ps l AN cN AP cP W) (hb:Below W.heap.size W W'):KBs w0 w4 n0 gm hi rc k o nm nl ps l AN cN AP cP W':=
 ⟨h.mm.new hb,h.eq,fun x hx=>(h.kp x hx).upd (T:=fun _=>False) (Upd.new hb) (fun _ _ _ h=>h),h.rr.upd (T:=fun _=>False) (Upd.new hb) (fun h=>h),h.up.trans (Upd.new hb)⟩
theorem NX.done {X:NX} {d:Nat->Bool} {u:Nat->Value} (hI:X.NI d u W) (hX:X.Good) (hd: ∀j,j < 11->d j=true) (hg:X.gm=gm) (hh:X.hi=hi) (hnl:X.nl=nl) (hAN:X.AN=AN) (hc:X.cN=cN) (hng:n0<=gm) (hrc:rc < gm)
 (hK:KBs w0 w4 n0 gm hi rc k o nm nl ps l AN cN AP cP X.W0): ∃AN' cN',KBs w0 w4 n0 gm hi rc k o nm (nl++ [X.nm]) ps l AN' cN' AP cP W/\(∀b,rowB AN'=some b->rowB AN=some b\/X.W0.heap.size<=b)/\Upd (fun b=>b=gm\/rowB AN=some b) X.W0 W:=by
 subst hg hh hnl hAN hc;obtain ⟨g,c,e8,r8,n8⟩:=hI.n1 (hd 8 (by omega));have c3:=hI.c3;rw[hd 10 (by omega),e8] at c3;simp only[if_true] at c3;have hm:=hK.mm;have hu:=hI.up;have hgg:=(Z08 r8 g rfl).1;have hgh:=hm.gh;have hrl: ∀b,X.set b->w0.heap.size<=b:=fun b hb=>by have:=(hX.set_lt hb).1; have:=hm.lo; omega
 refine ⟨some ⟨g,0,none⟩,c,⟨⟨hm.up.trans (hu.below hm.up.size hrl),hm.lo,hm.gh,Nat.le_trans hm.hw hu.size,(hI.cr 0 (by omega)).trans hm.c0,(hI.cr 1 (by omega)).trans hm.c1,(hI.cr 2 (by omega)).trans hm.c2, ?_,(hI.cr 4 (by omega)).trans hm.c4,hI.fz, ?_, ?_,Or.inr (fun e=> ?_)⟩,hK.eq,fun x hx=> ?_, ?_, ?_⟩,fun b hb=> ?_,hu⟩
 {rw[List.length_append]; exact c3}
 {rw[List.length_append,namesE_append]; exact r8}
 {refine Z0g hm.rP hu (fun b hb hs=> ?_);rcases hs with hs | hs
  {have:=(Z08 hm.rP b hb).1; omega}
  {rcases hm.ne with hne | hne
   {rw[hne] at hs; cases hs}
   {exact hne (hs.trans hb.symm)}}}
 {have e2:rowB AP=some g:=by rw[<-e]; rfl
  rcases n8 with h | h
  {rcases hm.ne with hne | hne
   {rw[hne] at h; cases h}
   {exact hne (h.trans e2.symm)}}
  {have:=(Z08 hm.rP g e2).2; omega}}
 {refine (hK.kp x hx).move hu (fun b hb hf=>⟨fun ht=> ?_, ?_⟩)
  {rcases hf with hf | ⟨hf,f1,f2⟩
   {have:=(hX.set_lt ht).1; omega}
   {rcases ht with ht | ht
    {omega}
    {exact f1 ht}}}
  {rcases hf with hf | ⟨hf,f1,f2⟩
   {exact Or.inl hf}
   {refine Or.inr ⟨hf,fun e=> ?_,f2⟩;have e:g=b:=by simpa[rowB] using e
    subst e;exact n8.elim f1 (fun h=>by omega)}}}
 {exact hK.rr.upd hu (fun ht=>by have:=(hX.set_lt ht).1; omega)}
 {refine hK.up.trans (hu.mono (fun b _ hb=> ?_));rcases hb with hb | hb
  {exact Or.inl hb}
  {exact Or.inr (Z08 hm.rN b hb).1}}
 {have e:g=b:=by simpa[rowB] using hb
  subst e;exact n8}
theorem KBs.putP {Wb W1:World} {pb e:Nat} {x:El} (hK:KBs w0 w4 n0 gm hi rc k o nm nl ps l AN cN AP cP W) (hng:n0<=gm) (hrc:rc < gm) (hx:Kept (fun b=>b < n0\/(pb < b/\b < e)) W x) (he:e<=W.heap.size) (hpb:hi<=pb)
 (rn: ∀b,rowB AN=some b->b < pb\/e<=b) (rp: ∀b,rowB AP=some b->b < pb\/e<=b) (hb:Below W.heap.size W Wb) {g c:Nat} (hg:Wb.grownBy W1 (rowB AP)) (hrow:W1.ownsRow hi 25 5 (.slice (some ⟨g,0,none⟩) (l.length+1) c) (l.length+1) (cellsE l++cells5 x))
 (hat:rowB AP=some g\/g=Wb.heap.size):KBs w0 w4 n0 gm hi rc k o nm nl (ps++ [x.1]) (l++ [x]) AN cN (some ⟨g,0,none⟩) c (W1.setCell ⟨gm,4,none⟩ (.slice (some ⟨g,0,none⟩) (l.length+1) c)):=by
 have hm:=(hK.mm.new hb).putP hg hrow hat;have hmm:=hK.mm;have hgh:=hmm.gh;have hu1:Upd (fun b=>rowB AP=some b) W W1:=(Upd.new (S:=fun b=>rowB AP=some b) hb).grown hg (fun k h _=>h);have hu2:Upd (fun b=>b=gm) W1 (W1.setCell ⟨gm,4,none⟩ (.slice (some ⟨g,0,none⟩) (l.length+1) c)):=Upd.set (Upd.refl (fun b=>b=gm) W1) ⟨gm,4,none⟩ (fun _=>rfl) _;have hu:Upd (fun b=>b=gm\/rowB AP=some b) W (W1.setCell ⟨gm,4,none⟩ (.slice (some ⟨g,0,none⟩) (l.length+1) c)):=(hu1.mono (fun _ _ h=>Or.inr h)).trans (hu2.mono (fun _ _ h=>Or.inl h));have hgw:rowB AP=some g\/W.heap.size<=g:=hat.imp id (fun h=>by have:=hb.size; omega);have hrp:=fun b h=>Z08 hmm.rP b h;refine ⟨hm,by rw[List.map_append,hK.eq]; rfl,fun y hy=> ?_,hK.rr.upd hu (fun ht=> ?_),hK.up.trans (hu.mono (fun b _ hb=> ?_))⟩
 {rcases List.mem_append.1 hy with hy | hy
  {refine (hK.kp y hy).move hu (fun b hb hf=>⟨fun ht=> ?_, ?_⟩)
   {rcases hf with hf | ⟨hf,f1,f2⟩
    {rcases ht with ht | ht
     {omega}
     {have:=(hrp b ht).1; omega}}
    {rcases ht with ht | ht
     {omega}
     {exact f2 ht}}}
   {rcases hf with hf | ⟨hf,f1,f2⟩
    {exact Or.inl hf}
    {refine Or.inr ⟨hf,f1,fun e=> ?_⟩;have e:g=b:=by simpa[rowB] using e
     subst e;exact hgw.elim f2 (fun h=>by omega)}}}
  {rw[List.mem_singleton.1 hy];refine hx.move hu (fun b hb hf=>⟨fun ht=> ?_, ?_⟩)
   {rcases hf with hf | hf
    {rcases ht with ht | ht
     {omega}
     {have:=(hrp b ht).1; omega}}
    {rcases ht with ht | ht
     {omega}
     {have:=rp b ht; omega}}}
   {rcases hf with hf | hf
    {exact Or.inl hf}
    {refine Or.inr ⟨by omega,fun e=> ?_,fun e=> ?_⟩
     {have:=rn b e; omega}
     {have e:g=b:=by simpa[rowB] using e
      rcases hgw with h | h
      {have:=rp g h; omega}
      {omega}}}}}}
 {rcases ht with ht | ht
  {omega}
  {have:=(hrp rc ht).1; omega}}
 {rcases hb with hb | hb
  {exact Or.inl hb}
  {exact Or.inr (hrp b hb).1}}
theorem KBs.fin (h:KBs w0 w4 n0 gm hi rc k o nm nl ps l AN cN AP cP W) (ho:o.length<=9223372036854775807) (h1:nm.length<=9223372036854775807) (h2: ∀x∈nl,x.length<=1000) (h3:nl.length<=1000) (h4:ps.length<=1000):
 Sh5 W gm 0 ⟨k,o,nm,nl,ps⟩ ⟨AN,cN,AP,cP⟩/\Kept (fun b=>b < n0\/hi<=b) W (⟨k,o,nm,nl,ps⟩,⟨AN,cN,AP,cP⟩):=by
 have hl:=h.len;have hk:=h.mm.at_ (n0:=n0) h.kp ho h1 (fun x hx=>by have:=h2 x hx; omega) (by omega) (by omega);rw[h.eq] at hk;refine ⟨⟨h.mm.c0,h.mm.c1,h.mm.c2,h.mm.c3, ?_⟩,hk⟩;have:=h.mm.c4;rw[hl] at this;exact this
end
end SubM
end Go.Proofs.YtlomianlcnmfgaaGreatDoor
namespace Go.Proofs.YtlomianlcnmfgaaGreatDoor
open Go.RowKit
section
variable {P : Program} {ops : Array Oper} {Q : Exit -> Act -> World -> Prop}
theorem Z0s {d:Nat->Bool} {i j:Nat} (h:j≠i):also d i j=d j:=by
 unfold also;have:Nat.beq j i=false:=by cases hb:Nat.beq j i <;> first | rfl | exact absurd (Nat.eq_of_beq_eq_true hb) h
 rw[this]; rfl
theorem Z3D {d:Nat->Bool} {i:Nat}:also d i i=true:=by
 unfold also;simp
end
end Go.Proofs.YtlomianlcnmfgaaGreatDoor
namespace Go.Proofs.YtlomianlcnmfgaaGreatDoor
open Go.RowKit Shp Sub
namespace SubM
structure TakeI (W0:World) (tk:Nat->Value->Prop) (p:Sh) (d:Nat->Bool) (u:Nat->Value) (W:World):Prop where
 up:Below W0.heap.size W0 W
 vals: ∀j,d j=true->tk j (u j)
 al:d 10=true->d 11=false-> ∃b,u 10= .pointer (some ⟨b,0,none⟩)/\W0.heap.size<=b/\Rc b W
 st:d 11=true->d 10=true/\ ∃(b:Nat) (q:Ptr),u 10= .pointer (some ⟨b,0,none⟩)/\W0.heap.size<=b/\ShAt W0 W0.heap.size q p/\Box5 W b p q
variable {W0 W W' : World} {tk : Nat -> Value -> Prop} {p : Sh} {d : Nat -> Bool} {u : Nat -> Value}
theorem TakeI.vals' (h:TakeI W0 tk p d u W) {i:Nat} {v:Value} (hv:tk i v): ∀j,also d i j=true->tk j (upd u i v j):=fun j hj=>by
 by_cases e:j=i
 {subst e; rw[Z0h]; exact hv}
 {rw[Z04 u v e]; rw[Z0s e] at hj; exact h.vals j hj}
theorem TakeI.start:TakeI W0 tk p (fun _=>false) u W0.drew:=⟨Y2.drew,nofun,nofun,nofun⟩
theorem TakeI.step (h:TakeI W0 tk p d u W) {i:Nat} {v:Value} (hi:i≠10) (hj:i≠11) (hv:tk i v) (hb:Below W.heap.size W W'):TakeI W0 tk p (also d i) (upd u i v) W':=by
 refine ⟨Z00 h.up hb,h.vals' hv, ?_, ?_⟩
 {rw[Z0s (Ne.symm hi),Z0s (Ne.symm hj),Z04 u v (Ne.symm hi)];intro h1 h2;obtain ⟨b,e,hb1,hr⟩:=h.al h1 h2;exact ⟨b,e,hb1,hr.upd (T:=fun _=>False) (Upd.new hb) (fun h=>h)⟩}
 {rw[Z0s (Ne.symm hi),Z0s (Ne.symm hj),Z04 u v (Ne.symm hi)];intro h1;obtain ⟨h2,b,q,e,hb1,hs,hx⟩:=h.st h1;exact ⟨h2,b,q,e,hb1,hs,hx.next hb⟩}
theorem TakeI.alloc (h:TakeI W0 tk p d u W) (hd:d 10=false) (ht: ∀v,tk 10 v):
 TakeI W0 tk p (also d 10) (upd u 10 (.pointer (some ⟨W.heap.size,0,none⟩))) (W.alloc (.cells Yb 25)):=by
 refine ⟨Z00 h.up (Z01 _ _),h.vals' (ht _),fun _ _=>⟨W.heap.size,Z0h _ _ _,h.up.size,Z0I rfl⟩,fun h1=> ?_⟩;rw[Z0s (by decide)] at h1;rw[(h.st h1).1] at hd; cases hd
theorem TakeI.store (h:TakeI W0 tk p d u W) (h10:d 10=true) (h11:d 11=false) (ht: ∀v,tk 11 v) {b:Nat} {q:Ptr} (hb:u 10= .pointer (some ⟨b,0,none⟩)) (hs:ShAt W0 W0.heap.size q p):
 TakeI W0 tk p (also d 11) (upd u 11 undef) (RX.lay W b p q):=by
 obtain ⟨b',e,hb1,hr⟩:=h.al h10 h11;obtain rfl:b'=b:=by rw[hb] at e; simp at e; exact e.symm
 have hu:=RX.lay_upd W b' p q;refine ⟨h.up.trans (hu.below h.up.size (fun x hx=>by omega)),h.vals' (ht _),fun _ h2=> ?_,fun _=>⟨by rw[Z0s (by decide)]; exact h10,b',q,by rw[Z04 u undef (by decide)]; exact hb,hb1,hs, ?_⟩⟩
 {rw[Z3D] at h2; cases h2}
 {have hf:=fun j=>(RX.lay_fz W b' p q j).trans (hr.fz j);exact ⟨by rw[RX.lay_size]; exact hr.lt,RX.lay_at p q hr.ex,hf 0,hf 1,hf 2,hf 3,hf 4⟩}
end SubM
end Go.Proofs.YtlomianlcnmfgaaGreatDoor
namespace Go.Proofs.YtlomianlcnmfgaaGreatDoor
open Go.RowKit Shp Sub
namespace SubM
structure TakeN (n0:Nat) (W0:World) (tk:Nat->Value->Prop) (p:Sh) (d:Nat->Bool) (u:Nat->Value) (W:World):Prop where
 up:Below W0.heap.size W0 W
 vals: ∀j,d j=true->tk j (u j)
 al:d 10=true->d 11=false-> ∃b,u 10= .pointer (some ⟨b,0,none⟩)/\W0.heap.size<=b/\Rc b W
 st:d 11=true->d 10=true/\ ∃(b:Nat) (q:Ptr),u 10= .pointer (some ⟨b,0,none⟩)/\W0.heap.size<=b/\ShAt W0 n0 q p/\Box5 W b p q
variable {n0 : Nat} {W0 W W' : World} {tk : Nat -> Value -> Prop} {p : Sh} {d : Nat -> Bool} {u : Nat -> Value}
theorem TakeN.vals' (h:TakeN n0 W0 tk p d u W) {i:Nat} {v:Value} (hv:tk i v): ∀j,also d i j=true->tk j (upd u i v j):=fun j hj=>by
 by_cases e:j=i
 {subst e; rw[Z0h]; exact hv}
 {rw[Z04 u v e]; rw[Z0s e] at hj; exact h.vals j hj}
theorem TakeN.start:TakeN n0 W0 tk p (fun _=>false) u W0.drew:=⟨Y2.drew,nofun,nofun,nofun⟩
theorem TakeN.step (h:TakeN n0 W0 tk p d u W) {i:Nat} {v:Value} (hi:i≠10) (hj:i≠11) (hv:tk i v) (hb:Below W.heap.size W W'):TakeN n0 W0 tk p (also d i) (upd u i v) W':=by
 refine ⟨Z00 h.up hb,h.vals' hv, ?_, ?_⟩
 {rw[Z0s (Ne.symm hi),Z0s (Ne.symm hj),Z04 u v (Ne.symm hi)];intro h1 h2;obtain ⟨b,e,hb1,hr⟩:=h.al h1 h2;exact ⟨b,e,hb1,hr.upd (T:=fun _=>False) (Upd.new hb) (fun h=>h)⟩}
 {rw[Z0s (Ne.symm hi),Z0s (Ne.symm hj),Z04 u v (Ne.symm hi)];intro h1;obtain ⟨h2,b,q,e,hb1,hs,hx⟩:=h.st h1;exact ⟨h2,b,q,e,hb1,hs,hx.next hb⟩}
theorem TakeN.alloc (h:TakeN n0 W0 tk p d u W) (hd:d 10=false) (ht: ∀v,tk 10 v):
 TakeN n0 W0 tk p (also d 10) (upd u 10 (.pointer (some ⟨W.heap.size,0,none⟩))) (W.alloc (.cells Yb 25)):=by
 refine ⟨Z00 h.up (Z01 _ _),h.vals' (ht _),fun _ _=>⟨W.heap.size,Z0h _ _ _,h.up.size,Z0I rfl⟩,fun h1=> ?_⟩;rw[Z0s (by decide)] at h1;rw[(h.st h1).1] at hd; cases hd
theorem TakeN.store (h:TakeN n0 W0 tk p d u W) (h10:d 10=true) (h11:d 11=false) (ht: ∀v,tk 11 v) {b:Nat} {q:Ptr} (hb:u 10= .pointer (some ⟨b,0,none⟩)) (hs:ShAt W0 n0 q p):
 TakeN n0 W0 tk p (also d 11) (upd u 11 undef) (RX.lay W b p q):=by
 obtain ⟨b',e,hb1,hr⟩:=h.al h10 h11;obtain rfl:b'=b:=by rw[hb] at e; simp at e; exact e.symm
 have hu:=RX.lay_upd W b' p q;refine ⟨h.up.trans (hu.below h.up.size (fun x hx=>by omega)),h.vals' (ht _),fun _ h2=> ?_,fun _=>⟨by rw[Z0s (by decide)]; exact h10,b',q,by rw[Z04 u undef (by decide)]; exact hb,hb1,hs, ?_⟩⟩
 {rw[Z3D] at h2; cases h2}
 {have hf:=fun j=>(RX.lay_fz W b' p q j).trans (hr.fz j);exact ⟨by rw[RX.lay_size]; exact hr.lt,RX.lay_at p q hr.ex,hf 0,hf 1,hf 2,hf 3,hf 4⟩}
end SubM
end Go.Proofs.YtlomianlcnmfgaaGreatDoor
