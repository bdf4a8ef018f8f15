/- What the proofs of SubtypeJoins, SubtypeMeets want, part 27. -/
import Derived.Lib.SmallJoins
import Derived.Test.YtlomianlcnmfgaaGreatDoorK0n21
import Derived.Test.YtlomianlcnmfgaaGreatDoorK0n22
import Derived.Test.YtlomianlcnmfgaaGreatDoorK0n23
import Derived.Test.YtlomianlcnmfgaaGreatDoorK0n24
import Derived.Test.YtlomianlcnmfgaaGreatDoorK0n25
import Derived.Test.YtlomianlcnmfgaaGreatDoorK0n26
set_option linter.unusedVariables false
set_option linter.unusedSimpArgs false
set_option linter.unusedSectionVars false
set_option maxRecDepth 100000
set_option maxHeartbeats 16000000
namespace Go.Proofs.YtlomianlcnmfgaaGreatDoor
open Go.RowKit Shp Sub
namespace SubM
section
variable {f : Nat} (hI : DocF f) (a b : Sh) (pa pb : Ptr) (n0 : Nat) (w : World) (h2 : Two (f + 1) a b) (ha : ShAt w n0 pa a) (hb : ShAt w n0 pb b) (hn : n0 <= w.heap.size) (hk : a.kind = b.kind) (ho : a.of_ = b.of_) (hnm : a.name = b.name) (h8 : a.kind = 8)
include f hI a b pa pb n0 w h2 ha hb hn hk ho hnm h8
theorem Zdc:
 Calls Tryz.prog 21 #[.agg (Y8 a pa),.agg (Y8 b pb)] w (GetIs n0 (bound (f+1) true a b) w):=by
 have hx1:=Z01 w (.cells (Y8 a pa) 25);obtain ⟨u1,hu1⟩: ∃u1,w.alloc (.cells (Y8 a pa) 25)=u1:=⟨_,rfl⟩;have hs1:u1.heap.size=w.heap.size+1:=by rw[<-hu1]; simp
 have hy1:=Z05 w a pa;rw[hu1] at hx1 hy1;have hx2:=Z01 u1 (.cells (Y8 b pb) 25);obtain ⟨u2,hu2⟩: ∃u2,u1.alloc (.cells (Y8 b pb) 25)=u2:=⟨_,rfl⟩;have hs2:u2.heap.size=w.heap.size+1+1:=by rw[<-hu2]; simp[hs1]
 have hy2:=Z05 u1 b pb;rw[hu2] at hx2 hy2;rw[hs1] at hy2;have hx3:=Z01 u2 (.cells Yb 25);obtain ⟨W1,hW1⟩: ∃W,u2.alloc (.cells Yb 25)=W:=⟨_,rfl⟩;have hz:Box5 W1 (w.heap.size+1+1) Z0c noneQ12:=by rw[<-hW1, <-hs2]; exact Z05 u2 Z0c noneQ12
 rw[hW1] at hx3;have hb23:=Z00 hx2 hx3;have hb13:=Z00 hx1 hb23;have hxa:=hy1.next hb23;have hxb:=hy2.next hx3;have HB1:=Y1 hb13;obtain ⟨_,⟨a0,a1,a2,a3,a4⟩,_⟩:=hxa;obtain ⟨_,⟨b0,b1,b2,b3,b4⟩,_⟩:=hxb;obtain ⟨_,⟨r0,r1,r2,r3,r4⟩,y0,y1,y2,y3,y4⟩:=hz;simp only[Nat.zero_add] at a0 a1 a2 a3 a4 b0 b1 b2 b3 b4 r0 r1 r2 r3 r4;have hRC:Rc (w.heap.size+1+1) W1:=by have h:=Z0I hW1.symm; rwa [hs2] at h
 have HRC:=Y1 hRC;have HC:=Y1 (Zdz hI a b pa pb n0 W1 h2 (ha.keep hb13 hn) (hb.keep hb13 hn) (Nat.le_trans hn hb13.size) hk ho hnm h8);have HN0:=Y1 hn;have HSZ:Hid (w.heap.size+1+1 < W1.heap.size):=Y1 hRC.lt;have n1: (a.kind !=b.kind)=false:=by rw[hk]; simp
 have n2: (a.of_ !=b.of_)=false:=by rw[ho]; simp
 have n3: (a.name !=b.name)=false:=by rw[hnm]; simp
 have e1: (a.kind==b.kind)=true:=by rw[hk]; simp
 have e2: (a.of_==b.of_)=true:=by rw[ho]; simp
 have e3: (a.name==b.name)=true:=by rw[hnm]; simp
 have k5:=Y3 5 h8 rfl;have k6:=Y3 6 h8 rfl;have k7:=Y3 7 h8 rfl;have k8:=Y4 8 h8 rfl;clear hx1 hx2 hx3 hy1 hy2 hb23 hb13 ha hb h2 hn hk ho hnm h8 hRC hI;go_enter Tryz.func21,Tryz.ntmps21
 go_wp2_with fail
 refine HC.out.mono ?_;rintro e W3 ⟨t,q,rfl,hb3,hj⟩;have hR3:=HRC.out.upd (T:=fun _=>False) (Upd.new hb3) (fun h=>h);have HB3:=Y1 hb3;have HJ:=Y1 hj;have HR3:=Y1 hR3;obtain ⟨is,his⟩: ∃is,(bound (f+1) true a b).isSome=is:=⟨_,rfl⟩;rw[his];have HIS:=Y1 his;unfold sv;obtain ⟨v0,r0⟩:=hR3.ex 0 (by omega);have z0:=hR3.fz 0;obtain ⟨v1,r1⟩:=hR3.ex 1 (by omega);have z1:=hR3.fz 1;obtain ⟨v2,r2⟩:=hR3.ex 2 (by omega);have z2:=hR3.fz 2;obtain ⟨v3,r3⟩:=hR3.ex 3 (by omega);have z3:=hR3.fz 3;obtain ⟨v4,r4⟩:=hR3.ex 4 (by omega);have z4:=hR3.fz 4;obtain ⟨c0,c1,c2,c3,c4⟩:=RX.lay_at t q (W:=W3) (g:=w.heap.size+1+1) hR3.ex;simp only[Nat.zero_add] at c0 c1 c2 c3 c4;have HU:=Y1 (And.intro c0 (And.intro c1 (And.intro c2 (And.intro c3 c4))));clear c0 c1 c2 c3 c4 hR3 hb3 hj his a0 a1 a2 a3 a4 b0 b1 b2 b3 b4 n1 n2 n3 e1 e2 e3 k5 k6 k7 k8;go_wp2;obtain ⟨c0,c1,c2,c3,c4⟩:=HU.out;unfold RX.lay at c0 c1 c2 c3 c4;refine bodyPost_ret (v:= .tuple #[sv t q,.bool is]) (by simp[results,Tryz.results21,go_sem,c0,c1,c2,c3,c4]) rfl ?_;have hu:=RX.lay_upd W3 (w.heap.size+1+1) t q;have hsz:=HSZ.out;have hn0:=HN0.out;have hs3:=HB1.out.size;refine ⟨t,q,by rw[HIS.out],(Z00 HB1.out HB3.out).trans (hu.below (Nat.le_trans HB1.out.size HB3.out.size) (fun x hx=>by omega)),fun j hj=> ?_⟩;obtain ⟨e1,hk⟩:=HJ.out j hj;subst e1;refine ⟨rfl,hk.move hu (fun b _ hf=>⟨fun e=> ?_, ?_⟩)⟩
 {have e:b=w.heap.size+1+1:=e;rcases hf with hf | hf <;> omega}
 {rcases hf with hf | hf
  {exact Or.inl hf}
  {exact Or.inr (by omega)}}
theorem Zdd:
 Calls Tryz.prog 25 #[.agg (Y8 a pa),.agg (Y8 b pb)] w (GetIs n0 (bound (f+1) false a b) w):=by
 have hx1:=Z01 w (.cells (Y8 a pa) 25);obtain ⟨u1,hu1⟩: ∃u1,w.alloc (.cells (Y8 a pa) 25)=u1:=⟨_,rfl⟩;have hs1:u1.heap.size=w.heap.size+1:=by rw[<-hu1]; simp
 have hy1:=Z05 w a pa;rw[hu1] at hx1 hy1;have hx2:=Z01 u1 (.cells (Y8 b pb) 25);obtain ⟨u2,hu2⟩: ∃u2,u1.alloc (.cells (Y8 b pb) 25)=u2:=⟨_,rfl⟩;have hs2:u2.heap.size=w.heap.size+1+1:=by rw[<-hu2]; simp[hs1]
 have hy2:=Z05 u1 b pb;rw[hu2] at hx2 hy2;rw[hs1] at hy2;have hx3:=Z01 u2 (.cells Yb 25);obtain ⟨W1,hW1⟩: ∃W,u2.alloc (.cells Yb 25)=W:=⟨_,rfl⟩;have hz:Box5 W1 (w.heap.size+1+1) Z0c noneQ12:=by rw[<-hW1, <-hs2]; exact Z05 u2 Z0c noneQ12
 rw[hW1] at hx3;have hb23:=Z00 hx2 hx3;have hb13:=Z00 hx1 hb23;have hxa:=hy1.next hb23;have hxb:=hy2.next hx3;have HB1:=Y1 hb13;obtain ⟨_,⟨a0,a1,a2,a3,a4⟩,_⟩:=hxa;obtain ⟨_,⟨b0,b1,b2,b3,b4⟩,_⟩:=hxb;obtain ⟨_,⟨r0,r1,r2,r3,r4⟩,y0,y1,y2,y3,y4⟩:=hz;simp only[Nat.zero_add] at a0 a1 a2 a3 a4 b0 b1 b2 b3 b4 r0 r1 r2 r3 r4;have hRC:Rc (w.heap.size+1+1) W1:=by have h:=Z0I hW1.symm; rwa [hs2] at h
 have HRC:=Y1 hRC;have HC:=Y1 (ZdA hI a b pa pb n0 W1 h2 (ha.keep hb13 hn) (hb.keep hb13 hn) (Nat.le_trans hn hb13.size) hk ho hnm h8);have HN0:=Y1 hn;have HSZ:Hid (w.heap.size+1+1 < W1.heap.size):=Y1 hRC.lt;have n1: (a.kind !=b.kind)=false:=by rw[hk]; simp
 have n2: (a.of_ !=b.of_)=false:=by rw[ho]; simp
 have n3: (a.name !=b.name)=false:=by rw[hnm]; simp
 have e1: (a.kind==b.kind)=true:=by rw[hk]; simp
 have e2: (a.of_==b.of_)=true:=by rw[ho]; simp
 have e3: (a.name==b.name)=true:=by rw[hnm]; simp
 have k5:=Y3 5 h8 rfl;have k6:=Y3 6 h8 rfl;have k7:=Y3 7 h8 rfl;have k8:=Y4 8 h8 rfl;clear hx1 hx2 hx3 hy1 hy2 hb23 hb13 ha hb h2 hn hk ho hnm h8 hRC hI;go_enter Tryz.func25,Tryz.ntmps25
 go_wp2_with fail
 refine HC.out.mono ?_;rintro e W3 ⟨t,q,rfl,hb3,hj⟩;have hR3:=HRC.out.upd (T:=fun _=>False) (Upd.new hb3) (fun h=>h);have HB3:=Y1 hb3;have HJ:=Y1 hj;have HR3:=Y1 hR3;obtain ⟨is,his⟩: ∃is,(bound (f+1) false a b).isSome=is:=⟨_,rfl⟩;rw[his];have HIS:=Y1 his;unfold sv;obtain ⟨v0,r0⟩:=hR3.ex 0 (by omega);have z0:=hR3.fz 0;obtain ⟨v1,r1⟩:=hR3.ex 1 (by omega);have z1:=hR3.fz 1;obtain ⟨v2,r2⟩:=hR3.ex 2 (by omega);have z2:=hR3.fz 2;obtain ⟨v3,r3⟩:=hR3.ex 3 (by omega);have z3:=hR3.fz 3;obtain ⟨v4,r4⟩:=hR3.ex 4 (by omega);have z4:=hR3.fz 4;obtain ⟨c0,c1,c2,c3,c4⟩:=RX.lay_at t q (W:=W3) (g:=w.heap.size+1+1) hR3.ex;simp only[Nat.zero_add] at c0 c1 c2 c3 c4;have HU:=Y1 (And.intro c0 (And.intro c1 (And.intro c2 (And.intro c3 c4))));clear c0 c1 c2 c3 c4 hR3 hb3 hj his a0 a1 a2 a3 a4 b0 b1 b2 b3 b4 n1 n2 n3 e1 e2 e3 k5 k6 k7 k8;go_wp2;obtain ⟨c0,c1,c2,c3,c4⟩:=HU.out;unfold RX.lay at c0 c1 c2 c3 c4;refine bodyPost_ret (v:= .tuple #[sv t q,.bool is]) (by simp[results,Tryz.results25,go_sem,c0,c1,c2,c3,c4]) rfl ?_;have hu:=RX.lay_upd W3 (w.heap.size+1+1) t q;have hsz:=HSZ.out;have hn0:=HN0.out;have hs3:=HB1.out.size;refine ⟨t,q,by rw[HIS.out],(Z00 HB1.out HB3.out).trans (hu.below (Nat.le_trans HB1.out.size HB3.out.size) (fun x hx=>by omega)),fun j hj=> ?_⟩;obtain ⟨e1,hk⟩:=HJ.out j hj;subst e1;refine ⟨rfl,hk.move hu (fun b _ hf=>⟨fun e=> ?_, ?_⟩)⟩
 {have e:b=w.heap.size+1+1:=e;rcases hf with hf | hf <;> omega}
 {rcases hf with hf | hf
  {exact Or.inl hf}
  {exact Or.inr (by omega)}}
end
theorem docF (f:Nat):DocF f:=by
 induction f with
 | zero=>intro up a b pa pb n0 w h; have:=h.da; rw[Z0j] at this; omega
 | succ f hI=>
  intro up a b pa pb n0 w h2 ha hb hn;cases up
  {by_cases hd:a.kind=b.kind/\a.of_=b.of_/\a.name=b.name
   {obtain ⟨hk,ho,hnm⟩:=hd;by_cases h5:a.kind=5
    {exact Zdp hI a b pa pb n0 w h2 ha hb hn hk ho hnm h5}
    by_cases h6:a.kind=6
    {exact Zdr hI a b pa pb n0 w h2 ha hb hn hk ho hnm h6}
    by_cases h7:a.kind=7
    {exact Zd0 hI a b pa pb n0 w h2 ha hb hn hk ho hnm h7}
    by_cases h8:a.kind=8
    {exact Zdd hI a b pa pb n0 w h2 ha hb hn hk ho hnm h8}
    exact Zdm a b pa pb n0 w h2 ha hb hn hk ho hnm h5 h6 h7 h8}
   {exact Zdl a b pa pb n0 w h2 ha hb hn hd}}
  {by_cases hd:a.kind=b.kind/\a.of_=b.of_/\a.name=b.name
   {obtain ⟨hk,ho,hnm⟩:=hd;by_cases h5:a.kind=5
    {exact Zdo hI a b pa pb n0 w h2 ha hb hn hk ho hnm h5}
    by_cases h6:a.kind=6
    {exact ZcZ hI a b pa pb n0 w h2 ha hb hn hk ho hnm h6}
    by_cases h7:a.kind=7
    {exact Zdq hI a b pa pb n0 w h2 ha hb hn hk ho hnm h7}
    by_cases h8:a.kind=8
    {exact Zdc hI a b pa pb n0 w h2 ha hb hn hk ho hnm h8}
    exact Zdk a b pa pb n0 w h2 ha hb hn hk ho hnm h5 h6 h7 h8}
   {exact Zdj a b pa pb n0 w h2 ha hb hn hd}}
end SubM
end Go.Proofs.YtlomianlcnmfgaaGreatDoor
namespace Go.Proofs.YtlomianlcnmfgaaGreatDoor
open Go.RowKit Shp Sub
namespace SubM
theorem docOk (up:Bool):DocOk up:=fun a b pa pb w h2 ha hb=>by
 refine (docF 40 up a b pa pb w.heap.size w h2 ha hb (Nat.le_refl _)).mono ?_;rintro e w' ⟨t,q,he,hbl,hj⟩;exact ⟨t,q,he,fun j hb=>by
  obtain ⟨e1,hk⟩:=hj j hb;subst e1;exact ⟨rfl,hk.here⟩,hbl⟩
end SubM
end Go.Proofs.YtlomianlcnmfgaaGreatDoor
namespace Go.Proofs.YtlomianlcnmfgaaGreatDoor
section
open Go.RowKit Shp
theorem Z5a {H:Type} {enc:TypeId×Value->H} {W:World} {base b0:Nat} {held:Bool} {v:Value} {d:DataW H} {p:List MemPlace}
 (hv:Value.okWide Tryz.prog W .any b0 25 v) (h:DataW.Trod enc Tryz.prog W base (fun _=>true) held 25 v d p):
 ∃(t:Sh) (q:Ptr),v= .agg (Y8 t q)/\ShAt W W.heap.size q t:=by
 obtain ⟨cs,rfl,hsz⟩:=Go.WideShapes.okWide_struct Tryz.underlying25 hv;obtain ⟨n,hn⟩:=h;obtain ⟨t,q,hcs,hat⟩:=Z8z n hn;refine ⟨t,q, ?_,hat⟩;congr 1;apply Array.ext';exact hcs
end
end Go.Proofs.YtlomianlcnmfgaaGreatDoor
