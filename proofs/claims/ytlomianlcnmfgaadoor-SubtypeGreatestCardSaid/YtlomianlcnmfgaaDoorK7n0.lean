/- What the proofs of SubtypeGreatest, SubtypeLeast want, part 0. -/
import Derived.Test.YtlomianlcnmfgaaDoorK4n0
import Derived.Test.YtlomianlcnmfgaaDoorK5n0
import Derived.Test.YtlomianlcnmfgaaDoorK3n0
import Derived.Test.YtlomianlcnmfgaaDoorK0n13
set_option linter.unusedVariables false
set_option linter.unusedSimpArgs false
set_option linter.unusedSectionVars false
set_option maxRecDepth 100000
set_option maxHeartbeats 16000000
namespace Sub
section
open Shp Go.Proofs.YtlomianlcnmfgaaDoor
theorem Z7O {up:Bool} {a b j c:Sh} (h:J up a b=some j) (h1:V 40 up a c) (h2:V 40 up b c):V 40 up j c:=by
 obtain ⟨ca,cb,x,hx,cx,rfl⟩:=Z9T h;obtain ⟨_,da,ra⟩:=Z09 ca;obtain ⟨_,db,rb⟩:=Z09 cb;obtain ⟨_,dx,rx⟩:=Z09 cx;obtain ⟨y,hy,v⟩:=Z1v ra rb h1 h2;rw[hx] at hy; cases hy;exact (V.back rx dx).trans v
theorem Z7P {up:Bool} {a b c:Sh} (ca:check a=0) (cb:check b=0) (sa:size a<=200) (sb:size b<=200) (h1:V 40 up a c) (h2:V 40 up b c): ∃j,J up a b=some j:=by
 obtain ⟨_,da,ra⟩:=Z09 ca;obtain ⟨_,db,rb⟩:=Z09 cb;obtain ⟨y,hy,_⟩:=Z1v ra rb h1 h2;have hi:=Z1D ra rb da db hy;refine ⟨sorted y, ?_⟩;unfold J whole;rw[if_pos ⟨ca,cb⟩,hy];have:=hi.s;have:=hi.d;exact if_pos (Z4u (by omega) (by omega) hi.r)
def smallB (a b:Sh):Bool:=decide (check a=0)&&decide (check b=0)&&decide (sizeTo 400 a<=200)&&decide (sizeTo 400 b<=200)
theorem Z6c {a b:Sh} (h:smallB a b=true):check a=0/\check b=0/\size a<=200/\size b<=200:=by
 unfold smallB sizeTo at h;simp only[Bool.and_eq_true,decide_eq_true_eq] at h;exact ⟨h.1.1.1,h.1.1.2,by omega,by omega⟩
end
end Sub
namespace Go.Proofs.YtlomianlcnmfgaaDoor
section
open Go.RowKit Shp
theorem Z4Z (t:Sh) (q:Ptr) (w:World) (hq:ShAt w w.heap.size q t):
 Y9 31 #[.agg (Y8 t q)] w (.int .i64 (sizeTo 400 t:Int)):=by
 have hb0:=Z02 w (.cells (Y8 t q) 25);have hm:=Z41 t q _ (hq.next hb0);have HF:Hid (Z1Q 400 t=(sizeTo 400 t:Int)):=Y1 (by unfold Z1Q sizeTo; split <;> omega);have HB0:=Y1 hb0;generalize Z1Q 400 t=x at hm HF;generalize Z2q 400 t=y at hm;obtain ⟨_,⟨c0,c1,c2,c3,c4⟩,_⟩:=Z03 w t q;clear hb0 hq;go_enter Tryd.func31,Tryd.ntmps31
 go_wp2_with fail
 refine hm.mono ?_;rintro e w' ⟨rfl,hb'⟩;go_wp2;go_ret;exact ⟨Z17 HF.out,Z00 HB0.out hb'⟩
end
end Go.Proofs.YtlomianlcnmfgaaDoor
namespace Go.Proofs.YtlomianlcnmfgaaDoor
open Go.RowKit Shp Sub
namespace SubM
theorem Z44 (a b:Sh) (pa pb:Ptr) (w:World) (ha:ShAt w w.heap.size pa a) (hb:ShAt w w.heap.size pb b) (hg:WGlobs w):
 Y9 15 #[.agg (Y8 a pa),.agg (Y8 b pb)] w (.bool (smallB a b)):=by
 have hx1:=Z02 w (.cells (Y8 a pa) 25);have hx2:=Z02 (w.alloc (.cells (Y8 a pa) 25)) (.cells (Y8 b pb) 25);have hxs: (w.alloc (.cells (Y8 a pa) 25)).heap.size=w.heap.size+1:=by simp
 have HXA:=Y1 ((Z03 w a pa).next hx2);have hxb:=Z03 (w.alloc (.cells (Y8 a pa) 25)) b pb;rw[hxs] at hxb;have HXB:=Y1 hxb;have HB:=Y1 (Z00 hx1 hx2);have HAA:=Y1 (ha.next (Z00 hx1 hx2));have HAB:=Y1 (hb.next (Z00 hx1 hx2));have HG:=Y1 (hg.next (Z00 hx1 hx2));clear hx1 hx2 hxs hxb ha hb hg;go_enter Tryd.func15,Tryd.ntmps15;obtain ⟨W0,hW0⟩: ∃W0,(w.alloc (.cells (Y8 a pa) 25)).alloc (.cells (Y8 b pb) 25)=W0:=⟨_,rfl⟩;obtain ⟨_,⟨a0,a1,a2,a3,a4⟩,_⟩:=HXA.out;simp only[Nat.zero_add] at a0 a1 a2 a3 a4;rw[hW0] at HXA HXB HB HAA HAB HG a0 a1 a2 a3 a4
 go_wp2_with fail
 refine (Z0M a pa W0 HAA.out HG.out).mono ?_;rintro e w1 ⟨rfl,hb1⟩;have HB1:=Y1 hb1;clear hb1 a0 a1 a2 a3 a4 hW0;by_cases ca:check a=0
 {have HCA:=Y1 ca;rw[ca];clear ca;obtain ⟨_,⟨b0,b1,b2,b3,b4⟩,_⟩:=HXB.out.next HB1.out;simp only[Nat.zero_add] at b0 b1 b2 b3 b4
  go_wp2_with fail
  refine (Z0M b pb w1 (HAB.out.next HB1.out) (HG.out.next HB1.out)).mono ?_;rintro e w2 ⟨rfl,hb2⟩;have HB2:=Y1 (Z00 HB1.out hb2);clear hb2 b0 b1 b2 b3 b4;by_cases cb:check b=0
  {have HCB:=Y1 cb;rw[cb];clear cb;obtain ⟨_,⟨a0,a1,a2,a3,a4⟩,_⟩:=HXA.out.next HB2.out;simp only[Nat.zero_add] at a0 a1 a2 a3 a4
   go_wp2_with fail
   refine (Z4Z a pa w2 (HAA.out.next HB2.out)).mono ?_;rintro e w3 ⟨rfl,hb3⟩;have HB3:=Y1 (Z00 HB2.out hb3);clear hb3 a0 a1 a2 a3 a4;by_cases sa:sizeTo 400 a<=200
   {have HSA:=Y1 sa;have hsi: (sizeTo 400 a:Int)<=200:=by omega
    obtain ⟨_,⟨b0,b1,b2,b3,b4⟩,_⟩:=HXB.out.next HB3.out;simp only[Nat.zero_add] at b0 b1 b2 b3 b4
    go_wp2_with fail
    refine (Z4Z b pb w3 (HAB.out.next HB3.out)).mono ?_;rintro e w4 ⟨rfl,hb4⟩;have HB4:=Y1 (Z00 HB.out (Z00 HB3.out hb4));clear hb4 b0 b1 b2 b3 b4;go_wp2;go_ret;refine ⟨congrArg (fun v=>Ending.returned (Value.bool v)) (show decide ((sizeTo 400 b:Int)<=200)=smallB a b from ?_),HB4.out⟩;unfold smallB;rw[decide_eq_true HCA.out,decide_eq_true HCB.out,decide_eq_true HSA.out,Bool.true_and,Bool.true_and,Bool.true_and];exact decide_eq_decide.2 (by omega)}
   {have hsi: ¬(sizeTo 400 a:Int)<=200:=by omega
    go_wp2;go_ret;exact ⟨by unfold smallB; rw[decide_eq_true HCA.out,decide_eq_true HCB.out,decide_eq_false sa]; rfl,Z00 HB.out HB3.out⟩}}
  {have hcb: (check b==0)=false:=by simpa using cb
   go_wp2;go_ret;exact ⟨by unfold smallB; rw[decide_eq_true HCA.out,decide_eq_false cb]; rfl,Z00 HB.out HB2.out⟩}}
 {have hca: (check a==0)=false:=by simpa using ca
  go_wp2;go_ret;exact ⟨by unfold smallB; rw[decide_eq_false ca]; rfl,Z00 HB.out HB1.out⟩}
end SubM
end Go.Proofs.YtlomianlcnmfgaaDoor
