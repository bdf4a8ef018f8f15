/- What the proofs of ParsePlaces want, part 4. -/
import Derived.Test.YtkncdbaoaeeoiaaGreatDoorK0n3
set_option linter.unusedVariables false
set_option linter.unusedSimpArgs false
set_option linter.unusedSectionVars false
set_option maxRecDepth 100000
set_option maxHeartbeats 16000000
namespace Go.Proofs.YtkncdbaoaeeoiaaGreatDoor
section
open Go.RowKit Tms
open Shp (Sh)
theorem Z7n (t:Tm) (q:TP) (w:World) (hq:TmAt w w.heap.size q t):
 Calls Tryz.prog 45 #[.agg (Y7 t q)] w fun e w'=> ∃r:Nat,e= .returned (.tuple #[.int .i64 (min (size t) 4097:Nat),.int .i64 (r:Int)])/\(size t<=4096->r=deep t)/\r<=4097/\Below w.heap.size w w':=by
 have hb0:=Z01 w (.cells (Y7 t q) 26);have hb1:Below w.heap.size w ((w.alloc (.cells (Y7 t q) 26)).alloc (.cells #[.int .i64 0] 128)):=Z03 hb0 _;have hc:Cnt8 ((w.alloc (.cells (Y7 t q) 26)).alloc (.cells #[.int .i64 0] 128)) (w.heap.size+1) 0:=⟨by simp,by simp[go_sem],by simp[go_sem]⟩;have HL:=Y1 (Z81 t q w.heap.size (w.heap.size+1) 0 _ (hq.keep hb1 (Nat.le_refl _)) (by omega) hc (by omega));have HB:=Y1 (Z1c w t q);have HB1:=Y1 hb1;obtain ⟨_,⟨c0,c1,c2,c3,c4,c5,c6,c7,c8⟩,_⟩:=HB.out;clear hb0 hb1 hc hq;go_enter Tryz.func45,Tryz.ntmps45
 go_wp2_with fail
 refine HL.out.mono ?_;rintro e w2 ⟨r,rfl,hr1,hr2,hu,hc⟩;rw[Nat.zero_add] at hr1 hr2 hc;have k0:=hc.c0;have HBW:Hid (Below w.heap.size w w2):=Y1 (HB1.out.trans ((hu.mono (B':=w.heap.size) (by simp; omega)).toBelow (by omega)));have HR1:=Y1 hr1;have HR2:Hid (r<=4097):=Y1 (by omega);obtain ⟨m,hm⟩: ∃m,m=min (size t) 4097:=⟨_,rfl⟩;rw[<-hm] at k0;have HMM:=Y1 hm;clear hm;clear hu hc hr1 hr2 HL c0 c1 c2 c3 c4 c5 c6 c7 c8;go_wp2
 go_ret2
 exact ⟨r,by rw[<-HMM.out]; rfl,HR1.out,HR2.out,HBW.out⟩
theorem Z8i (t:Tm) (q:TP) (w:World):
 Y9 107 #[.agg (Y7 t q)] w (.bool (numB t)):=by
 have HF:Hid (numB t=(t.n==0||(t.kind==1&&decide (0 < t.n)&&decide (t.n<=999999999999999)))):=Y1 rfl;have HB0:=Y1 (Z01 w (.cells (Y7 t q) 26));obtain ⟨_,⟨c0,c1,c2,c3,c4,c5,c6,c7,c8⟩,_⟩:=Z1c w t q;cases h0: (t.n==0)
 {cases h1: (t.kind==1)
  {rw[h0,h1] at HF;go_enter Tryz.func107,Tryz.ntmps107;go_wp2;go_ret;exact ⟨Z08 HF.out.symm,HB0.out⟩}
  {cases h2:decide (0 < t.n)
   {rw[h0,h1,h2] at HF;go_enter Tryz.func107,Tryz.ntmps107;go_wp2;go_ret;exact ⟨Z08 HF.out.symm,HB0.out⟩}
   {cases h3:decide (t.n<=999999999999999)
    all_goals
     rw[h0,h1,h2,h3] at HF;go_enter Tryz.func107,Tryz.ntmps107;go_wp2;go_ret;exact ⟨Z08 HF.out.symm,HB0.out⟩}}}
 {rw[h0] at HF;go_enter Tryz.func107,Tryz.ntmps107;go_wp2;go_ret;exact ⟨Z08 HF.out.symm,HB0.out⟩}
section
variable (o f : ByteArray) (N at_ : Int) (A V S P : Option Addr) (n v s p c e z d : Nat) (w : World) (hn : n <= 9223372036854775806) (hv : v <= 9223372036854775807) (hs : s <= 9223372036854775807) (hp : p <= 9223372036854775807)
include o f N at_ A V S P n v s p c e z d w hn hv hs hp
theorem Zgg:
 Calls Tryz.prog 110 #[.agg #[.int .i64 1,.string o,.string f,.int .i64 N,.slice A n c,.slice V v e,.slice S s z,.slice P p d,.int .i64 at_]] w fun r w'=>r= .returned (.bool (decide (n=0/\v=0/\s=0/\p=0)))/\Below w.heap.size w w':=by
 go_enter Tryz.func110,Tryz.ntmps110;go_wp2
 all_goals
  go_ret;refine ⟨Z08 ?_,Z03 (Z01 _ _) _⟩
  first
  | rfl
  | exact (decide_eq_true (by omega)).symm
  | exact (decide_eq_false (by omega)).symm
theorem Zgh:
 Calls Tryz.prog 110 #[.agg #[.int .i64 2,.string o,.string f,.int .i64 N,.slice A n c,.slice V v e,.slice S s z,.slice P p d,.int .i64 at_]] w fun r w'=>r= .returned (.bool (decide (n=0/\v=0/\s=0/\p=0)))/\Below w.heap.size w w':=by
 go_enter Tryz.func110,Tryz.ntmps110;go_wp2
 all_goals
  go_ret;refine ⟨Z08 ?_,Z03 (Z01 _ _) _⟩
  first
  | rfl
  | exact (decide_eq_true (by omega)).symm
  | exact (decide_eq_false (by omega)).symm
theorem Zgi:
 Calls Tryz.prog 110 #[.agg #[.int .i64 3,.string o,.string f,.int .i64 N,.slice A n c,.slice V v e,.slice S s z,.slice P p d,.int .i64 at_]] w fun r w'=>r= .returned (.bool (decide (n=0/\v=0/\s=0/\p=0)))/\Below w.heap.size w w':=by
 go_enter Tryz.func110,Tryz.ntmps110;go_wp2
 all_goals
  go_ret;refine ⟨Z08 ?_,Z03 (Z01 _ _) _⟩
  first
  | rfl
  | exact (decide_eq_true (by omega)).symm
  | exact (decide_eq_false (by omega)).symm
theorem Zgj:
 Calls Tryz.prog 110 #[.agg #[.int .i64 4,.string o,.string f,.int .i64 N,.slice A n c,.slice V v e,.slice S s z,.slice P p d,.int .i64 at_]] w fun r w'=>r= .returned (.bool (decide (n=0/\v=0/\s=0/\p=0)))/\Below w.heap.size w w':=by
 go_enter Tryz.func110,Tryz.ntmps110;go_wp2
 all_goals
  go_ret;refine ⟨Z08 ?_,Z03 (Z01 _ _) _⟩
  first
  | rfl
  | exact (decide_eq_true (by omega)).symm
  | exact (decide_eq_false (by omega)).symm
theorem Zgk:
 Calls Tryz.prog 110 #[.agg #[.int .i64 5,.string o,.string f,.int .i64 N,.slice A n c,.slice V v e,.slice S s z,.slice P p d,.int .i64 at_]] w fun r w'=>r= .returned (.bool (decide (n=0/\v=0/\s=0/\p=0)))/\Below w.heap.size w w':=by
 go_enter Tryz.func110,Tryz.ntmps110;go_wp2
 all_goals
  go_ret;refine ⟨Z08 ?_,Z03 (Z01 _ _) _⟩
  first
  | rfl
  | exact (decide_eq_true (by omega)).symm
  | exact (decide_eq_false (by omega)).symm
theorem Zgl:
 Calls Tryz.prog 110 #[.agg #[.int .i64 6,.string o,.string f,.int .i64 N,.slice A n c,.slice V v e,.slice S s z,.slice P p d,.int .i64 at_]] w fun r w'=>r= .returned (.bool (decide (v=0/\s=n/\p=1)))/\Below w.heap.size w w':=by
 go_enter Tryz.func110,Tryz.ntmps110;go_wp2
 all_goals
  go_ret;refine ⟨Z08 ?_,Z03 (Z01 _ _) _⟩
  first
  | rfl
  | exact (decide_eq_true (by omega)).symm
  | exact (decide_eq_false (by omega)).symm
theorem Zgm:
 Calls Tryz.prog 110 #[.agg #[.int .i64 7,.string o,.string f,.int .i64 N,.slice A n c,.slice V v e,.slice S s z,.slice P p d,.int .i64 at_]] w fun r w'=>r= .returned (.bool (decide (n=0/\v=0/\s=0/\1<=p)))/\Below w.heap.size w w':=by
 go_enter Tryz.func110,Tryz.ntmps110;go_wp2
 all_goals
  go_ret;refine ⟨Z08 ?_,Z03 (Z01 _ _) _⟩
  first
  | rfl
  | exact (decide_eq_true (by omega)).symm
  | exact (decide_eq_false (by omega)).symm
theorem Zgn:
 Calls Tryz.prog 110 #[.agg #[.int .i64 8,.string o,.string f,.int .i64 N,.slice A n c,.slice V v e,.slice S s z,.slice P p d,.int .i64 at_]] w fun r w'=>r= .returned (.bool (decide (v=0/\s=0/\p=n)))/\Below w.heap.size w w':=by
 go_enter Tryz.func110,Tryz.ntmps110;go_wp2
 all_goals
  go_ret;refine ⟨Z08 ?_,Z03 (Z01 _ _) _⟩
  first
  | rfl
  | exact (decide_eq_true (by omega)).symm
  | exact (decide_eq_false (by omega)).symm
theorem Zgo:
 Calls Tryz.prog 110 #[.agg #[.int .i64 9,.string o,.string f,.int .i64 N,.slice A n c,.slice V v e,.slice S s z,.slice P p d,.int .i64 at_]] w fun r w'=>r= .returned (.bool (decide (n=0/\v=0/\s=0/\p=1)))/\Below w.heap.size w w':=by
 go_enter Tryz.func110,Tryz.ntmps110;go_wp2
 all_goals
  go_ret;refine ⟨Z08 ?_,Z03 (Z01 _ _) _⟩
  first
  | rfl
  | exact (decide_eq_true (by omega)).symm
  | exact (decide_eq_false (by omega)).symm
theorem ZfQ:
 Calls Tryz.prog 110 #[.agg #[.int .i64 10,.string o,.string f,.int .i64 N,.slice A n c,.slice V v e,.slice S s z,.slice P p d,.int .i64 at_]] w fun r w'=>r= .returned (.bool (decide (n=0/\v=0/\s=0/\p=1)))/\Below w.heap.size w w':=by
 go_enter Tryz.func110,Tryz.ntmps110;go_wp2
 all_goals
  go_ret;refine ⟨Z08 ?_,Z03 (Z01 _ _) _⟩
  first
  | rfl
  | exact (decide_eq_true (by omega)).symm
  | exact (decide_eq_false (by omega)).symm
theorem ZfR:
 Calls Tryz.prog 110 #[.agg #[.int .i64 11,.string o,.string f,.int .i64 N,.slice A n c,.slice V v e,.slice S s z,.slice P p d,.int .i64 at_]] w fun r w'=>r= .returned (.bool (decide (n=0/\v=0/\s=1)))/\Below w.heap.size w w':=by
 go_enter Tryz.func110,Tryz.ntmps110;go_wp2
 all_goals
  go_ret;refine ⟨Z08 ?_,Z03 (Z01 _ _) _⟩
  first
  | rfl
  | exact (decide_eq_true (by omega)).symm
  | exact (decide_eq_false (by omega)).symm
theorem ZfS:
 Calls Tryz.prog 110 #[.agg #[.int .i64 12,.string o,.string f,.int .i64 N,.slice A n c,.slice V v e,.slice S s z,.slice P p d,.int .i64 at_]] w fun r w'=>r= .returned (.bool (decide (n=0/\v=0/\s=1/\p=3)))/\Below w.heap.size w w':=by
 go_enter Tryz.func110,Tryz.ntmps110;go_wp2
 all_goals
  go_ret;refine ⟨Z08 ?_,Z03 (Z01 _ _) _⟩
  first
  | rfl
  | exact (decide_eq_true (by omega)).symm
  | exact (decide_eq_false (by omega)).symm
theorem ZfT:
 Calls Tryz.prog 110 #[.agg #[.int .i64 13,.string o,.string f,.int .i64 N,.slice A n c,.slice V v e,.slice S s z,.slice P p d,.int .i64 at_]] w fun r w'=>r= .returned (.bool (decide (v=n/\s=n+1/\p=n+1)))/\Below w.heap.size w w':=by
 go_enter Tryz.func110,Tryz.ntmps110;go_wp2
 all_goals
  go_ret;refine ⟨Z08 ?_,Z03 (Z01 _ _) _⟩
  first
  | rfl
  | exact (decide_eq_true (by omega)).symm
  | exact (decide_eq_false (by omega)).symm
theorem ZfU:
 Calls Tryz.prog 110 #[.agg #[.int .i64 14,.string o,.string f,.int .i64 N,.slice A n c,.slice V v e,.slice S s z,.slice P p d,.int .i64 at_]] w fun r w'=>r= .returned (.bool (decide (n=0/\v=0/\s=0/\p=2)))/\Below w.heap.size w w':=by
 go_enter Tryz.func110,Tryz.ntmps110;go_wp2
 all_goals
  go_ret;refine ⟨Z08 ?_,Z03 (Z01 _ _) _⟩
  first
  | rfl
  | exact (decide_eq_true (by omega)).symm
  | exact (decide_eq_false (by omega)).symm
theorem ZfV:
 Calls Tryz.prog 110 #[.agg #[.int .i64 15,.string o,.string f,.int .i64 N,.slice A n c,.slice V v e,.slice S s z,.slice P p d,.int .i64 at_]] w fun r w'=>r= .returned (.bool (decide (n=0/\v=0/\s=1/\p=1)))/\Below w.heap.size w w':=by
 go_enter Tryz.func110,Tryz.ntmps110;go_wp2
 all_goals
  go_ret;refine ⟨Z08 ?_,Z03 (Z01 _ _) _⟩
  first
  | rfl
  | exact (decide_eq_true (by omega)).symm
  | exact (decide_eq_false (by omega)).symm
theorem ZfW:
 Calls Tryz.prog 110 #[.agg #[.int .i64 16,.string o,.string f,.int .i64 N,.slice A n c,.slice V v e,.slice S s z,.slice P p d,.int .i64 at_]] w fun r w'=>r= .returned (.bool (decide (n=0/\v=0/\s=0/\p=1)))/\Below w.heap.size w w':=by
 go_enter Tryz.func110,Tryz.ntmps110;go_wp2
 all_goals
  go_ret;refine ⟨Z08 ?_,Z03 (Z01 _ _) _⟩
  first
  | rfl
  | exact (decide_eq_true (by omega)).symm
  | exact (decide_eq_false (by omega)).symm
theorem ZfX:
 Calls Tryz.prog 110 #[.agg #[.int .i64 17,.string o,.string f,.int .i64 N,.slice A n c,.slice V v e,.slice S s z,.slice P p d,.int .i64 at_]] w fun r w'=>r= .returned (.bool (decide (n=0/\v=0/\s=0/\p=1)))/\Below w.heap.size w w':=by
 go_enter Tryz.func110,Tryz.ntmps110;go_wp2
 all_goals
  go_ret;refine ⟨Z08 ?_,Z03 (Z01 _ _) _⟩
  first
  | rfl
  | exact (decide_eq_true (by omega)).symm
  | exact (decide_eq_false (by omega)).symm
end
theorem ZfY (k:Int) (o f:ByteArray) (N at_:Int) (A V S P:Option Addr) (n v s p c e z d:Nat) (w:World) (hk:k < 1\/17 < k) (hn:n<=9223372036854775806) (hv:v<=9223372036854775807) (hs:s<=9223372036854775807) (hp:p<=9223372036854775807):
 Calls Tryz.prog 110 #[.agg #[.int .i64 k,.string o,.string f,.int .i64 N,.slice A n c,.slice V v e,.slice S s z,.slice P p d,.int .i64 at_]] w fun r w'=>r= .returned (.bool false)/\Below w.heap.size w w':=by
 have e1: (k==1)=false:=by simp; omega
 have e2: (k==2)=false:=by simp; omega
 have e3: (k==3)=false:=by simp; omega
 have e4: (k==4)=false:=by simp; omega
 have e5: (k==5)=false:=by simp; omega
 have e6: (k==6)=false:=by simp; omega
 have e7: (k==7)=false:=by simp; omega
 have e8: (k==8)=false:=by simp; omega
 have e9: (k==9)=false:=by simp; omega
 have e10: (k==10)=false:=by simp; omega
 have e11: (k==11)=false:=by simp; omega
 have e12: (k==12)=false:=by simp; omega
 have e13: (k==13)=false:=by simp; omega
 have e14: (k==14)=false:=by simp; omega
 have e15: (k==15)=false:=by simp; omega
 have e16: (k==16)=false:=by simp; omega
 have e17: (k==17)=false:=by simp; omega
 clear hk;go_enter Tryz.func110,Tryz.ntmps110;go_wp2;go_ret;exact ⟨rfl,Z03 (Z01 _ _) _⟩
end
end Go.Proofs.YtkncdbaoaeeoiaaGreatDoor
