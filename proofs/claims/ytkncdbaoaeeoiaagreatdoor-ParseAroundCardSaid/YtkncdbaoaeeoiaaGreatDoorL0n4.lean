/- What the proofs of ParseAround want, part 4. -/
import Derived.Test.YtkncdbaoaeeoiaaGreatDoorL0n3
set_option linter.unusedVariables false
set_option linter.unusedSimpArgs false
set_option linter.unusedSectionVars false
set_option maxRecDepth 100000
set_option maxHeartbeats 16000000
namespace Go.Proofs.YtkncdbaoaeeoiaaGreatDoor
section
open Go.RowKit Tms
open Shp (Sh)
section
variable (o f : ByteArray) (N at_ : Int) (A V S P : Option Addr) (n v s p c e z d : Nat) (w : World) (hn : n <= 9223372036854775806) (hv : v <= 9223372036854775807) (hs : s <= 9223372036854775807) (hp : p <= 9223372036854775807)
include o f N at_ A V S P n v s p c e z d w hn hv hs hp
theorem Zgg:
 Calls Tryz.prog 110 #[.agg #[.int .i64 1,.string o,.string f,.int .i64 N,.slice A n c,.slice V v e,.slice S s z,.slice P p d,.int .i64 at_]] w fun r w'=>r= .returned (.bool (decide (n=0/\v=0/\s=0/\p=0)))/\Below w.heap.size w w':=by
 go_enter Tryz.func110,Tryz.ntmps110;go_wp2
 all_goals
  go_ret;refine ⟨Z08 ?_,Z03 (Z01 _ _) _⟩
  first
  | rfl
  | exact (decide_eq_true (by omega)).symm
  | exact (decide_eq_false (by omega)).symm
theorem Zgh:
 Calls Tryz.prog 110 #[.agg #[.int .i64 2,.string o,.string f,.int .i64 N,.slice A n c,.slice V v e,.slice S s z,.slice P p d,.int .i64 at_]] w fun r w'=>r= .returned (.bool (decide (n=0/\v=0/\s=0/\p=0)))/\Below w.heap.size w w':=by
 go_enter Tryz.func110,Tryz.ntmps110;go_wp2
 all_goals
  go_ret;refine ⟨Z08 ?_,Z03 (Z01 _ _) _⟩
  first
  | rfl
  | exact (decide_eq_true (by omega)).symm
  | exact (decide_eq_false (by omega)).symm
theorem Zgi:
 Calls Tryz.prog 110 #[.agg #[.int .i64 3,.string o,.string f,.int .i64 N,.slice A n c,.slice V v e,.slice S s z,.slice P p d,.int .i64 at_]] w fun r w'=>r= .returned (.bool (decide (n=0/\v=0/\s=0/\p=0)))/\Below w.heap.size w w':=by
 go_enter Tryz.func110,Tryz.ntmps110;go_wp2
 all_goals
  go_ret;refine ⟨Z08 ?_,Z03 (Z01 _ _) _⟩
  first
  | rfl
  | exact (decide_eq_true (by omega)).symm
  | exact (decide_eq_false (by omega)).symm
theorem Zgj:
 Calls Tryz.prog 110 #[.agg #[.int .i64 4,.string o,.string f,.int .i64 N,.slice A n c,.slice V v e,.slice S s z,.slice P p d,.int .i64 at_]] w fun r w'=>r= .returned (.bool (decide (n=0/\v=0/\s=0/\p=0)))/\Below w.heap.size w w':=by
 go_enter Tryz.func110,Tryz.ntmps110;go_wp2
 all_goals
  go_ret;refine ⟨Z08 ?_,Z03 (Z01 _ _) _⟩
  first
  | rfl
  | exact (decide_eq_true (by omega)).symm
  | exact (decide_eq_false (by omega)).symm
theorem Zgk:
 Calls Tryz.prog 110 #[.agg #[.int .i64 5,.string o,.string f,.int .i64 N,.slice A n c,.slice V v e,.slice S s z,.slice P p d,.int .i64 at_]] w fun r w'=>r= .returned (.bool (decide (n=0/\v=0/\s=0/\p=0)))/\Below w.heap.size w w':=by
 go_enter Tryz.func110,Tryz.ntmps110;go_wp2
 all_goals
  go_ret;refine ⟨Z08 ?_,Z03 (Z01 _ _) _⟩
  first
  | rfl
  | exact (decide_eq_true (by omega)).symm
  | exact (decide_eq_false (by omega)).symm
theorem Zgl:
 Calls Tryz.prog 110 #[.agg #[.int .i64 6,.string o,.string f,.int .i64 N,.slice A n c,.slice V v e,.slice S s z,.slice P p d,.int .i64 at_]] w fun r w'=>r= .returned (.bool (decide (v=0/\s=n/\p=1)))/\Below w.heap.size w w':=by
 go_enter Tryz.func110,Tryz.ntmps110;go_wp2
 all_goals
  go_ret;refine ⟨Z08 ?_,Z03 (Z01 _ _) _⟩
  first
  | rfl
  | exact (decide_eq_true (by omega)).symm
  | exact (decide_eq_false (by omega)).symm
theorem Zgm:
 Calls Tryz.prog 110 #[.agg #[.int .i64 7,.string o,.string f,.int .i64 N,.slice A n c,.slice V v e,.slice S s z,.slice P p d,.int .i64 at_]] w fun r w'=>r= .returned (.bool (decide (n=0/\v=0/\s=0/\1<=p)))/\Below w.heap.size w w':=by
 go_enter Tryz.func110,Tryz.ntmps110;go_wp2
 all_goals
  go_ret;refine ⟨Z08 ?_,Z03 (Z01 _ _) _⟩
  first
  | rfl
  | exact (decide_eq_true (by omega)).symm
  | exact (decide_eq_false (by omega)).symm
theorem Zgn:
 Calls Tryz.prog 110 #[.agg #[.int .i64 8,.string o,.string f,.int .i64 N,.slice A n c,.slice V v e,.slice S s z,.slice P p d,.int .i64 at_]] w fun r w'=>r= .returned (.bool (decide (v=0/\s=0/\p=n)))/\Below w.heap.size w w':=by
 go_enter Tryz.func110,Tryz.ntmps110;go_wp2
 all_goals
  go_ret;refine ⟨Z08 ?_,Z03 (Z01 _ _) _⟩
  first
  | rfl
  | exact (decide_eq_true (by omega)).symm
  | exact (decide_eq_false (by omega)).symm
theorem Zgo:
 Calls Tryz.prog 110 #[.agg #[.int .i64 9,.string o,.string f,.int .i64 N,.slice A n c,.slice V v e,.slice S s z,.slice P p d,.int .i64 at_]] w fun r w'=>r= .returned (.bool (decide (n=0/\v=0/\s=0/\p=1)))/\Below w.heap.size w w':=by
 go_enter Tryz.func110,Tryz.ntmps110;go_wp2
 all_goals
  go_ret;refine ⟨Z08 ?_,Z03 (Z01 _ _) _⟩
  first
  | rfl
  | exact (decide_eq_true (by omega)).symm
  | exact (decide_eq_false (by omega)).symm
theorem ZfQ:
 Calls Tryz.prog 110 #[.agg #[.int .i64 10,.string o,.string f,.int .i64 N,.slice A n c,.slice V v e,.slice S s z,.slice P p d,.int .i64 at_]] w fun r w'=>r= .returned (.bool (decide (n=0/\v=0/\s=0/\p=1)))/\Below w.heap.size w w':=by
 go_enter Tryz.func110,Tryz.ntmps110;go_wp2
 all_goals
  go_ret;refine ⟨Z08 ?_,Z03 (Z01 _ _) _⟩
  first
  | rfl
  | exact (decide_eq_true (by omega)).symm
  | exact (decide_eq_false (by omega)).symm
theorem ZfR:
 Calls Tryz.prog 110 #[.agg #[.int .i64 11,.string o,.string f,.int .i64 N,.slice A n c,.slice V v e,.slice S s z,.slice P p d,.int .i64 at_]] w fun r w'=>r= .returned (.bool (decide (n=0/\v=0/\s=1)))/\Below w.heap.size w w':=by
 go_enter Tryz.func110,Tryz.ntmps110;go_wp2
 all_goals
  go_ret;refine ⟨Z08 ?_,Z03 (Z01 _ _) _⟩
  first
  | rfl
  | exact (decide_eq_true (by omega)).symm
  | exact (decide_eq_false (by omega)).symm
theorem ZfS:
 Calls Tryz.prog 110 #[.agg #[.int .i64 12,.string o,.string f,.int .i64 N,.slice A n c,.slice V v e,.slice S s z,.slice P p d,.int .i64 at_]] w fun r w'=>r= .returned (.bool (decide (n=0/\v=0/\s=1/\p=3)))/\Below w.heap.size w w':=by
 go_enter Tryz.func110,Tryz.ntmps110;go_wp2
 all_goals
  go_ret;refine ⟨Z08 ?_,Z03 (Z01 _ _) _⟩
  first
  | rfl
  | exact (decide_eq_true (by omega)).symm
  | exact (decide_eq_false (by omega)).symm
theorem ZfT:
 Calls Tryz.prog 110 #[.agg #[.int .i64 13,.string o,.string f,.int .i64 N,.slice A n c,.slice V v e,.slice S s z,.slice P p d,.int .i64 at_]] w fun r w'=>r= .returned (.bool (decide (v=n/\s=n+1/\p=n+1)))/\Below w.heap.size w w':=by
 go_enter Tryz.func110,Tryz.ntmps110;go_wp2
 all_goals
  go_ret;refine ⟨Z08 ?_,Z03 (Z01 _ _) _⟩
  first
  | rfl
  | exact (decide_eq_true (by omega)).symm
  | exact (decide_eq_false (by omega)).symm
theorem ZfU:
 Calls Tryz.prog 110 #[.agg #[.int .i64 14,.string o,.string f,.int .i64 N,.slice A n c,.slice V v e,.slice S s z,.slice P p d,.int .i64 at_]] w fun r w'=>r= .returned (.bool (decide (n=0/\v=0/\s=0/\p=2)))/\Below w.heap.size w w':=by
 go_enter Tryz.func110,Tryz.ntmps110;go_wp2
 all_goals
  go_ret;refine ⟨Z08 ?_,Z03 (Z01 _ _) _⟩
  first
  | rfl
  | exact (decide_eq_true (by omega)).symm
  | exact (decide_eq_false (by omega)).symm
theorem ZfV:
 Calls Tryz.prog 110 #[.agg #[.int .i64 15,.string o,.string f,.int .i64 N,.slice A n c,.slice V v e,.slice S s z,.slice P p d,.int .i64 at_]] w fun r w'=>r= .returned (.bool (decide (n=0/\v=0/\s=1/\p=1)))/\Below w.heap.size w w':=by
 go_enter Tryz.func110,Tryz.ntmps110;go_wp2
 all_goals
  go_ret;refine ⟨Z08 ?_,Z03 (Z01 _ _) _⟩
  first
  | rfl
  | exact (decide_eq_true (by omega)).symm
  | exact (decide_eq_false (by omega)).symm
theorem ZfW:
 Calls Tryz.prog 110 #[.agg #[.int .i64 16,.string o,.string f,.int .i64 N,.slice A n c,.slice V v e,.slice S s z,.slice P p d,.int .i64 at_]] w fun r w'=>r= .returned (.bool (decide (n=0/\v=0/\s=0/\p=1)))/\Below w.heap.size w w':=by
 go_enter Tryz.func110,Tryz.ntmps110;go_wp2
 all_goals
  go_ret;refine ⟨Z08 ?_,Z03 (Z01 _ _) _⟩
  first
  | rfl
  | exact (decide_eq_true (by omega)).symm
  | exact (decide_eq_false (by omega)).symm
theorem ZfX:
 Calls Tryz.prog 110 #[.agg #[.int .i64 17,.string o,.string f,.int .i64 N,.slice A n c,.slice V v e,.slice S s z,.slice P p d,.int .i64 at_]] w fun r w'=>r= .returned (.bool (decide (n=0/\v=0/\s=0/\p=1)))/\Below w.heap.size w w':=by
 go_enter Tryz.func110,Tryz.ntmps110;go_wp2
 all_goals
  go_ret;refine ⟨Z08 ?_,Z03 (Z01 _ _) _⟩
  first
  | rfl
  | exact (decide_eq_true (by omega)).symm
  | exact (decide_eq_false (by omega)).symm
end
theorem ZfY (k:Int) (o f:ByteArray) (N at_:Int) (A V S P:Option Addr) (n v s p c e z d:Nat) (w:World) (q:k < 1\/17 < k) (H:n<=9223372036854775806) (K:v<=9223372036854775807) (J:s<=9223372036854775807) (I:p<=9223372036854775807):
 Calls Tryz.prog 110 #[.agg #[.int .i64 k,.string o,.string f,.int .i64 N,.slice A n c,.slice V v e,.slice S s z,.slice P p d,.int .i64 at_]] w fun r w'=>r= .returned (.bool false)/\Below w.heap.size w w':=by
 have t: (k==1)=false:=by simp; omega
 have u: (k==2)=false:=by simp; omega
 have y: (k==3)=false:=by simp; omega
 have B: (k==4)=false:=by simp; omega
 have C: (k==5)=false:=by simp; omega
 have D: (k==6)=false:=by simp; omega
 have E: (k==7)=false:=by simp; omega
 have F: (k==8)=false:=by simp; omega
 have G: (k==9)=false:=by simp; omega
 have a: (k==10)=false:=by simp; omega
 have b: (k==11)=false:=by simp; omega
 have g: (k==12)=false:=by simp; omega
 have h: (k==13)=false:=by simp; omega
 have i: (k==14)=false:=by simp; omega
 have j: (k==15)=false:=by simp; omega
 have l: (k==16)=false:=by simp; omega
 have m: (k==17)=false:=by simp; omega
 clear q;go_enter Tryz.func110,Tryz.ntmps110;go_wp2;go_ret;exact ⟨rfl,Z03 (Z01 _ _) _⟩
end
end Go.Proofs.YtkncdbaoaeeoiaaGreatDoor
