/- What the proofs of SubtypeJoins, SubtypeMeets want, part 5. -/
import Derived.Shelf.Strings.Builder1
import Derived.Shelf.Strconv.Itoa0
import Derived.Sort.Walk7a
import Derived.Deep.CutBlock
import Derived.Test.YtlomianlcnmfgaaGreatDoorK0n4
set_option linter.unusedVariables false
set_option linter.unusedSimpArgs false
set_option linter.unusedSectionVars false
set_option maxRecDepth 100000
set_option maxHeartbeats 16000000
namespace Go.Proofs.YtlomianlcnmfgaaGreatDoor
section
open Go.RowKit Go.Sort
variable {α : Type} [Inhabited α] {N B : Nat} {rv : Value} {lt : α -> α -> Bool} {St : Array α -> World -> Prop}
section
variable (H : Srt N B rv lt St)
include H
theorem Z4T (lo hi first:Nat) (d:Array α) (w:World) (hH:St d w) (hlo:lo<=hi) (hb:first+hi<=N):
 Calls Tryz.prog 124 #[.iface 70 rv,.int .i64 lo,.int .i64 hi,.int .i64 first] w fun e w'=>e= .returned (.tuple #[])/\St (siftDown lt hi first lo d) w':=by
 have mL:=H.mL;have mS:=H.mS;have hbig:=H.big;go_enter Tryz.func124,Tryz.ntmps124;go_wp2
 go_loopg [8] (hi - lo) (fun kx s8 wr=> ∃(root:Nat) (dk:Array α),s8= .int .i64 root/\root<=hi/\hi - root<=kx/\St dk wr/\Hid (siftDown lt hi first root dk=siftDown lt hi first lo d))
 case atStart=>exact ⟨lo,d,rfl,hlo,Nat.le_refl _,hH,rfl⟩
 case round=>
  obtain ⟨root,dk,rfl,hr,hkx,hS,HE⟩:=hrel;clear hH;by_cases h0:hi<=2 * root+1
  {have h0z: (hi:Int)<=2 * (root:Int)+1:=by omega
   go_wp2
   go_end0
   exact ⟨rfl,by rw[<-HE.out,sd_end lt dk h0]; exact hS⟩}
  {have h0z: ¬((hi:Int)<=2 * (root:Int)+1):=by omega
   go_upto_region 3 with fail
   go_cut [31] (fun p wx=> ∃v:Bool,p= .bool v/\St dk wx/\Hid (v=true->2 * root+2 < hi/\lt dk[first+(2 * root+1)]! dk[first+(2 * root+2)]! =true)/\Hid (v=false->2 * root+2 < hi->lt dk[first+(2 * root+1)]! dk[first+(2 * root+2)]! =false))
   case first=>
    clear HE;by_cases h1:2 * root+2 < hi
    {have h1z:2 * (root:Int)+1+1 < (hi:Int):=by omega
     cases hL:lt dk[first+(2 * root+1)]! dk[first+(2 * root+2)]! <;>
     {go_wp2_with fail
      refine (H.lessAt hS (first+(2 * root+1)) (first+(2 * root+2)) hL (by omega) (by omega) (by omega) (by omega)).mono ?_;rintro e w1 ⟨rfl,hS1, -⟩
      go_wp2_with fail
      go_meet
      exact ⟨_,rfl,hS1,(show Hid _ from fun h=>by first | exact ⟨h1,hL⟩ | cases h),(show Hid _ from fun h _=>by first | exact hL | cases h)⟩}}
    {have h1z: ¬(2 * (root:Int)+1+1 < (hi:Int)):=by omega
     go_wp2_with fail
     go_meet
     exact ⟨_,rfl,hS,(show Hid _ from fun h=>by cases h),(show Hid _ from fun h h2=>absurd h2 h1)⟩}
   case rest=>
    clear hS;obtain ⟨v,rfl,hS,V1,V2⟩:=hcut
    go_upto_if 31 with fail
    go_cut [9] (fun p wx=> ∃c:Nat,p= .int .i64 c/\root < c/\c < hi/\St dk wx/\Hid ((lt dk[first+root]! dk[first+c]! =false->siftDown lt hi first root dk=dk)/\
     (lt dk[first+root]! dk[first+c]! =true->siftDown lt hi first root dk=siftDown lt hi first c (swp dk (first+root) (first+c)))))
    case first=>
     clear HE;cases v with
     | true=>
      have h1:=V1.out rfl;have h1z:2 * (root:Int)+1+1 < (hi:Int):=by omega
      go_wp2_with fail
      go_meet
      exact ⟨2 * root+2,by go_num,by omega,by omega,hS,fun hG=>sd_right_stop lt dk h1.1 h1.2 hG,fun hG=>sd_right_go lt dk h1.1 h1.2 hG⟩
     | false=>
      go_wp2_with fail
      go_meet
      exact ⟨2 * root+1,by go_num,by omega,by omega,hS,fun hG=>sd_left_stop lt dk (by omega) (fun h=>V2.out (by first | trivial | rfl) h) hG,fun hG=>sd_left_go lt dk (by omega) (fun h=>V2.out (by first | trivial | rfl) h) hG⟩
    case rest=>
     clear hS;obtain ⟨c,rfl,hc1,hc2,hS,hC⟩:=hcut;cases hG:lt dk[first+root]! dk[first+c]! with
     | true=>
      go_wp2_with fail
      refine (H.lessAt hS (first+root) (first+c) hG (by omega) (by omega) (by omega) (by omega)).mono ?_;rintro e w2 ⟨rfl,hS2, -⟩
      go_wp2_with fail
      refine (H.swapAt hS2 (first+root) (first+c) (by omega) (by omega) (by omega) (by omega)).mono ?_;rintro e w3 ⟨rfl,hS3, -⟩
      go_wp2_with fail
      go_roundg (hi - c)
      case measure=>omega
      case rel=>exact ⟨c,swp dk (first+root) (first+c),rfl,by omega,Nat.le_refl _,hS3,(show Hid _ from by rw[<-HE.out,hC.out.2 hG]; exact rfl)⟩
     | false=>
      go_wp2_with fail
      refine (H.lessAt hS (first+root) (first+c) hG (by omega) (by omega) (by omega) (by omega)).mono ?_;rintro e w2 ⟨rfl,hS2, -⟩
      go_wp2_with fail
      (try simp only[Exit.inBlock,Exit.then]); refine bodyPost_ret (results_none rfl _ _ _) rfl ?_
      exact ⟨rfl,by rw[<-HE.out,hC.out.1 hG]; exact hS2⟩}
theorem Z8G (a b:Nat) (d:Array α) (w:World) (hH:St d w) (hab:a < b) (hb:b<=N):
 Calls Tryz.prog 110 #[.iface 70 rv,.int .i64 a,.int .i64 b] w fun e w'=>e= .returned (.tuple #[])/\St (heapSort lt d a b) w':=by
 have mL:=H.mL;have mS:=H.mS;have hbig:=H.big;go_enter Tryz.func110,Tryz.ntmps110;go_wp2
 go_loopg [9] ((b - a - 1) / 2+1) (fun kx s9 wr=> ∃(k:Nat) (dk:Array α),s9= .int .i64 ((k:Int) - 1)/\k<=(b - a - 1) / 2+1/\k<=kx/\St dk wr/\Hid (heapBuild lt (b - a) a k dk=heapBuild lt (b - a) a ((b - a - 1) / 2+1) d))
 case atStart=>exact ⟨(b - a - 1) / 2+1,d,by congr 1; omega,Nat.le_refl _,Nat.le_refl _,hH,rfl⟩
 case round=>
  obtain ⟨k,dk,rfl,hk,hkx,hS,HE⟩:=hrel;clear hH;cases k with
  | succ k=>
   have hz: (0:Int)<=((k+1:Nat):Int) - 1:=by omega
   go_wp2_with fail
   have hc:=Z4T H k (b - a) a dk _ hS (by omega) (by omega);rw[show (((b - a:Nat)):Int)=(b:Int) - (a:Int) by omega] at hc;refine hc.mono ?_;rintro e w1 ⟨rfl,hS1⟩;clear hc
   go_wp2_with fail
   go_roundg k
   case measure=>omega
   case rel=>exact ⟨k,_,rfl,by omega,Nat.le_refl _,hS1,(show Hid _ from by rw[<-HE.out]; exact rfl)⟩
  | zero=>
   have hD:heapBuild lt (b - a) a ((b - a - 1) / 2+1) d=dk:=HE.out.symm;have HD:Hid _:=hD;clear hD HE;go_wp2
   go_loopg [10] (b - a) (fun kx s10 wr=> ∃(k:Nat) (dj:Array α),s10= .int .i64 ((k:Int) - 1)/\k<=b - a/\k<=kx/\St dj wr/\Hid (heapPop lt a k dj=heapPop lt a (b - a) dk))
   case atStart=>exact ⟨b - a,dk,by congr 1; omega,Nat.le_refl _,Nat.le_refl _,hS,rfl⟩
   case round=>
    clear hS;obtain ⟨k,dj,rfl,hk2,hkx2,hS,HE⟩:=hrel;cases k with
    | succ k=>
     have hz: (0:Int)<=((k+1:Nat):Int) - 1:=by omega
     go_wp2_with fail
     refine (H.swapAt hS a (a+k) (by omega) (by omega) (by omega) (by omega)).mono ?_;rintro e w1 ⟨rfl,hS1, -⟩
     go_wp2_with fail
     have hc:=Z4T H 0 k a _ _ hS1 (by omega) (by omega);refine hc.mono ?_;rintro e w2 ⟨rfl,hS2⟩;clear hc
     go_wp2_with fail
     go_roundg k
     case measure=>omega
     case rel=>exact ⟨k,_,rfl,by omega,Nat.le_refl _,hS2,(show Hid _ from by rw[<-HE.out]; exact rfl)⟩
    | zero=>
     go_wp2
     go_end0
     exact ⟨rfl,by unfold heapSort; rw[HD.out, <-HE.out]; exact hS⟩
theorem Za0 (a b:Nat) (d:Array α) (w:World) (hH:St d w) (hab:a < b) (hb:b<=N):
 Calls Tryz.prog 113 #[.iface 70 rv,.int .i64 a,.int .i64 b] w fun e w'=>e= .returned (.tuple #[])/\ ∃d',PermIn a b d d'/\St d' w':=by
 have mL:=H.mL;have mS:=H.mS;have hbig:=H.big;have hsz:=H.size d w hH;go_enter Tryz.func113,Tryz.ntmps113;go_wp2
 go_loopg [6,7] (b - a) (fun k s6 s7 wr=> ∃(i j:Int) (dk:Array α),s6= .int .i64 i/\s7= .int .i64 j/\(a:Int)<=i/\i<=b/\(a:Int) - 1<=j/\j < b/\(j - i).toNat<=k/\St dk wr/\Hid (PermIn a b d dk))
 case atStart=>exact ⟨a,(b:Int) - 1,d,rfl,rfl,by omega,by omega,by omega,by omega,by omega,hH,permIn_refl _ _ _⟩
 case round=>
  obtain ⟨i,j,dk,rfl,rfl,h1,h2,h3,h4,hk,hS,HP⟩:=hrel;clear hH;by_cases hlt:i < j
  {have hsk:=H.size _ _ hS
   go_wp2_with fail
   refine (H.swapAt hS i.toNat j.toNat (by omega) (by omega) (by omega) (by omega)).mono ?_;rintro e w1 ⟨rfl,hS1, -⟩
   go_wp2_with fail
   go_roundg ((j - 1) - (i+1)).toNat
   case measure=>omega
   case rel=>exact ⟨i+1,j - 1,_,rfl,rfl,by omega,by omega,by omega,by omega,Nat.le_refl _,hS1,(show Hid _ from permIn_trans _ _ _ a b HP.out (swp_permIn _ _ _ _ _ (by omega) (by omega) (by omega) (by omega) (by omega)))⟩}
  {go_wp2
   go_end0
   exact ⟨rfl,dk,HP.out,hS⟩}
end
end
end Go.Proofs.YtlomianlcnmfgaaGreatDoor
namespace Go.Proofs
open Go.Shelf
def Tryz.lays129_ren:Go.Shelf.Ren:=⟨fun | 129=>108 | n=>n,fun | 3=>3 | 4=>4 | 5=>5 | 9=>9 | 46=>86 | 53=>100 | n=>n,fun | n=>n⟩
theorem Tryz.lays129:Go.Proofs.Lays.n129 Tryz.prog Tryz.lays129_ren:= {
 mixed:=by kernel_rfl
 f129:=Tryz.func108.trans (congrArg some (by kernel_rfl))
 t3:=Tryz.underlying3
 a3:=Tryz.isAgg3
 z3:=Tryz.sizeOf3
 v3:=Tryz.zeroValue3
 t4:=Tryz.underlying4
 a4:=Tryz.isAgg4
 z4:=Tryz.sizeOf4
 v4:=Tryz.zeroValue4
 t5:=Tryz.underlying5
 a5:=Tryz.isAgg5
 z5:=Tryz.sizeOf5
 v5:=Tryz.zeroValue5
 t9:=Tryz.underlying9
 a9:=Tryz.isAgg9
 z9:=Tryz.sizeOf9
 v9:=Tryz.zeroValue9
 t46:=Tryz.underlying86
 a46:=Tryz.isAgg86
 z46:=Tryz.sizeOf86
 v46:=Tryz.zeroValue86
 t53:=Tryz.underlying100
 a53:=Tryz.isAgg100
 z53:=Tryz.sizeOf100
 v53:=Tryz.zeroValue100 }
section
open Go.RowKit
theorem Tryz.len64 (x:Int) (w:World) (h0:0<=x) (h1:x<=18446744073709551615):
 Calls Tryz.prog 108 #[.int .u64 x] w fun e w'=>e= .returned (.int .i64 (Lib.bitLen x.toNat))/\w'=w:=
 Any.bits_Len64 Tryz.lays129 x w h0 h1
end
end Go.Proofs
namespace Go.Proofs.YtlomianlcnmfgaaGreatDoor
section
open Go.RowKit Go.Sort
variable {α : Type} [Inhabited α] {N B : Nat} {rv : Value} {lt : α -> α -> Bool} {St : Array α -> World -> Prop}
theorem Z8H (b0 X:Nat) (hX:X < 18446744073709551616) (w:World) (hc:w.cell? ⟨b0,0,none⟩=some (.int .u64 X)) (hf:w.frozen? ⟨b0,0,none⟩=false):
 Calls Tryz.prog 126 #[.pointer (some ⟨b0,0,none⟩)] w fun e w'=>e= .returned (.int .u64 (xorNextN X:Nat))/\w'=(w.setCell ⟨b0,0,none⟩ (.int .u64 (xorNextN X:Nat))).drewN 3:=by
 obtain ⟨x1,h1⟩: ∃x1:Nat,x1=X ^^^ (X * 8192 % 18446744073709551616):=⟨_,rfl⟩;obtain ⟨x2,h2⟩: ∃x2:Nat,x2=x1 ^^^ (x1 / 128):=⟨_,rfl⟩;obtain ⟨x3,h3⟩: ∃x3:Nat,x3=x2 ^^^ (x2 * 131072 % 18446744073709551616):=⟨_,rfl⟩;have l1:x1 < 18446744073709551616:=by rw[h1]; exact Nat.xor_lt_two_pow (n:=64) (by omega) (by omega)
 have l2:x2 < 18446744073709551616:=by rw[h2]; exact Nat.xor_lt_two_pow (n:=64) (by omega) (by omega)
 have e1:bits .xor .u64 (X:Int) (IntKind.u64.wrap ((X:Int) * 8192))=(x1:Int):=by
  rw[IntKind.wrap_u64,show ((X:Int) * 8192 % 18446744073709551616)=((X * 8192 % 18446744073709551616:Nat):Int) by omega,bits_xor_u64_nat _ _ hX (by omega),h1]
 have e2:bits .xor .u64 (x1:Int) ((x1:Int) / 128)=(x2:Int):=by
  rw[show ((x1:Int) / 128)=((x1 / 128:Nat):Int) by omega,bits_xor_u64_nat _ _ l1 (by omega),h2]
 have e3:bits .xor .u64 (x2:Int) (IntKind.u64.wrap ((x2:Int) * 131072))=(x3:Int):=by
  rw[IntKind.wrap_u64,show ((x2:Int) * 131072 % 18446744073709551616)=((x2 * 131072 % 18446744073709551616:Nat):Int) by omega,bits_xor_u64_nat _ _ l2 (by omega),h3]
 have hv:xorNextN X=x3:=by unfold xorNextN; simp only[]; rw[<-h1, <-h2, <-h3]
 rw[hv];clear h1 h2 h3 hv;have hss: ∀v v',(w.setCell ⟨b0,0,none⟩ v).setCell ⟨b0,0,none⟩ v'=w.setCell ⟨b0,0,none⟩ v':=setCell_setCell w b0 0;go_enter Tryz.func126,Tryz.ntmps126;go_wp2
 go_region
 all_goals go_wp2
 all_goals go_region
 all_goals go_wp2
 all_goals go_region
 all_goals go_wp2
 go_ret;exact ⟨rfl,rfl⟩
section
variable (n : Nat) (hn : n < 4611686018427387904) (w : World)
include n hn w
theorem Z5q:Calls Tryz.prog 95 #[.int .u64 (n:Int)] w fun e w'=>e= .returned (.int .i64 (bitsLen n:Nat))/\w'=w:=by
 have h:=fun w=>Tryz.len64 (n:Int) w (by omega) (by omega);rw[Int.toNat_natCast,bitLen_eq _ (by omega)] at h;go_enter Tryz.func95,Tryz.ntmps95
 go_wp2_with fail
 refine (h _).mono ?_;rintro e w' ⟨rfl,rfl⟩;clear h
 go_wp2_with fail
 go_ret;exact ⟨rfl,rfl⟩
theorem Z7s:Calls Tryz.prog 125 #[.int .i64 n] w fun e w'=>e= .returned (.int .u64 ((1 <<< bitsLen n:Nat):Int))/\w'=w:=by
 have hk:bitsLen n<=62:=(bitsLen_le_iff n 62).2 (by omega);have hp:=wrap_two_pow (bitsLen n) hk;go_enter Tryz.func125,Tryz.ntmps125
 go_wp2_with fail
 refine (Z5q n hn _).mono ?_;rintro e w' ⟨rfl,rfl⟩
 go_wp2_with fail
 go_ret;exact ⟨rfl,rfl⟩
end
theorem Z7t (H:Srt N B rv lt St) (a b:Nat) (d:Array α) (w:World) (hH:St d w) (hab:a+8<=b) (hb:b<=N):
 Calls Tryz.prog 111 #[.iface 70 rv,.int .i64 a,.int .i64 b] w fun e w'=>e= .returned (.tuple #[])/\ ∃d',PermIn a b d d'/\St d' w':=by
 have mS:=H.mS;have hbig:=H.big;have hB:=H.base _ _ hH;obtain ⟨L,hL⟩: ∃L:Nat,L=b - a:=⟨_,rfl⟩;obtain ⟨M,hM⟩: ∃M:Nat,M=1 <<< bitsLen L:=⟨_,rfl⟩;have hM1:1<=M:=by rw[hM,Nat.one_shiftLeft]; exact Nat.two_pow_pos _
 have hM2:M<=2 * L:=by rw[hM,Nat.one_shiftLeft]; exact two_pow_bitsLen_le (by omega)
 have hLz: ((b:Int) - (a:Int))=(L:Int):=by omega
 have h8z: (8:Int)<=(L:Int):=by omega
 have hNP: ∀w,Calls Tryz.prog 125 #[.int .i64 (L:Int)] w fun e w'=>e= .returned (.int .u64 (M:Int))/\w'=w:=by rw[hM]; exact fun w=>Z7s L (by omega) w
 have HL:Hid (L=b - a):=hL;clear hM hL;have hC0: ∃R:Nat,R < 18446744073709551616/\(w.alloc (.cells #[.int .u64 (L:Int)] 115)).cell? ⟨w.heap.size,0,none⟩=some (.int .u64 (R:Int)):=⟨L,by omega,by rw[World.cell?_alloc_at _ _ _ _ rfl]; rfl⟩;have hF0: (w.alloc (.cells #[.int .u64 (L:Int)] 115)).frozen? ⟨w.heap.size,0,none⟩=false:=World.frozen?_alloc_at _ _ _ _ rfl;have hS0:St d (w.alloc (.cells #[.int .u64 (L:Int)] 115)):=H.keep _ _ _ hH (Y2.alloc hB _);have hZ0:w.heap.size < (w.alloc (.cells #[.int .u64 (L:Int)] 115)).heap.size:=by simp
 clear hH;go_enter Tryz.func111,Tryz.ntmps111
 go_wp2_with fail
 refine (hNP _).mono ?_;rintro e w' ⟨rfl,rfl⟩;clear hNP
 go_wp2_with fail
 generalize hW0:w.alloc (.cells #[.int .u64 (L:Int)] 115)=W0 at hC0 hF0 hS0 hZ0 ⊢;generalize w.heap.size=b0 at hC0 hF0 hZ0 hB ⊢;clear hW0
 go_loopg [9] 3 (fun g1 vi wr=> ∃(t R:Nat) (dk:Array α),vi= .int .i64 ((a:Int)+(L:Int) / 4 * 2 - 1+(t:Int))/\t<=3/\3 - t<=g1/\St dk wr/\Hid (PermIn a b d dk)/\R < 18446744073709551616/\
  b0 < wr.heap.size/\wr.cell? ⟨b0,0,none⟩=some (.int .u64 (R:Int))/\wr.frozen? ⟨b0,0,none⟩=false)
 case atStart=>
  obtain ⟨R,h1,h2⟩:=hC0;exact ⟨0,R,d,by simp,by omega,by omega,hS0,permIn_refl _ _ _,h1,hZ0,h2,hF0⟩
 case round=>
  clear hC0 hF0 hS0 hZ0;obtain ⟨t,R,dk,rfl,ht,hg1,hS,HP,lR,hz,cR,fR⟩:=hrel;have hsk:=H.size _ _ hS;have hLg:8<=L:=by have:=HL.out; omega
  by_cases ht3:t < 3
  {have hle: (a:Int)+(L:Int) / 4 * 2 - 1+(t:Int)<=(a:Int)+(L:Int) / 4 * 2+1:=by omega
   obtain ⟨R',hR'⟩: ∃R':Nat,R'=xorNextN R:=⟨_,rfl⟩;have lR':R' < 18446744073709551616:=by rw[hR']; exact xorNextN_lt R lR
   obtain ⟨O,hO⟩: ∃O:Nat,O=R' &&& (M - 1):=⟨_,rfl⟩;have lO:O<=M - 1:=by rw[hO]; exact Nat.and_le_right
   have eAnd:bits .and .u64 (R':Int) ((M:Int) - 1)=(O:Int):=by
    rw[show ((M:Int) - 1)=((M - 1:Nat):Int) by omega,bits_and_u64_nat _ _ lR' (by omega),hO]
   have hN:=Z8H b0 R lR wr cR fR;rw[<-hR'] at hN;have hS2:St dk ((wr.setCell ⟨b0,0,none⟩ (.int .u64 (R':Int))).drewN 3):=H.keep _ _ _ hS (Z0r (Y2.setCell hB _) 3);have c2: ((wr.setCell ⟨b0,0,none⟩ (.int .u64 (R':Int))).drewN 3).cell? ⟨b0,0,none⟩=some (.int .u64 (R':Int)):=by rw[World.cell?_drewN]; exact World.cell?_setCell_same _ _ _ cR
   have f2: ((wr.setCell ⟨b0,0,none⟩ (.int .u64 (R':Int))).drewN 3).frozen? ⟨b0,0,none⟩=false:=by rw[World.frozen?_drewN]; simpa using fR
   have z2:b0 < ((wr.setCell ⟨b0,0,none⟩ (.int .u64 (R':Int))).drewN 3).heap.size:=by simpa[World.setCell] using hz
   generalize (wr.setCell ⟨b0,0,none⟩ (.int .u64 (R':Int))).drewN 3=w2 at hN hS2 c2 f2 z2;clear hR' hO cR fR hz hS;have hLn:a+L<=b:=by have:=HL.out; omega
   have hLn':b<=a+L:=by have:=HL.out; omega
   by_cases hLO:L<=O
   {have hLOz: (L:Int)<=(O:Int):=by omega
    go_wp2_with fail
    refine hN.mono ?_;rintro e w1 ⟨rfl,h1⟩;have hS1:St dk w1:=by rw[h1]; exact hS2
    have c1:w1.cell? ⟨b0,0,none⟩=some (.int .u64 (R':Int)):=by rw[h1]; exact c2
    have f1:w1.frozen? ⟨b0,0,none⟩=false:=by rw[h1]; exact f2
    have z1:b0 < w1.heap.size:=by rw[h1]; exact z2
    clear h1 hN c2 f2 z2 hS2
    go_wp2_with fail
    refine (H.swapAt hS1 (a+L / 4 * 2 - 1+t) (a+(O - L)) (by omega) (by omega) (by omega) (by omega)).mono ?_;rintro e w3 ⟨rfl,hS3,hk⟩
    go_wp2_with fail
    go_roundg (3 - (t+1))
    case measure=>omega
    case rel=>exact ⟨t+1,R',_,by congr 1; push_cast; omega,by omega,Nat.le_refl _,hS3,(show Hid _ from permIn_trans _ _ _ a b HP.out (swp_permIn _ _ _ _ _ (by omega) (by omega) (by omega) (by omega) (by omega))),lR',Nat.lt_of_lt_of_le z1 hk.1,(World.cell?_of_block (w:=w1) (hk.2 _ hB z1)).trans c1,(World.frozen?_of_block (w:=w1) (hk.2 _ hB z1)).trans f1⟩}
   {have hLOz: ¬(L:Int)<=(O:Int):=by omega
    go_wp2_with fail
    refine hN.mono ?_;rintro e w1 ⟨rfl,h1⟩;have hS1:St dk w1:=by rw[h1]; exact hS2
    have c1:w1.cell? ⟨b0,0,none⟩=some (.int .u64 (R':Int)):=by rw[h1]; exact c2
    have f1:w1.frozen? ⟨b0,0,none⟩=false:=by rw[h1]; exact f2
    have z1:b0 < w1.heap.size:=by rw[h1]; exact z2
    clear h1 hN c2 f2 z2 hS2
    go_wp2_with fail
    refine (H.swapAt hS1 (a+L / 4 * 2 - 1+t) (a+O) (by omega) (by omega) (by omega) (by omega)).mono ?_;rintro e w3 ⟨rfl,hS3,hk⟩
    go_wp2_with fail
    go_roundg (3 - (t+1))
    case measure=>omega
    case rel=>exact ⟨t+1,R',_,by congr 1; push_cast; omega,by omega,Nat.le_refl _,hS3,(show Hid _ from permIn_trans _ _ _ a b HP.out (swp_permIn _ _ _ _ _ (by omega) (by omega) (by omega) (by omega) (by omega))),lR',Nat.lt_of_lt_of_le z1 hk.1,(World.cell?_of_block (w:=w1) (hk.2 _ hB z1)).trans c1,(World.frozen?_of_block (w:=w1) (hk.2 _ hB z1)).trans f1⟩}}
  {obtain rfl:t=3:=by omega
   have hle: ¬((a:Int)+(L:Int) / 4 * 2 - 1+((3:Nat):Int)<=(a:Int)+(L:Int) / 4 * 2+1):=by omega
   go_wp2
   go_end0
   exact ⟨rfl,dk,HP.out,hS⟩}
structure Cntr (B:Nat) (w:World) (p:Addr) (s:Int):Prop where
 lo:B<=p.block
 lt:p.block < w.heap.size
 at_:w.cell? p=some (.int .i64 s)
 fz:w.frozen? p=false
theorem Cntr.kpt {w w':World} {p:Addr} {s:Int} (h:Cntr B w p s) (hk:Kpt B w w'):Cntr B w' p s:=
 ⟨h.lo,Nat.lt_of_lt_of_le h.lt hk.1,(World.cell?_of_block (w:=w) (hk.2 _ h.lo h.lt)).trans h.at_,(World.frozen?_of_block (w:=w) (hk.2 _ h.lo h.lt)).trans h.fz⟩
section
variable (H : Srt N B rv lt St)
include H
theorem Z2X (a b:Nat) (b0:Nat) (s:Int) (d:Array α) (w:World) (hH:St d w) (ha:a < N) (hb:b < N) (hC:Cntr B w ⟨b0,0,none⟩ s) (hs0:0<=s) (hs:s < 1000):
 Calls Tryz.prog 130 #[.iface 70 rv,.int .i64 a,.int .i64 b,.pointer (some ⟨b0,0,none⟩)] w fun e w'=> ∃(x y:Nat) (s':Int),e= .returned (.tuple #[.int .i64 x,.int .i64 y])/\(x=a/\y=b\/x=b/\y=a)/\St d w'/\Cntr B w' ⟨b0,0,none⟩ s'/\0<=s'/\s'<=s+1:=by
 have mL:=H.mL;have mS:=H.mS;have hbig:=H.big;go_enter Tryz.func130,Tryz.ntmps130;cases hlv:lt d[b]! d[a]! with
 | true=>
  go_wp2_with fail
  refine (H.lessAt hH b a hlv hb ha rfl rfl).mono ?_;rintro e w1 ⟨rfl,hS1,hk⟩;have hC1:=hC.kpt hk;have c0:=hC1.at_;have f0:=hC1.fz;have HC:Hid (Cntr B w1 ⟨b0,0,none⟩ s):=hC1;clear hC hC1 hk
  go_wp2_with fail
  go_ret2
  have hC1:=HC.out;refine ⟨b,a,s+1,rfl,Or.inr ⟨rfl,rfl⟩,H.keep _ _ _ hS1 (Y2.setCell hC1.lo _),⟨hC1.lo,by simpa[World.setCell] using hC1.lt,World.cell?_setCell_same _ _ _ c0,by simpa[World.frozen?_setCell] using f0⟩,by omega,by omega⟩
 | false=>
  go_wp2_with fail
  refine (H.lessAt hH b a hlv hb ha rfl rfl).mono ?_;rintro e w1 ⟨rfl,hS1,hk⟩;have hC1:=hC.kpt hk
  go_wp2_with fail
  go_ret2
  exact ⟨a,b,s,rfl,Or.inl ⟨rfl,rfl⟩,hS1,hC1,hs0,by omega⟩
theorem Z2G (a b c:Nat) (b0:Nat) (s:Int) (d:Array α) (w:World) (hH:St d w) (ha:a < N) (hb:b < N) (hc:c < N) (hC:Cntr B w ⟨b0,0,none⟩ s) (hs0:0<=s) (hs:s < 900):
 Calls Tryz.prog 128 #[.iface 70 rv,.int .i64 a,.int .i64 b,.int .i64 c,.pointer (some ⟨b0,0,none⟩)] w fun e w'=> ∃(x:Nat) (s':Int),e= .returned (.int .i64 x)/\(x=a\/x=b\/x=c)/\St d w'/\Cntr B w' ⟨b0,0,none⟩ s'/\0<=s'/\s'<=s+3:=by
 go_enter Tryz.func128,Tryz.ntmps128
 go_wp2_with fail
 refine (Z2X H a b b0 s d w hH ha hb hC hs0 (by omega)).mono ?_;rintro e w1 ⟨x1,y1,s1,rfl,h1,hS1,hC1,p1,q1⟩
 go_wp2_with fail
 refine (Z2X H y1 c b0 s1 d w1 hS1 (by omega) hc hC1 p1 (by omega)).mono ?_;rintro e w2 ⟨x2,y2,s2,rfl,h2,hS2,hC2,p2,q2⟩
 go_wp2_with fail
 refine (Z2X H x1 x2 b0 s2 d w2 hS2 (by omega) (by omega) hC2 p2 (by omega)).mono ?_;rintro e w3 ⟨x3,y3,s3,rfl,h3,hS3,hC3,p3,q3⟩
 go_wp2_with fail
 go_ret;exact ⟨y3,s3,rfl,by omega,hS3,hC3,p3,by omega⟩
theorem Z2H (a:Nat) (b0:Nat) (s:Int) (d:Array α) (w:World) (hH:St d w) (ha:1<=a) (hb:a+1 < N) (hC:Cntr B w ⟨b0,0,none⟩ s) (hs0:0<=s) (hs:s < 900):
 Calls Tryz.prog 127 #[.iface 70 rv,.int .i64 a,.pointer (some ⟨b0,0,none⟩)] w fun e w'=> ∃(x:Nat) (s':Int),e= .returned (.int .i64 x)/\(a - 1<=x/\x<=a+1)/\St d w'/\Cntr B w' ⟨b0,0,none⟩ s'/\0<=s'/\s'<=s+3:=by
 have hbig:=H.big;have hm:=Z2G H (a - 1) a (a+1) b0 s d w hH (by omega) (by omega) (by omega) hC hs0 hs;rw[show ((a - 1:Nat):Int)=(a:Int) - 1 by omega,show ((a+1:Nat):Int)=(a:Int)+1 by omega] at hm;go_enter Tryz.func127,Tryz.ntmps127
 go_wp2_with fail
 refine hm.mono ?_;rintro e w3 ⟨x3,s3,rfl,h3,hS3,hC3,p3,q3⟩;clear hm
 go_wp2_with fail
 go_ret;exact ⟨x3,s3,rfl,by omega,hS3,hC3,p3,by omega⟩
theorem Z7u (a b:Nat) (d:Array α) (w:World) (hH:St d w) (hab:a+8<=b) (hb:b<=N):
 Calls Tryz.prog 112 #[.iface 70 rv,.int .i64 a,.int .i64 b] w fun e w'=> ∃(p:Nat) (h:Int),e= .returned (.tuple #[.int .i64 p,.int .i64 h])/\a<=p/\p < b/\0<=h/\h<=2/\St d w':=by
 have hbig:=H.big;have hB:=H.base _ _ hH;have hC0:Cntr B (w.alloc (.cells #[.int .i64 0] 3)) ⟨w.heap.size,0,none⟩ 0:=⟨hB,by simp,by rw[World.cell?_alloc_at _ _ _ _ rfl]; rfl,World.frozen?_alloc_at _ _ _ _ rfl⟩;have hS0:St d (w.alloc (.cells #[.int .i64 0] 3)):=H.keep _ _ _ hH (Y2.alloc hB _);obtain ⟨I,hI⟩: ∃I:Nat,I=a+(b - a) / 4 * 1:=⟨_,rfl⟩;obtain ⟨J,hJ⟩: ∃J:Nat,J=a+(b - a) / 4 * 2:=⟨_,rfl⟩;obtain ⟨K,hK⟩: ∃K:Nat,K=a+(b - a) / 4 * 3:=⟨_,rfl⟩;have eI: ((a:Int)+((b:Int) - (a:Int)) / 4)=(I:Int):=by omega
 have eJ: ((a:Int)+((b:Int) - (a:Int)) / 4 * 2)=(J:Int):=by omega
 have eK: ((a:Int)+((b:Int) - (a:Int)) / 4 * 3)=(K:Int):=by omega
 have h8z: (8:Int)<=(b:Int) - (a:Int):=by omega
 have HI:Hid (I=a+(b - a) / 4 * 1):=hI;have HJ:Hid (J=a+(b - a) / 4 * 2):=hJ;have HK:Hid (K=a+(b - a) / 4 * 3):=hK;clear hI hJ hK hH;have cS:=hC0.at_;go_enter Tryz.func112,Tryz.ntmps112
 go_upto_region 3 with fail
 generalize hW0:w.alloc (.cells #[.int .i64 0] 3)=W0 at hC0 hS0 cS ⊢;generalize w.heap.size=b0 at hC0 cS ⊢;clear hW0 hB w cS;by_cases h50:b - a>=50
 {have h50z: (50:Int)<=(b:Int) - (a:Int):=by omega
  have g:1<=I/\K+2<=b/\I+2<=J/\J+2<=K/\a+1<=I:=by have:=HI.out; have:=HJ.out; have:=HK.out; omega
  go_upto_region 8 with fail
  (try rw[eI]); (try rw[eJ]); (try rw[eK])
  clear eI eJ eK
  go_wp2_with fail
  refine (Z2H H I b0 0 d W0 hS0 (by omega) (by omega) hC0 (by omega) (by omega)).mono ?_;rintro e w1 ⟨x1,s1,rfl,h1,hS1,hC1,p1,q1⟩
  go_wp2_with fail
  refine (Z2H H J b0 s1 d w1 hS1 (by omega) (by omega) hC1 (by omega) (by omega)).mono ?_;rintro e w2 ⟨x2,s2,rfl,h2,hS2,hC2,p2,q2⟩
  go_wp2_with fail
  refine (Z2H H K b0 s2 d w2 hS2 (by omega) (by omega) hC2 (by omega) (by omega)).mono ?_;rintro e w3 ⟨x3,s3,rfl,h3,hS3,hC3,p3,q3⟩
  go_wp2_with fail
  refine (Z2G H x1 x2 x3 b0 s3 d w3 hS3 (by omega) (by omega) (by omega) hC3 (by omega) (by omega)).mono ?_;rintro e w4 ⟨x4,s4,rfl,h4,hS4,hC4,p4,q4⟩;have c4:=hC4.at_;have hx:a<=x4/\x4 < b:=by omega
  clear hC4 hC3 hC2 hC1 hC0;by_cases z0:s4=0
  {subst z0
   go_wp2_with fail
   go_ret2
   exact ⟨x4,1,rfl,hx.1,hx.2,by omega,by omega,hS4⟩}
  {by_cases z1:s4=12
   {subst z1
    go_wp2_with fail
    go_ret2
    exact ⟨x4,2,rfl,hx.1,hx.2,by omega,by omega,hS4⟩}
   {go_wp2_with fail
    go_ret2
    exact ⟨x4,0,rfl,hx.1,hx.2,by omega,by omega,hS4⟩}}}
 {have h50z: ¬(50:Int)<=(b:Int) - (a:Int):=by omega
  have g:a<=I/\K < b/\I<=J/\J<=K:=by have:=HI.out; have:=HJ.out; have:=HK.out; omega
  go_upto_region 11 with fail
  (try rw[eI]); (try rw[eJ]); (try rw[eK])
  clear eI eJ eK
  go_wp2_with fail
  refine (Z2G H I J K b0 0 d W0 hS0 (by omega) (by omega) (by omega) hC0 (by omega) (by omega)).mono ?_;rintro e w4 ⟨x4,s4,rfl,h4,hS4,hC4,p4,q4⟩;have c4:=hC4.at_;have hx:a<=x4/\x4 < b:=by omega
  clear hC4 hC0;by_cases z0:s4=0
  {subst z0
   go_wp2_with fail
   go_ret2
   exact ⟨x4,1,rfl,hx.1,hx.2,by omega,by omega,hS4⟩}
  {have z1:s4≠12:=by omega
   go_wp2_with fail
   go_ret2
   exact ⟨x4,0,rfl,hx.1,hx.2,by omega,by omega,hS4⟩}}
theorem Za1 (a b pivot:Nat) (d:Array α) (w:World) (hH:St d w) (hap:a<=pivot) (hpb:pivot < b) (hb:b<=N):
 Calls Tryz.prog 115 #[.iface 70 rv,.int .i64 a,.int .i64 b,.int .i64 pivot] w fun e w'=>e= .returned (.int .i64 (Sort.partitionEqual lt d a b pivot).1)/\St (Sort.partitionEqual lt d a b pivot).2 w':=by
 have mL:=H.mL;have mS:=H.mS;have hbig:=H.big;go_enter Tryz.func115,Tryz.ntmps115
 go_wp2_with fail
 refine (H.swapAt hH a pivot (by omega) (by omega) rfl rfl).mono ?_;rintro e w1 ⟨rfl,hS0, -⟩;clear hH
 go_wp2_with fail
 go_loopw [9,10] (fun vi vj wr=> ∃(i j:Nat) (dk:Array α),vi= .int .i64 i/\vj= .int .i64 j/\a < i/\i<=j+1/\j < b/\St dk wr/\Hid (Sort.partEqLoop lt a i j dk=Sort.partEqLoop lt a (a+1) (b - 1) (Sort.swp d a pivot)))
  (fun vi vj _=>(intOf vj).toNat+1 - (intOf vi).toNat)
 case atStart=>exact ⟨a+1,b - 1,_,by go_num,by go_num,by omega,by omega,by omega,hS0,rfl⟩
 case round=>
  clear hS0;obtain ⟨i,j,dk,rfl,rfl,hai,hij,hjb,hS,HE⟩:=hrel
  go_upto_block 2 with fail
  go_cut [9] (fun p wx=> ∃i2:Nat,p= .int .i64 i2/\i<=i2/\i2<=j+1/\St dk wx/\Hid (i2=Sort.scanUp (fun x=> !lt dk[a]! x) dk j i))
  case first=>
   go_wp2_with fail
   go_loopw [9] (fun vi w1=> ∃i':Nat,vi= .int .i64 i'/\i<=i'/\i'<=j+1/\St dk w1/\Hid (Sort.scanUp (fun x=> !lt dk[a]! x) dk j i'=Sort.scanUp (fun x=> !lt dk[a]! x) dk j i)) (fun vi _=>j+1 - (intOf vi).toNat)
   case atStart=>exact ⟨i,rfl,Nat.le_refl _,by omega,hS,rfl⟩
   case round=>
    clear hS;obtain ⟨i',rfl,hii,hij',hS,hsc⟩:=hrel;by_cases hle:i'<=j
    {cases hlv:lt dk[a]! dk[i']! with
     | false=>
      go_wp2_with fail
      refine (H.lessAt hS a i' hlv (by omega) (by omega) rfl rfl).mono ?_;rintro e w' ⟨rfl,hS1, -⟩
      go_wp2_with fail
      go_roundw
      case rel=>exact ⟨i'+1,by go_num,by omega,by omega,hS1,(show Hid _ from (scanUp_go (fun x=> !lt dk[a]! x) dk j i' hle (by simp[hlv])).symm.trans hsc.out)⟩
      case measure=>simp[intOf]; omega
     | true=>
      go_wp2_with fail
      refine (H.lessAt hS a i' hlv (by omega) (by omega) rfl rfl).mono ?_;rintro e w' ⟨rfl,hS1, -⟩
      go_wp2_with fail
      go_meet
      exact ⟨i',rfl,hii,hij',hS1,(show Hid _ from (scanUp_end (fun x=> !lt dk[a]! x) dk j i' (Or.inr (by simp[hlv]))).symm.trans hsc.out)⟩}
    {go_wp2_with fail
     go_meet
     exact ⟨i',rfl,hii,hij',hS,(show Hid _ from (scanUp_end (fun x=> !lt dk[a]! x) dk j i' (Or.inl hle)).symm.trans hsc.out)⟩}
  case rest=>
   clear hS;obtain ⟨i2,rfl,hi2,hi2j,hS,HI⟩:=hcut
   go_upto_block 4 with fail
   go_cut [10] (fun p wx=> ∃j2:Nat,p= .int .i64 j2/\j2<=j/\i2<=j2+1/\St dk wx/\Hid (j2=Sort.scanDown (fun x=>lt dk[a]! x) dk i2 j))
   case first=>
    go_wp2_with fail
    go_loopw [10] (fun vj w1=> ∃j':Nat,vj= .int .i64 j'/\j'<=j/\i2<=j'+1/\St dk w1/\Hid (Sort.scanDown (fun x=>lt dk[a]! x) dk i2 j'=Sort.scanDown (fun x=>lt dk[a]! x) dk i2 j)) (fun vj _=>(intOf vj).toNat)
    case atStart=>exact ⟨j,rfl,Nat.le_refl _,by omega,hS,rfl⟩
    case round=>
     clear hS;obtain ⟨j',rfl,hjj,hij',hS,hsc⟩:=hrel;by_cases hle:i2<=j'
     {cases hlv:lt dk[a]! dk[j']! with
      | true=>
       go_wp2_with fail
       refine (H.lessAt hS a j' hlv (by omega) (by omega) rfl rfl).mono ?_;rintro e w' ⟨rfl,hS1, -⟩
       go_wp2_with fail
       go_roundw
       case rel=>exact ⟨j' - 1,by go_num,by omega,by omega,hS1,(show Hid _ from (scanDown_go (fun x=>lt dk[a]! x) dk i2 j' hle (by omega) (by simp[hlv])).symm.trans hsc.out)⟩
       case measure=>simp[intOf]; omega
      | false=>
       go_wp2_with fail
       refine (H.lessAt hS a j' hlv (by omega) (by omega) rfl rfl).mono ?_;rintro e w' ⟨rfl,hS1, -⟩
       go_wp2_with fail
       go_meet
       exact ⟨j',rfl,hjj,hij',hS1,(show Hid _ from (scanDown_end (fun x=>lt dk[a]! x) dk i2 j' (Or.inr (by simp[hlv]))).symm.trans hsc.out)⟩}
     {go_wp2_with fail
      go_meet
      exact ⟨j',rfl,hjj,hij',hS,(show Hid _ from (scanDown_end (fun x=>lt dk[a]! x) dk i2 j' (Or.inl hle)).symm.trans hsc.out)⟩}
   case rest=>
    clear hS;obtain ⟨j2,rfl,hj2,hj2i,hS,HJ⟩:=hcut;by_cases hgt:j2 < i2
    {go_wp2_with fail
     go_ret;have e:=partEq_break lt a i j dk HI.out HJ.out hgt;have e2:=HE.out.symm.trans e;unfold Sort.partitionEqual;rw[e2];exact ⟨rfl,hS⟩}
    {have hlt3:=scans_lt lt a i j dk (by omega) HI.out HJ.out (by omega)
     go_wp2_with fail
     refine (H.swapAt hS i2 j2 (by omega) (by omega) rfl rfl).mono ?_;rintro e w3 ⟨rfl,hS3, -⟩
     go_wp2_with fail
     go_roundw
     case rel=>exact ⟨i2+1,j2 - 1,_,by go_num,by go_num,by omega,by omega,by omega,hS3,(show Hid _ from by rw[<-HE.out]; exact (partEq_go lt a i j dk HI.out HJ.out (by omega)).symm)⟩
     case measure=>simp[intOf]; omega}
theorem Z8I (a b pivot:Nat) (d:Array α) (w:World) (hH:St d w) (hap:a<=pivot) (hpb:pivot < b) (hb:b<=N):
 Calls Tryz.prog 116 #[.iface 70 rv,.int .i64 a,.int .i64 b,.int .i64 pivot] w fun e w'=>
  e= .returned (.tuple #[.int .i64 (Sort.partition lt d a b pivot).1,.bool (Sort.partition lt d a b pivot).2.1])/\St (Sort.partition lt d a b pivot).2.2 w':=by
 have mL:=H.mL;have mS:=H.mS;have hbig:=H.big;obtain ⟨i,hi⟩: ∃i:Nat,i=a+1:=⟨_,rfl⟩;obtain ⟨j,hj⟩: ∃j:Nat,j=b - 1:=⟨_,rfl⟩;obtain ⟨dk,hdk⟩: ∃dk:Array α,dk=Sort.swp d a pivot:=⟨_,rfl⟩;have eI: (a:Int)+1=(i:Int):=by omega
 have eJ: (b:Int) - 1=(j:Int):=by omega
 have hai:a < i:=by omega
 have hij:i<=j+1:=by omega
 have hjb:j < b:=by omega
 have HI0:Hid (i=a+1):=hi;have HJ0:Hid (j=b - 1):=hj;have HD0:Hid (dk=Sort.swp d a pivot):=hdk;clear hi hj;go_enter Tryz.func116,Tryz.ntmps116
 go_wp2_with fail
 refine (H.swapAt hH a pivot (by omega) (by omega) rfl rfl).mono ?_;rintro e w1 ⟨rfl,hS, -⟩;rw[<-hdk] at hS;clear hH hdk
 go_upto_block 0 with fail
 go_cut [10] (fun p wx=> ∃i2:Nat,p= .int .i64 i2/\i<=i2/\i2<=j+1/\St dk wx/\Hid (i2=Sort.scanUp (fun x=>lt x dk[a]!) dk j i))
 case first=>
  go_wp2_with fail
  go_loopw [10] (fun vi w1=> ∃i':Nat,vi= .int .i64 i'/\i<=i'/\i'<=j+1/\St dk w1/\Hid (Sort.scanUp (fun x=>lt x dk[a]!) dk j i'=Sort.scanUp (fun x=>lt x dk[a]!) dk j i)) (fun vi _=>j+1 - (intOf vi).toNat)
  case atStart=>exact ⟨i,rfl,Nat.le_refl _,by omega,hS,rfl⟩
  case round=>
   clear hS;obtain ⟨i',rfl,hii,hij',hS,hsc⟩:=hrel;by_cases hle:i'<=j
   {cases hlv:lt dk[i']! dk[a]! with
    | true=>
     go_wp2_with fail
     refine (H.lessAt hS i' a hlv (by omega) (by omega) rfl rfl).mono ?_;rintro e w' ⟨rfl,hS1, -⟩
     go_wp2_with fail
     go_roundw
     case rel=>exact ⟨i'+1,by go_num,by omega,by omega,hS1,(show Hid _ from (scanUp_go (fun x=>lt x dk[a]!) dk j i' hle (by simp[hlv])).symm.trans hsc.out)⟩
     case measure=>simp[intOf]; omega
    | false=>
     go_wp2_with fail
     refine (H.lessAt hS i' a hlv (by omega) (by omega) rfl rfl).mono ?_;rintro e w' ⟨rfl,hS1, -⟩
     go_wp2_with fail
     go_meet
     exact ⟨i',rfl,hii,hij',hS1,(show Hid _ from (scanUp_end (fun x=>lt x dk[a]!) dk j i' (Or.inr (by simp[hlv]))).symm.trans hsc.out)⟩}
   {go_wp2_with fail
    go_meet
    exact ⟨i',rfl,hii,hij',hS,(show Hid _ from (scanUp_end (fun x=>lt x dk[a]!) dk j i' (Or.inl hle)).symm.trans hsc.out)⟩}
 case rest=>
  clear hS;obtain ⟨i2,rfl,hi2,hi2j,hS,HI⟩:=hcut
  go_upto_block 2 with fail
  go_cut [11] (fun p wx=> ∃j2:Nat,p= .int .i64 j2/\j2<=j/\i2<=j2+1/\St dk wx/\Hid (j2=Sort.scanDown (fun x=> !lt x dk[a]!) dk i2 j))
  case first=>
   go_wp2_with fail
   go_loopw [11] (fun vj w1=> ∃j':Nat,vj= .int .i64 j'/\j'<=j/\i2<=j'+1/\St dk w1/\Hid (Sort.scanDown (fun x=> !lt x dk[a]!) dk i2 j'=Sort.scanDown (fun x=> !lt x dk[a]!) dk i2 j)) (fun vj _=>(intOf vj).toNat)
   case atStart=>exact ⟨j,rfl,Nat.le_refl _,by omega,hS,rfl⟩
   case round=>
    clear hS;obtain ⟨j',rfl,hjj,hij',hS,hsc⟩:=hrel;by_cases hle:i2<=j'
    {cases hlv:lt dk[j']! dk[a]! with
     | false=>
      go_wp2_with fail
      refine (H.lessAt hS j' a hlv (by omega) (by omega) rfl rfl).mono ?_;rintro e w' ⟨rfl,hS1, -⟩
      go_wp2_with fail
      go_roundw
      case rel=>exact ⟨j' - 1,by go_num,by omega,by omega,hS1,(show Hid _ from (scanDown_go (fun x=> !lt x dk[a]!) dk i2 j' hle (by omega) (by simp[hlv])).symm.trans hsc.out)⟩
      case measure=>simp[intOf]; omega
     | true=>
      go_wp2_with fail
      refine (H.lessAt hS j' a hlv (by omega) (by omega) rfl rfl).mono ?_;rintro e w' ⟨rfl,hS1, -⟩
      go_wp2_with fail
      go_meet
      exact ⟨j',rfl,hjj,hij',hS1,(show Hid _ from (scanDown_end (fun x=> !lt x dk[a]!) dk i2 j' (Or.inr (by simp[hlv]))).symm.trans hsc.out)⟩}
    {go_wp2_with fail
     go_meet
     exact ⟨j',rfl,hjj,hij',hS,(show Hid _ from (scanDown_end (fun x=> !lt x dk[a]!) dk i2 j' (Or.inl hle)).symm.trans hsc.out)⟩}
  case rest=>
   clear hS;obtain ⟨j2,rfl,hj2,hj2i,hS,HJ⟩:=hcut;clear eI eJ;by_cases hgt:j2 < i2
   {go_wp2_with fail
    refine (H.swapAt hS j2 a (by omega) (by omega) rfl rfl).mono ?_;rintro e w3 ⟨rfl,hS3, -⟩
    go_wp2_with fail
    go_ret2
    have e:=part_first_break lt d a b pivot HI0.out HJ0.out HD0.out HI.out HJ.out hgt;rw[e];exact ⟨rfl,hS3⟩}
   {have hlt3:=part_scans_lt lt a i j dk (by omega) HI.out HJ.out (by omega)
    go_wp2_with fail
    refine (H.swapAt hS i2 j2 (by omega) (by omega) rfl rfl).mono ?_;rintro e w3 ⟨rfl,hS3, -⟩
    go_wp2_with fail
    (try rw[decide_eq_false (show ¬j2 < i2 by omega)])
    obtain ⟨I0,hI0⟩: ∃I0:Nat,I0=i2+1:=⟨_,rfl⟩;obtain ⟨J0,hJ0⟩: ∃J0:Nat,J0=j2 - 1:=⟨_,rfl⟩;obtain ⟨D0,hD0⟩: ∃D0:Array α,D0=Sort.swp dk i2 j2:=⟨_,rfl⟩;have PF:Hid (Sort.partition lt d a b pivot=((Sort.partLoop lt a I0 J0 D0).1,false,Sort.swp (Sort.partLoop lt a I0 J0 D0).2 (Sort.partLoop lt a I0 J0 D0).1 a)):=by
     rw[hI0,hJ0,hD0]; exact part_first_go lt d a b pivot HI0.out HJ0.out HD0.out HI.out HJ.out (by omega)
    rw[<-hD0] at hS3
    go_loopw [10,11] (fun vi vj wr=> ∃(i j:Nat) (dk:Array α),vi= .int .i64 i/\vj= .int .i64 j/\a < i/\i<=j+1/\j < b/\St dk wr/\Hid (Sort.partLoop lt a i j dk=Sort.partLoop lt a I0 J0 D0))
     (fun vi vj _=>(intOf vj).toNat+1 - (intOf vi).toNat)
    case atStart=>exact ⟨I0,J0,D0,by rw[hI0]; go_num,by rw[hJ0]; go_num,by omega,by omega,by omega,hS3,rfl⟩
    case round=>
     clear hI0 hJ0 hD0 HJ HI hS hS3 hlt3 hgt HI0 HJ0 HD0 hj2 hj2i hi2 hi2j hai hij hjb;obtain ⟨i,j,dk,rfl,rfl,hai,hij,hjb,hS,HE⟩:=hrel
     go_upto_block 6 with fail
     go_cut [10] (fun p wx=> ∃i2:Nat,p= .int .i64 i2/\i<=i2/\i2<=j+1/\St dk wx/\Hid (i2=Sort.scanUp (fun x=>lt x dk[a]!) dk j i))
     case first=>
      go_wp2_with fail
      go_loopw [10] (fun vi w1=> ∃i':Nat,vi= .int .i64 i'/\i<=i'/\i'<=j+1/\St dk w1/\Hid (Sort.scanUp (fun x=>lt x dk[a]!) dk j i'=Sort.scanUp (fun x=>lt x dk[a]!) dk j i)) (fun vi _=>j+1 - (intOf vi).toNat)
      case atStart=>exact ⟨i,rfl,Nat.le_refl _,by omega,hS,rfl⟩
      case round=>
       clear hS;obtain ⟨i',rfl,hii,hij',hS,hsc⟩:=hrel;by_cases hle:i'<=j
       {cases hlv:lt dk[i']! dk[a]! with
        | true=>
         go_wp2_with fail
         refine (H.lessAt hS i' a hlv (by omega) (by omega) rfl rfl).mono ?_;rintro e w' ⟨rfl,hS1, -⟩
         go_wp2_with fail
         go_roundw
         case rel=>exact ⟨i'+1,by go_num,by omega,by omega,hS1,(show Hid _ from (scanUp_go (fun x=>lt x dk[a]!) dk j i' hle (by simp[hlv])).symm.trans hsc.out)⟩
         case measure=>simp[intOf]; omega
        | false=>
         go_wp2_with fail
         refine (H.lessAt hS i' a hlv (by omega) (by omega) rfl rfl).mono ?_;rintro e w' ⟨rfl,hS1, -⟩
         go_wp2_with fail
         go_meet
         exact ⟨i',rfl,hii,hij',hS1,(show Hid _ from (scanUp_end (fun x=>lt x dk[a]!) dk j i' (Or.inr (by simp[hlv]))).symm.trans hsc.out)⟩}
       {go_wp2_with fail
        go_meet
        exact ⟨i',rfl,hii,hij',hS,(show Hid _ from (scanUp_end (fun x=>lt x dk[a]!) dk j i' (Or.inl hle)).symm.trans hsc.out)⟩}
     case rest=>
      clear hS;obtain ⟨i2,rfl,hi2,hi2j,hS,HI⟩:=hcut
      go_upto_block 8 with fail
      go_cut [11] (fun p wx=> ∃j2:Nat,p= .int .i64 j2/\j2<=j/\i2<=j2+1/\St dk wx/\Hid (j2=Sort.scanDown (fun x=> !lt x dk[a]!) dk i2 j))
      case first=>
       go_wp2_with fail
       go_loopw [11] (fun vj w1=> ∃j':Nat,vj= .int .i64 j'/\j'<=j/\i2<=j'+1/\St dk w1/\Hid (Sort.scanDown (fun x=> !lt x dk[a]!) dk i2 j'=Sort.scanDown (fun x=> !lt x dk[a]!) dk i2 j)) (fun vj _=>(intOf vj).toNat)
       case atStart=>exact ⟨j,rfl,Nat.le_refl _,by omega,hS,rfl⟩
       case round=>
        clear hS;obtain ⟨j',rfl,hjj,hij',hS,hsc⟩:=hrel;by_cases hle:i2<=j'
        {cases hlv:lt dk[j']! dk[a]! with
         | false=>
          go_wp2_with fail
          refine (H.lessAt hS j' a hlv (by omega) (by omega) rfl rfl).mono ?_;rintro e w' ⟨rfl,hS1, -⟩
          go_wp2_with fail
          go_roundw
          case rel=>exact ⟨j' - 1,by go_num,by omega,by omega,hS1,(show Hid _ from (scanDown_go (fun x=> !lt x dk[a]!) dk i2 j' hle (by omega) (by simp[hlv])).symm.trans hsc.out)⟩
          case measure=>simp[intOf]; omega
         | true=>
          go_wp2_with fail
          refine (H.lessAt hS j' a hlv (by omega) (by omega) rfl rfl).mono ?_;rintro e w' ⟨rfl,hS1, -⟩
          go_wp2_with fail
          go_meet
          exact ⟨j',rfl,hjj,hij',hS1,(show Hid _ from (scanDown_end (fun x=> !lt x dk[a]!) dk i2 j' (Or.inr (by simp[hlv]))).symm.trans hsc.out)⟩}
        {go_wp2_with fail
         go_meet
         exact ⟨j',rfl,hjj,hij',hS,(show Hid _ from (scanDown_end (fun x=> !lt x dk[a]!) dk i2 j' (Or.inl hle)).symm.trans hsc.out)⟩}
      case rest=>
       clear hS;obtain ⟨j2,rfl,hj2,hj2i,hS,HJ⟩:=hcut;by_cases hgt:j2 < i2
       {have HE2:Hid (Sort.partLoop lt a I0 J0 D0=(j2,dk)):=HE.out.symm.trans (part_break lt a i j dk HI.out HJ.out hgt)
        go_wp2_with fail
        refine (H.swapAt hS j2 a (by omega) (by omega) rfl rfl).mono ?_;rintro e w3 ⟨rfl,hS3, -⟩
        go_wp2_with fail
        go_ret2
        rw[PF.out,HE2.out];exact ⟨rfl,hS3⟩}
       {have hlt3:=part_scans_lt lt a i j dk (by omega) HI.out HJ.out (by omega)
        go_wp2_with fail
        refine (H.swapAt hS i2 j2 (by omega) (by omega) rfl rfl).mono ?_;rintro e w3 ⟨rfl,hS3, -⟩
        go_wp2_with fail
        go_roundw
        case rel=>exact ⟨i2+1,j2 - 1,_,by go_num,by go_num,by omega,by omega,by omega,hS3,(show Hid _ from by rw[<-HE.out]; exact (part_go lt a i j dk HI.out HJ.out (by omega)).symm)⟩
        case measure=>simp[intOf]; omega}}
theorem Zb6 (a b:Nat) (d:Array α) (w:World) (hH:St d w) (hab:a < b) (hb:b<=N):
 Calls Tryz.prog 114 #[.iface 70 rv,.int .i64 a,.int .i64 b] w fun e w'=>
  e= .returned (.bool (Sort.partialInsertionSort lt d a b).2)/\St (Sort.partialInsertionSort lt d a b).1 w':=by
 have mL:=H.mL;have mS:=H.mS;have hbig:=H.big;go_enter Tryz.func114,Tryz.ntmps114
 go_wp2_with fail
 go_loopw [7,8] (fun vi vs wr=> ∃(i s:Nat) (dk:Array α),vi= .int .i64 i/\vs= .int .i64 s/\s<=5/\a < i/\i<=b/\St dk wr/\Hid (partialIns lt a b (5 - s) i dk=partialIns lt a b 5 (a+1) d)) (fun _ vs _=>5 - (intOf vs).toNat)
 case atStart=>exact ⟨a+1,0,d,by go_num,rfl,by omega,by omega,by omega,hH,rfl⟩
 case round=>
  clear hH;obtain ⟨i,s,dk,rfl,rfl,hs5,hai,hib,hS,HO⟩:=hrel;by_cases hs:s < 5
  {go_upto_block 2 with fail
   (try rw[decide_eq_true (show (s:Int) < 5 by omega)])
   go_cut [7] (fun p wx=> ∃k:Nat,p= .int .i64 k/\i<=k/\k<=b/\St dk wx/\Hid (scanSorted lt dk b i=k))
   case first=>
    go_wp2_with fail
    go_loopw [7] (fun vi w1=> ∃k:Nat,vi= .int .i64 k/\i<=k/\k<=b/\St dk w1/\Hid (scanSorted lt dk b i=scanSorted lt dk b k)) (fun vi _=>b - (intOf vi).toNat)
    case atStart=>exact ⟨i,rfl,Nat.le_refl _,hib,hS,rfl⟩
    case round=>
     clear hS;obtain ⟨k,rfl,hik,hkb,hS,hsc⟩:=hrel;by_cases hlt:k < b
     {cases hlv:lt dk[k]! dk[k - 1]! with
      | false=>
       go_wp2_with fail
       refine (H.lessAt hS k (k - 1) hlv (by omega) (by omega) (by omega) (by omega)).mono ?_;rintro e w' ⟨rfl,hS1, -⟩
       go_wp2_with fail
       go_roundw
       case rel=>exact ⟨k+1,by go_num,by omega,by omega,hS1,(show Hid _ from hsc.out.trans (scanSorted_go lt dk b k hlt hlv))⟩
       case measure=>simp[intOf]; omega
      | true=>
       go_wp2_with fail
       refine (H.lessAt hS k (k - 1) hlv (by omega) (by omega) (by omega) (by omega)).mono ?_;rintro e w' ⟨rfl,hS1, -⟩
       go_wp2_with fail
       go_meet
       exact ⟨k,rfl,hik,hkb,hS1,(show Hid _ from hsc.out.trans (scanSorted_stop lt dk b k (Or.inr hlv)))⟩}
     {go_wp2_with fail
      go_meet
      exact ⟨k,rfl,hik,hkb,hS,(show Hid _ from hsc.out.trans (scanSorted_stop lt dk b k (Or.inl hlt)))⟩}
   case rest=>
    clear hS;obtain ⟨k,rfl,hik,hkb,hS,HK⟩:=hcut;by_cases hkb':k=b
    {have hx:=HO.out.symm.trans (pi_true lt a b s i dk hs (by rw[HK.out,hkb']));have HX:Hid _:=hx;clear hx;subst hkb'
     go_wp2_with fail
     go_ret;unfold Sort.partialInsertionSort;rw[HX.out];exact ⟨rfl,hS⟩}
    {by_cases h50:b - a < 50
     {have hx:=HO.out.symm.trans (pi_short lt a b s i dk hs (by rw[HK.out]; exact hkb') h50);have HX:Hid _:=hx;clear hx;have h50z: (b:Int) - (a:Int) < 50:=by omega
      go_wp2_with fail
      go_ret;unfold Sort.partialInsertionSort;rw[HX.out];exact ⟨rfl,hS⟩}
     {have hx:=HO.out.symm.trans (pi_go lt a b s i k dk hs HK.out hkb' h50);have HX:Hid _:=hx;clear hx HO HK;have h50z: ¬(b:Int) - (a:Int) < 50:=by omega
      go_wp2_with fail
      refine (H.swapAt hS k (k - 1) (by omega) (by omega) (by omega) (by omega)).mono ?_;rintro e w1 ⟨rfl,hS1, -⟩;obtain ⟨d1,hd1⟩: ∃d1:Array α,d1=swp dk k (k - 1):=⟨_,rfl⟩;rw[<-hd1] at hS1 HX;clear hS hd1
      go_upto_if 45 with fail
      go_cut [9] (fun p wx=>St (fixDown lt a k d1) wx)
      case first=>
       clear HX;by_cases h2:k - a>=2
       {have h2z: (2:Int)<=(k:Int) - (a:Int):=by omega
        go_wp2_with fail
        (try rw[decide_eq_true h2z])
        go_loopw [9] (fun vj w1=> ∃(j:Nat) (dj:Array α),vj= .int .i64 j/\j < k/\St dj w1/\Hid (shiftDown lt j dj=fixDown lt a k d1)) (fun vj _=>(intOf vj).toNat)
        case atStart=>exact ⟨k - 1,d1,by go_num,by omega,hS1,(show Hid _ from by unfold fixDown; rw[if_pos h2]; rfl)⟩
        case round=>
         clear hS1;obtain ⟨j,dj,rfl,hjk,hS,HJ⟩:=hrel;by_cases hj:1<=j
         {cases hlv:lt dj[j]! dj[j - 1]! with
          | true=>
           go_wp2_with fail
           refine (H.lessAt hS j (j - 1) hlv (by omega) (by omega) (by omega) (by omega)).mono ?_;rintro e w' ⟨rfl,hS1, -⟩
           go_wp2_with fail
           refine (H.swapAt hS1 j (j - 1) (by omega) (by omega) (by omega) (by omega)).mono ?_;rintro e w2 ⟨rfl,hS2, -⟩
           go_wp2_with fail
           go_roundw
           case rel=>exact ⟨j - 1,_,by go_num,by omega,hS2,(show Hid _ from (shiftDown_go lt j dj hj hlv).symm.trans HJ.out)⟩
           case measure=>simp[intOf]; omega
          | false=>
           go_wp2_with fail
           refine (H.lessAt hS j (j - 1) hlv (by omega) (by omega) (by omega) (by omega)).mono ?_;rintro e w' ⟨rfl,hS1, -⟩
           go_wp2_with fail
           go_meet
           rw[<-HJ.out,shiftDown_stop lt j dj (Or.inr hlv)];exact hS1}
         {go_wp2_with fail
          go_meet
          rw[<-HJ.out,shiftDown_stop lt j dj (Or.inl (by omega))];exact hS}}
       {have h2z: ¬(2:Int)<=(k:Int) - (a:Int):=by omega
        go_wp2_with fail
        go_meet
        unfold fixDown;rw[if_neg h2];exact hS1}
      case rest=>
       clear hS1;generalize fixDown lt a k d1=d2 at hcut HX
       rename_i hS1
       have END: ∀d3 wx,St d3 wx->d3=fixUp lt b k d2-> ∃(i' s':Nat) (dk':Array α),Value.int .i64 (k:Int)= .int .i64 (i':Nat)/\Value.int .i64 ((s:Int)+1)= .int .i64 (s':Nat)/\s'<=5/\a < i'/\i'<=b/\St dk' wx/\Hid (partialIns lt a b (5 - s') i' dk'=partialIns lt a b 5 (a+1) d):=
        fun d3 wx h3 e3=>⟨k,s+1,d3,rfl,by go_num,by omega,by omega,by omega,h3,by rw[e3]; exact HX.out.symm⟩
       have HE:Hid _:=END;clear END;by_cases h2:b - k>=2
       {have h2z: (2:Int)<=(b:Int) - (k:Int):=by omega
        go_wp2_with fail
        (try rw[decide_eq_true h2z])
        go_loopw [10] (fun vj w1=> ∃(j:Nat) (dj:Array α),vj= .int .i64 j/\k < j/\j<=b/\St dj w1/\Hid (shiftUp lt b j dj=fixUp lt b k d2)) (fun vj _=>b - (intOf vj).toNat)
        case atStart=>exact ⟨k+1,d2,by go_num,by omega,by omega,hcut,(show Hid _ from by unfold fixUp; rw[if_pos h2]; rfl)⟩
        case round=>
         clear hcut;obtain ⟨j,dj,rfl,hkj,hjb,hS,HJ⟩:=hrel;by_cases hj:j < b
         {cases hlv:lt dj[j]! dj[j - 1]! with
          | true=>
           go_wp2_with fail
           refine (H.lessAt hS j (j - 1) hlv (by omega) (by omega) (by omega) (by omega)).mono ?_;rintro e w' ⟨rfl,hS1, -⟩
           go_wp2_with fail
           refine (H.swapAt hS1 j (j - 1) (by omega) (by omega) (by omega) (by omega)).mono ?_;rintro e w2 ⟨rfl,hS2, -⟩
           go_wp2_with fail
           go_roundw
           case rel=>exact ⟨j+1,_,by go_num,by omega,by omega,hS2,(show Hid _ from (shiftUp_go lt b j dj hj hlv).symm.trans HJ.out)⟩
           case measure=>simp[intOf]; omega
          | false=>
           go_wp2_with fail
           refine (H.lessAt hS j (j - 1) hlv (by omega) (by omega) (by omega) (by omega)).mono ?_;rintro e w' ⟨rfl,hS1, -⟩
           go_wp2_with fail
           go_roundw
           case rel=>exact HE.out dj _ hS1 (by rw[<-HJ.out,shiftUp_stop lt b j dj (Or.inr hlv)])
           case measure=>simp[intOf]; omega}
         {go_wp2_with fail
          go_roundw
          case rel=>exact HE.out dj _ hS (by rw[<-HJ.out,shiftUp_stop lt b j dj (Or.inl hj)])
          case measure=>simp[intOf]; omega}}
       {have h2z: ¬(2:Int)<=(b:Int) - (k:Int):=by omega
        go_wp2_with fail
        go_roundw
        case rel=>exact HE.out d2 _ hcut (by unfold fixUp; rw[if_neg h2])
        case measure=>simp[intOf]; omega}}}}
  {have hx:s=5:=by omega
   subst hx;have HX:Hid _:=HO.out.symm.trans (pi_end lt a b i dk);clear HO
   go_wp2_with fail
   go_ret;unfold Sort.partialInsertionSort;rw[HX.out];exact ⟨rfl,hS⟩}
end
end
end Go.Proofs.YtlomianlcnmfgaaGreatDoor
