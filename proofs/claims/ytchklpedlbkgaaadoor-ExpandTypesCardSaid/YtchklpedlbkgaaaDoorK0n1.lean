/- What the proofs of ExpandTypes want, part 1. -/
import Derived.MakeChecks
import Derived.WalkLawsBesides
import Derived.Lib.SmallJoins
import Derived.Test.YtchklpedlbkgaaaDoorK0n0
set_option linter.unusedVariables false
set_option linter.unusedSimpArgs false
set_option linter.unusedSectionVars false
set_option maxRecDepth 100000
set_option maxHeartbeats 16000000
namespace Go.Proofs.YtchklpedlbkgaaaDoor
section
open Go.RowKit Go.Sort
variable {α : Type} [Inhabited α] {N B : Nat} {rv : Value} {lt : α -> α -> Bool} {St : Array α -> World -> Prop}
theorem ZaY (H:Srt N B rv lt St) (a b:Nat) (d:Array α) (w:World) (hH:St d w) (hab:a < b) (hb:b<=N):
 Calls Tryd.prog 80 #[.iface 92 rv,.int .i64 a,.int .i64 b] w fun e w'=>
  e= .returned (.bool (Sort.partialInsertionSort lt d a b).2)/\St (Sort.partialInsertionSort lt d a b).1 w':=by
 have mL:=H.mL;have mS:=H.mS;have hbig:=H.big;go_enter Tryd.func80,Tryd.ntmps80
 go_wp2_with fail
 go_loopw [7,8] (fun vi vs wr=> ∃(i s:Nat) (dk:Array α),vi= .int .i64 i/\vs= .int .i64 s/\s<=5/\a < i/\i<=b/\St dk wr/\Hid (partialIns lt a b (5 - s) i dk=partialIns lt a b 5 (a+1) d)) (fun _ vs _=>5 - (intOf vs).toNat)
 case atStart=>exact ⟨a+1,0,d,by go_num,rfl,by omega,by omega,by omega,hH,rfl⟩
 case round=>
  clear hH;obtain ⟨i,s,dk,rfl,rfl,hs5,hai,hib,hS,HO⟩:=hrel;by_cases hs:s < 5
  {go_upto_block 2 with fail
   (try rw[decide_eq_true (show (s:Int) < 5 by omega)])
   go_cut [7] (fun p wx=> ∃k:Nat,p= .int .i64 k/\i<=k/\k<=b/\St dk wx/\Hid (scanSorted lt dk b i=k))
   case first=>
    go_wp2_with fail
    go_loopw [7] (fun vi w1=> ∃k:Nat,vi= .int .i64 k/\i<=k/\k<=b/\St dk w1/\Hid (scanSorted lt dk b i=scanSorted lt dk b k)) (fun vi _=>b - (intOf vi).toNat)
    case atStart=>exact ⟨i,rfl,Nat.le_refl _,hib,hS,rfl⟩
    case round=>
     clear hS;obtain ⟨k,rfl,hik,hkb,hS,hsc⟩:=hrel;by_cases hlt:k < b
     {cases hlv:lt dk[k]! dk[k - 1]! with
      | false=>
       go_wp2_with fail
       refine (H.lessAt hS k (k - 1) hlv (by omega) (by omega) (by omega) (by omega)).mono ?_;rintro e w' ⟨rfl,hS1, -⟩
       go_wp2_with fail
       go_roundw
       case rel=>exact ⟨k+1,by go_num,by omega,by omega,hS1,(show Hid _ from hsc.out.trans (scanSorted_go lt dk b k hlt hlv))⟩
       case measure=>simp[intOf]; omega
      | true=>
       go_wp2_with fail
       refine (H.lessAt hS k (k - 1) hlv (by omega) (by omega) (by omega) (by omega)).mono ?_;rintro e w' ⟨rfl,hS1, -⟩
       go_wp2_with fail
       go_meet
       exact ⟨k,rfl,hik,hkb,hS1,(show Hid _ from hsc.out.trans (scanSorted_stop lt dk b k (Or.inr hlv)))⟩}
     {go_wp2_with fail
      go_meet
      exact ⟨k,rfl,hik,hkb,hS,(show Hid _ from hsc.out.trans (scanSorted_stop lt dk b k (Or.inl hlt)))⟩}
   case rest=>
    clear hS;obtain ⟨k,rfl,hik,hkb,hS,HK⟩:=hcut;by_cases hkb':k=b
    {have hx:=HO.out.symm.trans (pi_true lt a b s i dk hs (by rw[HK.out,hkb']));have HX:Hid _:=hx;clear hx;subst hkb'
     go_wp2_with fail
     go_ret;unfold Sort.partialInsertionSort;rw[HX.out];exact ⟨rfl,hS⟩}
    {by_cases h50:b - a < 50
     {have hx:=HO.out.symm.trans (pi_short lt a b s i dk hs (by rw[HK.out]; exact hkb') h50);have HX:Hid _:=hx;clear hx;have h50z: (b:Int) - (a:Int) < 50:=by omega
      go_wp2_with fail
      go_ret;unfold Sort.partialInsertionSort;rw[HX.out];exact ⟨rfl,hS⟩}
     {have hx:=HO.out.symm.trans (pi_go lt a b s i k dk hs HK.out hkb' h50);have HX:Hid _:=hx;clear hx HO HK;have h50z: ¬(b:Int) - (a:Int) < 50:=by omega
      go_wp2_with fail
      refine (H.swapAt hS k (k - 1) (by omega) (by omega) (by omega) (by omega)).mono ?_;rintro e w1 ⟨rfl,hS1, -⟩;obtain ⟨d1,hd1⟩: ∃d1:Array α,d1=swp dk k (k - 1):=⟨_,rfl⟩;rw[<-hd1] at hS1 HX;clear hS hd1
      go_upto_if 45 with fail
      go_cut [9] (fun p wx=>St (fixDown lt a k d1) wx)
      case first=>
       clear HX;by_cases h2:k - a>=2
       {have h2z: (2:Int)<=(k:Int) - (a:Int):=by omega
        go_wp2_with fail
        (try rw[decide_eq_true h2z])
        go_loopw [9] (fun vj w1=> ∃(j:Nat) (dj:Array α),vj= .int .i64 j/\j < k/\St dj w1/\Hid (shiftDown lt j dj=fixDown lt a k d1)) (fun vj _=>(intOf vj).toNat)
        case atStart=>exact ⟨k - 1,d1,by go_num,by omega,hS1,(show Hid _ from by unfold fixDown; rw[if_pos h2]; rfl)⟩
        case round=>
         clear hS1;obtain ⟨j,dj,rfl,hjk,hS,HJ⟩:=hrel;by_cases hj:1<=j
         {cases hlv:lt dj[j]! dj[j - 1]! with
          | true=>
           go_wp2_with fail
           refine (H.lessAt hS j (j - 1) hlv (by omega) (by omega) (by omega) (by omega)).mono ?_;rintro e w' ⟨rfl,hS1, -⟩
           go_wp2_with fail
           refine (H.swapAt hS1 j (j - 1) (by omega) (by omega) (by omega) (by omega)).mono ?_;rintro e w2 ⟨rfl,hS2, -⟩
           go_wp2_with fail
           go_roundw
           case rel=>exact ⟨j - 1,_,by go_num,by omega,hS2,(show Hid _ from (shiftDown_go lt j dj hj hlv).symm.trans HJ.out)⟩
           case measure=>simp[intOf]; omega
          | false=>
           go_wp2_with fail
           refine (H.lessAt hS j (j - 1) hlv (by omega) (by omega) (by omega) (by omega)).mono ?_;rintro e w' ⟨rfl,hS1, -⟩
           go_wp2_with fail
           go_meet
           rw[<-HJ.out,shiftDown_stop lt j dj (Or.inr hlv)];exact hS1}
         {go_wp2_with fail
          go_meet
          rw[<-HJ.out,shiftDown_stop lt j dj (Or.inl (by omega))];exact hS}}
       {have h2z: ¬(2:Int)<=(k:Int) - (a:Int):=by omega
        go_wp2_with fail
        go_meet
        unfold fixDown;rw[if_neg h2];exact hS1}
      case rest=>
       clear hS1;generalize fixDown lt a k d1=d2 at hcut HX
       rename_i hS1
       have END: ∀d3 wx,St d3 wx->d3=fixUp lt b k d2-> ∃(i' s':Nat) (dk':Array α),Value.int .i64 (k:Int)= .int .i64 (i':Nat)/\Value.int .i64 ((s:Int)+1)= .int .i64 (s':Nat)/\s'<=5/\a < i'/\i'<=b/\St dk' wx/\Hid (partialIns lt a b (5 - s') i' dk'=partialIns lt a b 5 (a+1) d):=
        fun d3 wx h3 e3=>⟨k,s+1,d3,rfl,by go_num,by omega,by omega,by omega,h3,by rw[e3]; exact HX.out.symm⟩
       have HE:Hid _:=END;clear END;by_cases h2:b - k>=2
       {have h2z: (2:Int)<=(b:Int) - (k:Int):=by omega
        go_wp2_with fail
        (try rw[decide_eq_true h2z])
        go_loopw [10] (fun vj w1=> ∃(j:Nat) (dj:Array α),vj= .int .i64 j/\k < j/\j<=b/\St dj w1/\Hid (shiftUp lt b j dj=fixUp lt b k d2)) (fun vj _=>b - (intOf vj).toNat)
        case atStart=>exact ⟨k+1,d2,by go_num,by omega,by omega,hcut,(show Hid _ from by unfold fixUp; rw[if_pos h2]; rfl)⟩
        case round=>
         clear hcut;obtain ⟨j,dj,rfl,hkj,hjb,hS,HJ⟩:=hrel;by_cases hj:j < b
         {cases hlv:lt dj[j]! dj[j - 1]! with
          | true=>
           go_wp2_with fail
           refine (H.lessAt hS j (j - 1) hlv (by omega) (by omega) (by omega) (by omega)).mono ?_;rintro e w' ⟨rfl,hS1, -⟩
           go_wp2_with fail
           refine (H.swapAt hS1 j (j - 1) (by omega) (by omega) (by omega) (by omega)).mono ?_;rintro e w2 ⟨rfl,hS2, -⟩
           go_wp2_with fail
           go_roundw
           case rel=>exact ⟨j+1,_,by go_num,by omega,by omega,hS2,(show Hid _ from (shiftUp_go lt b j dj hj hlv).symm.trans HJ.out)⟩
           case measure=>simp[intOf]; omega
          | false=>
           go_wp2_with fail
           refine (H.lessAt hS j (j - 1) hlv (by omega) (by omega) (by omega) (by omega)).mono ?_;rintro e w' ⟨rfl,hS1, -⟩
           go_wp2_with fail
           go_roundw
           case rel=>exact HE.out dj _ hS1 (by rw[<-HJ.out,shiftUp_stop lt b j dj (Or.inr hlv)])
           case measure=>simp[intOf]; omega}
         {go_wp2_with fail
          go_roundw
          case rel=>exact HE.out dj _ hS (by rw[<-HJ.out,shiftUp_stop lt b j dj (Or.inl hj)])
          case measure=>simp[intOf]; omega}}
       {have h2z: ¬(2:Int)<=(b:Int) - (k:Int):=by omega
        go_wp2_with fail
        go_roundw
        case rel=>exact HE.out d2 _ hcut (by unfold fixUp; rw[if_neg h2])
        case measure=>simp[intOf]; omega}}}}
  {have hx:s=5:=by omega
   subst hx;have HX:Hid _:=HO.out.symm.trans (pi_end lt a b i dk);clear HO
   go_wp2_with fail
   go_ret;unfold Sort.partialInsertionSort;rw[HX.out];exact ⟨rfl,hS⟩}
def Sorts {α:Type} [Inhabited α] (lt:α->α->Bool) (a b:Nat) (d:Array α) (a' b':Nat) (dk:Array α):Prop:= ∀R,PermIn a' b' dk R->SortedIn lt a' b' R->PermIn a b d R/\SortedIn lt a b R
theorem Sorts.perm {a b a' b':Nat} {d dk d2:Array α} (h:Sorts lt a b d a' b' dk) (hp:PermIn a' b' dk d2):Sorts lt a b d a' b' d2:=fun R h1 h2=>h R (permIn_trans _ _ _ a' b' hp h1) h2
theorem Z9S (H:Srt N B rv lt St) (hO:SWO lt): ∀(n a b limit:Nat) (d:Array α) (w:World),b - a < n->St d w->a<=b->b<=N->limit < 1000000->Sort.Below lt a b d->
 Calls Tryd.prog 63 #[.iface 92 rv,.int .i64 a,.int .i64 b,.int .i64 limit] w fun e w'=>e= .returned (.tuple #[])/\ ∃d',PermIn a b d d'/\SortedIn lt a b d'/\St d' w':=by
 have mL:=H.mL;have mS:=H.mS;have hbig:=H.big;intro n;induction n with
 | zero=>intro _ _ _ _ _ h; exact absurd h (Nat.not_lt_zero _)
 | succ n ih=>
  intro a b limit d w hn hH hab hb hlimit hBel;have IH:Hid _:=ih;clear ih;go_enter Tryd.func63,Tryd.ntmps63;go_wp2
  go_loopg [1,2,3,8,9] (b - a) (fun k s1 s2 s3 s8 s9 wr=> ∃(a' b' lim:Nat) (wb wp:Bool) (dk:Array α),s1= .int .i64 a'/\s2= .int .i64 b'/\s3= .int .i64 lim/\s8= .bool wb/\s9= .bool wp/\
   a'<=b'/\b'<=b/\b' - a'<=k/\k<=b - a/\lim<=limit/\St dk wr/\Hid (Sort.Below lt a' b' dk)/\Hid (Sorts lt a b d a' b' dk))
  case atStart=>exact ⟨a,b,limit,true,true,d,rfl,rfl,rfl,rfl,rfl,hab,Nat.le_refl _,Nat.le_refl _,Nat.le_refl _,Nat.le_refl _,hH,hBel,(show Hid _ from fun R h1 h2=>⟨h1,h2⟩)⟩
  case round=>
   clear hH hBel;obtain ⟨a',b',lim,wb,wp,dk,rfl,rfl,rfl,rfl,rfl,hab',hb',hk,hkN,hlim,hS,HB,HA⟩:=hrel;have hsk:=H.size _ _ hS;by_cases h12:b' - a'<=12
   {have h12z: (b':Int) - (a':Int)<=12:=by omega
    go_wp2_with fail
    refine (Z9P H a' b' dk _ hS hab' (by omega)).mono ?_;rintro e w1 ⟨rfl,hS1⟩
    go_wp2_with fail
    (try simp only[Exit.inBlock,Exit.then]); refine bodyPost_ret (results_none rfl _ _ _) rfl ?_
    obtain ⟨r1,r2⟩:=insertionSort_holds hO dk a' b' hab' (by omega);exact ⟨rfl,_,(HA.out _ r1 r2).1,(HA.out _ r1 r2).2,hS1⟩}
   {have h12z: ¬(b':Int) - (a':Int)<=12:=by omega
    by_cases hl0:lim=0
    {subst hl0
     go_wp2_with fail
     refine (Z8u H a' b' dk _ hS (by omega) (by omega)).mono ?_;rintro e w1 ⟨rfl,hS1⟩
     go_wp2_with fail
     (try simp only[Exit.inBlock,Exit.then]); refine bodyPost_ret (results_none rfl _ _ _) rfl ?_
     obtain ⟨r1,r2⟩:=heapSort_holds hO dk a' b' hab' (by omega);exact ⟨rfl,_,(HA.out _ r1 r2).1,(HA.out _ r1 r2).2,hS1⟩}
    {have hl0z: ¬(lim:Int)=0:=by omega
     go_upto_if 35 with fail
     go_cut [3] (fun p wx=> ∃(l2:Nat) (d2:Array α),p= .int .i64 l2/\l2<=lim/\Hid (PermIn a' b' dk d2)/\St d2 wx)
     case first=>
      cases wb with
      | true=>
       go_wp2_with fail
       go_meet
       exact ⟨lim,dk,rfl,Nat.le_refl _,permIn_refl _ _ _,hS⟩
      | false=>
       go_wp2_with fail
       refine (Z7i H a' b' dk _ hS (by omega) (by omega)).mono ?_;rintro e w1 ⟨rfl,d2,hp,hS1⟩;have HP:Hid _:=hp;clear hp
       go_wp2_with fail
       go_meet
       exact ⟨lim - 1,d2,by go_num,by omega,HP,hS1⟩
     case rest=>
      clear hS;obtain ⟨l2,d2,rfl,hl2,HP2,hS⟩:=hcut;have HB2:Hid (Sort.Below lt a' b' d2):=HB.out.perm (by omega) HP2.out;have HA2:Hid (Sorts lt a b d a' b' d2):=HA.out.perm HP2.out;clear HB HA HP2 hsk
      go_wp2_with fail
      refine (Z7j H a' b' d2 _ hS (by omega) (by omega)).mono ?_;rintro e w1 ⟨pv,hint,rfl,hp1,hp2,hh0,hh2,hS1⟩;have hsk:=H.size _ _ hS1
      go_upto_if 50 with fail
      go_cut [11,12] (fun p h wx=> ∃(p2:Nat) (h2:Int) (d3:Array α),p= .int .i64 p2/\h= .int .i64 h2/\a'<=p2/\p2 < b'/\Hid (PermIn a' b' d2 d3)/\St d3 wx)
      case first=>
       by_cases h2:hint=2
       {subst h2
        go_wp2_with fail
        refine (Z9Q H a' b' d2 _ hS1 (by omega) (by omega)).mono ?_;rintro e w2 ⟨rfl,d3,hp,hS2⟩;have HP:Hid _:=hp;clear hp
        go_wp2_with fail
        go_meet
        exact ⟨(b' - 1) - (pv - a'),1,d3,by congr 1; omega,rfl,by omega,by omega,HP,hS2⟩}
       {go_wp2_with fail
        go_meet
        exact ⟨pv,hint,d2,rfl,rfl,hp1,hp2,permIn_refl _ _ _,hS1⟩}
      case rest=>
       clear hS hS1 hp1 hp2 hh0 hh2;obtain ⟨p,h,d3,rfl,rfl,hp1,hp2,HP3,hS⟩:=hcut;have HB3:Hid (Sort.Below lt a' b' d3):=HB2.out.perm (by omega) HP3.out;have HA3:Hid (Sorts lt a b d a' b' d3):=HA2.out.perm HP3.out;clear HB2 HA2 HP3 hsk;have hsk:=H.size _ _ hS
       go_upto_region 15 with fail
       go_cut [68] (fun q wx=> ∃v:Bool,q= .bool v/\St d3 wx)
       case first=>
        cases wb with
        | false=>
         go_wp2_with fail
         go_meet
         exact ⟨_,rfl,hS⟩
        | true=>
         cases wp with
         | false=>
          go_wp2_with fail
          go_meet
          exact ⟨_,rfl,hS⟩
         | true=>
          go_wp2_with fail
          go_meet
          exact ⟨_,rfl,hS⟩
       case rest=>
        clear hS;obtain ⟨v,rfl,hS⟩:=hcut
        go_upto_if 68 with fail
        go_cut [0] (fun q wx=> ∃d4:Array α,q= .iface 92 rv/\Hid (PermIn a' b' d3 d4)/\St d4 wx)
        case first=>
         cases v with
         | false=>
          go_wp2_with fail
          go_meet
          exact ⟨d3,rfl,permIn_refl _ _ _,hS⟩
         | true=>
          have hpi:=partialInsertionSort_holds hO d3 a' b' (by omega) (by omega) HB3.out;have hc:=ZaY H a' b' d3 wc hS (by omega) (by omega);generalize Sort.partialInsertionSort lt d3 a' b'=r at hpi hc;obtain ⟨d4,u⟩:=r;have HPI:Hid _:=hpi;clear hpi;cases u with
          | true=>
           go_wp2_with fail
           refine hc.mono ?_;rintro e w2 ⟨rfl,hS2⟩;clear hc
           go_wp2_with fail
           (try simp only[Exit.inBlock,Exit.then]); refine bodyPost_ret (results_none rfl _ _ _) rfl ?_
           obtain ⟨r1,r2⟩:=HPI.out;have r3:=r2 (by first | trivial | rfl);exact ⟨rfl,_,(HA3.out _ r1 r3).1,(HA3.out _ r1 r3).2,hS2⟩
          | false=>
           go_wp2_with fail
           refine hc.mono ?_;rintro e w2 ⟨rfl,hS2⟩;clear hc
           go_wp2_with fail
           go_meet
           exact ⟨d4,rfl,HPI.out.1,hS2⟩
        case rest=>
         clear hS;obtain ⟨d4,rfl,HP4,hS⟩:=hcut;have HB4:Hid (Sort.Below lt a' b' d4):=HB3.out.perm (by omega) HP4.out;have HA4:Hid (Sorts lt a b d a' b' d4):=HA3.out.perm HP4.out;clear HB3 HA3 HP4 hsk;have hsk:=H.size _ _ hS
         go_upto_region 17 with fail
         go_cut [82] (fun q wx=> ∃v:Bool,q= .bool v/\St d4 wx/\Hid (v=true->0 < a'/\lt d4[a' - 1]! d4[p]! =false))
         case first=>
          by_cases ha0:0 < a'
          {cases hlv:lt d4[a' - 1]! d4[p]! with
           | true=>
            go_wp2_with fail
            refine (H.lessAt hS (a' - 1) p hlv (by omega) (by omega) (by omega) rfl).mono ?_;rintro e w2 ⟨rfl,hS2, -⟩
            go_wp2_with fail
            go_meet
            exact ⟨_,rfl,hS2,(show Hid _ from fun h=>by cases h)⟩
           | false=>
            go_wp2_with fail
            refine (H.lessAt hS (a' - 1) p hlv (by omega) (by omega) (by omega) rfl).mono ?_;rintro e w2 ⟨rfl,hS2, -⟩
            go_wp2_with fail
            go_meet
            exact ⟨_,rfl,hS2,(show Hid _ from fun _=>⟨ha0,hlv⟩)⟩}
          {go_wp2_with fail
           go_meet
           exact ⟨_,rfl,hS,(show Hid _ from fun h=>by cases h)⟩}
         case rest=>
          clear hS;obtain ⟨v,rfl,hS,HV⟩:=hcut;cases v with
          | true=>
           have hv:=HV.out (by first | trivial | rfl);have hc:=Z9R H a' b' p d4 wc hS hp1 hp2 (by omega);obtain ⟨mid,d5,hx⟩: ∃mid d5,partitionEqual lt d4 a' b' p=(mid,d5):=⟨_,_,rfl⟩;obtain ⟨r1,r2,r3,r4,r5⟩:=round_eq hO (partitionEqual_holds lt) hv.1 hp1 hp2 (by omega) HB4.out hv.2 hx;rw[hx] at hc;have R4:Hid _:=r4;have R5:Hid _:=r5;clear r4 r5 hx hv
           go_wp2_with fail
           refine hc.mono ?_;rintro e w2 ⟨rfl,hS2⟩;clear hc
           go_wp2_with fail
           go_roundg (b' - mid)
           case measure=>omega
           case rel=>exact ⟨mid,b',l2,wb,wp,d5,rfl,rfl,rfl,rfl,rfl,r2,hb',Nat.le_refl _,by omega,by omega,hS2,R4,(show Hid _ from fun R h1 h2=>HA4.out R (R5.out R h1 h2).1 (R5.out R h1 h2).2)⟩
          | false=>
           have hc:=Z8w H a' b' p d4 wc hS hp1 hp2 (by omega);obtain ⟨mid,ap,d5,hx⟩: ∃mid ap d5,partition lt d4 a' b' p=(mid,ap,d5):=⟨_,_,_,rfl⟩;obtain ⟨r1,r2,r3,r4,r5,r6,r7⟩:=round_part hO (partition_holds lt) hp1 hp2 (by omega) HB4.out hx;rw[hx] at hc;have R4:Hid _:=r4;have R5:Hid _:=r5;have R6:Hid _:=r6;have R7:Hid _:=r7;clear r4 r5 r6 r7 hx HV
           go_wp2_with fail
           refine hc.mono ?_;rintro e w2 ⟨rfl,hS2⟩;clear hc;by_cases h4:mid - a' < b' - mid
           {have h4z: (mid:Int) - (a':Int) < (b':Int) - (mid:Int):=by omega
            go_wp2_with fail
            refine (IH.out a' mid l2 d5 _ (by omega) hS2 (by omega) (by omega) (by omega) R4.out).mono ?_;rintro e w3 ⟨rfl,d6,q1,q2,hS3⟩;have Q:=R6.out d6 q1 q2;have Q1:Hid _:=Q;clear Q q1 q2
            go_wp2_with fail
            go_roundg (b' - (mid+1))
            case measure=>omega
            case rel=>exact ⟨mid+1,b',l2,_,ap,d6,by go_num,rfl,rfl,rfl,rfl,by omega,by omega,Nat.le_refl _,by omega,by omega,hS3,(show Hid _ from Q1.out.1),(show Hid _ from fun R h1 h2=>HA4.out R (Q1.out.2 R h1 h2).1 (Q1.out.2 R h1 h2).2)⟩}
           {have h4z: ¬(mid:Int) - (a':Int) < (b':Int) - (mid:Int):=by omega
            have hih:=IH.out (mid+1) b' l2 d5;rw[show ((mid+1:Nat):Int)=(mid:Int)+1 by omega] at hih
            go_wp2_with fail
            refine (hih _ (by omega) hS2 (by omega) (by omega) (by omega) R5.out).mono ?_;rintro e w3 ⟨rfl,d6,q1,q2,hS3⟩;have Q:=R7.out d6 q1 q2;have Q1:Hid _:=Q;clear Q q1 q2 hih
            go_wp2_with fail
            go_roundg (mid - a')
            case measure=>omega
            case rel=>exact ⟨a',mid,l2,_,ap,d6,rfl,rfl,rfl,rfl,rfl,by omega,by omega,Nat.le_refl _,by omega,by omega,hS3,(show Hid _ from Q1.out.1),(show Hid _ from fun R h1 h2=>HA4.out R (Q1.out.2 R h1 h2).1 (Q1.out.2 R h1 h2).2)⟩}}}
theorem Z9T (n:Nat) (hn:n < 1000000):bitsLen n<=20:=(bitsLen_le_iff n 20).2 (by omega)
theorem Z4N (H:Srt N B rv lt St) (hO:SWO lt) (mN: ∀w,Sem.run Tryd.prog (method (Tryd.prog.types.size+100) 92 rv "Len") w= .ok (115,rv) w)
 (hlen: ∀d w,St d w->Calls Tryd.prog 115 #[rv] w fun e w'=>e= .returned (.int .i64 (N:Int))/\St d w') (d:Array α) (w:World) (hH:St d w):
 Calls Tryd.prog 52 #[.iface 92 rv] w fun e w'=>e= .returned (.tuple #[])/\ ∃d',PermIn 0 N d d'/\SortedIn lt 0 N d'/\St d' w':=by
 have hbig:=H.big;have hsz:=H.size _ _ hH;have hb:=Z9T N hbig;by_cases h1:N<=1
 {have h1z: (N:Int)<=1:=by omega
  go_enter Tryd.func52,Tryd.ntmps52
  go_wp2_with fail
  refine (hlen d _ hH).mono ?_;rintro e w1 ⟨rfl,hS1⟩
  go_wp2_with fail
  (try simp only[Exit.inBlock,Exit.then]); refine bodyPost_ret (results_none rfl _ _ _) rfl ?_
  exact ⟨rfl,d,permIn_refl _ _ _,fun i j _ h2 h3=>absurd h3 (by omega),hS1⟩}
 {have h1z: ¬(N:Int)<=1:=by omega
  have wr:IntKind.u64.wrap (N:Int)=N:=by rw[IntKind.wrap_u64]; omega
  go_enter Tryd.func52,Tryd.ntmps52
  go_wp2_with fail
  refine (hlen d _ hH).mono ?_;rintro e w1 ⟨rfl,hS1⟩
  go_wp2_with fail
  refine (Z5q N (by omega) _).mono ?_;rintro e w2 ⟨rfl,rfl⟩
  go_wp2_with fail
  have hc:=Z9S H hO (N+1) 0 N (bitsLen N) d _ (by omega) hS1 (by omega) (by omega) (by omega) (Or.inl rfl);refine hc.mono ?_;rintro e w3 ⟨rfl,d',q1,q2,hS3⟩;clear hc
  go_wp2_with fail
  go_end0
  exact ⟨rfl,d',q1,q2,hS3⟩}
end
section
open Go.RowKit Shp
def fv (t:Sh) (q:Ptr):Value:= .agg (Y8 t q)
section
variable (t : Sh) (q : Ptr) (w : World)
include t q w
theorem Z5r:Calls Tryd.prog 115 #[.agg #[.int .i64 t.kind,.string ⟨t.of_.toArray⟩,.string ⟨t.name.toArray⟩,.slice q.A t.names.length q.c,.slice q.P t.parts.length q.d]] w fun e w'=>e= .returned (.int .i64 (t.names.length:Int))/\Below w.heap.size w w':=by
  go_enter Tryd.func115,Tryd.ntmps115;go_wp2;go_ret;exact ⟨rfl,Z00 _ _⟩
theorem fmL:Sem.run Tryd.prog (method (Tryd.prog.types.size+100) 92 (.agg #[.int .i64 t.kind,.string ⟨t.of_.toArray⟩,.string ⟨t.name.toArray⟩,.slice q.A t.names.length q.c,.slice q.P t.parts.length q.d]) "Less") w= .ok (116,.agg #[.int .i64 t.kind,.string ⟨t.of_.toArray⟩,.string ⟨t.name.toArray⟩,.slice q.A t.names.length q.c,.slice q.P t.parts.length q.d]) w:=by kernel_rfl
theorem fmS:Sem.run Tryd.prog (method (Tryd.prog.types.size+100) 92 (.agg #[.int .i64 t.kind,.string ⟨t.of_.toArray⟩,.string ⟨t.name.toArray⟩,.slice q.A t.names.length q.c,.slice q.P t.parts.length q.d]) "Swap") w= .ok (117,.agg #[.int .i64 t.kind,.string ⟨t.of_.toArray⟩,.string ⟨t.name.toArray⟩,.slice q.A t.names.length q.c,.slice q.P t.parts.length q.d]) w:=by kernel_rfl
theorem fmN:Sem.run Tryd.prog (method (Tryd.prog.types.size+100) 92 (.agg #[.int .i64 t.kind,.string ⟨t.of_.toArray⟩,.string ⟨t.name.toArray⟩,.slice q.A t.names.length q.c,.slice q.P t.parts.length q.d]) "Len") w= .ok (115,.agg #[.int .i64 t.kind,.string ⟨t.of_.toArray⟩,.string ⟨t.name.toArray⟩,.slice q.A t.names.length q.c,.slice q.P t.parts.length q.d]) w:=by kernel_rfl
end
theorem Z8x (K:Int) (o m:ByteArray) (bn n c d:Nat) (P:Option Addr) (l:Nat) (x y:List UInt8) (i j:Nat) (w:World) (hi:i < n) (hj:j < n) (hn:n < 1000000) (hb:bn < w.heap.size)
 (c1:w.cell? ⟨bn,i,none⟩=some (.string ⟨x.toArray⟩)) (c2:w.cell? ⟨bn,j,none⟩=some (.string ⟨y.toArray⟩)):
 Y9 116 #[.agg #[.int .i64 K,.string o,.string m,.slice (some ⟨bn,0,none⟩) n c,.slice P l d],.int .i64 i,.int .i64 j] w (.bool (decide (x < y))):=by
 have k1:=((Z00 w (.cells #[.int .i64 K,.string o,.string m,.slice (some ⟨bn,0,none⟩) n c,.slice P l d] 92)).cell (p:=⟨bn,i,none⟩) hb).trans c1;have k2:=((Z00 w (.cells #[.int .i64 K,.string o,.string m,.slice (some ⟨bn,0,none⟩) n c,.slice P l d] 92)).cell (p:=⟨bn,j,none⟩) hb).trans c2;have b3: (w.alloc (.cells #[.int .i64 K,.string o,.string m,.slice (some ⟨bn,0,none⟩) n c,.slice P l d] 92)).cell? ⟨w.heap.size,3,none⟩=some (.slice (some ⟨bn,0,none⟩) n c):=by rw[World.cell?_alloc_at _ _ _ _ rfl]; rfl
 have HW:=Z00 w (.cells #[.int .i64 K,.string o,.string m,.slice (some ⟨bn,0,none⟩) n c,.slice P l d] 92);clear c1 c2;go_enter Tryd.func116,Tryd.ntmps116
 go_upto_region 1 with fail
 generalize w.alloc (.cells #[.int .i64 K,.string o,.string m,.slice (some ⟨bn,0,none⟩) n c,.slice P l d] 92)=W0 at k1 k2 b3 HW ⊢;have HW0:Hid _:=HW;clear HW
 go_quiet (fail)
 go_wp2;go_ret;exact ⟨(show Ending.returned (.bool (Op.bytesLess x.toArray.toList y.toArray.toList))=_ from by rw[Z42]),Z0K HW0.out _⟩
def set5 (W:World) (b o:Nat) (a0 a1 a2 a3 a4:Value):World:=((((W.setCell ⟨b,o,none⟩ a0).setCell ⟨b,o+1,none⟩ a1).setCell ⟨b,o+2,none⟩ a2).setCell ⟨b,o+3,none⟩ a3).setCell ⟨b,o+4,none⟩ a4
theorem Z8y (K:Int) (o m:ByteArray) (bn n c bp l d:Nat) (x y:ByteArray) (i j:Nat) (uk vk:Int) (u1 u2 v1 v2:ByteArray) (uA uP vA vP:Option Addr) (un uc um ud vn vc vm vd:Nat) (w:World) (hi:i < n) (hj:j < n) (hl:n<=l) (hn:l < 1000000) (hb:bn < w.heap.size) (hp:bp < w.heap.size) (hne:bn≠bp)
 (c1:w.cell? ⟨bn,i,none⟩=some (.string x)) (c2:w.cell? ⟨bn,j,none⟩=some (.string y)) (f1: ∀k,w.frozen? ⟨bn,k,none⟩=false) (f2: ∀k,w.frozen? ⟨bp,k,none⟩=false)
 (p0:w.cell? ⟨bp,i * 5,none⟩=some (.int .i64 uk)) (r0:w.cell? ⟨bp,j * 5,none⟩=some (.int .i64 vk))
 (p1:w.cell? ⟨bp,i * 5+1,none⟩=some (.string u1)) (r1:w.cell? ⟨bp,j * 5+1,none⟩=some (.string v1))
 (p2:w.cell? ⟨bp,i * 5+2,none⟩=some (.string u2)) (r2:w.cell? ⟨bp,j * 5+2,none⟩=some (.string v2))
 (p3:w.cell? ⟨bp,i * 5+3,none⟩=some (.slice uA un uc)) (r3:w.cell? ⟨bp,j * 5+3,none⟩=some (.slice vA vn vc))
 (p4:w.cell? ⟨bp,i * 5+4,none⟩=some (.slice uP um ud)) (r4:w.cell? ⟨bp,j * 5+4,none⟩=some (.slice vP vm vd)):
 Calls Tryd.prog 117 #[.agg #[.int .i64 K,.string o,.string m,.slice (some ⟨bn,0,none⟩) n c,.slice (some ⟨bp,0,none⟩) l d],.int .i64 i,.int .i64 j] w fun e w'=>e= .returned (.tuple #[])/\ ∃W0,Below w.heap.size w W0/\
  w'=(set5 (set5 (((W0.setCell ⟨bn,i,none⟩ (.string y)).setCell ⟨bn,j,none⟩ (.string x)).drew) bp (i * 5) (.int .i64 vk) (.string v1) (.string v2) (.slice vA vn vc) (.slice vP vm vd)) bp (j * 5) (.int .i64 uk) (.string u1) (.string u2) (.slice uA un uc) (.slice uP um ud)).drew:=by
 have HW:=Z00 w (.cells #[.int .i64 K,.string o,.string m,.slice (some ⟨bn,0,none⟩) n c,.slice (some ⟨bp,0,none⟩) l d] 92);have b3: (w.alloc (.cells #[.int .i64 K,.string o,.string m,.slice (some ⟨bn,0,none⟩) n c,.slice (some ⟨bp,0,none⟩) l d] 92)).cell? ⟨w.heap.size,3,none⟩=some (.slice (some ⟨bn,0,none⟩) n c):=by rw[World.cell?_alloc_at _ _ _ _ rfl]; rfl
 have b4: (w.alloc (.cells #[.int .i64 K,.string o,.string m,.slice (some ⟨bn,0,none⟩) n c,.slice (some ⟨bp,0,none⟩) l d] 92)).cell? ⟨w.heap.size,4,none⟩=some (.slice (some ⟨bp,0,none⟩) l d):=by rw[World.cell?_alloc_at _ _ _ _ rfl]; rfl
 have F1:=fun k=>(HW.frozen (p:=⟨bn,k,none⟩) hb).trans (f1 k);have F2:=fun k=>(HW.frozen (p:=⟨bp,k,none⟩) hp).trans (f2 k);have k1:=(HW.cell (p:=⟨bn,i,none⟩) hb).trans c1;have k2:=(HW.cell (p:=⟨bn,j,none⟩) hb).trans c2;clear c1 c2 f1 f2;go_enter Tryd.func117,Tryd.ntmps117
 go_upto_region 1 with fail
 generalize w.alloc (.cells #[.int .i64 K,.string o,.string m,.slice (some ⟨bn,0,none⟩) n c,.slice (some ⟨bp,0,none⟩) l d] 92)=W0 at k1 k2 b3 b4 F1 F2 HW ⊢;have HW0:Hid _:=HW;clear HW;generalize hg:w.heap.size=g at b3 b4 ⊢;have q1:=F1 i;have q2:=F1 j;obtain ⟨v',hy'⟩:=cell?_setCell_some (w:=W0) (p:=⟨bn,i,none⟩) (x:= .string y) (q:=⟨bn,j,none⟩) k2;have HF1:Hid _:=F1;have HF2:Hid _:=F2;clear F1 F2
 go_region
 have hgn:bn≠g:=by omega
 have hgp:bp≠g:=by omega
 have b40:=b4;have b4': (((W0.setCell ⟨bn,i,none⟩ (.string y)).setCell ⟨bn,j,none⟩ (.string x)).drew).cell? ⟨g,4,none⟩=some (.slice (some ⟨bp,0,none⟩) l d):=by
  rw[World.cell?_drew,World.cell?_setCell_far _ _ _ _ (by assumption),World.cell?_setCell_far _ _ _ _ (by assumption)]; exact b40
 have P00:=(HW0.out.cell (p:=⟨bp,i * 5,none⟩) hp).trans p0;have R00:=(HW0.out.cell (p:=⟨bp,j * 5,none⟩) hp).trans r0;have P0: (((W0.setCell ⟨bn,i,none⟩ (.string y)).setCell ⟨bn,j,none⟩ (.string x)).drew).cell? ⟨bp,i * 5,none⟩=some (.int .i64 uk):=by
  rw[World.cell?_drew,World.cell?_setCell_far _ _ _ _ (by assumption),World.cell?_setCell_far _ _ _ _ (by assumption)]; exact P00
 have R0: (((W0.setCell ⟨bn,i,none⟩ (.string y)).setCell ⟨bn,j,none⟩ (.string x)).drew).cell? ⟨bp,j * 5,none⟩=some (.int .i64 vk):=by
  rw[World.cell?_drew,World.cell?_setCell_far _ _ _ _ (by assumption),World.cell?_setCell_far _ _ _ _ (by assumption)]; exact R00
 have P10:=(HW0.out.cell (p:=⟨bp,i * 5+1,none⟩) hp).trans p1;have R10:=(HW0.out.cell (p:=⟨bp,j * 5+1,none⟩) hp).trans r1;have P1: (((W0.setCell ⟨bn,i,none⟩ (.string y)).setCell ⟨bn,j,none⟩ (.string x)).drew).cell? ⟨bp,i * 5+1,none⟩=some (.string u1):=by
  rw[World.cell?_drew,World.cell?_setCell_far _ _ _ _ (by assumption),World.cell?_setCell_far _ _ _ _ (by assumption)]; exact P10
 have R1: (((W0.setCell ⟨bn,i,none⟩ (.string y)).setCell ⟨bn,j,none⟩ (.string x)).drew).cell? ⟨bp,j * 5+1,none⟩=some (.string v1):=by
  rw[World.cell?_drew,World.cell?_setCell_far _ _ _ _ (by assumption),World.cell?_setCell_far _ _ _ _ (by assumption)]; exact R10
 have P20:=(HW0.out.cell (p:=⟨bp,i * 5+2,none⟩) hp).trans p2;have R20:=(HW0.out.cell (p:=⟨bp,j * 5+2,none⟩) hp).trans r2;have P2: (((W0.setCell ⟨bn,i,none⟩ (.string y)).setCell ⟨bn,j,none⟩ (.string x)).drew).cell? ⟨bp,i * 5+2,none⟩=some (.string u2):=by
  rw[World.cell?_drew,World.cell?_setCell_far _ _ _ _ (by assumption),World.cell?_setCell_far _ _ _ _ (by assumption)]; exact P20
 have R2: (((W0.setCell ⟨bn,i,none⟩ (.string y)).setCell ⟨bn,j,none⟩ (.string x)).drew).cell? ⟨bp,j * 5+2,none⟩=some (.string v2):=by
  rw[World.cell?_drew,World.cell?_setCell_far _ _ _ _ (by assumption),World.cell?_setCell_far _ _ _ _ (by assumption)]; exact R20
 have P30:=(HW0.out.cell (p:=⟨bp,i * 5+3,none⟩) hp).trans p3;have R30:=(HW0.out.cell (p:=⟨bp,j * 5+3,none⟩) hp).trans r3;have P3: (((W0.setCell ⟨bn,i,none⟩ (.string y)).setCell ⟨bn,j,none⟩ (.string x)).drew).cell? ⟨bp,i * 5+3,none⟩=some (.slice uA un uc):=by
  rw[World.cell?_drew,World.cell?_setCell_far _ _ _ _ (by assumption),World.cell?_setCell_far _ _ _ _ (by assumption)]; exact P30
 have R3: (((W0.setCell ⟨bn,i,none⟩ (.string y)).setCell ⟨bn,j,none⟩ (.string x)).drew).cell? ⟨bp,j * 5+3,none⟩=some (.slice vA vn vc):=by
  rw[World.cell?_drew,World.cell?_setCell_far _ _ _ _ (by assumption),World.cell?_setCell_far _ _ _ _ (by assumption)]; exact R30
 have P40:=(HW0.out.cell (p:=⟨bp,i * 5+4,none⟩) hp).trans p4;have R40:=(HW0.out.cell (p:=⟨bp,j * 5+4,none⟩) hp).trans r4;have P4: (((W0.setCell ⟨bn,i,none⟩ (.string y)).setCell ⟨bn,j,none⟩ (.string x)).drew).cell? ⟨bp,i * 5+4,none⟩=some (.slice uP um ud):=by
  rw[World.cell?_drew,World.cell?_setCell_far _ _ _ _ (by assumption),World.cell?_setCell_far _ _ _ _ (by assumption)]; exact P40
 have R4: (((W0.setCell ⟨bn,i,none⟩ (.string y)).setCell ⟨bn,j,none⟩ (.string x)).drew).cell? ⟨bp,j * 5+4,none⟩=some (.slice vP vm vd):=by
  rw[World.cell?_drew,World.cell?_setCell_far _ _ _ _ (by assumption),World.cell?_setCell_far _ _ _ _ (by assumption)]; exact R40
 clear P00 P10 P20 P30 P40 R00 R10 R20 R30 R40 b40 p0 p1 p2 p3 p4 r0 r1 r2 r3 r4;have G2: ∀k,(((W0.setCell ⟨bn,i,none⟩ (.string y)).setCell ⟨bn,j,none⟩ (.string x)).drew).frozen? ⟨bp,k,none⟩=false:=fun k=>by rw[World.frozen?_drew]; simpa using HF2.out k
 clear b3 q1 q2 k1 k2
 go_upto_region 2 with fail
 generalize hW1: (((W0.setCell ⟨bn,i,none⟩ (.string y)).setCell ⟨bn,j,none⟩ (.string x)).drew)=W1 at b4' P0 P1 P2 P3 P4 R0 R1 R2 R3 R4 G2 ⊢;have HW1:Hid _:=hW1;clear hW1 b4 hy';have g0:=G2 (i * 5);have h0:=G2 (j * 5);have g1:=G2 (i * 5+1);have h1:=G2 (j * 5+1);have g2:=G2 (i * 5+2);have h2:=G2 (j * 5+2);have g3:=G2 (i * 5+3);have h3:=G2 (j * 5+3);have g4:=G2 (i * 5+4);have h4:=G2 (j * 5+4);clear G2;have EX0: ∃v,(W1.setCell ⟨bp,i * 5,none⟩ (.int .i64 vk)).cell? ⟨bp,j * 5,none⟩=some v:=by
  obtain ⟨e10,E10⟩:=cell?_setCell_some (w:=W1) (p:=⟨bp,i * 5,none⟩) (x:=(.int .i64 vk)) (q:=⟨bp,j * 5,none⟩) R0;exact ⟨_,E10⟩
 obtain ⟨e0,E0⟩:=EX0;have EX1: ∃v,((W1.setCell ⟨bp,i * 5,none⟩ (.int .i64 vk)).setCell ⟨bp,i * 5+1,none⟩ (.string v1)).cell? ⟨bp,j * 5+1,none⟩=some v:=by
  obtain ⟨e11,E11⟩:=cell?_setCell_some (w:=W1) (p:=⟨bp,i * 5,none⟩) (x:=(.int .i64 vk)) (q:=⟨bp,j * 5+1,none⟩) R1;obtain ⟨e21,E21⟩:=cell?_setCell_some (w:=(W1.setCell ⟨bp,i * 5,none⟩ (.int .i64 vk))) (p:=⟨bp,i * 5+1,none⟩) (x:=(.string v1)) (q:=⟨bp,j * 5+1,none⟩) E11;exact ⟨_,E21⟩
 obtain ⟨e1,E1⟩:=EX1;have EX2: ∃v,(((W1.setCell ⟨bp,i * 5,none⟩ (.int .i64 vk)).setCell ⟨bp,i * 5+1,none⟩ (.string v1)).setCell ⟨bp,i * 5+2,none⟩ (.string v2)).cell? ⟨bp,j * 5+2,none⟩=some v:=by
  obtain ⟨e12,E12⟩:=cell?_setCell_some (w:=W1) (p:=⟨bp,i * 5,none⟩) (x:=(.int .i64 vk)) (q:=⟨bp,j * 5+2,none⟩) R2;obtain ⟨e22,E22⟩:=cell?_setCell_some (w:=(W1.setCell ⟨bp,i * 5,none⟩ (.int .i64 vk))) (p:=⟨bp,i * 5+1,none⟩) (x:=(.string v1)) (q:=⟨bp,j * 5+2,none⟩) E12;obtain ⟨e32,E32⟩:=cell?_setCell_some (w:=((W1.setCell ⟨bp,i * 5,none⟩ (.int .i64 vk)).setCell ⟨bp,i * 5+1,none⟩ (.string v1))) (p:=⟨bp,i * 5+2,none⟩) (x:=(.string v2)) (q:=⟨bp,j * 5+2,none⟩) E22;exact ⟨_,E32⟩
 obtain ⟨e2,E2⟩:=EX2;have EX3: ∃v,((((W1.setCell ⟨bp,i * 5,none⟩ (.int .i64 vk)).setCell ⟨bp,i * 5+1,none⟩ (.string v1)).setCell ⟨bp,i * 5+2,none⟩ (.string v2)).setCell ⟨bp,i * 5+3,none⟩ (.slice vA vn vc)).cell? ⟨bp,j * 5+3,none⟩=some v:=by
  obtain ⟨e13,E13⟩:=cell?_setCell_some (w:=W1) (p:=⟨bp,i * 5,none⟩) (x:=(.int .i64 vk)) (q:=⟨bp,j * 5+3,none⟩) R3;obtain ⟨e23,E23⟩:=cell?_setCell_some (w:=(W1.setCell ⟨bp,i * 5,none⟩ (.int .i64 vk))) (p:=⟨bp,i * 5+1,none⟩) (x:=(.string v1)) (q:=⟨bp,j * 5+3,none⟩) E13;obtain ⟨e33,E33⟩:=cell?_setCell_some (w:=((W1.setCell ⟨bp,i * 5,none⟩ (.int .i64 vk)).setCell ⟨bp,i * 5+1,none⟩ (.string v1))) (p:=⟨bp,i * 5+2,none⟩) (x:=(.string v2)) (q:=⟨bp,j * 5+3,none⟩) E23;obtain ⟨e43,E43⟩:=cell?_setCell_some (w:=(((W1.setCell ⟨bp,i * 5,none⟩ (.int .i64 vk)).setCell ⟨bp,i * 5+1,none⟩ (.string v1)).setCell ⟨bp,i * 5+2,none⟩ (.string v2))) (p:=⟨bp,i * 5+3,none⟩) (x:=(.slice vA vn vc)) (q:=⟨bp,j * 5+3,none⟩) E33;exact ⟨_,E43⟩
 obtain ⟨e3,E3⟩:=EX3;have EX4: ∃v,(((((W1.setCell ⟨bp,i * 5,none⟩ (.int .i64 vk)).setCell ⟨bp,i * 5+1,none⟩ (.string v1)).setCell ⟨bp,i * 5+2,none⟩ (.string v2)).setCell ⟨bp,i * 5+3,none⟩ (.slice vA vn vc)).setCell ⟨bp,i * 5+4,none⟩ (.slice vP vm vd)).cell? ⟨bp,j * 5+4,none⟩=some v:=by
  obtain ⟨e14,E14⟩:=cell?_setCell_some (w:=W1) (p:=⟨bp,i * 5,none⟩) (x:=(.int .i64 vk)) (q:=⟨bp,j * 5+4,none⟩) R4;obtain ⟨e24,E24⟩:=cell?_setCell_some (w:=(W1.setCell ⟨bp,i * 5,none⟩ (.int .i64 vk))) (p:=⟨bp,i * 5+1,none⟩) (x:=(.string v1)) (q:=⟨bp,j * 5+4,none⟩) E14;obtain ⟨e34,E34⟩:=cell?_setCell_some (w:=((W1.setCell ⟨bp,i * 5,none⟩ (.int .i64 vk)).setCell ⟨bp,i * 5+1,none⟩ (.string v1))) (p:=⟨bp,i * 5+2,none⟩) (x:=(.string v2)) (q:=⟨bp,j * 5+4,none⟩) E24;obtain ⟨e44,E44⟩:=cell?_setCell_some (w:=(((W1.setCell ⟨bp,i * 5,none⟩ (.int .i64 vk)).setCell ⟨bp,i * 5+1,none⟩ (.string v1)).setCell ⟨bp,i * 5+2,none⟩ (.string v2))) (p:=⟨bp,i * 5+3,none⟩) (x:=(.slice vA vn vc)) (q:=⟨bp,j * 5+4,none⟩) E34;obtain ⟨e54,E54⟩:=cell?_setCell_some (w:=((((W1.setCell ⟨bp,i * 5,none⟩ (.int .i64 vk)).setCell ⟨bp,i * 5+1,none⟩ (.string v1)).setCell ⟨bp,i * 5+2,none⟩ (.string v2)).setCell ⟨bp,i * 5+3,none⟩ (.slice vA vn vc))) (p:=⟨bp,i * 5+4,none⟩) (x:=(.slice vP vm vd)) (q:=⟨bp,j * 5+4,none⟩) E44;exact ⟨_,E54⟩
 obtain ⟨e4,E4⟩:=EX4;have hi2:i < l:=by omega
 have hj2:j < l:=by omega
 go_region
 go_end0
 refine ⟨rfl,W0,HW0.out, ?_⟩;rw[<-HW1.out];rfl
end
section
open Go.RowKit Shp Go.Sort
structure El where
 n:List UInt8
 t:Sh
 q:Ptr
 F:List Nat
instance:Inhabited El:=⟨⟨[],⟨0,[],[],[],[]⟩,⟨none,0,none,0⟩,[]⟩⟩
def ltEl (a b:El):Bool:=decide (a.n < b.n)
theorem Z9U:SWO ltEl:=⟨fun x=>swo_ltStr.irrefl x.n,fun x y z=>swo_ltStr.trans x.n y.n z.n,fun x y z=>swo_ltStr.ntrans x.n y.n z.n⟩
structure Up2 (bn bp:Nat) (w w':World):Prop where
 os:w'.os=w.os
 tape:w'.tape=w.tape
 output:w'.output=w.output
 size:w.heap.size<=w'.heap.size
 block: ∀k,k < w.heap.size->k≠bn->k≠bp->w'.heap[k]? =w.heap[k]?
theorem Up2.refl (bn bp:Nat) (w:World):Up2 bn bp w w:=⟨rfl,rfl,rfl,Nat.le_refl _,fun _ _ _ _=>rfl⟩
theorem Up2.below {bn bp:Nat} {a b c:World} (h:Up2 bn bp a b) (k:Below a.heap.size b c):Up2 bn bp a c:=
 ⟨k.os.trans h.os,k.tape.trans h.tape,k.output.trans h.output,Nat.le_trans h.size k.size,fun x h1 h2 h3=>(k.block x h1).trans (h.block x h1 h2 h3)⟩
theorem Up2.set {bn bp:Nat} {a b:World} (h:Up2 bn bp a b) {p:Addr} (hp:p.block=bn\/p.block=bp) (v:Value):Up2 bn bp a (b.setCell p v):=
 ⟨h.os,h.tape,h.output,by simpa[World.setCell] using h.size,fun x h1 h2 h3=>(Below.heap_setCell _ _ _ _ (fun e=>by rcases hp with e2 | e2 <;> omega)).trans (h.block x h1 h2 h3)⟩
theorem Up2.drew {bn bp:Nat} {a b:World} (h:Up2 bn bp a b):Up2 bn bp a b.drew:=⟨h.os,h.tape,h.output,h.size,h.block⟩
theorem Up2.set5 {bn bp:Nat} {a b:World} (h:Up2 bn bp a b) (o:Nat) (a0 a1 a2 a3 a4:Value):Up2 bn bp a (set5 b bp o a0 a1 a2 a3 a4):=
 ((((h.set (Or.inr rfl) _).set (Or.inr rfl) _).set (Or.inr rfl) _).set (Or.inr rfl) _).set (Or.inr rfl) _
theorem Z6c (W:World) (b o:Nat) (a0 a1 a2 a3 a4:Value) (x:Addr) (h:b≠x.block): (set5 W b o a0 a1 a2 a3 a4).cell? x=W.cell? x:=by
 unfold set5;rw[World.cell?_setCell_far _ _ _ _ h,World.cell?_setCell_far _ _ _ _ h,World.cell?_setCell_far _ _ _ _ h,World.cell?_setCell_far _ _ _ _ h,World.cell?_setCell_far _ _ _ _ h]
theorem ZbM {b x y:Nat} (h:x≠y): (⟨b,x,none⟩:Addr)≠⟨b,y,none⟩:=fun e=>h (by injection e)
theorem so {W:World} {b x y:Nat} {v:Value} (h:x≠y): (W.setCell ⟨b,x,none⟩ v).cell? ⟨b,y,none⟩=W.cell? ⟨b,y,none⟩:=World.cell?_setCell_other _ _ _ _ (ZbM h)
theorem ss {W:World} {b x:Nat} {v u:Value} (h:W.cell? ⟨b,x,none⟩=some u): (W.setCell ⟨b,x,none⟩ v).cell? ⟨b,x,none⟩=some v:=World.cell?_setCell_same _ _ _ h
theorem ZaZ (W:World) (b o:Nat) (a0 a1 a2 a3 a4:Value) (x:Nat) (h:x < o\/o+4 < x): (set5 W b o a0 a1 a2 a3 a4).cell? ⟨b,x,none⟩=W.cell? ⟨b,x,none⟩:=by
 unfold set5;rw[so,so,so,so,so] <;> omega
theorem Z44 (W:World) (b o:Nat) (t:Sh) (q:Ptr) (t':Sh) (q':Ptr) (h:Sh5 W b o t' q'):
 Sh5 (set5 W b o (.int .i64 t.kind) (.string ⟨t.of_.toArray⟩) (.string ⟨t.name.toArray⟩) (.slice q.A t.names.length q.c) (.slice q.P t.parts.length q.d)) b o t q:=by
 obtain ⟨h0,h1,h2,h3,h4⟩:=h;unfold set5;refine ⟨?_, ?_, ?_, ?_, ?_⟩
 {rw[so,so,so,so]
  {exact ss h0}
  all_goals omega}
 {rw[so,so,so]
  {exact ss ((so (by omega)).trans h1)}
  all_goals omega}
 {rw[so,so]
  {exact ss ((so (by omega)).trans ((so (by omega)).trans h2))}
  all_goals omega}
 {rw[so]
  {exact ss ((so (by omega)).trans ((so (by omega)).trans ((so (by omega)).trans h3)))}
  all_goals omega}
 {exact ss ((so (by omega)).trans ((so (by omega)).trans ((so (by omega)).trans ((so (by omega)).trans h4))))}
theorem Z3f (W:World) (b i k:Nat) (a0 a1 a2 a3 a4:Value) (t:Sh) (q:Ptr) (hne:k≠i) (h:Sh5 W b (k * 5) t q):Sh5 (set5 W b (i * 5) a0 a1 a2 a3 a4) b (k * 5) t q:=by
 obtain ⟨h0,h1,h2,h3,h4⟩:=h;refine ⟨?_, ?_, ?_, ?_, ?_⟩ <;> rw[ZaZ _ _ _ _ _ _ _ _ _ (by omega)] <;> assumption
structure FSt (w0:World) (bn bp N:Nat) (d:Array El) (w:World):Prop where
 size:d.size=N
 tx: ∀i,i < N->w.cell? ⟨bn,i,none⟩=some (.string ⟨(d[i]!).n.toArray⟩)
 pa: ∀i,i < N->Sh5 w bp (i * 5) (d[i]!).t (d[i]!).q
 fn: ∀k,w.frozen? ⟨bn,k,none⟩=false
 fp: ∀k,w.frozen? ⟨bp,k,none⟩=false
 ln:bn < w0.heap.size
 lp:bp < w0.heap.size
 ne:bn≠bp
 up:Up2 bn bp w0 w
theorem FSt.keep {w0:World} {bn bp N:Nat} {d:Array El} {w w':World} (h:FSt w0 bn bp N d w) (hb:Below w0.heap.size w w'):FSt w0 bn bp N d w':=
 ⟨h.size,fun i hi=>(hb.cell (p:=⟨bn,i,none⟩) h.ln).trans (h.tx i hi),fun i hi=>(h.pa i hi).of (fun k=>hb.cell (p:=⟨bp,k,none⟩) h.lp),fun k=>(hb.frozen (p:=⟨bn,k,none⟩) h.ln).trans (h.fn k),
  fun k=>(hb.frozen (p:=⟨bp,k,none⟩) h.lp).trans (h.fp k),h.ln,h.lp,h.ne,h.up.below hb⟩
theorem Z5s {W:World} {b o c:Nat} {t:Sh} {q:Ptr} {v:Value} {x:Nat} (hne:b≠c) (h:Sh5 W c o t q):Sh5 (W.setCell ⟨b,x,none⟩ v) c o t q:=
 h.of fun k=>World.cell?_setCell_far _ _ _ _ hne
theorem Z8z (w0:World) (bn bp N:Nat) (K:Int) (o m:List UInt8) (c l dd:Nat) (hN:N < 400000) (hl:N<=l) (hl2:l < 1000000):
 Srt N w0.heap.size (.agg #[.int .i64 K,.string ⟨o.toArray⟩,.string ⟨m.toArray⟩,.slice (some ⟨bn,0,none⟩) N c,.slice (some ⟨bp,0,none⟩) l dd]) ltEl (FSt w0 bn bp N) where
 less d w i j h hi0 hi hj0 hj:=by
  obtain ⟨a,rfl⟩:=Int.eq_ofNat_of_zero_le hi0;obtain ⟨b,rfl⟩:=Int.eq_ofNat_of_zero_le hj0;have ha:a < N:=by omega
  have hb:b < N:=by omega
  refine (Z8x K ⟨o.toArray⟩ ⟨m.toArray⟩ bn N c dd (some ⟨bp,0,none⟩) l _ _ a b w ha hb (by omega) (Nat.lt_of_lt_of_le h.ln h.up.size) (h.tx a ha) (h.tx b hb)).mono ?_;rintro e w' ⟨rfl,hw⟩;exact ⟨rfl,h.keep (hw.mono h.up.size),hw.size,fun x _ hx=>hw.block x hx⟩
 swap d w i j h hi0 hi hj0 hj:=by
  obtain ⟨a,rfl⟩:=Int.eq_ofNat_of_zero_le hi0;obtain ⟨b,rfl⟩:=Int.eq_ofNat_of_zero_le hj0;have ha:a < N:=by omega
  have hb:b < N:=by omega
  have hs:=h.size;obtain ⟨p0,p1,p2,p3,p4⟩:=h.pa a ha;obtain ⟨r0,r1,r2,r3,r4⟩:=h.pa b hb;have hnw:=Nat.lt_of_lt_of_le h.ln h.up.size;have hpw:=Nat.lt_of_lt_of_le h.lp h.up.size;refine (Z8y K ⟨o.toArray⟩ ⟨m.toArray⟩ bn N c bp l dd _ _ a b _ _ _ _ _ _ _ _ _ _ _ _ _ _ _ _ _ _ w ha hb hl hl2 hnw hpw h.ne (h.tx a ha) (h.tx b hb) h.fn h.fp p0 r0 p1 r1 p2 r2 p3 r3 p4 r4).mono ?_;rintro e w' ⟨rfl,W0,hW0,rfl⟩;have h0:=h.keep (hW0.mono h.up.size);have hne:=h.ne;have ea: ((a:Nat):Int).toNat=a:=by omega
  have eb: ((b:Nat):Int).toNat=b:=by omega
  rw[ea,eb];have hget:=fun k=>swp_get d (i:=a) (j:=b) (by omega) (by omega) k;refine ⟨rfl,⟨by rw[size_swp]; exact hs,fun k hk=> ?_,fun k hk=> ?_,fun k=> ?_,fun k=> ?_,h.ln,h.lp,hne, ?_⟩, ?_, ?_⟩
  {rw[World.cell?_drew,Z6c _ _ _ _ _ _ _ _ _ hne.symm,Z6c _ _ _ _ _ _ _ _ _ hne.symm,World.cell?_drew];by_cases hkb:k=b
   {subst hkb;rw[swp_right d a k (by omega)];obtain ⟨v,hv⟩:=cell?_setCell_some (w:=W0) (p:=⟨bn,a,none⟩) (x:= .string ⟨(d[k]!).n.toArray⟩) (q:=⟨bn,k,none⟩) (h0.tx k hk);exact ss hv}
   {rw[so (Ne.symm hkb)];by_cases hka:k=a
    {subst hka;rw[swp_left d k b (by omega) hkb];exact ss (h0.tx k hk)}
    {rw[so (Ne.symm hka),swp_other d a b k hka hkb];exact h0.tx k hk}}}
  {have hz: ∀k,k < N->Sh5 ((((W0.setCell ⟨bn,a,none⟩ (.string ⟨(d[b]!).n.toArray⟩)).setCell ⟨bn,b,none⟩ (.string ⟨(d[a]!).n.toArray⟩)).drew)) bp (k * 5) (d[k]!).t (d[k]!).q:=fun k hk=>
    (Z5s hne (Z5s hne (h0.pa k hk))).of fun _=>World.cell?_drew _ _
   refine Sh5.of (w:=set5 _ _ _ _ _ _ _ _) ?_ (fun _=>World.cell?_drew _ _);by_cases hkb:k=b
   {subst hkb;rw[swp_right d a k (by omega)];by_cases hka:k=a
    {subst hka;exact Z44 _ _ _ _ _ _ _ (Z44 _ _ _ _ _ _ _ (hz k hk))}
    {exact Z44 _ _ _ _ _ _ _ (Z3f _ _ _ _ _ _ _ _ _ _ _ hka (hz k hk))}}
   {refine Z3f _ _ _ _ _ _ _ _ _ _ _ hkb ?_;by_cases hka:k=a
    {subst hka;rw[swp_left d k b (by omega) hkb];exact Z44 _ _ _ _ _ _ _ (hz k hk)}
    {rw[swp_other d a b k hka hkb];exact Z3f _ _ _ _ _ _ _ _ _ _ _ hka (hz k hk)}}}
  {have:=h0.fn k;simpa[set5,World.frozen?_drew] using this}
  {have:=h0.fp k;simpa[set5,World.frozen?_drew] using this}
  {exact (((((h0.up.set (Or.inl rfl) _).set (Or.inl rfl) _).drew).set5 _ _ _ _ _ _).set5 _ _ _ _ _ _).drew}
  {have:=hW0.size;simpa[set5,World.setCell] using this}
  {intro x hx1 hx2;have hn:x≠bn:=by have:=h.ln; omega
   have hp:x≠bp:=by have:=h.lp; omega
   have hU:=((((((Up2.refl bn bp W0).set (Or.inl rfl) (.string ⟨(d[b]!).n.toArray⟩) (p:=⟨bn,a,none⟩)).set (Or.inl rfl) (.string ⟨(d[a]!).n.toArray⟩) (p:=⟨bn,b,none⟩)).drew).set5 (a * 5) (.int .i64 (d[b]!).t.kind) (.string ⟨(d[b]!).t.of_.toArray⟩) (.string ⟨(d[b]!).t.name.toArray⟩) (.slice (d[b]!).q.A (d[b]!).t.names.length (d[b]!).q.c) (.slice (d[b]!).q.P (d[b]!).t.parts.length (d[b]!).q.d)).set5 (b * 5) (.int .i64 (d[a]!).t.kind) (.string ⟨(d[a]!).t.of_.toArray⟩) (.string ⟨(d[a]!).t.name.toArray⟩) (.slice (d[a]!).q.A (d[a]!).t.names.length (d[a]!).q.c) (.slice (d[a]!).q.P (d[a]!).t.parts.length (d[a]!).q.d)).drew;exact (hU.block x (Nat.lt_of_lt_of_le hx2 hW0.size) hn hp).trans (hW0.block x hx2)}
 size d w h:=h.size
 big:=by omega
 base d w h:=h.up.size
 keep d w w' h hb:=h.keep hb
 mL w:=by kernel_rfl
 mS w:=by kernel_rfl
theorem Z7k (t:Sh) (q:Ptr) (w:World) (h0:t.names.length=0):
 Y9 52 #[.iface 92 (.agg (Y8 t q))] w (.tuple #[]):=by
 have H:Srt t.names.length w.heap.size (.agg (Y8 t q)) ltEl (fun d w1=>d.size=t.names.length/\Below w.heap.size w w1):= {
  less:=fun d w1 i j h hi0 hi=>absurd hi (by omega)
  swap:=fun d w1 i j h hi0 hi=>absurd hi (by omega)
  size:=fun d w1 h=>h.1
  big:=by omega
  base:=fun d w1 h=>h.2.size
  keep:=fun d w1 w2 h hb=>⟨h.1,h.2.trans hb⟩
  mL:=fmL t q
  mS:=fmS t q }
 exact (Z4N H Z9U (fmN t q) (fun d w1 h=>(Z5r t q w1).mono fun e w2 ⟨he,hb⟩=>⟨he,h.1,Z02 h.2 hb⟩) #[] w ⟨by rw[h0]; rfl,Below.refl _ _⟩).mono fun e w' ⟨he,d',_,_,h⟩=>⟨he,h.2⟩
def els (t:Sh) (qs:Nat->Ptr) (Fs:Nat->List Nat):Array El:=((List.range t.names.length).map fun i=>(⟨t.names.getD i [],t.parts.getD i ⟨0,[],[],[],[]⟩,qs i,Fs i⟩:El)).toArray
section
variable (t : Sh) (qs : Nat -> Ptr) (Fs : Nat -> List Nat)
include t qs Fs
theorem Z3g: (els t qs Fs).size=t.names.length:=by simp[els]
theorem Z6d (i:Nat) (h:i < t.names.length) (h2:i < t.parts.length): (els t qs Fs)[i]! =⟨t.names[i],t.parts[i],qs i,Fs i⟩:=by
 rw[getElem!_pos (els t qs Fs) i (by rw[Z3g]; exact h)];simp[els,h,h2]
end
theorem Z8A (t:Sh) (q:Ptr) (qs:Nat->Ptr) (Fs:Nat->List Nat) (bn bp:Nat) (w:World) (hA:q.A=some ⟨bn,0,none⟩) (hP:q.P=some ⟨bp,0,none⟩) (hl:t.names.length=t.parts.length) (hN:t.names.length < 400000)
    (ht:TxR w bn t.names) (hp:PaR w bp t.parts qs) (hne:bn≠bp):
    Calls Tryd.prog 52 #[.iface 92 (.agg #[.int .i64 t.kind,.string ⟨t.of_.toArray⟩,.string ⟨t.name.toArray⟩,.slice q.A t.names.length q.c,.slice q.P t.parts.length q.d])] w fun e w'=>e= .returned (.tuple #[])/\
      ∃d',PermIn 0 t.names.length (els t qs Fs) d'/\SortedIn ltEl 0 t.names.length d'/\FSt w bn bp t.names.length d' w':=by
  have hlen:=Z5r t q;have mN:=fmN t q;rw[hA,hP] at hlen mN ⊢;have H:=Z8z w bn bp t.names.length t.kind t.of_ t.name q.c t.parts.length q.d hN (by omega) (by omega);refine Z4N H Z9U mN (fun d w1 h=>(hlen w1).mono fun e w2 ⟨he,hb⟩=>⟨he,h.keep (hb.mono h.up.size)⟩) (els t qs Fs) w ?_;exact ⟨Z3g t qs Fs,fun i hi=>by rw[Z6d t qs Fs i hi (by omega)]; exact ht.at_ i hi,fun i hi=>by rw[Z6d t qs Fs i hi (by omega)]; exact hp.at_ i (by omega),ht.fz,hp.fz,ht.lt,hp.lt,hne,Up2.refl _ _ _⟩
theorem Z8B {N:Nat} {d d':Array El} (h:PermIn 0 N d d') (hN:d.size=N):d'.toList.Perm d.toList:=by
 obtain ⟨h1,_,h3⟩:=h;have e:d.extract 0 N=d:=by rw[<-hN]; exact Array.extract_size
 have e':d'.extract 0 N=d':=by rw[<-hN, <-h1]; exact Array.extract_size
 rwa [e,e'] at h3
theorem Z6e {N:Nat} {d:Array El} (h:SortedIn ltEl 0 N d) (hN:d.size=N): (d.toList.map fun x=>(x.n,x.t)).Pairwise (fun a b:Fld=>a.1<=b.1):=by
 rw[List.pairwise_map,List.pairwise_iff_getElem];intro i j hi hj hij;have:=h i j (Nat.zero_le _) hij (by simpa[hN] using hj);simp only[ltEl,decide_eq_false_iff_not,List.not_lt] at this;rw[getElem!_pos d i (by simpa using hi),getElem!_pos d j (by simpa using hj)] at this;simpa using this
theorem Z8C {t t':Sh} {q:Ptr} (h:Small t q) (ho:t'.of_=t.of_) (hn:t'.name=t.name) (hns:t'.names.Perm t.names) (hp:t'.parts.length=t.parts.length):Small t' q:=by
 have hl:=hns.length_eq;obtain ⟨h1,h2,h3,h4,h5,h6,h7,h8,h9⟩:=h;exact ⟨by rw[ho]; exact h1,by rw[hn]; exact h2,fun x hx=>h3 x (hns.mem_iff.1 hx),by rw[hl]; exact h4,by rw[hp]; exact h5,by rw[hl]; exact h6,by rw[hp]; exact h7,h8,h9⟩
theorem Zb0 {w0 W:World} {t:Sh} {q:Ptr} {bn bp N:Nat} {qs:Nat->Ptr} {Fs:Nat->List Nat} {d:Array El} (hA:q.A=some ⟨bn,0,none⟩) (hP:q.P=some ⟨bp,0,none⟩) (hs:Small t q)
 (hN:t.names.length=N) (hN2:t.parts.length=N) (hf:FSt w0 bn bp N d W) (hp:d.toList.Perm (els t qs Fs).toList) (hr: ∀i (h:i < t.parts.length),Own W (qs i) (t.parts[i]'h) (Fs i)):
 Own W q ⟨t.kind,t.of_,t.name,d.toList.map El.n,d.toList.map El.t⟩ ([bn]++ [bp]++d.toList.flatMap El.F)/\([bn]++ [bp]++d.toList.flatMap El.F).Perm ([bn]++ [bp]++(List.range t.parts.length).flatMap Fs):=by
 have hsz:=hf.size;have hall: ∀x∈d.toList,Own W x.q x.t x.F:=fun x hx=>by
  have hx2:=hp.mem_iff.1 hx;obtain ⟨i,hi,rfl⟩:=List.getElem_of_mem hx2;have hi2:i < t.names.length:=by simpa[els] using hi
  have:=Z6d t qs Fs i hi2 (by omega);rw[getElem!_pos (els t qs Fs) i (by rw[Z3g]; exact hi2)] at this;rw[Array.getElem_toList,this];exact hr i (by omega)
 have hen: ((els t qs Fs).toList.map El.n)=t.names:=by
  apply List.ext_getElem
  {simp[els]}
  {intro i h1 h2;simp[els,h2]}
 have heF: (els t qs Fs).toList.flatMap El.F=(List.range t.parts.length).flatMap Fs:=by
  rw[hN2, <-hN];simp[els,List.flatMap_map]
 have hget: ∀i (h:i < d.toList.length),d[i]! =d.toList[i]'h:=fun i h=>by
  rw[getElem!_pos d i (by simpa using h)];simp
 refine ⟨.mk q _ _ [bn] [bp] (fun i=>(d[i]!).q) (fun i=>(d[i]!).F) (Z8C hs rfl rfl ((hp.map El.n).trans (by rw[hen])) (by simp; omega)) ?_ ?_ ?_ ?_, ?_⟩
 {refine Or.inr ⟨bn,hA,rfl,Nat.lt_of_lt_of_le hf.ln hf.up.size,fun i hi=> ?_,hf.fn⟩;have hi2:i < d.toList.length:=by simpa using hi
  rw[hf.tx i (by simpa[hsz] using hi2),hget i hi2];simp}
 {refine Or.inr ⟨bp,hP,rfl,Nat.lt_of_lt_of_le hf.lp hf.up.size,fun i hi=> ?_,hf.fp⟩;have hi2:i < d.toList.length:=by simpa using hi
  have:=hf.pa i (by simpa[hsz] using hi2);rw[hget i hi2] at this;simpa[hget i hi2] using this}
 {intro i hi;have hi2:i < d.toList.length:=by simpa using hi
  have:=hall _ (List.getElem_mem hi2);simpa[hget i hi2] using this}
 {congr 1;show d.toList.flatMap El.F=(List.range (d.toList.map El.t).length).flatMap (fun i=>(d[i]!).F);rw[List.length_map];have:d.toList=(List.range d.toList.length).map (fun i=>d[i]!):=by
   apply List.ext_getElem
   {simp}
   {intro i h1 h2;simp[hget i h1]}
  conv=>lhs; rw[this]
  rw[List.flatMap_map]}
 {rw[<-heF];exact List.Perm.append_left _ (List.Perm.flatMap_right El.F hp)}
end
section
open Go.RowKit Shp
structure UpF (F:List Nat) (w w':World):Prop where
 os:w'.os=w.os
 tape:w'.tape=w.tape
 output:w'.output=w.output
 size:w.heap.size<=w'.heap.size
 block: ∀k,k < w.heap.size->k∉F->w'.heap[k]? =w.heap[k]?
theorem UpF.refl (F:List Nat) (w:World):UpF F w w:=⟨rfl,rfl,rfl,Nat.le_refl _,fun _ _ _=>rfl⟩
theorem UpF.below {F:List Nat} {a b c:World} (h:UpF F a b) (k:Below b.heap.size b c):UpF F a c:=
 ⟨k.os.trans h.os,k.tape.trans h.tape,k.output.trans h.output,Nat.le_trans h.size k.size,fun x h1 h2=>(k.block x (Nat.lt_of_lt_of_le h1 h.size)).trans (h.block x h1 h2)⟩
theorem UpF.next {F G:List Nat} {a b c:World} (h:UpF F a b) (k:UpF G b c) (hs: ∀x∈G,x∈F):UpF F a c:=
 ⟨k.os.trans h.os,k.tape.trans h.tape,k.output.trans h.output,Nat.le_trans h.size k.size,fun x h1 h2=>(k.block x (Nat.lt_of_lt_of_le h1 h.size) (fun e=>h2 (hs x e))).trans (h.block x h1 h2)⟩
theorem UpF.same {F:List Nat} {w w':World} (h:UpF F w w') {b:Nat} (h1:b < w.heap.size) (h2:b∉F):Z0v w w' b:=
 ⟨fun k=>World.cell?_of_block (w:=w) (h.block b h1 h2),fun k=>World.frozen?_of_block (w:=w) (h.block b h1 h2)⟩
theorem Up2.upF {bn bp:Nat} {w w':World} (h:Up2 bn bp w w') {F:List Nat} (h1:bn∈F) (h2:bp∈F):UpF F w w':=
 ⟨h.os,h.tape,h.output,h.size,fun k hk hn=>h.block k hk (fun e=>hn (e▸h1)) (fun e=>hn (e▸h2))⟩
theorem Z0p {W W':World} {q:Ptr} {t:Sh} {F:List Nat} (h:Own W q t F) (hb:Below W.heap.size W W'):Own W' q t F:=
 h.of (fun b hm=>⟨fun k=>hb.cell (p:=⟨b,k,none⟩) (h.lt b hm),fun k=>hb.frozen (p:=⟨b,k,none⟩) (h.lt b hm)⟩) hb.size
theorem Z2D (t:Sh): (sorted t).kind=t.kind/\(sorted t).of_=t.of_/\(sorted t).name=t.name:=by
 rw[Z0d]; split <;> exact ⟨rfl,rfl,rfl⟩
theorem Z4e {t:Sh} (h:t.names= []\/t.names.length=t.parts.length): (sorted t).names.length=t.names.length/\(sorted t).parts.length=t.parts.length:=by
 rw[Z0d];split
 {rename_i h0
  simp[h0]}
 {rename_i h0
  rcases h with h | h
  {exact absurd h h0}
  {have:=(Z0w (t.names.zip (t.parts.map sorted))).length_eq;rw[List.length_zip,List.length_map] at this;simp only[List.length_map,this];omega}}
theorem Z1s {t:Sh} (h:right t=true):t.names= []\/t.names.length=t.parts.length/\t.names.Nodup:=by
 have hf:=Z0c h;unfold fits at hf;split at hf
 {simp only[Bool.and_eq_true,decide_eq_true_eq] at hf;exact Or.inl (List.eq_nil_of_length_eq_zero hf.1.2)}
 {split at hf
  {cases hf}
  {split at hf
   {simp only[Bool.and_eq_true,decide_eq_true_eq] at hf;refine Or.inr ⟨hf.2, ?_⟩;have:=hf.1;simp only[areNames,Bool.and_eq_true,Z5o] at this;exact this.2}
   {split at hf
    {cases hf}
    {rename_i h0
     exact Or.inl (List.eq_nil_of_length_eq_zero (by omega))}}}}
theorem Z4P {W:World} {b o:Nat} {t:Sh} {q:Ptr} (hr:right t=true) (h:Sh5 W b o t q):Sh5 W b o (sorted t) q:=by
 obtain ⟨k1,k2,k3⟩:=Z2D t;obtain ⟨l1,l2⟩:=Z4e (t:=t) ((Z1s hr).imp id And.left);unfold Sh5 at *;rw[k1,k2,k3,l1,l2];exact h
theorem Z6f {Fs:Nat->List Nat}: ∀n,((List.range n).flatMap Fs).Nodup->(∀j,j < n->(Fs j).Nodup)/\ ∀i j,i < j->j < n-> ∀b∈Fs i,b∉Fs j
 | 0,_=>⟨fun j hj=>absurd hj (by omega),fun i j _ hj=>absurd hj (by omega)⟩
 | n+1,h=>by
  rw[List.range_succ,List.flatMap_append,List.nodup_append] at h;obtain ⟨h1,h2,h3⟩:=h;obtain ⟨k1,k2⟩:=Z6f n h1;have e: [n].flatMap Fs=Fs n:=by simp
  rw[e] at h2 h3;refine ⟨fun j hj=> ?_,fun i j hij hj b hb hb2=> ?_⟩
  {rcases Nat.lt_or_eq_of_le (Nat.le_of_lt_succ hj) with h | rfl
   {exact k1 j h}
   {exact h2}}
  {rcases Nat.lt_or_eq_of_le (Nat.le_of_lt_succ hj) with h | rfl
   {exact k2 i j hij h b hb hb2}
   {exact h3 b (List.mem_flatMap.2 ⟨i,List.mem_range.2 hij,hb⟩) b hb2 rfl}}
theorem Z2E {FN FP:List Nat} {n:Nat} {Fs:Nat->List Nat} (h: (FN++FP++(List.range n).flatMap Fs).Nodup):
 (∀b∈FN,b∉FP)/\(∀b∈FN,∀j,j < n->b∉Fs j)/\(∀b∈FP,∀j,j < n->b∉Fs j)/\(∀j,j < n->(Fs j).Nodup)/\ ∀i j,i < n->j < n->i≠j-> ∀b∈Fs i,b∉Fs j:=by
 rw[List.nodup_append] at h;obtain ⟨h1,h2,h3⟩:=h;rw[List.nodup_append] at h1;have hm: ∀j,j < n-> ∀b∈Fs j,b∈(List.range n).flatMap Fs:=fun j hj b hb=>List.mem_flatMap.2 ⟨j,List.mem_range.2 hj,hb⟩;obtain ⟨h4,h5⟩:=Z6f n h2;refine ⟨fun b hb hb2=>h1.2.2 b hb b hb2 rfl,fun b hb j hj hb2=>h3 b (List.mem_append_left _ hb) b (hm j hj b hb2) rfl,fun b hb j hj hb2=>h3 b (List.mem_append_right _ hb) b (hm j hj b hb2) rfl,h4,fun i j hi hj hne b hb hb2=> ?_⟩;rcases Nat.lt_or_gt_of_ne hne with h | h
 {exact h5 i j h hj b hb hb2}
 {exact h5 j i h hi b hb2 hb}
end
section
open Shp
theorem Z0f {t:Sh} (h:check t=0):size t<=400/\deep t<=40/\right t=true:=by
 unfold check at h;by_cases h4:400 < size t
 {rw[if_pos h4] at h; omega}
 {rw[if_neg h4] at h;by_cases h40:40 < deep t
  {rw[if_pos h40] at h; omega}
  {rw[if_neg h40] at h;cases hr:right t with
   | false=>rw[hr] at h; simp at h
   | true=>exact ⟨by omega,by omega,rfl⟩}}
theorem Z4Q {l m:List Sh} (h:l.Perm m):sizes l=sizes m:=by
 induction h with
 | nil=>rfl
 | cons x _ ih=>simp[sizes,ih]
 | swap x y l=>simp[sizes]; omega
 | trans _ _ ih1 ih2=>exact ih1.trans ih2
theorem Z9W {f:Sh->Sh} {l:List Sh} (h: ∀p∈l,size (f p)=size p):sizes (l.map f)=sizes l:=by
 induction l with
 | nil=>rfl
 | cons a l ih=>simp[sizes,h a (by simp),ih (fun p hp=>h p (by simp[hp]))]
structure Like (f:Sh->Sh) (t u:Sh):Prop where
 k:u.kind=t.kind
 o:u.of_=t.of_
 n:u.name=t.name
 ns:u.names.Perm t.names
 ps:u.parts.Perm (t.parts.map f)
theorem Like.size {f:Sh->Sh} {t u:Sh} (h:Like f t u) (hp: ∀p∈t.parts,size (f p)=size p):size u=size t:=by
 rw[size_eq,size_eq,Z4Q h.ps,Z9W hp]
end
end Go.Proofs.YtchklpedlbkgaaaDoor
namespace Sub
section
open Shp Go.Proofs.YtchklpedlbkgaaaDoor
def stepNarrow (g:Sh->Sh->Bool) (c:Cl):Bool:=
 match c with
 | (_,_,none)=>true
 | (_,some p,some q)=>g p q
 | (_,none,some _)=>false
def stepWide (g:Sh->Sh->Bool) (c:Cl):Bool:=
 match c with
 | (_,none,_)=>true
 | (_,some p,some q)=>g p q
 | (_,some _,none)=>false
def placesAll (g:Sh->Sh->Bool):List Sh->List Sh->Bool
 | [],[]=>true
 | a::us,b::vs=>(if us.isEmpty then g a b else g b a)&&placesAll g us vs
 | [],_::_=>false
 | _::_,[]=>false
def bw:Nat->Sh->Sh->Bool
 | 0,_,_=>false
 | f+1,a,b=>
  if a.kind≠b.kind then false
  else if a.kind=6 then (calls a b).all (stepNarrow (bw f))
  else if a.kind=7 then (calls a b).all (stepWide (bw f))
  else decide (a.of_=b.of_/\a.name=b.name)&&placesAll (bw f) a.parts b.parts
def whole (o:Option Sh):Option Sh:=o.bind (fun j=>if check j=0 then some (sorted j) else none)
def J (up:Bool) (a b:Sh):Option Sh:=if check a=0/\check b=0 then whole (bound 40 up a b) else none
def below (a b:Sh):Bool:=decide (check a=0)&&decide (check b=0)&&bw 40 a b
end
end Sub
namespace Go.Proofs.YtchklpedlbkgaaaDoor
open Go.RowKit Shp Sub
namespace SubM
structure Two (f:Nat) (a b:Sh):Prop where
 ra:right a=true
 rb:right b=true
 da:deep a<=f
 db:deep b<=f
 sa:size a<=400
 sb:size b<=400
theorem Two.part {f:Nat} {a b p q:Sh} (h:Two (f+1) a b) (hp:p∈a.parts) (hq:q∈b.parts):Two f p q:=by
 obtain ⟨ra,rb,da,db,sa,sb⟩:=h;have h1:=Z0F hp;have h2:=Z0F hq;have h3:=Z1l hp;have h4:=Z1l hq;rw[Z0l] at da db;rw[size_eq] at sa sb;exact ⟨Z05 ra hp,Z05 rb hq,by omega,by omega,by omega,by omega⟩
theorem Two.swap {f:Nat} {a b:Sh} (h:Two f a b):Two f b a:=⟨h.rb,h.ra,h.db,h.da,h.sb,h.sa⟩
end SubM
end Go.Proofs.YtchklpedlbkgaaaDoor
namespace Go.Proofs.YtchklpedlbkgaaaDoor
open Go.RowKit Shp Sub
namespace SubM
namespace RX
def lay (W:World) (g:Nat) (t:Sh) (q:Ptr):World:=
 ((((W.setCell ⟨g,0,none⟩ (.int .i64 t.kind)).setCell ⟨g,1,none⟩ (.string ⟨t.of_.toArray⟩)).setCell ⟨g,2,none⟩ (.string ⟨t.name.toArray⟩)).setCell ⟨g,3,none⟩ (.slice q.A t.names.length q.c)).setCell ⟨g,4,none⟩ (.slice q.P t.parts.length q.d)
section
variable (W : World) (g : Nat) (t : Sh) (q : Ptr)
include W g t q
theorem lay_upd:Upd (fun b=>b=g) W (lay W g t q):=
 Upd.set (Upd.set (Upd.set (Upd.set (Upd.set (Upd.refl (fun b=>b=g) W) ⟨g,0,none⟩ (fun _=>rfl) _) ⟨g,1,none⟩ (fun _=>rfl) _) ⟨g,2,none⟩ (fun _=>rfl) _) ⟨g,3,none⟩ (fun _=>rfl) _) ⟨g,4,none⟩ (fun _=>rfl) _
theorem lay_size: (lay W g t q).heap.size=W.heap.size:=by simp[lay,World.setCell]
theorem lay_fz (j:Nat): (lay W g t q).frozen? ⟨g,j,none⟩=W.frozen? ⟨g,j,none⟩:=by
 unfold lay; rw[World.frozen?_setCell,World.frozen?_setCell,World.frozen?_setCell,World.frozen?_setCell,World.frozen?_setCell]
end
theorem soc {W:World} {b x y:Nat} {v:Value} (h:x≠y): (W.setCell ⟨b,x,none⟩ v).cell? ⟨b,y,none⟩=W.cell? ⟨b,y,none⟩:=World.cell?_setCell_other _ _ _ _ (fun e=>by have:=congrArg Addr.off e; simp at this; omega)
theorem lay_at {W:World} {g:Nat} (t:Sh) (q:Ptr) (h: ∀j,j < 5-> ∃v,W.cell? ⟨g,j,none⟩=some v):Sh5 (lay W g t q) g 0 t q:=by
 obtain ⟨v0,h0⟩:=h 0 (by omega);obtain ⟨v1,h1⟩:=h 1 (by omega);obtain ⟨v2,h2⟩:=h 2 (by omega);obtain ⟨v3,h3⟩:=h 3 (by omega);obtain ⟨v4,h4⟩:=h 4 (by omega);unfold lay Sh5;simp only[Nat.zero_add];refine ⟨?_, ?_, ?_, ?_, ?_⟩
 {rw[soc (by omega),soc (by omega),soc (by omega),soc (by omega)]; exact World.cell?_setCell_same _ _ _ h0}
 {rw[soc (by omega),soc (by omega),soc (by omega)]; exact World.cell?_setCell_same _ _ _ (by rw[soc (by omega)]; exact h1)}
 {rw[soc (by omega),soc (by omega)]; exact World.cell?_setCell_same _ _ _ (by rw[soc (by omega),soc (by omega)]; exact h2)}
 {rw[soc (by omega)]; exact World.cell?_setCell_same _ _ _ (by rw[soc (by omega),soc (by omega),soc (by omega)]; exact h3)}
 {exact World.cell?_setCell_same _ _ _ (by rw[soc (by omega),soc (by omega),soc (by omega),soc (by omega)]; exact h4)}
end RX
theorem ZbZ {t' t:Sh} {q' q:Ptr} (h:sv t' q'=sv t q):t'.kind=t.kind/\t'.of_=t.of_/\t'.name=t.name/\q'.A=q.A/\t'.names.length=t.names.length/\q'.c=q.c/\q'.P=q.P/\t'.parts.length=t.parts.length/\q'.d=q.d:=by
 simp[sv] at h;exact ⟨h.1,h.2.1,h.2.2.1,h.2.2.2.1.1,h.2.2.2.1.2.1,h.2.2.2.1.2.2,h.2.2.2.2.1,h.2.2.2.2.2.1,h.2.2.2.2.2.2⟩
theorem Kept.move {S S' T:Nat->Prop} {W W':World} {x:El} (h:Kept S W x) (hu:Upd T W W') (hd: ∀b,b < W.heap.size->S b-> ¬T b/\S' b):Kept S' W' x:=fun W2 h1 h2=>
 h W2 (Nat.le_trans hu.size h1) (fun b hb hs=>(h2 b (Nat.lt_of_lt_of_le hb hu.size) (hd b hb hs).2).trans (hu.block b hb (hd b hb hs).1))
structure KNs (w0:World) (n0 gm hi pf:Nat) (fv:Value) (k:Int) (ok:Bool) (L:List Fld) (l:List El) (AN:Option Addr) (cN:Nat) (AP:Option Addr) (cP:Nat) (W:World):Prop where
 mm:Mk w0 gm hi k [] [] (L.map Prod.fst) l AN cN AP cP W
 eq:l.map Prod.fst=L.map Prod.snd
 kp:ok=true-> ∀x∈l,Kept (Free n0 hi AN AP) W x
 fc:W.cell? ⟨pf,0,none⟩=some fv
def KN (w0:World) (n0 gm hi pf:Nat) (fv:Value) (k:Int) (ok:Bool) (L:List Fld) (W:World):Prop:= ∃l AN cN AP cP,KNs w0 n0 gm hi pf fv k ok L l AN cN AP cP W
section
variable {w0 W W' : World} {n0 gm hi pf : Nat} {fv : Value} {k : Int} {ok : Bool} {L : List Fld} {l : List El} {AN AP : Option Addr} {cN cP : Nat}
theorem KNs.len (h:KNs w0 n0 gm hi pf fv k ok L l AN cN AP cP W):l.length=L.length:=by have:=congrArg List.length h.eq; simpa using this
theorem KNs.new (h:KNs w0 n0 gm hi pf fv k ok L l AN cN AP cP W) (hpf:pf < hi) (hb:Below W.heap.size W W'):KNs w0 n0 gm hi pf fv k ok L l AN cN AP cP W':=
 ⟨h.mm.new hb,h.eq,fun ho x hx=>(h.kp ho x hx).upd (T:=fun _=>False) (Upd.new hb) (fun _ _ _ h=>h),(hb.cell (p:=⟨pf,0,none⟩) (Nat.lt_of_lt_of_le hpf h.mm.hw)).trans h.fc⟩
theorem KNs.put (h:KNs w0 n0 gm hi pf fv k ok L l AN cN AP cP W) (hn:n0<=gm) (hpf:pf < hi) (hpg:pf≠gm) {nm:List UInt8} {t:Sh} {q:Ptr} {ok':Bool} (hok:ok'=true->ok=true) (hkp:ok'=true->Kept (Free n0 hi AN AP) W (t,q))
 {AN' AP':Option Addr} {cN' cP':Nat} (hm:Mk w0 gm hi k [] [] (L.map Prod.fst++ [nm]) (l++ [(t,q)]) AN' cN' AP' cP' W') (hp:PutOk W gm AN AP AN' AP' W'):KN w0 n0 gm hi pf fv k ok' (L++ [(nm,t)]) W':=by
 obtain ⟨hu,h1,h2⟩:=hp;have hg:=h.mm.gh;have key: ∀x,Kept (Free n0 hi AN AP) W x->Kept (Free n0 hi AN' AP') W' x:=fun x hx=>hx.move hu (fun b hb hf=>by
  refine ⟨fun ht=> ?_, ?_⟩
  {rcases hf with hf | ⟨hf,f1,f2⟩
   {rcases ht with ht | ht | ht
    {omega}
    {have:=(Z0u h.mm.rN b ht).1; omega}
    {have:=(Z0u h.mm.rP b ht).1; omega}}
   {rcases ht with ht | ht | ht
    {omega}
    {exact f1 ht}
    {exact f2 ht}}}
  · rcases hf with hf | ⟨hf,f1,f2⟩
    {exact Or.inl hf}
    · exact Or.inr ⟨hf,fun e=>(h1 b e).elim f1 (fun h=>by omega),fun e=>(h2 b e).elim f2 (fun h=>by omega)⟩)
 refine ⟨l++ [(t,q)],AN',cN',AP',cP',⟨by rw[List.map_append]; exact hm,by rw[List.map_append,List.map_append,h.eq]; rfl,fun ho x hx=> ?_, ?_⟩⟩
 {rcases List.mem_append.1 hx with hx | hx
  {exact key x (h.kp (hok ho) x hx)}
  {rw[List.mem_singleton.1 hx]; exact key _ (hkp ho)}}
 {refine (hu.cell (Nat.lt_of_lt_of_le hpf h.mm.hw) (fun ht=> ?_)).trans h.fc;rcases ht with ht | ht | ht
  {exact hpg ht}
  {have:=(Z0u h.mm.rN pf ht).1; omega}
  {have:=(Z0u h.mm.rP pf ht).1; omega}}
end
abbrev noneQ12:Ptr:=⟨none,0,none,0⟩
structure St0 (w0:World) (gm pf:Nat) (fv:Value) (k:Int) (W:World):Prop where
 up:Below w0.heap.size w0 W
 lo:w0.heap.size<=gm
 gw:gm < W.heap.size
 c5:Sh5 W gm 0 ⟨k,[],[],[],[]⟩ noneQ12
 fz: ∀j,W.frozen? ⟨gm,j,none⟩=false
 pw:pf < W.heap.size
 fc:W.cell? ⟨pf,0,none⟩=some fv
section
variable {w0 W W' : World} {n0 gm hi pf : Nat} {fv : Value} {k : Int}
theorem St0.fin (h:St0 w0 gm pf fv k W) (S:Nat->Prop):Sh5 W gm 0 (made k []) noneQ12/\Kept S W (made k [],noneQ12):=
 ⟨h.c5,fun W' _ _=> .mk _ _ 0 0 (fun _=>noneQ12) ⟨by simp[made],by simp[made],by simp[made],by simp[made],by simp[made],by simp[made],by simp[made],fun _=>rfl,fun _=>rfl⟩ (Or.inl rfl) (Or.inl rfl) (fun i hi=>by simp[made] at hi) (fun i hi=>by simp[made] at hi)⟩
section
variable {ok : Bool} {L : List Fld} (h : KN w0 n0 gm hi pf fv k ok L W)
include ok L h
theorem KN.fin: ∃q,Sh5 W gm 0 (made k L) q/\(ok=true->(∀x∈L.map Prod.fst,x.length<=1000)->L.length<=1000->Kept (fun b=>b < n0\/hi<=b) W (made k L,q)):=by
 obtain ⟨l,AN,cN,AP,cP,h⟩:=h;have he: (⟨k,[],[],L.map Prod.fst,l.map Prod.fst⟩:Sh)=made k L:=by rw[h.eq]; rfl
 refine ⟨⟨AN,cN,AP,cP⟩, ?_,fun ho hx hl=> ?_⟩
 {have hlen:=h.len;refine ⟨h.mm.c0,h.mm.c1,h.mm.c2,h.mm.c3, ?_⟩;have:=h.mm.c4;simp only[made,List.length_map];rw[hlen] at this;exact this}
 {have hlen:=h.len;have:=h.mm.at_ (n0:=n0) (h.kp ho) (by simp) (by simp) (fun x hm=>by have:=hx x hm; omega) (by rw[List.length_map]; omega) (by omega);rw[he] at this;exact this}
theorem KN.below:Below w0.heap.size w0 W/\gm < W.heap.size/\hi<=W.heap.size:=by
 obtain ⟨l,AN,cN,AP,cP,h⟩:=h;exact ⟨h.mm.up,Nat.lt_of_lt_of_le h.mm.gh h.mm.hw,h.mm.hw⟩
end
end
theorem Two.ln {f:Nat} {a b:Sh} (h:Two f a b) (A:Rec a):a.names.length<=400:=by rw[A.l]; have:=h.sa; have:=Z0L a.parts; rw[size_eq] at *; omega
structure Rc (rc:Nat) (W:World):Prop where
 lt:rc < W.heap.size
 ex: ∀j,j < 5-> ∃v,W.cell? ⟨rc,j,none⟩=some v
 fz: ∀j,W.frozen? ⟨rc,j,none⟩=false
theorem Rc.upd {T:Nat->Prop} {rc:Nat} {W W':World} (h:Rc rc W) (hu:Upd T W W') (hT: ¬T rc):Rc rc W':=
 ⟨Nat.lt_of_lt_of_le h.lt hu.size,fun j hj=>by
  obtain ⟨v,hv⟩:=h.ex j hj;exact ⟨v,(hu.cell h.lt hT).trans hv⟩,fun j=>(hu.frozen h.lt hT).trans (h.fz j)⟩
end SubM
end Go.Proofs.YtchklpedlbkgaaaDoor
namespace Go.Proofs.YtchklpedlbkgaaaDoor
open Go.RowKit
section
variable {P : Program} {ops : Array Oper} {Q : Exit -> Act -> World -> Prop}
theorem Z2R {d:Nat->Bool} {i j:Nat} (h:j≠i):also d i j=d j:=by
 unfold also;have:Nat.beq j i=false:=by cases hb:Nat.beq j i <;> first | rfl | exact absurd (Nat.eq_of_beq_eq_true hb) h
 rw[this]; rfl
end
end Go.Proofs.YtchklpedlbkgaaaDoor
namespace Go.Proofs.YtchklpedlbkgaaaDoor
open Go.RowKit Shp Sub
namespace SubM
def GetIs (n0:Nat) (o:Option Sh) (w:World) (e:Ending) (w':World):Prop:=
 ∃(t:Sh) (q:Ptr),e= .returned (.tuple #[sv t q,.bool o.isSome])/\Below w.heap.size w w'/\ ∀j,o=some j->t=j/\Kept (fun b=>b < n0\/w.heap.size<=b) w' (j,q)
structure GetI (W0:World) (n0:Nat) (tk:Nat->Value->Prop) (c:Nat) (o:Option Sh) (d:Nat->Bool) (u:Nat->Value) (W:World):Prop where
 vals: ∀j,j < c->d j=true->tk j (u j)
 up:Below W0.heap.size W0 W
 al:d (c+4)=true-> ∃g,u (c+4)= .pointer (some ⟨g,0,none⟩)/\W0.heap.size<=g/\g < W.heap.size/\(∀j,W.frozen? ⟨g,j,none⟩=false)/\ ∀j,j < 5-> ∃v,W.cell? ⟨g,j,none⟩=some v
 ca:d c=true-> ∃(t:Sh) (q:Ptr) (W2:World) (s:Nat),u c= .tuple #[sv t q,.bool o.isSome]/\W0.heap.size<=s/\s<=W2.heap.size/\
  (∀j,o=some j->t=j/\Kept (fun b=>b < n0\/s<=b) W2 (j,q))/\
  (d (c+1)=true->u (c+1)=u c)/\(d (c+2)=true->u (c+2)=sv t q)/\(d (c+3)=true->u (c+3)= .bool o.isSome)/\
  Upd (fun b=>d (c+4)=true/\u (c+4)= .pointer (some ⟨b,0,none⟩)) W2 W/\(∀g,d (c+4)=true->u (c+4)= .pointer (some ⟨g,0,none⟩)->g < s\/W2.heap.size<=g)/\(d (c+5)=true-> ∀g,u (c+4)= .pointer (some ⟨g,0,none⟩)->Sh5 W g 0 t q)/\(d (c+6)=true->u (c+6)= .bool o.isSome)
variable {W0 : World} {n0 : Nat} {tk : Nat -> Value -> Prop} {c : Nat} {o : Option Sh} {d : Nat -> Bool} {u : Nat -> Value} {W W' : World}
section
variable (h : GetI W0 n0 tk c o d u W) {i : Nat}
include h i
theorem GetI.putv {v:Value} (hv:tk i v): ∀j,j < c->also d i j=true->tk j (upd u i v j):=fun j hc hj=>by
 by_cases hij:j=i
 {subst hij; rw[Z06]; exact hv}
 {rw[Z08 d hij] at hj; rw[Z01 u v hij]; exact h.vals j hc hj}
theorem GetI.keepv (hi:c<=i) {v:Value}: ∀j,j < c->also d i j=true->tk j (upd u i v j):=fun j hc hj=>by
 have hij:j≠i:=by omega
 rw[Z08 d hij] at hj; rw[Z01 u v hij]; exact h.vals j hc hj
end
theorem GetI.start {W0:World} {u:Nat->Value}:GetI W0 n0 tk c o (fun _=>false) u W0.drew:=⟨nofun,Y2.drew,nofun,nofun⟩
section
variable (h : GetI W0 n0 tk c o d u W)
include h
theorem GetI.pure {i:Nat} (hi:i < c) {v:Value} (hv:tk i v):GetI W0 n0 tk c o (also d i) (upd u i v) W:=by
 have k: ∀j,c<=j->also d i j=d j/\upd u i v j=u j:=fun j hj=>⟨Z08 d (by omega),Z01 u v (by omega)⟩;refine ⟨h.putv hv,h.up, ?_, ?_⟩
 {rw[(k (c+4) (by omega)).1,(k (c+4) (by omega)).2]; exact h.al}
 {rw[(k c (by omega)).1,(k c (by omega)).2,(k (c+1) (by omega)).1,(k (c+1) (by omega)).2,(k (c+2) (by omega)).1,(k (c+2) (by omega)).2,(k (c+3) (by omega)).1,(k (c+3) (by omega)).2,(k (c+4) (by omega)).1,(k (c+4) (by omega)).2,(k (c+5) (by omega)).1,(k (c+6) (by omega)).1,(k (c+6) (by omega)).2];exact h.ca}
theorem GetI.call (h7:d c=false) (hd: ∀j,j=(c+1)\/j=(c+2)\/j=(c+3)\/j=(c+5)\/j=(c+6)->d j=false) {e:Ending} (hb:GetIs n0 o W e W'): ∃v,e= .returned v/\GetI W0 n0 tk c o (also d c) (upd u c v) W':=by
 obtain ⟨t,q,rfl,hbl,hj⟩:=hb;have k: ∀j,j≠c->also d c j=d j/\ ∀v,upd u c v j=u j:=fun j hj=>⟨Z08 d hj,fun v=>Z01 u v hj⟩;refine ⟨_,rfl,h.keepv (by omega),Z02 h.up hbl, ?_,fun _=>⟨t,q,W',W.heap.size,Z06 _ _ _,h.up.size,hbl.size,hj, ?_, ?_, ?_, ?_, ?_, ?_, ?_⟩⟩
 {rw[(k (c+4) (by omega)).1,(k (c+4) (by omega)).2];intro h11;obtain ⟨g,e,g1,g2,g3,g4⟩:=h.al h11;exact ⟨g,e,g1,Nat.lt_of_lt_of_le g2 hbl.size,fun j=>(hbl.frozen (p:=⟨g,j,none⟩) g2).trans (g3 j),fun j hj=>by
   obtain ⟨v,hv⟩:=g4 j hj;exact ⟨v,(hbl.cell (p:=⟨g,j,none⟩) g2).trans hv⟩⟩}
 {rw[(k (c+1) (by omega)).1,hd (c+1) (by omega)]; nofun}
 {rw[(k (c+2) (by omega)).1,hd (c+2) (by omega)]; nofun}
 {rw[(k (c+3) (by omega)).1,hd (c+3) (by omega)]; nofun}
 {exact Upd.refl _ _}
 {rw[(k (c+4) (by omega)).1,(k (c+4) (by omega)).2];intro g h11 e;obtain ⟨g',e',_,g2,_⟩:=h.al h11;rw[e'] at e;simp only[Value.pointer.injEq,Option.some.injEq,Addr.mk.injEq,and_true] at e;omega}
 {rw[(k (c+5) (by omega)).1,hd (c+5) (by omega)]; nofun}
 {rw[(k (c+6) (by omega)).1,hd (c+6) (by omega)]; nofun}
theorem GetI.read (h7:d c=true) {i:Nat} (hi:i=(c+1)\/i=(c+2)\/i=(c+3)\/i=(c+6)) {v:Value} (hd:d i=false) (hv: ∀t q,u c= .tuple #[sv t q,.bool o.isSome]->
 (i=(c+1)->v=u c)/\(i=(c+2)->v=sv t q)/\(i=(c+3)->v= .bool o.isSome)/\(i=(c+6)->v= .bool o.isSome)):GetI W0 n0 tk c o (also d i) (upd u i v) W:=by
 have k: ∀j,j≠i->also d i j=d j/\upd u i v j=u j:=fun j hj=>⟨Z08 d hj,Z01 u v hj⟩;refine ⟨h.keepv (by omega),h.up, ?_, ?_⟩
 {rw[(k (c+4) (by omega)).1,(k (c+4) (by omega)).2]; exact h.al}
 {rw[(k c (by omega)).1,(k c (by omega)).2,(k (c+4) (by omega)).1,(k (c+4) (by omega)).2,(k (c+5) (by omega)).1];intro _;obtain ⟨t,q,W2,s,e7,s1,s2,hj,e8,e9,e10,hu,hg,h12,h13⟩:=h.ca h7;obtain ⟨v8,v9,v10,v13⟩:=hv t q e7;refine ⟨t,q,W2,s,e7,s1,s2,hj,fun hd=> ?_,fun hd=> ?_,fun hd=> ?_,hu,hg,h12,fun hd=> ?_⟩
  {by_cases e:i=(c+1)
   {rw[<-e,Z06]; exact v8 e}
   {rw[(k (c+1) (Ne.symm e)).1] at hd; rw[(k (c+1) (Ne.symm e)).2]; exact e8 hd}}
  {by_cases e:i=(c+2)
   {rw[<-e,Z06]; exact v9 e}
   {rw[(k (c+2) (Ne.symm e)).1] at hd; rw[(k (c+2) (Ne.symm e)).2]; exact e9 hd}}
  {by_cases e:i=(c+3)
   {rw[<-e,Z06]; exact v10 e}
   {rw[(k (c+3) (Ne.symm e)).1] at hd; rw[(k (c+3) (Ne.symm e)).2]; exact e10 hd}}
  {by_cases e:i=(c+6)
   {rw[<-e,Z06]; exact v13 e}
   {rw[(k (c+6) (Ne.symm e)).1] at hd; rw[(k (c+6) (Ne.symm e)).2]; exact h13 hd}}}
end
theorem GetI.alloc (h:GetI W0 n0 tk c o d u W) (h11:d (c+4)=false) (h12:d (c+5)=false):GetI W0 n0 tk c o (also d (c+4)) (upd u (c+4) (.pointer (some ⟨W.heap.size,0,none⟩))) (W.alloc (.cells Yb 25)):=by
 have hb:=Z00 W (.cells Yb 25);have k: ∀j,j≠(c+4)->also d (c+4) j=d j/\ ∀v,upd u (c+4) v j=u j:=fun j hj=>⟨Z08 d hj,fun v=>Z01 u v hj⟩;refine ⟨h.keepv (by omega),Z02 h.up hb,fun _=>⟨W.heap.size,Z06 _ _ _,h.up.size,by simp,fun j=>by simp[go_sem],fun j hj=> ?_⟩, ?_⟩
 {rcases j with _ | _ | _ | _ | _ | j
  {exact ⟨.int .i64 0,by simp[go_sem]⟩}
  {exact ⟨.string ⟨#[]⟩,by simp[go_sem]⟩}
  {exact ⟨.string ⟨#[]⟩,by simp[go_sem]⟩}
  {exact ⟨.slice none 0 0,by simp[go_sem]⟩}
  {exact ⟨.slice none 0 0,by simp[go_sem]⟩}
  {omega}}
 {rw[(k c (by omega)).1,(k c (by omega)).2,(k (c+1) (by omega)).1,(k (c+1) (by omega)).2,(k (c+2) (by omega)).1,(k (c+2) (by omega)).2,(k (c+3) (by omega)).1,(k (c+3) (by omega)).2,(k (c+5) (by omega)).1,(k (c+6) (by omega)).1,(k (c+6) (by omega)).2,Z0t,Z06,h12];intro h7;obtain ⟨t,q,W2,s,e7,s1,s2,hj,e8,e9,e10,hu,hg,_,h13⟩:=h.ca h7;refine ⟨t,q,W2,s,e7,s1,s2,hj,e8,e9,e10, ?_,fun g _ e=> ?_,nofun,h13⟩
  {exact (hu.mono (fun b _ hb=>by rw[h11] at hb; exact absurd hb.1 (by decide))).trans (Upd.new hb)}
  {simp only[Value.pointer.injEq,Option.some.injEq,Addr.mk.injEq,and_true] at e;have:=hu.size;omega}}
theorem GetI.store (h:GetI W0 n0 tk c o d u W) (h7:d c=true) (h11:d (c+4)=true) {g:Nat} (hg:u (c+4)= .pointer (some ⟨g,0,none⟩)) {t:Sh} {q:Ptr} (ht:u c= .tuple #[sv t q,.bool o.isSome])
 (hsv: ∀t' q',sv t' q'=sv t q->t'.kind=t.kind/\t'.of_=t.of_/\t'.name=t.name/\q'.A=q.A/\t'.names.length=t.names.length/\q'.c=q.c/\q'.P=q.P/\t'.parts.length=t.parts.length/\q'.d=q.d):GetI W0 n0 tk c o (also d (c+5)) (upd u (c+5) undef) (RX.lay W g t q):=by
 have k: ∀j,j≠(c+5)->also d (c+5) j=d j/\ ∀v,upd u (c+5) v j=u j:=fun j hj=>⟨Z08 d hj,fun v=>Z01 u v hj⟩;obtain ⟨g',e',g1,g2,g3,g4⟩:=h.al h11;obtain rfl:g'=g:=by rw[hg] at e'; simp at e'; exact e'.symm
 have hu:=RX.lay_upd W g' t q;refine ⟨h.keepv (by omega),h.up.trans (hu.below h.up.size (fun b hb=>by omega)), ?_, ?_⟩
 {rw[(k (c+4) (by omega)).1,(k (c+4) (by omega)).2];intro _;have hl:=RX.lay_at t q g4;obtain ⟨l0,l1,l2,l3,l4⟩:=hl;simp only[Nat.zero_add] at l0 l1 l2 l3 l4;refine ⟨g',hg,g1,by rw[RX.lay_size]; exact g2,fun j=>(RX.lay_fz W g' t q j).trans (g3 j),fun j hj=> ?_⟩;rcases j with _ | _ | _ | _ | _ | j
  {exact ⟨_,l0⟩}
  {exact ⟨_,l1⟩}
  {exact ⟨_,l2⟩}
  {exact ⟨_,l3⟩}
  {exact ⟨_,l4⟩}
  {omega}}
 {rw[(k c (by omega)).1,(k c (by omega)).2,(k (c+1) (by omega)).1,(k (c+1) (by omega)).2,(k (c+2) (by omega)).1,(k (c+2) (by omega)).2,(k (c+3) (by omega)).1,(k (c+3) (by omega)).2,(k (c+4) (by omega)).1,(k (c+4) (by omega)).2,(k (c+6) (by omega)).1,(k (c+6) (by omega)).2];intro _;obtain ⟨t',q',W2,s,e7,s1,s2,hj,e8,e9,e10,hu2,hgs,_,h13⟩:=h.ca h7;refine ⟨t',q',W2,s,e7,s1,s2,hj,e8,e9,e10,hu2.trans (hu.mono (fun b _ hb=>⟨h11,by rw[hb,hg]⟩)),hgs,fun _ g2 e=> ?_,h13⟩;obtain rfl:g'=g2:=by rw[hg] at e; simpa using e
  have e72:sv t' q'=sv t q:=by
   rw[ht] at e7;simp only[Value.tuple.injEq] at e7;have:=congrArg (fun a:Array Value=>a[0]?) e7;simp at this;simp[sv];exact ⟨this.1.symm,this.2.1.symm,this.2.2.1.symm,⟨this.2.2.2.1.1.symm,this.2.2.2.1.2.1.symm,this.2.2.2.1.2.2.symm⟩,this.2.2.2.2.1.symm,this.2.2.2.2.2.1.symm,this.2.2.2.2.2.2.symm⟩
  obtain ⟨c1,c2,c3,c4,c5,c6,c7,c8,c9⟩:=hsv t' q' e72;obtain ⟨l0,l1,l2,l3,l4⟩:=RX.lay_at t q g4;exact ⟨by rw[c1]; exact l0,by rw[c2]; exact l1,by rw[c3]; exact l2,by rw[c4,c5,c6]; exact l3,by rw[c7,c8,c9]; exact l4⟩}
end SubM
end Go.Proofs.YtchklpedlbkgaaaDoor
namespace Go.Proofs.YtchklpedlbkgaaaDoor
namespace Expd
open Shp
structure Bd where
 of_:List UInt8
 name:List UInt8
 sh:Sh
def find:List Bd->List UInt8->List UInt8->Option Sh
 | [],_,_=>none
 | b::l,o,n=>match find l o n with
  | some s=>some s
  | none=>if b.of_=o/\b.name=n then some b.sh else none
abbrev Look:=List UInt8->List UInt8->Option Sh
mutual
def put (f:Look):Sh->Option Sh
 | ⟨k,o,n,ns,ps⟩=>if k=9 then f o n else match puts f ps with
  | none=>none
  | some qs=>some ⟨k,o,n,ns,qs⟩
def puts (f:Look):List Sh->Option (List Sh)
 | []=>some []
 | p::ps=>match put f p with
  | none=>none
  | some q=>match puts f ps with
   | none=>none
   | some qs=>some (q::qs)
end
mutual
def fill (f:Look):Sh->Sh
 | ⟨k,o,n,ns,ps⟩=>if k=9 then (f o n).getD ⟨k,o,n,ns,ps⟩ else ⟨k,o,n,ns,fills f ps⟩
def fills (f:Look):List Sh->List Sh
 | []=> []
 | p::ps=>fill f p::fills f ps
end
mutual
def keys:Sh->List (List UInt8×List UInt8)
 | ⟨k,o,n,_,ps⟩=>if k=9 then [(o,n)] else keyss ps
def keyss:List Sh->List (List UInt8×List UInt8)
 | []=> []
 | p::ps=>keys p++keyss ps
end
theorem Za0 (f:Look) (l:List Sh):fills f l=l.map (fill f):=by
 induction l with
 | nil=>rfl
 | cons a l ih=>simp[fills,ih]
theorem Z8D (l:List Sh):keyss l=l.flatMap keys:=by
 induction l with
 | nil=>rfl
 | cons a l ih=>simp[keyss,ih]
theorem Z4S (f:Look) (t:Sh):put f t=if t.kind=9 then f t.of_ t.name else match puts f t.parts with
 | none=>none
 | some qs=>some ⟨t.kind,t.of_,t.name,t.names,qs⟩:=by cases t; rfl
theorem Z7Y (f:Look) (t:Sh):fill f t=if t.kind=9 then (f t.of_ t.name).getD t else ⟨t.kind,t.of_,t.name,t.names,t.parts.map (fill f)⟩:=by
 cases t; rw[<-Za0]; rfl
theorem Z5g (t:Sh):keys t=if t.kind=9 then [(t.of_,t.name)] else t.parts.flatMap keys:=by
 cases t; rw[<-Z8D]; rfl
theorem fill_name {f:Look} {t:Sh} (h:t.kind=9):fill f t=(f t.of_ t.name).getD t:=by rw[Z7Y,if_pos h]
theorem fill_node {f:Look} {t:Sh} (h: ¬t.kind=9):fill f t=⟨t.kind,t.of_,t.name,t.names,t.parts.map (fill f)⟩:=by rw[Z7Y,if_neg h]
theorem keys_name {t:Sh} (h:t.kind=9):keys t= [(t.of_,t.name)]:=by rw[Z5g,if_pos h]
theorem keys_node {t:Sh} (h: ¬t.kind=9):keys t=t.parts.flatMap keys:=by rw[Z5g,if_neg h]
theorem Z3M {t p:Sh} (h: ¬t.kind=9) (hp:p∈t.parts) {k:List UInt8×List UInt8} (hk:k∈keys p):k∈keys t:=by
 rw[keys_node h]; exact List.mem_flatMap.2 ⟨p,hp,hk⟩
section
variable {f : Look}
include f
theorem Za1 {l:List Sh} (h: ∀p∈l,put f p=some (fill f p)):puts f l=some (l.map (fill f)):=by
 induction l with
 | nil=>rfl
 | cons a l ih=>
  unfold puts;rw[h a (by simp),ih (fun p hp=>h p (by simp[hp]))];rfl
theorem Za2 {l:List Sh} {p:Sh} (hp:p∈l) (h:put f p=none):puts f l=none:=by
 induction l with
 | nil=>cases hp
 | cons a l ih=>
  unfold puts;rcases List.mem_cons.1 hp with rfl | hp
  {rw[h]}
  {rw[ih hp];cases put f a <;> rfl}
theorem put_some (t:Sh): (∀k∈keys t,(f k.1 k.2).isSome=true)->put f t=some (fill f t):=by
 induction t using Sh.ind with
 | h t ih=>
  intro h;by_cases hk:t.kind=9
  {rw[Z4S,if_pos hk,fill_name hk];have:=h (t.of_,t.name) (by rw[keys_name hk]; simp);cases e:f t.of_ t.name with
   | none=>rw[e] at this; cases this
   | some s=>rfl}
  {rw[Z4S,if_neg hk,fill_node hk,Za1 (fun p hp=>ih p hp (fun k hkk=>h k (Z3M hk hp hkk)))]}
theorem put_none (t:Sh) {k:List UInt8×List UInt8}:k∈keys t->f k.1 k.2=none->put f t=none:=by
 induction t using Sh.ind with
 | h t ih=>
  intro hm hn;by_cases hk:t.kind=9
  {rw[keys_name hk,List.mem_singleton] at hm;rw[Z4S,if_pos hk];rw[hm] at hn; exact hn}
  {rw[keys_node hk] at hm;obtain ⟨p,hp,hm⟩:=List.mem_flatMap.1 hm;rw[Z4S,if_neg hk,Za2 hp (ih p hp hm hn)]}
end
theorem Z6k (f:Look) (t:Sh): (∀k∈keys t,(f k.1 k.2).isSome=true)\/ ∃k∈keys t,f k.1 k.2=none:=by
 by_cases h: ∀k∈keys t,(f k.1 k.2).isSome=true
 {exact Or.inl h}
 {refine Or.inr ?_;simp only[Classical.not_forall] at h;obtain ⟨k,hk,h⟩:=h;refine ⟨k,hk, ?_⟩;cases e:f k.1 k.2 with
  | none=>rfl
  | some s=>rw[e] at h; exact absurd rfl h}
def Z0W:Sh:=⟨0,[],[],[],[]⟩
def resolve (env:List Bd) (t:Sh):Sh×Int:=
 if check t≠0 then (Z0W,check t) else match put (find env) t with
  | none=>(Z0W,110)
  | some u=>if check u≠0 then (Z0W,check u) else (sorted u,0)
section
variable {env : List Bd}
include env
theorem resolve_bad {t:Sh} (h:check t≠0):resolve env t=(Z0W,check t):=by unfold resolve; rw[if_pos h]
theorem resolve_name {t:Sh} (h:check t=0) (h1:put (find env) t=none):resolve env t=(Z0W,110):=by unfold resolve; rw[if_neg (by simpa using h),h1]
theorem resolve_great {t u:Sh} (h:check t=0) (h1:put (find env) t=some u) (h2:check u≠0):resolve env t=(Z0W,check u):=by
 unfold resolve; rw[if_neg (by simpa using h),h1]; simp only; rw[if_pos h2]
theorem resolve_ok {t u:Sh} (h:check t=0) (h1:put (find env) t=some u) (h2:check u=0):resolve env t=(sorted u,0):=by
 unfold resolve; rw[if_neg (by simpa using h),h1]; simp only; rw[if_neg (by simpa using h2)]
end
theorem put_like {f g:Look} (t:Sh): (∀k∈keys t,f k.1 k.2=g k.1 k.2)->put f t=put g t:=by
 intro h;rcases Z6k f t with h1 | ⟨k,h1,h2⟩
 {rw[put_some t h1,put_some t (fun k hk=>by rw[<-h k hk]; exact h1 k hk)];congr 1;clear h1;induction t using Sh.ind with
  | h t ih=>
   by_cases hk:t.kind=9
   {rw[fill_name hk,fill_name hk,h (t.of_,t.name) (by rw[keys_name hk]; simp)]}
   {rw[fill_node hk,fill_node hk];congr 1;exact List.map_congr_left (fun p hp=>ih p hp (fun k hkk=>h k (Z3M hk hp hkk)))}}
 {rw[put_none t h1 h2,put_none t h1 (by rw[<-h k h1]; exact h2)]}
theorem find_cons (b:Bd) (m:List Bd) (o n:List UInt8):find (b::m) o n=match find m o n with | some s=>some s | none=>if b.of_=o/\b.name=n then some b.sh else none:=rfl
theorem name_bare {t:Sh} (h:right t=true) (hk:t.kind=9):t.names= []/\t.parts= []:=by
 have:=Z0c h;rw[Z26 (Or.inl hk)] at this;simp only[Bool.and_eq_true,decide_eq_true_eq] at this;exact ⟨List.eq_nil_of_length_eq_zero this.1.2,List.eq_nil_of_length_eq_zero this.2⟩
structure It where
 kind:Int
 name:List UInt8
 sh:Sh
def opq (o n:List UInt8):Sh:=⟨10,o,n,[],[]⟩
def bindOf (o:List UInt8) (i:It):Option Bd:=if i.kind=1 then some ⟨o,i.name,i.sh⟩ else if i.kind=2 then some ⟨o,i.name,opq o i.name⟩ else none
def types (o:List UInt8) (l:List It):List Bd:=l.filterMap (bindOf o)
end Expd
end Go.Proofs.YtchklpedlbkgaaaDoor
namespace Go.Proofs.YtchklpedlbkgaaaDoor
open Go.RowKit Shp
open Expd (Bd It)
theorem Z2H (s:ByteArray):s.data.toList.length=s.size:=by rw[<-Lib.size_eq]
def BdAt (w:World) (B g o:Nat) (b:Bd) (q:Ptr):Prop:=
 w.cell? ⟨g,o,none⟩=some (.string ⟨b.of_.toArray⟩)/\w.cell? ⟨g,o+1,none⟩=some (.string ⟨b.name.toArray⟩)/\Sh5 w g (o+2) b.sh q/\ShAt w B q b.sh/\b.of_.length<=9223372036854775807/\b.name.length<=9223372036854775807
theorem BdAt.of {w w':World} {B B' g o:Nat} {b:Bd} {q:Ptr} (h:BdAt w B g o b q) (hB:B<=B') (hg:g < B) (hc: ∀g k,g < B->w'.cell? ⟨g,k,none⟩=w.cell? ⟨g,k,none⟩):BdAt w' B' g o b q:=
 ⟨(hc _ _ hg).trans h.1,(hc _ _ hg).trans h.2.1,h.2.2.1.of (fun k=>hc g k hg),h.2.2.2.1.of hB hc,h.2.2.2.2⟩
def BdsAt (w:World) (B:Nat) (A:Option Addr) (l:List Bd):Prop:=
 l.length=0\/ ∃(g off:Nat) (qs:Nat->Ptr),A=some ⟨g,off,none⟩/\g < B/\ ∀i (h:i < l.length),BdAt w B g (off+i * 7) (l[i]'h) (qs i)
theorem BdsAt.of {w w':World} {B B':Nat} {A:Option Addr} {l:List Bd} (h:BdsAt w B A l) (hB:B<=B') (hc: ∀g k,g < B->w'.cell? ⟨g,k,none⟩=w.cell? ⟨g,k,none⟩):BdsAt w' B' A l:=by
 rcases h with h | ⟨g,off,qs,h1,h2,h3⟩
 {exact Or.inl h}
 {exact Or.inr ⟨g,off,qs,h1,Nat.lt_of_lt_of_le h2 hB,fun i hi=>(h3 i hi).of hB h2 hc⟩}
theorem BdsAt.keep {w w':World} {B B':Nat} {A:Option Addr} {l:List Bd} (h:BdsAt w B A l) (hb:Below B' w w') (hB:B<=B'):BdsAt w' B A l:=
 h.of (Nat.le_refl _) (fun g k hg=>hb.cell (p:=⟨g,k,none⟩) (Nat.lt_of_lt_of_le hg hB))
theorem BdsAt.next {w w':World} {A:Option Addr} {l:List Bd} (h:BdsAt w w.heap.size A l) (hb:Below w.heap.size w w'):BdsAt w' w'.heap.size A l:=
 h.of hb.size (fun g k hg=>hb.cell (p:=⟨g,k,none⟩) hg)
def ItAt (w:World) (B g o:Nat) (b:It) (q:Ptr):Prop:=
 w.cell? ⟨g,o,none⟩=some (.int .i64 b.kind)/\w.cell? ⟨g,o+1,none⟩=some (.string ⟨b.name.toArray⟩)/\Sh5 w g (o+2) b.sh q/\ShAt w B q b.sh/\True/\b.name.length<=9223372036854775807
theorem ItAt.of {w w':World} {B B' g o:Nat} {b:It} {q:Ptr} (h:ItAt w B g o b q) (hB:B<=B') (hg:g < B) (hc: ∀g k,g < B->w'.cell? ⟨g,k,none⟩=w.cell? ⟨g,k,none⟩):ItAt w' B' g o b q:=
 ⟨(hc _ _ hg).trans h.1,(hc _ _ hg).trans h.2.1,h.2.2.1.of (fun k=>hc g k hg),h.2.2.2.1.of hB hc,h.2.2.2.2⟩
def ItsAt (w:World) (B:Nat) (A:Option Addr) (l:List It):Prop:=
 l.length=0\/ ∃(g off:Nat) (qs:Nat->Ptr),A=some ⟨g,off,none⟩/\g < B/\ ∀i (h:i < l.length),ItAt w B g (off+i * 7) (l[i]'h) (qs i)
theorem ItsAt.of {w w':World} {B B':Nat} {A:Option Addr} {l:List It} (h:ItsAt w B A l) (hB:B<=B') (hc: ∀g k,g < B->w'.cell? ⟨g,k,none⟩=w.cell? ⟨g,k,none⟩):ItsAt w' B' A l:=by
 rcases h with h | ⟨g,off,qs,h1,h2,h3⟩
 {exact Or.inl h}
 {exact Or.inr ⟨g,off,qs,h1,Nat.lt_of_lt_of_le h2 hB,fun i hi=>(h3 i hi).of hB h2 hc⟩}
theorem ItsAt.keep {w w':World} {B B':Nat} {A:Option Addr} {l:List It} (h:ItsAt w B A l) (hb:Below B' w w') (hB:B<=B'):ItsAt w' B A l:=
 h.of (Nat.le_refl _) (fun g k hg=>hb.cell (p:=⟨g,k,none⟩) (Nat.lt_of_lt_of_le hg hB))
theorem ItsAt.next {w w':World} {A:Option Addr} {l:List It} (h:ItsAt w w.heap.size A l) (hb:Below w.heap.size w w'):ItsAt w' w'.heap.size A l:=
 h.of hb.size (fun g k hg=>hb.cell (p:=⟨g,k,none⟩) hg)
section
variable {H : Type} {enc : TypeId × Value -> H} {W : World} {base : Nat} {held : Bool}
section
variable {fuel : Nat} {cs : List Value} {x : DataW H × List MemPlace}
include fuel cs x
theorem Z4T (h:DataW.trod enc Tryd.prog W base (fun _=>true) held fuel 39 cs=some x):
 ∃(b:It) (q:Ptr),cs= [(.int .i64 b.kind),.string ⟨b.name.toArray⟩,.int .i64 b.sh.kind,.string ⟨b.sh.of_.toArray⟩,.string ⟨b.sh.name.toArray⟩,.slice q.A b.sh.names.length q.c,.slice q.P b.sh.parts.length q.d]/\ShAt W W.heap.size q b.sh/\True/\b.name.length<=9223372036854775807:=by
 obtain ⟨xs,n,hn,_,hlen,hxl,hf⟩:=DataW.trod_struct Tryd.underlying39 h;have hC:Tryd.prog.cellsOf 39=7:=by kernel_rfl
 have c0:Tryd.prog.cellsOf 3=1:=by kernel_rfl
 have c1:Tryd.prog.cellsOf 9=1:=by kernel_rfl
 have c2:Tryd.prog.cellsOf 25=5:=by kernel_rfl
 rw[hC] at hlen
 match cs,hlen with
 | [a0,a1,a2,a3,a4,a5,a6],_=>
  have f0:=hf 0 _ rfl;have f1:=hf 1 _ rfl;have f2:=hf 2 _ rfl;have hz:xs.length=3:=hxl;change DataW.trod enc _ W base _ held n 3 (([a0,a1,a2,a3,a4,a5,a6].drop 0).take (Tryd.prog.cellsOf 3))=_ at f0;change DataW.trod enc _ W base _ held n 9 (([a0,a1,a2,a3,a4,a5,a6].drop 1).take (Tryd.prog.cellsOf 9))=_ at f1;change DataW.trod enc _ W base _ held n 25 (([a0,a1,a2,a3,a4,a5,a6].drop 2).take (Tryd.prog.cellsOf 25))=_ at f2;rw[c0,List.getElem?_eq_getElem (by omega)] at f0;rw[c1,List.getElem?_eq_getElem (by omega)] at f1;rw[c2,List.getElem?_eq_getElem (by omega)] at f2;obtain ⟨b0,hb0,_,hm0⟩:=DataW.trod_int Tryd.underlying3 f0;obtain ⟨b1,hb1,_,hm1⟩:=DataW.trod_string Tryd.underlying9 f1;obtain ⟨t,q,hb2,hat⟩:=Z3a _ f2;simp at hb0 hb1 hb2;obtain ⟨h2,h3,h4,h5,h6⟩:=hb2;subst hb0 hb1 h2 h3 h4 h5 h6;exact ⟨⟨b0,b1.data.toList,t⟩,q,rfl,hat,trivial,by unfold maxLen at hm1; rw[Z2H]; exact hm1⟩
theorem Z8H (h:DataW.trod enc Tryd.prog W base (fun _=>true) held fuel 36 cs=some x):
 ∃(A:Option Addr) (l:List It) (c:Nat),cs= [.slice A l.length c]/\ItsAt W W.heap.size A l/\l.length<=9223372036854775807/\l.length<=c:=by
 rcases Go.Deep.open_slice Tryd.underlying36 h with ⟨hcs,_⟩ | ⟨a,len,cap,m,n,D,Pl,hcs,hb,hl,hm,hmm,hx,hi⟩
 {exact ⟨none,[],0,hcs,Or.inl rfl,Nat.zero_le _,Nat.zero_le _⟩}
 {have hC:Tryd.prog.cellsOf 39=7:=by kernel_rfl
  unfold maxLen at hm;have hmc:m=cap:=by simpa using hmm
  subst hmc;have hv: ∀i,∃u:It×Ptr,i < m->W.cell? (a.add (i * 7+0))=some (.int .i64 u.1.kind)/\W.cell? (a.add (i * 7+1))=some (.string ⟨u.1.name.toArray⟩)/\W.cell? (a.add (i * 7+2))=some (.int .i64 u.1.sh.kind)/\W.cell? (a.add (i * 7+3))=some (.string ⟨u.1.sh.of_.toArray⟩)/\W.cell? (a.add (i * 7+4))=some (.string ⟨u.1.sh.name.toArray⟩)/\
   W.cell? (a.add (i * 7+5))=some (.slice u.2.A u.1.sh.names.length u.2.c)/\W.cell? (a.add (i * 7+6))=some (.slice u.2.P u.1.sh.parts.length u.2.d)/\ShAt W W.heap.size u.2 u.1.sh/\True/\u.1.name.length<=9223372036854775807:=by
   intro i;by_cases him:i < m
   {obtain ⟨cs',hc,ht⟩:=hi i him;rw[hC] at hc;obtain ⟨u,q,rfl,hat⟩:=Z4T ht;obtain ⟨_,hcl,hat'⟩:=World.cells?_some hc;refine ⟨(u,q),fun _=>⟨?_, ?_, ?_, ?_, ?_, ?_, ?_,hat⟩⟩
    {rw[<-Go.Deep.add_add]; exact hat' 0 (by omega)}
    {rw[<-Go.Deep.add_add]; exact hat' 1 (by omega)}
    {rw[<-Go.Deep.add_add]; exact hat' 2 (by omega)}
    {rw[<-Go.Deep.add_add]; exact hat' 3 (by omega)}
    {rw[<-Go.Deep.add_add]; exact hat' 4 (by omega)}
    {rw[<-Go.Deep.add_add]; exact hat' 5 (by omega)}
    {rw[<-Go.Deep.add_add]; exact hat' 6 (by omega)}}
   {exact ⟨(⟨0,[],⟨0,[],[],[],[]⟩⟩,⟨none,0,none,0⟩),fun h=>absurd h him⟩}
  let f:=fun i=>(hv i).choose
  have hf2: ∀i,i < m->W.cell? (a.add (i * 7+0))=some (.int .i64 (f i).1.kind)/\W.cell? (a.add (i * 7+1))=some (.string ⟨(f i).1.name.toArray⟩)/\W.cell? (a.add (i * 7+2))=some (.int .i64 (f i).1.sh.kind)/\W.cell? (a.add (i * 7+3))=some (.string ⟨(f i).1.sh.of_.toArray⟩)/\W.cell? (a.add (i * 7+4))=some (.string ⟨(f i).1.sh.name.toArray⟩)/\
   W.cell? (a.add (i * 7+5))=some (.slice (f i).2.A (f i).1.sh.names.length (f i).2.c)/\W.cell? (a.add (i * 7+6))=some (.slice (f i).2.P (f i).1.sh.parts.length (f i).2.d)/\ShAt W W.heap.size (f i).2 (f i).1.sh/\True/\(f i).1.name.length<=9223372036854775807:=fun i=>(hv i).choose_spec
  have hln: ((List.range len).map fun i=>(f i).1).length=len:=by simp
  refine ⟨some a,(List.range len).map fun i=>(f i).1,m,by rw[hln]; exact hcs, ?_,by rw[hln]; omega,by rw[hln]; exact hl⟩;by_cases h0:len=0
  {exact Or.inl (by simp[h0])}
  {obtain ⟨b,off,spot⟩:=a;have h1:=(hf2 0 (by omega)).1;have hspot:spot=none:=by simpa[Addr.add] using World.cell?_spot h1
   subst hspot;have hplain: ∀k,(⟨b,off,none⟩:Addr).add k=⟨b,off+k,none⟩:=fun k=>Z0b b off k;refine Or.inr ⟨b,off,fun i=>(f i).2,rfl, ?_,fun i hi'=> ?_⟩
   {rw[hplain] at h1;rcases Nat.lt_or_ge b W.heap.size with h' | h'
    {exact h'}
    {simp[World.cell?,Array.getElem?_eq_none h'] at h1}}
   {have hin:i < len:=by simpa using hi'
    obtain ⟨g0,g1,g2,g3,g4,g5,g6,g7⟩:=hf2 i (by omega);rw[hplain] at g0 g1 g2 g3 g4 g5 g6;simp only[List.getElem_map,List.getElem_range];exact ⟨g0,by rw[<-g1]; congr 2,⟨by rw[<-g2]; congr 2,by rw[<-g3]; congr 2,by rw[<-g4]; congr 2,by rw[<-g5]; congr 2,by rw[<-g6]; congr 2⟩,g7⟩}}}
end
theorem Zcm {A:Option Addr} {n c:Nat} {d:DataW H} {p:List MemPlace} (h:DataW.Trod enc Tryd.prog W base (fun _=>true) held 36 (.slice A n c) d p):
 ∃l:List It,n=l.length/\ItsAt W W.heap.size A l/\l.length<=9223372036854775807/\l.length<=c:=by
 obtain ⟨fuel,hf⟩:=h;obtain ⟨A',l,c',hcs,h1,h2,h3⟩:=Z8H hf;simp[Value.cells] at hcs;obtain ⟨rfl,rfl,rfl⟩:=hcs;exact ⟨l,rfl,h1,h2,h3⟩
end
end Go.Proofs.YtchklpedlbkgaaaDoor
namespace Go.Proofs.YtchklpedlbkgaaaDoor
section
open Go.RowKit
theorem Z0y (d:Nat->Bool) (i:Nat):also d i i=true:=by
 have:Nat.beq i i=true:=Nat.beq_refl i;unfold also; rw[this]; rfl
theorem Z04 (d:Nat->Bool) {i j:Nat} (h:j≠i):also d i j=d j:=by
 have:Nat.beq j i=false:=by cases hb:Nat.beq j i <;> first | rfl | exact absurd (Nat.eq_of_beq_eq_true hb) h
 unfold also; rw[this]; rfl
theorem Z0e {P:Program} {ops:Array Oper} {o:Oper} {a:Act} {W:World} {K':Act->World->Prop} {Q:Exit->Act->World->Prop} {E:Prop} (hgd:Region.wanted o (yielded ops a.tmps)=true) (s x:Operand) (t:TypeId)
 (ho:o.op= .call { callee:= .builtin .append,args:=#[s,x],argTypes:=#[t,t] })
 (base:Nat) (e:TypeId) (i:TypeInfo) (z:Value) (size bytes:Nat) (ht:P.underlying t=some (.slice e)) (hi:P.info? e=some i) (hz:i.zero=some z)
 (hsize:i.size=size) (hby:i.bytes=bytes) (hzs:z.cells.size=size) (hsz:0 < size)
 (v:Value) (n:Nat) (xs:List Value) (hs:a.eval s=v) (hown:W.ownsRow base e size v n xs)
 (A:Option Addr) (m c:Nat) (news:List Value) (hx:a.eval x= .slice A m c) (hA:A=none->m=0/\c=0) (hl:news.length=m * size)
 (hnews: ∀ad,A=some ad-> ∀j u,news[j]? =some u->W.cell? (ad.add j)=some u) (h1: ∀u∈news,u.oneCell'=true)
 (h63:n+m<=maxLen) (hbytes: (n+m) * bytes<=140737488355328) (hbase:base<=W.heap.size)
 (h: ∀v' w',w'.ownsRow base e size v' (n+m) (xs++news)->W.grownBy w' v.ownBlock->(v'.ownBlock=v.ownBlock\/v'.ownBlock=some W.heap.size)->K' (a.put o.dst v') w'):
 if Region.wanted o (yielded ops a.tmps)=true then Oper.wp P o a W K' Q else E:=by
 rw[if_pos hgd]
 match A,hA,hnews,hx with
 | some ad,_,hnews,hx=>
  obtain ⟨v',w',hr,h2,h3,_,h5⟩:=run_append_own_at (P:=P) W base t o.type e i z size bytes ht hi hz hsize hby hzs hsz v n xs hown ad m c news hl (hnews ad rfl) h1 h63 hbytes hbase;unfold Oper.wp execOp;simp only[ho,resolve,invoke,builtin,Sem.run_bind,Sem.run_pure,Result.andThen_ok,List.map_toArray,List.map_cons,List.map_nil,hs,hx,hr];exact h v' w' h2 h3 h5
 | none,hA,_,hx=>
  obtain ⟨rfl,rfl⟩:=hA rfl;obtain rfl:news= []:=List.eq_nil_of_length_eq_zero (by rw[hl,Nat.zero_mul]);have hr:=run_append_owned_none (P:=P) (w:=W) base t o.type e i size ht hi v n xs hown;unfold Oper.wp execOp;simp only[ho,resolve,invoke,builtin,Sem.run_bind,Sem.run_pure,Result.andThen_ok,List.map_toArray,List.map_cons,List.map_nil,hs,hx,hr];exact h v W (by rw[List.append_nil]; exact hown) ⟨rfl,rfl,rfl,Nat.le_refl _,fun _ _ _=>rfl⟩ (Or.inl rfl)
def InvC (S:Nat) (Ch: (Nat->Bool)->(Nat->Value)->World->Prop) (Fin:World->Prop) (d:Nat->Bool) (u:Nat->Value) (W:World):Prop:=(d S=false/\Ch d u W)\/(d S=true/\(∀j,j < S->d j=true)/\Fin W)
section
variable {S : Nat} {Ch : (Nat -> Bool) -> (Nat -> Value) -> World -> Prop} {Fin : World -> Prop} {d : Nat -> Bool} {u : Nat -> Value} {W' : World}
include S Ch Fin d u W'
theorem InvC.next {j:Nat} {v:Value} (h:d S=false) (hj:j < S) (hc:Ch (also d j) (upd u j v) W'):InvC S Ch Fin (also d j) (upd u j v) W':=
 Or.inl ⟨by rw[Z04 d (show S≠j by omega)]; exact h,hc⟩
theorem InvC.last (h: ∀j,j < S->d j=true) (hf:Fin W'):InvC S Ch Fin (also d S) u W':=
 Or.inr ⟨Z0y d S,fun j hj=>by rw[Z04 d (show j≠S by omega)]; exact h j hj,hf⟩
end
structure ChN (W0:World) (ty:TypeId) (size:Nat) (val:Nat->Option Value) (x y z:List Value) (lx lz:Nat) (d:Nat->Bool) (u:Nat->Value) (W:World):Prop where
 bel:Below W0.heap.size W0 W
 vals: ∀j,d j=true-> ∀v,val j=some v->u j=v
 rA:d 0=true->d 5=false->W.ownsRow W0.heap.size ty size (u 0) 0 []
 rB:d 5=true->d 12=false->W.ownsRow W0.heap.size ty size (u 5) lx x
 rC:d 12=true->d 17=false->W.ownsRow W0.heap.size ty size (u 12) (lx+1) (x++y)
 rE:d 17=true->W.ownsRow W0.heap.size ty size (u 17) (lx+1+lz) (x++y++z)
 rN:d 11=true->d 12=false-> ∃g,u 11= .slice (some ⟨g,0,none⟩) 1 1/\g < W.heap.size/\(∀j v,y[j]? =some v->W.cell? ⟨g,j,none⟩=some v)/\(d 0=true->d 5=false->(u 0).ownBlock≠some g)/\(d 5=true->(u 5).ownBlock≠some g)
 oB:d 5=true->d 0=true
 oC:d 12=true->d 5=true
 oN:d 12=true->d 11=true
 oE:d 17=true->d 12=true
theorem ChN.start (W0:World) (ty:TypeId) (size:Nat) (val:Nat->Option Value) (x y z:List Value) (lx lz:Nat) (u:Nat->Value):ChN W0 ty size val x y z lx lz (fun _=>false) u W0:=
 ⟨Below.refl _ _,nofun,nofun,nofun,nofun,nofun,nofun,nofun,nofun,nofun,nofun⟩
theorem ChN.pure {W0 W:World} {ty:TypeId} {size:Nat} {val:Nat->Option Value} {x y z:List Value} {lx lz:Nat} {d:Nat->Bool} {u:Nat->Value} (h:ChN W0 ty size val x y z lx lz d u W) {j:Nat} (hj:j≠0/\j≠5/\j≠12/\j≠17/\j≠11) (v:Value) (hv: ∀v',val j=some v'->v=v'):
 ChN W0 ty size val x y z lx lz (also d j) (upd u j v) W:=by
 obtain ⟨j0,j1,j2,j3,j4⟩:=hj;have k0:=Z04 d (show 0≠j by omega);have l0:=Z01 u v (show 0≠j by omega);have k5:=Z04 d (show 5≠j by omega);have l5:=Z01 u v (show 5≠j by omega);have k11:=Z04 d (show 11≠j by omega);have l11:=Z01 u v (show 11≠j by omega);have k12:=Z04 d (show 12≠j by omega);have l12:=Z01 u v (show 12≠j by omega);have k17:=Z04 d (show 17≠j by omega);have l17:=Z01 u v (show 17≠j by omega);refine ⟨h.bel,fun i hi v' hv'=> ?_, ?_, ?_, ?_, ?_, ?_, ?_, ?_, ?_, ?_⟩
 {by_cases hij:i=j
  {subst hij; rw[Z06]; exact hv v' hv'}
  {rw[Z04 d hij] at hi; rw[Z01 u v hij]; exact h.vals i hi v' hv'}}
 {simp only[k0,l0,k5,l5,k11,l11,k12,l12,k17,l17]; exact h.rA}
 {simp only[k0,l0,k5,l5,k11,l11,k12,l12,k17,l17]; exact h.rB}
 {simp only[k0,l0,k5,l5,k11,l11,k12,l12,k17,l17]; exact h.rC}
 {simp only[k0,l0,k5,l5,k11,l11,k12,l12,k17,l17]; exact h.rE}
 {simp only[k0,l0,k5,l5,k11,l11,k12,l12,k17,l17]; exact h.rN}
 {simp only[k0,l0,k5,l5,k11,l11,k12,l12,k17,l17]; exact h.oB}
 {simp only[k0,l0,k5,l5,k11,l11,k12,l12,k17,l17]; exact h.oC}
 {simp only[k0,l0,k5,l5,k11,l11,k12,l12,k17,l17]; exact h.oN}
 {simp only[k0,l0,k5,l5,k11,l11,k12,l12,k17,l17]; exact h.oE}
structure ChP (W0:World) (ty:TypeId) (size:Nat) (val:Nat->Option Value) (x y z:List Value) (lx lz:Nat) (d:Nat->Bool) (u:Nat->Value) (W:World):Prop where
 bel:Below W0.heap.size W0 W
 vals: ∀j,d j=true-> ∀v,val j=some v->u j=v
 rA:d 0=true->d 5=false->W.ownsRow W0.heap.size ty size (u 0) 0 []
 rB:d 5=true->d 8=false->W.ownsRow W0.heap.size ty size (u 5) lx x
 rC:d 8=true->d 13=false->W.ownsRow W0.heap.size ty size (u 8) (lx+1) (x++y)
 rE:d 13=true->W.ownsRow W0.heap.size ty size (u 13) (lx+1+lz) (x++y++z)
 rN:d 7=true->d 8=false-> ∃g,u 7= .slice (some ⟨g,0,none⟩) 1 1/\g < W.heap.size/\(∀j v,y[j]? =some v->W.cell? ⟨g,j,none⟩=some v)/\(d 0=true->d 5=false->(u 0).ownBlock≠some g)/\(d 5=true->(u 5).ownBlock≠some g)
 oB:d 5=true->d 0=true
 oC:d 8=true->d 5=true
 oN:d 8=true->d 7=true
 oE:d 13=true->d 8=true
theorem ChP.start (W0:World) (ty:TypeId) (size:Nat) (val:Nat->Option Value) (x y z:List Value) (lx lz:Nat) (u:Nat->Value):ChP W0 ty size val x y z lx lz (fun _=>false) u W0:=
 ⟨Below.refl _ _,nofun,nofun,nofun,nofun,nofun,nofun,nofun,nofun,nofun,nofun⟩
theorem ChP.pure {W0 W:World} {ty:TypeId} {size:Nat} {val:Nat->Option Value} {x y z:List Value} {lx lz:Nat} {d:Nat->Bool} {u:Nat->Value} (h:ChP W0 ty size val x y z lx lz d u W) {j:Nat} (hj:j≠0/\j≠5/\j≠8/\j≠13/\j≠7) (v:Value) (hv: ∀v',val j=some v'->v=v'):
 ChP W0 ty size val x y z lx lz (also d j) (upd u j v) W:=by
 obtain ⟨j0,j1,j2,j3,j4⟩:=hj;have k0:=Z04 d (show 0≠j by omega);have l0:=Z01 u v (show 0≠j by omega);have k5:=Z04 d (show 5≠j by omega);have l5:=Z01 u v (show 5≠j by omega);have k7:=Z04 d (show 7≠j by omega);have l7:=Z01 u v (show 7≠j by omega);have k8:=Z04 d (show 8≠j by omega);have l8:=Z01 u v (show 8≠j by omega);have k13:=Z04 d (show 13≠j by omega);have l13:=Z01 u v (show 13≠j by omega);refine ⟨h.bel,fun i hi v' hv'=> ?_, ?_, ?_, ?_, ?_, ?_, ?_, ?_, ?_, ?_⟩
 {by_cases hij:i=j
  {subst hij; rw[Z06]; exact hv v' hv'}
  {rw[Z04 d hij] at hi; rw[Z01 u v hij]; exact h.vals i hi v' hv'}}
 {simp only[k0,l0,k5,l5,k7,l7,k8,l8,k13,l13]; exact h.rA}
 {simp only[k0,l0,k5,l5,k7,l7,k8,l8,k13,l13]; exact h.rB}
 {simp only[k0,l0,k5,l5,k7,l7,k8,l8,k13,l13]; exact h.rC}
 {simp only[k0,l0,k5,l5,k7,l7,k8,l8,k13,l13]; exact h.rE}
 {simp only[k0,l0,k5,l5,k7,l7,k8,l8,k13,l13]; exact h.rN}
 {simp only[k0,l0,k5,l5,k7,l7,k8,l8,k13,l13]; exact h.oB}
 {simp only[k0,l0,k5,l5,k7,l7,k8,l8,k13,l13]; exact h.oC}
 {simp only[k0,l0,k5,l5,k7,l7,k8,l8,k13,l13]; exact h.oN}
 {simp only[k0,l0,k5,l5,k7,l7,k8,l8,k13,l13]; exact h.oE}
end
end Go.Proofs.YtchklpedlbkgaaaDoor
namespace Go.Proofs.YtchklpedlbkgaaaDoor
open Go.RowKit Shp Sub
open Expd (Bd)
namespace SubM
abbrev BE:=Bd×Ptr
def cells7 (x:BE):List Value:= [.string ⟨x.1.of_.toArray⟩,.string ⟨x.1.name.toArray⟩,.int .i64 x.1.sh.kind,.string ⟨x.1.sh.of_.toArray⟩,.string ⟨x.1.sh.name.toArray⟩,.slice x.2.A x.1.sh.names.length x.2.c,.slice x.2.P x.1.sh.parts.length x.2.d]
def cellsB (l:List BE):List Value:=l.flatMap cells7
theorem Z0j (l m:List BE):cellsB (l++m)=cellsB l++cellsB m:=by simp[cellsB]
theorem Z1u (x:BE):cellsB [x]=cells7 x:=by simp[cellsB]
theorem Z0h (l:List BE): (cellsB l).length=l.length * 7:=by
 induction l with
 | nil=>rfl
 | cons a l ih=>rw[show a::l= [a]++l from rfl,Z0j,List.length_append,ih,Z1u]; simp[cells7]; omega
theorem Z7V (x:BE): ∀u∈cells7 x,u.oneCell'=true:=by
 intro u hu;simp only[cells7,List.mem_cons,List.not_mem_nil,or_false] at hu;rcases hu with rfl | rfl | rfl | rfl | rfl | rfl | rfl <;> rfl
theorem Z0B (l:List BE): ∀u∈cellsB l,u.oneCell'=true:=by
 intro u hu;obtain ⟨x,_,h⟩:=List.mem_flatMap.1 hu;exact Z7V x u h
theorem Z5G {l:List BE} {i c:Nat} (hi:i < l.length) (hc:c < 7): (cellsB l)[i * 7+c]? =(cells7 (l[i]'hi))[c]? :=by
 have h1:l=l.take i++([l[i]'hi]++l.drop (i+1)):=by rw[List.singleton_append,List.getElem_cons_drop,List.take_append_drop]
 have h2: (cellsB (l.take i)).length=i * 7:=by rw[Z0h,List.length_take]; omega
 have h3: (cells7 (l[i]'hi)).length=7:=rfl
 conv=>lhs; rw[h1]
 rw[Z0j,Z0j,Z1u,List.getElem?_append_right (by omega),h2,Nat.add_sub_cancel_left,List.getElem?_append_left (by omega)]
theorem Z8b: (Tryd.prog.info? 54).map (fun i=>(i.zero,i.size,i.bytes))=some (some (.agg #[.string ByteArray.empty,.string ByteArray.empty,.int .i64 0,.string ByteArray.empty,.string ByteArray.empty,.slice none 0 0,.slice none 0 0]),7,120):=by kernel_rfl
def BOk (W:World) (B:Nat) (x:BE):Prop:=ShAt W B x.2 x.1.sh/\x.1.of_.length<=9223372036854775807/\x.1.name.length<=9223372036854775807
theorem Z4b {W:World} {base:Nat} {A:Option Addr} {n c:Nat} {lE:List BE} (r:W.ownsRow base 54 7 (.slice A n c) n (cellsB lE)) (hl:lE.length=n) (h: ∀x∈lE,BOk W W.heap.size x):BdsAt W W.heap.size A (lE.map Prod.fst):=by
 rcases Zc9 r with ⟨_,h0,_⟩ | ⟨g,rfl,_⟩
 {exact Or.inl (by rw[List.length_map]; omega)}
 {have hg:=(Z0u r g rfl).2;refine Or.inr ⟨g,0,fun i=>(lE[i]?.map Prod.snd).getD ⟨none,0,none,0⟩,rfl,hg,fun i hi=> ?_⟩;have hi':i < lE.length:=by rw[List.length_map] at hi; exact hi
  have hc: ∀c v,c < 7->(cells7 (lE[i]'hi'))[c]? =some v->W.cell? ⟨g,0+i * 7+c,none⟩=some v:=fun c v hc hv=>by
   rw[Nat.zero_add];exact Z4C r (by rw[Z5G hi' hc]; exact hv)
  have hx:=h _ (List.getElem_mem hi');simp only[List.getElem_map];rw[List.getElem?_eq_getElem hi'];exact ⟨hc 0 _ (by omega) rfl,hc 1 _ (by omega) rfl,⟨hc 2 _ (by omega) rfl,hc 3 _ (by omega) rfl,hc 4 _ (by omega) rfl,hc 5 _ (by omega) rfl,hc 6 _ (by omega) rfl⟩,hx.1,hx.2.1,hx.2.2⟩}
def Dis (i0 i1 i2 i3 ib:Nat):Prop:=(i0≠i1/\i0≠i2/\i0≠i3/\i0≠ib)/\(i1≠i2/\i1≠i3/\i1≠ib)/\(i2≠i3/\i2≠ib)/\i3≠ib
instance (i0 i1 i2 i3 ib:Nat):Decidable (Dis i0 i1 i2 i3 ib):=by unfold Dis; infer_instance
structure CI (W0:World) (val:Nat->Option Value) (fin:Bool) (lA lB:List BE) (b:BE) (i0 i1 i2 i3 ib:Nat) (d:Nat->Bool) (u:Nat->Value) (W:World):Prop where
 up:Below W0.heap.size W0 W
 vals: ∀j,d j=true-> ∀v,val j=some v->u j=v
 r0:d i0=true->d i1=false->W.ownsRow W0.heap.size 54 7 (u i0) 0 []
 r1:d i1=true->d i2=false->W.ownsRow W0.heap.size 54 7 (u i1) lA.length (cellsB lA)
 rb:d ib=true->d i2=false-> ∃z,u ib= .slice (some ⟨z,0,none⟩) 1 1/\W0.heap.size<=z/\z < W.heap.size/\(d i0=true->d i1=false->(u i0).ownBlock≠some z)/\(d i1=true->(u i1).ownBlock≠some z)/\ ∀j v,(cells7 b)[j]? =some v->W.cell? ⟨z,j,none⟩=some v
 r2:d i2=true->d i3=false->W.ownsRow W0.heap.size 54 7 (u i2) (lA.length+1) (cellsB (lA++ [b]))
 r3:fin=true->d i3=true->W.ownsRow W0.heap.size 54 7 (u i3) (lA.length+1+lB.length) (cellsB (lA++ [b]++lB))
section
variable {W0 W W' : World} {val : Nat -> Option Value} {fin : Bool} {lA lB : List BE} {b : BE} {i0 i1 i2 i3 ib : Nat} {d : Nat -> Bool} {u : Nat -> Value}
theorem Z14 {B e s n:Nat} {v:Value} {xs:List Value} (h:W.ownsRow B e s v n xs) (hb:Below W.heap.size W W'):W'.ownsRow B e s v n xs:=by
 obtain ⟨h1,h2⟩:=h;refine ⟨h1, ?_⟩;rcases h2 with h2 | ⟨g,cap,cur,hv,hbb,hg,hc⟩
 {exact Or.inl h2}
 {refine Or.inr ⟨g,cap,cur,hv,hbb, ?_,hc⟩;rw[hb.block g (Array.getElem?_eq_some_iff.1 hg).1];exact hg}
theorem CI.start {u:Nat->Value}:CI W0 val fin lA lB b i0 i1 i2 i3 ib (fun _=>false) u W0.drew:=⟨Y2.drew,nofun,nofun,nofun,nofun,nofun,fun _=>nofun⟩
section
variable (h : CI W0 val fin lA lB b i0 i1 i2 i3 ib d u W) {i : Nat}
include h i
theorem CI.vals' {v:Value} (hv: ∀v',val i=some v'->v=v'): ∀j,also d i j=true-> ∀v',val j=some v'->upd u i v j=v':=fun j hj v' hv'=>by
 by_cases hij:j=i
 {subst hij; rw[Z06]; exact hv v' hv'}
 {rw[Z08 d hij] at hj; rw[Z01 u v hij]; exact h.vals j hj v' hv'}
theorem CI.pure (hi:i≠i0/\i≠i1/\i≠i2/\i≠i3/\i≠ib) {v:Value} (hv: ∀v',val i=some v'->v=v') (hb:Below W.heap.size W W'):CI W0 val fin lA lB b i0 i1 i2 i3 ib (also d i) (upd u i v) W':=by
 obtain ⟨n0,n1,n2,n3,nb⟩:=hi;have k: ∀j,j≠i->also d i j=d j/\upd u i v j=u j:=fun j hj=>⟨Z08 d hj,Z01 u v hj⟩;refine ⟨Z02 h.up hb,h.vals' hv, ?_, ?_, ?_, ?_, ?_⟩
 {rw[(k i0 (Ne.symm n0)).1,(k i0 (Ne.symm n0)).2,(k i1 (Ne.symm n1)).1]; exact fun h1 h2=>Z14 (h.r0 h1 h2) hb}
 {rw[(k i1 (Ne.symm n1)).1,(k i1 (Ne.symm n1)).2,(k i2 (Ne.symm n2)).1]; exact fun h1 h2=>Z14 (h.r1 h1 h2) hb}
 {rw[(k ib (Ne.symm nb)).1,(k ib (Ne.symm nb)).2,(k i2 (Ne.symm n2)).1,(k i0 (Ne.symm n0)).1,(k i0 (Ne.symm n0)).2,(k i1 (Ne.symm n1)).1,(k i1 (Ne.symm n1)).2];intro h1 h2;obtain ⟨z,e,z1,z2,z3,z4,z5⟩:=h.rb h1 h2;exact ⟨z,e,z1,Nat.lt_of_lt_of_le z2 hb.size,z3,z4,fun j v hv=>(hb.cell (p:=⟨z,j,none⟩) z2).trans (z5 j v hv)⟩}
 {rw[(k i2 (Ne.symm n2)).1,(k i2 (Ne.symm n2)).2,(k i3 (Ne.symm n3)).1]; exact fun h1 h2=>Z14 (h.r2 h1 h2) hb}
 {rw[(k i3 (Ne.symm n3)).1,(k i3 (Ne.symm n3)).2]; exact fun h0 h1=>Z14 (h.r3 h0 h1) hb}
end
end
structure CJ (W0:World) (val:Nat->Option Value) (lA lB:List BE) (b:BE) (i0 i1 i2 ib:Nat) (d:Nat->Bool) (u:Nat->Value) (W:World):Prop where
 ci:CI W0 val true lA lB b i0 i1 i2 11 ib d u W
 al:d 12=true->u 12=u 11
section
variable {W0 W W' : World} {val : Nat -> Option Value} {lA lB : List BE} {b : BE} {i0 i1 i2 ib : Nat} {d : Nat -> Bool} {u : Nat -> Value}
theorem CJ.start {u:Nat->Value}:CJ W0 val lA lB b i0 i1 i2 ib (fun _=>false) u W0.drew:=⟨CI.start,nofun⟩
theorem CJ.on (h:CJ W0 val lA lB b i0 i1 i2 ib d u W) {i:Nat} {v:Value} (hi:i≠11/\i≠12) (hc:CI W0 val true lA lB b i0 i1 i2 11 ib (also d i) (upd u i v) W'):CJ W0 val lA lB b i0 i1 i2 ib (also d i) (upd u i v) W':=
 ⟨hc,by rw[Z08 d (Ne.symm hi.2),Z01 u v (Ne.symm hi.1),Z01 u v (Ne.symm hi.2)]; exact h.al⟩
end
theorem Z3t {W:World} {B e s n:Nat} {v:Value} {xs:List Value} (h:W.ownsRow B e s v n xs) (hn:0 < n): ∃g c,v= .slice (some ⟨g,0,none⟩) n c:=by
 rcases h.2 with ⟨_,h2⟩ | ⟨g,cap,cur,hv,_⟩
 {omega}
 {exact ⟨g,cap,hv⟩}
end SubM
end Go.Proofs.YtchklpedlbkgaaaDoor
namespace Go.Proofs.YtchklpedlbkgaaaDoor
open Go.RowKit Shp Sub
open Expd (Bd)
namespace SubM
abbrev bdV (b:Bd) (q:Ptr):Value:= .agg #[.string ⟨b.of_.toArray⟩,.string ⟨b.name.toArray⟩,.int .i64 b.sh.kind,.string ⟨b.sh.of_.toArray⟩,.string ⟨b.sh.name.toArray⟩,.slice q.A b.sh.names.length q.c,.slice q.P b.sh.parts.length q.d]
structure TY (W0:World) (B:Nat) (A:Option Addr) (n c:Nat) (lE:List BE) (val:Nat->Option Value) (bd:Bd) (cI bI sI aI fI:Nat) (d:Nat->Bool) (u:Nat->Value) (W:World):Prop where
 up:Upd (fun b=>rowB A=some b) W0 W
 vals: ∀j,d j=true-> ∀v,val j=some v->u j=v
 n0:d aI=false->W.ownsRow B 54 7 (.slice A n c) n (cellsB lE)
 cl:d cI=true-> ∃q,u cI=sv bd.sh q/\Kept (fun b=>W0.heap.size<=b/\(d aI=true->(u aI).ownBlock≠some b)) W (bd.sh,q)/\(d bI=true->u bI=bdV bd q)/\
  (d sI=true->d aI=false-> ∃z,u sI= .slice (some ⟨z,0,none⟩) 1 1/\W0.heap.size<=z/\z < W.heap.size/\ ∀j v,(cells7 (bd,q))[j]? =some v->W.cell? ⟨z,j,none⟩=some v)/\
  (d aI=true->W.ownsRow B 54 7 (u aI) (n+1) (cellsB (lE++ [(bd,q)])))
 ab:d aI=true->(u aI).ownBlock=rowB A\/ ∃x,(u aI).ownBlock=some x/\W0.heap.size<=x
 al:d fI=true->u fI=u aI
 fr:d fI=false->u fI= .slice A n c
def Dis5 (a b c d e:Nat):Prop:=(a≠b/\a≠c/\a≠d/\a≠e)/\(b≠c/\b≠d/\b≠e)/\(c≠d/\c≠e)/\d≠e
instance (a b c d e:Nat):Decidable (Dis5 a b c d e):=by unfold Dis5; infer_instance
section
variable {W0 W W' : World} {B n c : Nat} {A : Option Addr} {lE : List BE} {val : Nat -> Option Value} {bd : Bd} {cI bI sI aI fI : Nat} {d : Nat -> Bool} {u : Nat -> Value}
theorem TY.vals' (h:TY W0 B A n c lE val bd cI bI sI aI fI d u W) {i:Nat} {v:Value} (hv: ∀v',val i=some v'->v=v'): ∀j,also d i j=true-> ∀v',val j=some v'->upd u i v j=v':=fun j hj v' hv'=>by
 by_cases hij:j=i
 {subst hij; rw[Z06]; exact hv v' hv'}
 {rw[Z08 d hij] at hj; rw[Z01 u v hij]; exact h.vals j hj v' hv'}
theorem TY.start {u:Nat->Value} (h:W0.ownsRow B 54 7 (.slice A n c) n (cellsB lE)) (hu:u fI= .slice A n c):TY W0 B A n c lE val bd cI bI sI aI fI (fun _=>false) u W0.drew:=
 ⟨(Upd.refl _ _).drew,nofun,fun _=>h,nofun,nofun,nofun,fun _=>hu⟩
section
variable (h : TY W0 B A n c lE val bd cI bI sI aI fI d u W)
include h
theorem TY.pure {i:Nat} (hi:i≠cI/\i≠bI/\i≠sI/\i≠aI/\i≠fI) {v:Value} (hv: ∀v',val i=some v'->v=v'):TY W0 B A n c lE val bd cI bI sI aI fI (also d i) (upd u i v) W:=by
 obtain ⟨k1,k2,k3,k4,k5⟩:=hi;have k: ∀j,j≠i->also d i j=d j/\upd u i v j=u j:=fun j hj=>⟨Z08 d hj,Z01 u v hj⟩;refine ⟨h.up,h.vals' hv, ?_, ?_, ?_, ?_, ?_⟩
 {rw[(k aI (Ne.symm k4)).1]; exact h.n0}
 {rw[(k cI (Ne.symm k1)).1,(k cI (Ne.symm k1)).2,(k bI (Ne.symm k2)).1,(k bI (Ne.symm k2)).2,(k sI (Ne.symm k3)).1,(k sI (Ne.symm k3)).2,(k aI (Ne.symm k4)).1,(k aI (Ne.symm k4)).2]; exact h.cl}
 {rw[(k aI (Ne.symm k4)).1,(k aI (Ne.symm k4)).2]; exact h.ab}
 {rw[(k fI (Ne.symm k5)).1,(k fI (Ne.symm k5)).2,(k aI (Ne.symm k4)).2]; exact h.al}
 {rw[(k fI (Ne.symm k5)).1,(k fI (Ne.symm k5)).2]; exact h.fr}
theorem TY.call (hD:Dis5 cI bI sI aI fI) (hval:val cI=none) (hb:d bI=false) (hs:d sI=false) (ha:d aI=false) (hf:d fI=false) {q:Ptr} (hbl:Below W.heap.size W W') (hk:Kept (fun b=>W.heap.size<=b) W' (bd.sh,q)):
 TY W0 B A n c lE val bd cI bI sI aI fI (also d cI) (upd u cI (sv bd.sh q)) W':=by
 obtain ⟨⟨n1,n2,n3,n4⟩,_,_,_⟩:=hD;have k: ∀j,j≠cI->also d cI j=d j/\ ∀v,upd u cI v j=u j:=fun j hj=>⟨Z08 d hj,fun v=>Z01 u v hj⟩;have hu:Upd (fun _=>False) W W':=Upd.new hbl;have hz:=h.up.size;refine ⟨h.up.trans (Upd.new hbl),h.vals' (fun v' hv=>by rw[hval] at hv; cases hv), ?_,fun _=>⟨q,Z06 _ _ _, ?_, ?_, ?_, ?_⟩, ?_, ?_, ?_⟩
 {rw[(k aI (Ne.symm n3)).1]; exact fun h1=>Z14 (h.n0 h1) hbl}
 {rw[(k aI (Ne.symm n3)).1,ha]; exact hk.more (fun b _ hb=>⟨by omega,nofun⟩)}
 {rw[(k bI (Ne.symm n1)).1,hb]; exact nofun}
 {rw[(k sI (Ne.symm n2)).1,hs]; exact nofun}
 {rw[(k aI (Ne.symm n3)).1,ha]; exact nofun}
 {rw[(k aI (Ne.symm n3)).1,ha]; exact nofun}
 {rw[(k fI (Ne.symm n4)).1,hf]; exact nofun}
 {rw[(k fI (Ne.symm n4)).1,(k fI (Ne.symm n4)).2]; exact h.fr}
theorem TY.build (hD:Dis5 cI bI sI aI fI) (hval:val bI=none) (hc:d cI=true) (hs:d sI=false) (ha:d aI=false) {q:Ptr} (hq:u cI=sv bd.sh q):TY W0 B A n c lE val bd cI bI sI aI fI (also d bI) (upd u bI (bdV bd q)) W:=by
 obtain ⟨⟨n1,_,_,_⟩,⟨m1,m2,m3⟩,_,_⟩:=hD;have k: ∀j,j≠bI->also d bI j=d j/\ ∀v,upd u bI v j=u j:=fun j hj=>⟨Z08 d hj,fun v=>Z01 u v hj⟩;refine ⟨h.up,h.vals' (fun v' hv=>by rw[hval] at hv; cases hv), ?_, ?_, ?_, ?_, ?_⟩
 {rw[(k aI (Ne.symm m2)).1]; exact h.n0}
 {rw[(k cI n1).1,(k cI n1).2,(k sI (Ne.symm m1)).1,(k aI (Ne.symm m2)).1,hs,ha,Z06];intro hcc;obtain ⟨q2,e,hk,_,_,_⟩:=h.cl hcc;rw[ha] at hk;have e2:q2=q:=by
   have:=ZbZ (e.symm.trans hq);cases q2; cases q;simp only at this;simp[this.2.2.2.1,this.2.2.2.2.2.1,this.2.2.2.2.2.2.1,this.2.2.2.2.2.2.2.2]
  subst e2;exact ⟨q2,e,hk.more (fun b _ hb=>⟨hb.1,nofun⟩),fun _=>rfl,nofun,nofun⟩}
 {rw[(k aI (Ne.symm m2)).1,(k aI (Ne.symm m2)).2]; exact h.ab}
 {rw[(k fI (Ne.symm m3)).1,(k fI (Ne.symm m3)).2,(k aI (Ne.symm m2)).2]; exact h.al}
 {rw[(k fI (Ne.symm m3)).1,(k fI (Ne.symm m3)).2]; exact h.fr}
theorem TY.mkS (hD:Dis5 cI bI sI aI fI) (hval:val sI=none) (hc:d cI=true) (ha:d aI=false) {q:Ptr} (hq:u cI=sv bd.sh q):
 TY W0 B A n c lE val bd cI bI sI aI fI (also d sI) (upd u sI (.slice (some ⟨W.heap.size,0,none⟩) 1 1)) (W.alloc (.cells #[.string ⟨bd.of_.toArray⟩,.string ⟨bd.name.toArray⟩,.int .i64 bd.sh.kind,.string ⟨bd.sh.of_.toArray⟩,.string ⟨bd.sh.name.toArray⟩,.slice q.A bd.sh.names.length q.c,.slice q.P bd.sh.parts.length q.d] 54)):=by
 obtain ⟨⟨_,n2,_,_⟩,⟨m1,_,_⟩,⟨p1,p2⟩,_⟩:=hD;have hbl:=Z00 W (.cells #[.string ⟨bd.of_.toArray⟩,.string ⟨bd.name.toArray⟩,.int .i64 bd.sh.kind,.string ⟨bd.sh.of_.toArray⟩,.string ⟨bd.sh.name.toArray⟩,.slice q.A bd.sh.names.length q.c,.slice q.P bd.sh.parts.length q.d] 54);have k: ∀j,j≠sI->also d sI j=d j/\ ∀v,upd u sI v j=u j:=fun j hj=>⟨Z08 d hj,fun v=>Z01 u v hj⟩;have hz:=h.up.size;refine ⟨h.up.trans (Upd.new hbl),h.vals' (fun v' hv=>by rw[hval] at hv; cases hv), ?_, ?_, ?_, ?_, ?_⟩
 {rw[(k aI (Ne.symm p1)).1]; exact fun h1=>Z14 (h.n0 h1) hbl}
 {rw[(k cI n2).1,(k cI n2).2,(k bI m1).1,(k bI m1).2,(k aI (Ne.symm p1)).1,ha,Z06];intro hcc;obtain ⟨q2,e,hk,hb,_,_⟩:=h.cl hcc;rw[ha] at hk;have e2:q2=q:=by
   have:=ZbZ (e.symm.trans hq);cases q2; cases q;simp only at this;simp[this.2.2.2.1,this.2.2.2.2.2.1,this.2.2.2.2.2.2.1,this.2.2.2.2.2.2.2.2]
  subst e2;refine ⟨q2,e,(hk.upd (T:=fun _=>False) (Upd.new hbl) (fun _ _ _ h=>h)).more (fun b _ hb=>⟨hb.1,nofun⟩),hb,fun _ _=>⟨W.heap.size,rfl,hz,by simp,fun j v hv=> ?_⟩,nofun⟩;rcases j with _ | _ | _ | _ | _ | _ | _ | j <;> (simp[cells7] at hv; try (subst hv; simp[go_sem]))}
 {rw[(k aI (Ne.symm p1)).1,(k aI (Ne.symm p1)).2]; exact h.ab}
 {rw[(k fI (Ne.symm p2)).1,(k fI (Ne.symm p2)).2,(k aI (Ne.symm p1)).2]; exact h.al}
 {rw[(k fI (Ne.symm p2)).1,(k fI (Ne.symm p2)).2]; exact h.fr}
theorem TY.app (hD:Dis5 cI bI sI aI fI) (hval:val aI=none) (hc:d cI=true) (ha:d aI=false) (hf:d fI=false) {q:Ptr} (hq:u cI=sv bd.sh q) {v:Value} (hB:W0.ownsRow B 54 7 (.slice A n c) n (cellsB lE))
 (hown:W'.ownsRow B 54 7 v (n+1) (cellsB (lE++ [(bd,q)]))) (hg:W.grownBy W' (rowB A)) (hat:v.ownBlock=rowB A\/v.ownBlock=some W.heap.size):TY W0 B A n c lE val bd cI bI sI aI fI (also d aI) (upd u aI v) W':=by
 obtain ⟨⟨_,_,n3,_⟩,⟨_,m2,_⟩,⟨p1,_⟩,r1⟩:=hD;have k: ∀j,j≠aI->also d aI j=d j/\upd u aI v j=u j:=fun j hj=>⟨Z08 d hj,Z01 u v hj⟩;have hu:Upd (fun x=>rowB A=some x) W W':=(Upd.refl _ W).grown hg (fun k h _=>h);have hz:=h.up.size;refine ⟨h.up.trans hu,h.vals' (fun v' hv=>by rw[hval] at hv; cases hv), ?_, ?_, ?_, ?_, ?_⟩
 {rw[Z0t]; exact nofun}
 {rw[(k cI n3).1,(k cI n3).2,(k bI m2).1,(k bI m2).2,(k sI p1).1,Z0t,Z06];intro hcc;obtain ⟨q2,e,hk,hb,_,_⟩:=h.cl hcc;rw[ha] at hk;have e2:q2=q:=by
   have:=ZbZ (e.symm.trans hq);cases q2; cases q;simp only at this;simp[this.2.2.2.1,this.2.2.2.2.2.1,this.2.2.2.2.2.2.1,this.2.2.2.2.2.2.2.2]
  subst e2;refine ⟨q2,e,hk.move hu (fun b hb hf=>⟨fun e=> ?_,hf.1,fun _ e=> ?_⟩),hb,fun _=>nofun,fun _=>hown⟩
  {have:=(Z0u hB b e).2; have:=hf.1; omega}
  {rcases hat with h1 | h1
   {rw[h1] at e; have:=(Z0u hB b e).2; have:=hf.1; omega}
   {rw[h1] at e; cases e; omega}}}
 {rw[Z06]; exact fun _=>hat.imp id (fun h=>⟨W.heap.size,h,hz⟩)}
 {rw[(k fI (Ne.symm r1)).1,hf]; exact nofun}
 {rw[(k fI (Ne.symm r1)).1,(k fI (Ne.symm r1)).2]; exact h.fr}
theorem TY.fin (hD:Dis5 cI bI sI aI fI) (hval:val fI=none):TY W0 B A n c lE val bd cI bI sI aI fI (also d fI) (upd u fI (u aI)) W:=by
 obtain ⟨⟨_,_,_,n4⟩,⟨_,_,m3⟩,⟨_,p2⟩,r1⟩:=hD;have k: ∀j,j≠fI->also d fI j=d j/\upd u fI (u aI) j=u j:=fun j hj=>⟨Z08 d hj,Z01 u _ hj⟩;refine ⟨h.up,h.vals' (fun v' hv=>by rw[hval] at hv; cases hv), ?_, ?_, ?_, ?_, ?_⟩
 {rw[(k aI r1).1]; exact h.n0}
 {rw[(k cI n4).1,(k cI n4).2,(k bI m3).1,(k bI m3).2,(k sI p2).1,(k sI p2).2,(k aI r1).1,(k aI r1).2]; exact h.cl}
 {rw[(k aI r1).1,(k aI r1).2]; exact h.ab}
 {rw[Z06,(k aI r1).2]; exact fun _=>rfl}
 {rw[Z0t]; exact nofun}
end
end
structure KT (w:World) (l:List Bd) (lE:List BE) (A:Option Addr) (c:Nat) (W:World):Prop where
 up:Below w.heap.size w W
 row:W.ownsRow w.heap.size 54 7 (.slice A lE.length c) lE.length (cellsB lE)
 eq:lE.map Prod.fst=l
 kp: ∀x∈lE,Kept (fun b=>w.heap.size<=b/\rowB A≠some b) W (x.1.sh,x.2)/\x.1.of_.length<=9223372036854775807/\x.1.name.length<=9223372036854775807
section
variable {w W W' : World} {l : List Bd} {lE : List BE} {A : Option Addr} {c : Nat}
theorem KT.new (h:KT w l lE A c W) (hb:Below W.heap.size W W'):KT w l lE A c W':=
 ⟨Z02 h.up hb |> fun x=>x,Z14 h.row hb,h.eq,fun x hx=>⟨(h.kp x hx).1.upd (T:=fun _=>False) (Upd.new hb) (fun _ _ _ h=>h),(h.kp x hx).2⟩⟩
theorem KT.len (h:KT w l lE A c W):lE.length=l.length:=by have:=congrArg List.length h.eq; simpa using this
theorem KT.bds (h:KT w l lE A c W):BdsAt W W.heap.size A l:=by
 have:=Z4b h.row rfl (fun x hx=>⟨(h.kp x hx).1.here,(h.kp x hx).2⟩);rw[h.eq] at this;exact this
theorem KT.put {val:Nat->Option Value} {bd:Bd} {cI bI sI aI fI:Nat} {d:Nat->Bool} {u:Nat->Value} {W0:World} (h:KT w l lE A c W0) (hI:TY W0 w.heap.size A lE.length c lE val bd cI bI sI aI fI d u W) (hc:d cI=true) (ha:d aI=true) (h1:bd.of_.length<=9223372036854775807) (h2:bd.name.length<=9223372036854775807):
 ∃A' c' x,u aI= .slice A' (lE.length+1) c'/\KT w (l++ [bd]) (lE++ [x]) A' c' W:=by
 obtain ⟨q,_,hk,_,_,hr⟩:=hI.cl hc;have hr:=hr ha;obtain ⟨g,c',e⟩:=Z3t hr (by omega);have hab:=hI.ab ha;rw[e] at hr hab hk;simp only[Zc6] at hab hk;have hw:=h.up.size;refine ⟨_,c',(bd,q),e,h.up.trans (hI.up.below hw (fun x hx=>(Z0u h.row x hx).1)),by rw[List.length_append]; exact hr,by rw[List.map_append,h.eq]; rfl,fun x hx=> ?_⟩;rcases List.mem_append.1 hx with hx | hx
 {refine ⟨(h.kp x hx).1.move hI.up (fun b hb hf=>⟨fun e=>hf.2 e,hf.1,fun e=> ?_⟩),(h.kp x hx).2⟩;rcases hab with h3 | ⟨y,h3,h4⟩
  {exact hf.2 (h3.symm.trans e)}
  {rw[h3] at e; cases e; omega}}
 {rw[List.mem_singleton.1 hx];exact ⟨hk.more (fun b _ hb=>⟨by omega,hb.2 ha⟩),h1,h2⟩}
end
end SubM
end Go.Proofs.YtchklpedlbkgaaaDoor
namespace Go.Proofs.YtchklpedlbkgaaaDoor
section
open Go.RowKit Shp
inductive Thin:Sh->Prop
 | mk (t:Sh) (h:t.names.length<=8796093022207) (hp: ∀p∈t.parts,Thin p):Thin t
theorem Thin.names {t:Sh} (h:Thin t):t.names.length<=8796093022207:=by cases h; assumption
theorem Thin.part {t p:Sh} (h:Thin t) (hp:p∈t.parts):Thin p:=by cases h with | mk _ _ h=>exact h p hp
theorem Zce (A:Option Addr) (c:Nat) (l:List (List UInt8)) (w:World) (hA:Strs w w.heap.size A (strs l)) (hl:l.length<=8796093022207) (hlc:l.length<=c) (hA0:A=none->c=0):
 Calls Tryd.prog 44 #[.slice A l.length c] w fun e w'=>(∃A' c',e= .returned (.slice A' l.length c')/\l.length<=c'/\(A'=none->c'=0)/\(l.length=0\/ ∃b,A'=some ⟨b,0,none⟩/\w.heap.size<=b/\TxR w' b l))/\Below w.heap.size w w':=by
 obtain ⟨i0,hi,hz0,hz1,hz2⟩:=info_parts (P:=Tryd.prog) (e:=9) (z:= .string ByteArray.empty) (size:=1) (bytes:=16) Z3I;have q22: ∀(w:World) (a:Option Addr) (n c n' c':Nat),(binOp .eql 22 (.slice a n c) (.slice none n' c')).run Tryd.prog w= .ok (.bool a.isNone) w:=fun w a n c n' c'=>Lib.run_eql_slice_nil w _ _ a n c n' c' Tryd.underlying22;cases A with
 | none=>
  obtain rfl:=hA0 rfl;have hl0:l= []:=List.eq_nil_of_length_eq_zero (by omega);subst hl0;go_enter Tryd.func44,Tryd.ntmps44;go_wp2;go_ret;exact ⟨⟨none,0,by simp⟩,Below.refl _ _⟩
 | some ad=>
  have HA:=Y1 hA.cell7;clear hA hA0;go_enter Tryd.func44,Tryd.ntmps44
  go_wp2_with (at_builtin; refine Z12 _ rfl _ _ 22 rfl w.heap.size 9 i0 (.string ByteArray.empty) 1 16 Tryd.underlying22 hi hz0 hz1 hz2 rfl (by decide) _ 0 [] rfl (World.ownsRow_made w #[] 0 (Nat.le_refl _) (Nat.zero_le _) rfl) (some ad) l.length c ((strs l).map Value.string) rfl nofun ?qc1 ?qc2 ?qc3 ?qc4 ?qc5 ?qc6 ?_)
  case qc1=>simp[strs]
  case qc2=>
   intro ad' had j u hj;cases had;have hjl:j < l.length:=by
    have:=(List.getElem?_eq_some_iff.1 hj).1;simpa[strs] using this
   rcases HA.out with h0 | ⟨g,off,hgo,hg,hc⟩
   {omega}
   {cases hgo;rw[Z64];refine ((Z00 w _).cell (p:=⟨g,off+j,none⟩) hg).trans ((hc j hjl).trans ?_);simp[strs,hjl] at hj;rw[<-hj]}
  case qc3=>intro u hu; obtain ⟨x,_,rfl⟩:=List.mem_map.1 hu; rfl
  case qc4=>unfold maxLen; omega
  case qc5=>omega
  case qc6=>simp
  intro v' w' hown hb;have hown2:w'.ownsRow w.heap.size 9 1 v' l.length ((strs l).map Value.string):=by simpa using hown
  have HO:=Y1 hown2;have HB:Hid (Below w.heap.size w w'):=Y1 ((Z00 w (.cells #[] 9)).trans hb);clear hown hown2 hb;go_wp2;go_ret;refine ⟨?_,HB.out⟩;have h:=HO.out;rcases h.2 with ⟨hv,h0⟩ | ⟨g,cap,cur,hv,hBg,hh,hnc,_⟩
  {exact ⟨none,0,by rw[hv,h0]; rfl,by omega,fun _=>rfl,Or.inl h0⟩}
  {rw[hv] at h;exact ⟨some ⟨g,0,none⟩,cap,by rw[hv]; rfl,hnc,nofun,Or.inr ⟨g,rfl,hBg,Zbo h rfl⟩⟩}
theorem Zcn (g o:Nat) (A:Option Addr) (c:Nat) (l:List (List UInt8)) (w:World) (hg:g < w.heap.size) (k3:w.cell? ⟨g,o+3,none⟩=some (.slice A l.length c)) (f3:w.frozen? ⟨g,o+3,none⟩=false) (hA:Strs w w.heap.size A (strs l)) (hl:l.length<=8796093022207) (hlc:l.length<=c) (hA0:A=none->c=0):
 Calls Tryd.prog 43 #[.pointer (some ⟨g,o,none⟩)] w fun e w'=>e= .returned (.tuple #[])/\ ∃A' c' W2,Below w.heap.size w W2/\TxC w W2 l A' c'/\w'=W2.setCell ⟨g,o+3,none⟩ (.slice A' l.length c'):=by
 have HC:=Y1 (Zce A c l w hA hl hlc hA0);clear hA hl hlc hA0;go_enter Tryd.func43,Tryd.ntmps43
 go_wp2_with fail
 refine HC.out.mono ?_;rintro e W2 ⟨⟨A',c',rfl,h1,h2,h3⟩,hb⟩;have x3:=(hb.cell (p:=⟨g,o+3,none⟩) hg).trans k3;have y3:=(hb.frozen (p:=⟨g,o+3,none⟩) hg).trans f3;have HB:=Y1 hb;have HT:Hid (TxC w W2 l A' c'):=Y1 ⟨h1,h2,h3⟩;clear hb h1 h2 h3 k3 f3 HC;go_wp2;refine bodyPost_end (v:= .tuple #[]) (by simp[results,Tryd.results43,go_sem]) rfl ?_;exact ⟨rfl,A',c',W2,HB.out,HT.out,rfl⟩
section
variable (t : Sh) (q : Ptr) (w : World) (hq : ShAt w w.heap.size q t) (hz : size t <= 1000) (hr : Thin t)
include t q w hq hz hr
theorem Zcf:
 Calls Tryd.prog 42 #[.agg (Y8 t q),.func (.func 41) #[] #[],.func (.func 43) #[] #[]] w fun e w'=> ∃q' F,e= .returned (.agg (Y8 t q'))/\Own w' q' t F/\F.Nodup/\(∀b∈F,w.heap.size<=b)/\Below w.heap.size w w':=by
 have hde:=Z1G t;have hcb:=Z6a w t q;have hm:=Z8r t q w.heap.size 0 w.heap.size (w.heap.size+1+1) 0 1 (cW w t q) hcb.1 (by omega) (hq.keep (Z69 w t q) (Nat.le_refl _)) (by omega) (ZbL w t q) (by omega) (by omega);rw[show (((1:Nat)):Int)=(1:Int) from rfl] at hm;have HM:=Y1 hm;have HST:=Y1 (fun W1 (hu:UpH (w.heap.size+1+1) (cW w t q) W1)=>Zc2 w W1 t q hq hu);have L1:=fun (g o:Nat) (W:World)=>Z4L g o W;clear hq hm hcb hde;go_enter Tryd.func42,Tryd.ntmps42
 go_wp2_with fail
 change Calls _ _ _ (cW w t q) _;refine HM.out.mono ?_;rintro e W1 ⟨rfl,hu1,_⟩;have HS1:=Y1 (HST.out W1 hu1);clear HM HST hu1
 go_wp2_with fail
 go_loopg [9] (size t) (fun k s9 wr=> ∃L D,sumL L<=k/\sumL L<=1000/\(∀n∈L,Thin n.t)/\Hid (Cst w wr w.heap.size (w.heap.size+1) t s9 L D))
 case atStart=>exact ⟨_,_,by simp[sumL],by simp[sumL]; omega,fun n hn=>by simp only[List.mem_cons,List.not_mem_nil,or_false] at hn; subst hn; exact hr,HS1⟩
 case round=>
  obtain ⟨L,D,hk,h400,hri,HC⟩:=hrel;clear HS1;rcases List.eq_nil_or_concat L with rfl | ⟨L',a,rfl⟩
  {obtain ⟨F,⟨q',hS,hO⟩,hnd,hFD⟩:=Z8o HC.out.rdy;obtain ⟨A,cp,rfl⟩:=HC.out.opn.empty;obtain ⟨p0,p1,p2,p3,p4⟩:=hS;simp only[Nat.zero_mul,Nat.zero_add] at p0 p1 p2 p3 p4;obtain ⟨r1D,⟨_,_,_⟩,rcs,rfz⟩:=HC.out.res;obtain ⟨e0,r0⟩:=rcs 0 (by omega);obtain ⟨e1,r1⟩:=rcs 1 (by omega);obtain ⟨e2,r2⟩:=rcs 2 (by omega);obtain ⟨e3,r3⟩:=rcs 3 (by omega);obtain ⟨e4,r4⟩:=rcs 4 (by omega);have z0:=rfz 0;have z1:=rfz 1;have z2:=rfz 2;have z3:=rfz 3;have z4:=rfz 4;have HO:=Y1 hO;have HND:=Y1 hnd;have HFD:=Y1 (fun b hb=>(HC.out.lo b (hFD b hb)).1);have HNE:=Y1 (fun b hb (e:w.heap.size+1=b)=>r1D (by rw[e]; exact hFD b hb));have HBL:=Y1 HC.out.bel;clear hO hnd hFD rcs rfz r1D hri;go_wp2;refine bodyPost_ret (v:= .agg (Y8 t q')) (by simp[results,Tryd.results42,go_sem,r0,r1,r2,r3,r4]) rfl ?_;refine ⟨q',F,rfl,HO.out.of (fun b hb=> ?_) (by simp[World.setCell]),HND.out,HFD.out, ?_⟩
   {have hne:=HNE.out b hb;exact ((((Z0m _ ⟨w.heap.size+1,0,none⟩ _ hne).trans (Z0m _ ⟨w.heap.size+1,1,none⟩ _ hne)).trans (Z0m _ ⟨w.heap.size+1,2,none⟩ _ hne)).trans (Z0m _ ⟨w.heap.size+1,3,none⟩ _ hne)).trans (Z0m _ ⟨w.heap.size+1,4,none⟩ _ hne)}
   {exact ((((HBL.out.setCell (p:=⟨w.heap.size+1,0,none⟩) (Nat.le_succ _) _).setCell (p:=⟨w.heap.size+1,1,none⟩) (Nat.le_succ _) _).setCell (p:=⟨w.heap.size+1,2,none⟩) (Nat.le_succ _) _).setCell (p:=⟨w.heap.size+1,3,none⟩) (Nat.le_succ _) _).setCell (p:=⟨w.heap.size+1,4,none⟩) (Nat.le_succ _) _}}
  {rw[List.concat_eq_append] at hk h400 HC hri;obtain ⟨g,cap,rfl,hcap,hcl,hgW⟩:=HC.out.opn.last;obtain ⟨hagD,har1,hS5,hat,hfr⟩:=HC.out.nd a (by simp);obtain ⟨hlo1,hlo2,hlo4⟩:=HC.out.lo a.g hagD;obtain ⟨W,hW⟩: ∃W,W=wr:=⟨wr,rfl⟩;subst hW;have hi1: (0:Int) < ((L'.length+1:Nat):Int):=by omega
   have hL4:L'.length<=1000:=by
    have:=ZaX L';rw[Z0R] at h400;omega
   have hag:a.g≠g:=fun e=>hlo4 (by rw[e]; rfl);unfold ndP at hcl;obtain ⟨p0,p1,p2,p3,p4⟩:=hS5;have hsm:=hat.small;have ha4:size a.t<=1000:=by rw[Z0R] at h400; simp[sumL] at h400; omega
   have har:=hri a (by simp);have hnm:a.t.names.length<=8796093022207:=har.names;have hsz:=HC.out.bel.size;have HOWN:=Y1 (Zcn a.g (a.i * 5) a.q.A a.q.c a.t.names W hlo2 p3 (hfr _) (hat.strs.more hsz) hnm hsm.c hsm.A0);have HRI:=Y1 hri;have HAT:=Y1 hat;have HSM:=Y1 hsm;have LA:=fun (W:World)=>L1 a.g (a.i * 5) W;clear hri hat hsm p0 p1 p2 p3
   go_wp2_with fail
   refine HOWN.out.mono ?_;rintro e w3 ⟨rfl,A',c',W2,hb2,htx,rfl⟩;have x4: (W2.setCell ⟨a.g,a.i * 5+3,none⟩ (.slice A' a.t.names.length c')).cell? ⟨a.g,a.i * 5+4,none⟩=some (.slice a.q.P a.t.parts.length a.q.d):=
    (World.cell?_setCell_other _ _ _ _ (fun e=>by have:=congrArg Addr.off e; simp at this)).trans ((hb2.cell (p:=⟨a.g,a.i * 5+4,none⟩) hlo2).trans p4)
   have f4: (W2.setCell ⟨a.g,a.i * 5+3,none⟩ (.slice A' a.t.names.length c')).frozen? ⟨a.g,a.i * 5+4,none⟩=false:=by
    rw[World.frozen?_setCell]; exact (hb2.frozen (p:=⟨a.g,a.i * 5+4,none⟩) hlo2).trans (hfr _)
   have hz2:W.heap.size<=W2.heap.size:=hb2.size;have hz3: (W2.setCell ⟨a.g,a.i * 5+3,none⟩ (.slice A' a.t.names.length c')).heap.size=W2.heap.size:=Z2v _ _ _;have hag3:a.g < (W2.setCell ⟨a.g,a.i * 5+3,none⟩ (.slice A' a.t.names.length c')).heap.size:=by omega
   have hbw3:Below w.heap.size w (W2.setCell ⟨a.g,a.i * 5+3,none⟩ (.slice A' a.t.names.length c')):=(HC.out.bel.trans (hb2.mono hsz)).setCell hlo1 _;have HB2:=Y1 hb2;have HTX:=Y1 htx;clear hb2 htx p4 HOWN hcl;by_cases hpz:a.t.parts.length=0
   {have hrn:=Z8s a.g (a.i * 5+4) a.q.P a.q.d (W2.setCell ⟨a.g,a.i * 5+3,none⟩ (.slice A' a.t.names.length c')) hag3 (by rw[x4,hpz]) f4 HSM.out.P0;have HRN:=Y1 hrn;clear hrn x4 f4 hbw3 hag3 hz3
    go_wp2_with fail
    refine (LA _).mono ?_;rintro e w4 ⟨rfl,rfl⟩
    go_wp2_with fail
    refine HRN.out.mono ?_;rintro e w5 ⟨rfl,P',d',W3',hb3,hP0,rfl⟩;have HST:=Y1 (HC.out.step (P':=P') (d':=d') (pb:=0) (qs:=fun _=>a.q) HB2.out HTX.out hb3 (by omega) hP0 (Or.inl ⟨hpz,by rw[hpz],rfl⟩));have hk0:kids 0 a.t.parts (fun _=>a.q)= []:=List.eq_nil_of_length_eq_zero (by rw[Z0U]; exact hpz);rw[hk0,List.append_nil] at HST;clear hk0 hb3 hP0 HRN;go_wp2
    go_roundg (sumL L')
    case measure=>rw[Z0R] at hk; have:=Z2i a.t; simp[sumL] at hk ⊢; omega
    case rel=>
     obtain ⟨D5,h5⟩:=HST.out;exact ⟨L',D5,Nat.le_refl _,by rw[Z0R] at h400; omega,fun n hn=>HRI.out n (by simp[hn]),Y1 h5⟩}
   {have hpos:0 < a.t.parts.length:=by omega
    rcases HAT.out.part with h0 | ⟨g',off,qs,hqP,hg',hcc,hrr⟩
    {omega}
    {have hpl:a.t.parts.length<=1000000000:=by have:=Z0L a.t.parts; rw[size_eq] at ha4; omega
     have hrn:=Z8t a.g (a.i * 5+4) g' off a.q.d a.t.parts qs (W2.setCell ⟨a.g,a.i * 5+3,none⟩ (.slice A' a.t.names.length c')) hag3 (by rw[x4,hqP]) f4 (by omega) (fun i hi=>(hcc i hi).of (fun k=>(hbw3.cell (p:=⟨g',k,none⟩) hg').trans (HC.out.bel.cell (p:=⟨g',k,none⟩) hg').symm)) hpl hpos;have HRN:=Y1 hrn;have HRR:=Y1 hrr;clear hrn hcc hrr hqP x4 f4 hbw3
     go_wp2_with fail
     refine (LA _).mono ?_;rintro e w4 ⟨rfl,rfl⟩
     go_wp2_with fail
     refine HRN.out.mono ?_;rintro e w5 ⟨rfl,pb,d',W3',hb3,hd1,hpb,hpar,rfl⟩;have hz4:=hb3.size;have hagz:a.g < W3'.heap.size:=by omega
     have hoc: ∃u,W3'.cell? ⟨a.g,a.i * 5+4,none⟩=some u:=⟨_,(hb3.cell (p:=⟨a.g,a.i * 5+4,none⟩) hag3).trans ((World.cell?_setCell_other _ _ _ _ (fun e=>by have:=congrArg Addr.off e; simp at this)).trans ((HB2.out.cell (p:=⟨a.g,a.i * 5+4,none⟩) hlo2).trans (HC.out.nd a (by simp)).2.2.1.2.2.2.2))⟩;obtain ⟨u0,hu0⟩:=hoc;have c4: (W3'.setCell ⟨a.g,a.i * 5+4,none⟩ (.slice (some ⟨pb,0,none⟩) a.t.parts.length d')).cell? ⟨a.g,a.i * 5+4,none⟩=some (.slice (some ⟨pb,0,none⟩) a.t.parts.length d'):=World.cell?_setCell_same _ _ _ hu0;have hz5: (W3'.setCell ⟨a.g,a.i * 5+4,none⟩ (.slice (some ⟨pb,0,none⟩) a.t.parts.length d')).heap.size=W3'.heap.size:=Z2v _ _ _;have hO4:Opn (W3'.setCell ⟨a.g,a.i * 5+4,none⟩ (.slice (some ⟨pb,0,none⟩) a.t.parts.length d')) (.slice (some ⟨g,0,none⟩) L'.length cap) L':=
      (((HC.out.opn.pop.below HB2.out).set (fun e=>hag (Option.some.inj e).symm) _).below hb3).set (fun e=>hag (Option.some.inj e).symm) _
     have hpbl:=hpar.lt;have hpag:pb≠a.g:=by omega
     have hR0:=Rnd7.start hO4 (fun e=>by have:g=pb:=Option.some.inj e; omega) (hpar.of (Z0m W3' ⟨a.g,a.i * 5+4,none⟩ (.slice (some ⟨pb,0,none⟩) a.t.parts.length d') (Ne.symm hpag)) (by omega));have HR0:=Y1 hR0;have HSTEP:=Y1 (fun (W5:World) (v5:Value) (hr:Rnd7 (W3'.setCell ⟨a.g,a.i * 5+4,none⟩ (.slice (some ⟨pb,0,none⟩) a.t.parts.length d')) W5 (.slice (some ⟨g,0,none⟩) L'.length cap) v5 pb a.t.parts qs L' a.t.parts.length)=>HC.out.step (P':=some ⟨pb,0,none⟩) (d':=d') (pb:=pb) (qs:=qs) HB2.out HTX.out hb3 hd1 nofun (Or.inr ⟨rfl,by omega,HRR.out,hr⟩));obtain ⟨W4,hW4⟩: ∃W4,W4=W3'.setCell ⟨a.g,a.i * 5+4,none⟩ (.slice (some ⟨pb,0,none⟩) a.t.parts.length d'):=⟨_,rfl⟩;rw[<-hW4] at c4 hz5 HR0 HSTEP ⊢;have hpw:pb < W4.heap.size:=by omega
     have hag4:a.g < W4.heap.size:=by omega
     clear hW4 hb3 hpb hpar hR0 hO4 hu0 hpbl HRN hz3 hag3 hz4 hagz
     go_wp2_with fail
     go_loopw [9,47] (fun s9 ii wr=> ∃i:Nat,ii= .int .i64 i/\i<=a.t.parts.length/\Hid (Rnd7 W4 wr (.slice (some ⟨g,0,none⟩) L'.length cap) s9 pb a.t.parts qs L' i)) (fun _ i _=>a.t.parts.length - (intOf i).toNat)
     case atStart=>exact ⟨0,rfl,Nat.zero_le _,HR0⟩
     case round=>
      obtain ⟨i,rfl,hi,HR⟩:=hrel;by_cases hlt:i < a.t.parts.length
      {have hi1: (i:Int) < (a.t.parts.length:Int):=by omega
       have k4:=(HR.out.up.same hag4 (fun e=>hag (Option.some.inj e).symm)).1 (a.i * 5+4);rw[c4] at k4;obtain ⟨i0,hi2,hz0,hz1,hz2⟩:=info_parts (P:=Tryd.prog) (e:=71) (z:= .pointer none) (size:=1) (bytes:=8) Z9J;have hlen: (L'++(kids pb a.t.parts qs).take i).length=L'.length+i:=by rw[List.length_append,List.length_take,Z0U]; omega
       have hown:=HR.out.opn;unfold Opn at hown;rw[hlen] at hown;have HOW:=Y1 hown;clear hown hlen
       go_wp2_with (at_builtin; refine wpList_append_lies _ rfl _ _ 90 rfl 0 71 i0 (.pointer none) 1 8 Tryd.underlying90 hi2 hz0 hz1 hz2 rfl (by decide) _ _ _ rfl (HOW.out.alloc _) ⟨wr.heap.size,0,none⟩ 1 1 [.pointer (some ⟨pb,i * 5,none⟩)] rfl rfl (World.news_of_block (cs:=#[.pointer (some ⟨pb,i * 5,none⟩)]) (t:=71) (fr:=(0,0)) (heap_alloc_new _ _)) (by simp[Value.oneCell']) (by decide) (by unfold maxLen; omega) (by omega) (by simp) _ rfl ?_)
       intro g1 cap1 w5 hown1 hgrow hat1 hlt1;have HN:=Y1 (HR.out.step hlt hpw hgrow (by simpa[List.map_append,List.append_assoc,List.map_take] using hown1) (by simpa using hat1));clear hown1 hgrow hat1 k4
       go_wp2_with fail
       exact ⟨⟨i+1,by go_num,by omega,HN⟩,by simp[intOf]; omega⟩}
      {have hie:i=a.t.parts.length:=by omega
       have HN:=Y1 (HSTEP.out wr _ (by have:=HR.out; rwa [hie] at this));have hi1: ¬(i:Int) < (a.t.parts.length:Int):=by omega
       clear hie HR HSTEP HR0;go_wp2
       go_roundg (sumL (L'++kids pb a.t.parts qs))
       case measure=>
        rw[Z0R,Z5p];rw[Z0R] at hk;have:=size_eq a.t;simp[sumL] at hk ⊢;omega
       case rel=>
        obtain ⟨D5,h5⟩:=HN.out;refine ⟨L'++kids pb a.t.parts qs,D5,Nat.le_refl _, ?_,fun n hn=> ?_,Y1 h5⟩
        {rw[Z0R,Z5p];rw[Z0R] at h400;have:=size_eq a.t;simp[sumL] at h400 ⊢;omega}
        {rcases List.mem_append.1 hn with hn | hn
         {exact HRI.out n (by simp[hn])}
         {obtain ⟨i,hi,rfl⟩:=List.getElem_of_mem hn;rw[Z1U];exact har.part (List.getElem_mem _)}}}}}}
theorem Zcg:
 Calls Tryd.prog 26 #[.agg (Y8 t q)] w fun e w'=> ∃q' F,e= .returned (.agg (Y8 t q'))/\Own w' q' t F/\F.Nodup/\(∀b∈F,w.heap.size<=b)/\Below w.heap.size w w':=by
 have HS:=Y1 (Z2n w t q);have HE:=Y1 (Z6b w t q);have HZ:=Y1 (show (sW w t q).heap.size=w.heap.size+2 from by simp[sW]);have HCP:=Y1 (Zcf t q (sW w t q) (hq.next (Z2n w t q)) hz hr);obtain ⟨_,⟨c0,c1,c2,c3,c4⟩,_⟩:=Z07 w t q;clear hq hr;go_enter Tryd.func26,Tryd.ntmps26
 go_wp2_with fail
 clear c0 c1 c2 c3 c4;change Calls _ _ _ (sW w t q) _;generalize sW w t q=W at HS HE HCP HZ ⊢;refine HCP.out.mono ?_;rintro e w1 ⟨q',F,rfl,ho,hnd,hF,hb1⟩;have HO:=Y1 ho;have HND:=Y1 hnd;have HF:=Y1 (fun b hb=>show w.heap.size+2<=b from by have:=hF b hb; have:=HZ.out; omega);have HS1:=Y1 (Z02 HS.out hb1);have HE1:=Y1 (HE.out.next hb1);clear ho hnd hF hb1 HCP;obtain ⟨_,⟨r0,r1,r2,r3,r4⟩,f0,f1,f2,f3,f4⟩:=HE1.out;simp only[Nat.zero_add] at r0 r1 r2 r3 r4;go_wp2;refine bodyPost_ret (v:= .agg (Y8 t q')) (by simp[results,Tryd.results26,go_sem,r0,r1,r2,r3,r4]) rfl ?_;exact ⟨q',F,rfl,Z1a HO.out (fun x hx e=>by have:=HF.out x hx; omega) _ _ _ _ _,HND.out,fun b hb=>by have:=HF.out b hb; omega,Z0n HS1.out (by omega) _ _ _ _ _⟩
end
end
section
open Go.RowKit Shp Go.Sort
structure Swi (w wi:World) (ps:List Sh) (qs:Nat->Ptr) (Fs Fs':Nat->List Nat) (i:Nat):Prop where
 up:UpF ((List.range ps.length).flatMap Fs) w wi
 pm: ∀j,j < ps.length->(Fs' j).Perm (Fs j)
 lo: ∀j (h:j < ps.length),j < i->Own wi (qs j) (sorted (ps[j]'h)) (Fs' j)
 hi: ∀j (h:j < ps.length),i<=j->Own wi (qs j) (ps[j]'h) (Fs' j)
theorem Swi.start {w wi:World} {ps:List Sh} {qs:Nat->Ptr} {Fs:Nat->List Nat} (hr: ∀j (h:j < ps.length),Own w (qs j) (ps[j]'h) (Fs j)) (hb:Below w.heap.size w wi):Swi w wi ps qs Fs Fs 0:=
 ⟨(UpF.refl _ _).below hb,fun j _=>List.Perm.refl _,fun j _ h=>absurd h (by omega),fun j h _=>Z0p (hr j h) hb⟩
theorem Swi.below {w wi w2:World} {ps:List Sh} {qs:Nat->Ptr} {Fs Fs':Nat->List Nat} {i:Nat} (h:Swi w wi ps qs Fs Fs' i) (hb:Below wi.heap.size wi w2):Swi w w2 ps qs Fs Fs' i:=
 ⟨h.up.below hb,h.pm,fun j hj hl=>Z0p (h.lo j hj hl) hb,fun j hj hl=>Z0p (h.hi j hj hl) hb⟩
theorem Swi.step {w wi w2:World} {ps:List Sh} {qs:Nat->Ptr} {Fs Fs':Nat->List Nat} {i:Nat} {F':List Nat} (h:Swi w wi ps qs Fs Fs' i) (hi:i < ps.length)
 (hdis: ∀i j,i < ps.length->j < ps.length->i≠j-> ∀b∈Fs i,b∉Fs j) (hu:UpF (Fs' i) wi w2) (hp:F'.Perm (Fs' i)) (ho:Own w2 (qs i) (sorted (ps[i]'hi)) F'): ∃Fs2,Swi w w2 ps qs Fs Fs2 (i+1):=by
 have hfar: ∀j,j < ps.length->j≠i-> ∀b∈Fs' j,b∉Fs' i:=fun j hj hne b hb hb2=>
  hdis j i hj hi hne b ((h.pm j hj).mem_iff.1 hb) ((h.pm i hi).mem_iff.1 hb2)
 refine ⟨fun j=>if j=i then F' else Fs' j,h.up.next hu (fun x hx=>List.mem_flatMap.2 ⟨i,List.mem_range.2 hi,(h.pm i hi).mem_iff.1 hx⟩),fun j hj=> ?_,fun j hj hl=> ?_,fun j hj hl=> ?_⟩
 {by_cases e:j=i
  {subst e; simp only[if_true]; exact hp.trans (h.pm j hj)}
  {simp only[if_neg e]; exact h.pm j hj}}
 {by_cases e:j=i
  {subst e; simp only[if_true]; exact ho}
  {simp only[if_neg e];have ho2:=h.lo j hj (by omega);exact ho2.of (fun b hb=>hu.same (ho2.lt b hb) (hfar j hj e b hb)) hu.size}}
 {have e:j≠i:=by omega
  simp only[if_neg e];have ho2:=h.hi j hj (by omega);exact ho2.of (fun b hb=>hu.same (ho2.lt b hb) (hfar j hj e b hb)) hu.size}
def half (t:Sh):Sh:=⟨t.kind,t.of_,t.name,t.names,t.parts.map sorted⟩
theorem Z4X {t:Sh} {q:Ptr} (h:Small t q):Small (half t) q:=by
 obtain ⟨h1,h2,h3,h4,h5,h6,h7,h8,h9⟩:=h;exact ⟨h1,h2,h3,h4,by simpa[half] using h5,h6,by simpa[half] using h7,h8,h9⟩
theorem Swi.halfs {w wi:World} {t:Sh} {qs:Nat->Ptr} {Fs Fs':Nat->List Nat} (h:Swi w wi t.parts qs Fs Fs' t.parts.length): ∀i (hi:i < (half t).parts.length),Own wi (qs i) ((half t).parts[i]'hi) (Fs' i):=fun i hi=>by
 have hi2:i < t.parts.length:=by simpa[half] using hi
 have:=h.lo i hi2 hi2;simpa[half] using this
theorem Z5w {n:Nat} {Fs Fs':Nat->List Nat} (h: ∀j,j < n->(Fs' j).Perm (Fs j)): ((List.range n).flatMap Fs').Perm ((List.range n).flatMap Fs):=by
 induction n with
 | zero=>exact List.Perm.refl _
 | succ n ih=>
  rw[List.range_succ,List.flatMap_append,List.flatMap_append];refine (ih fun j hj=>h j (by omega)).append ?_;simpa using h n (by omega)
theorem Zac {w wi w2:World} {t:Sh} {q:Ptr} {FN FP:List Nat} {qs:Nat->Ptr} {Fs Fs':Nat->List Nat} (hr:right t=true) (hs:Small t q) (h0:t.names.length=0)
 (hn:t.names.length=0/\FN= []\/ ∃b,q.A=some ⟨b,0,none⟩/\FN= [b]/\TxR w b t.names) (hp:t.parts.length=0/\FP= []\/ ∃b,q.P=some ⟨b,0,none⟩/\FP= [b]/\PaR w b t.parts qs)
 (hnd: (FN++FP++(List.range t.parts.length).flatMap Fs).Nodup) (h:Swi w wi t.parts qs Fs Fs' t.parts.length) (hb:Below wi.heap.size wi w2):
 UpF (FN++FP++(List.range t.parts.length).flatMap Fs) w w2/\ ∃F',F'.Perm (FN++FP++(List.range t.parts.length).flatMap Fs)/\Own w2 q (sorted t) F':=by
 have h2:=h.below hb;obtain ⟨n1,n2,n3,_,_⟩:=Z2E hnd;have hU:UpF (FN++FP++(List.range t.parts.length).flatMap Fs) w w2:=(UpF.refl _ w).next h2.up (fun x hx=>List.mem_append_right _ hx);have hnil:t.names= []:=List.eq_nil_of_length_eq_zero h0;have hso:sorted t=half t:=by rw[Z0d,if_pos hnil]; unfold half; rw[hnil]
 have hin: ∀b∈FP,b∉(List.range t.parts.length).flatMap Fs:=fun b hb hb2=>by
  obtain ⟨j,hj,hb2⟩:=List.mem_flatMap.1 hb2;exact n3 b hb j (List.mem_range.1 hj) hb2
 have hin2: ∀b∈FN,b∉(List.range t.parts.length).flatMap Fs:=fun b hb hb2=>by
  obtain ⟨j,hj,hb2⟩:=List.mem_flatMap.1 hb2;exact n2 b hb j (List.mem_range.1 hj) hb2
 refine ⟨hU,FN++FP++(List.range t.parts.length).flatMap Fs',(Z5w h2.pm).append_left _, ?_⟩;rw[hso];refine .mk q _ _ FN FP qs Fs' (Z4X hs) ?_ ?_ (Swi.halfs h2) (by simp[half])
 {rcases hn with h | ⟨b,h1,rfl,h3⟩
  {exact Or.inl h}
  {exact Or.inr ⟨b,h1,rfl,h3.of (h2.up.same h3.lt (hin2 b (by simp))) h2.up.size⟩}}
 {rcases hp with h | ⟨b,h1,rfl,h3⟩
  {exact Or.inl (by simpa[half] using h)}
  {refine Or.inr ⟨b,h1,rfl,Nat.lt_of_lt_of_le h3.lt h2.up.size,fun i hi=> ?_,fun k=>((h2.up.same h3.lt (hin b (by simp))).2 k).trans (h3.fz k)⟩;have hi2:i < t.parts.length:=by simpa[half] using hi
   have hm:t.parts[i]∈t.parts:=List.getElem_mem hi2;have:=Z4P (Z05 hr hm) ((h3.at_ i hi2).of (h2.up.same h3.lt (hin b (by simp))).1);simpa[half] using this}}
theorem Zad {t:Sh} (hl:t.names.length=t.parts.length) (qs:Nat->Ptr) (Fs:Nat->List Nat): (els t qs Fs).toList.map (fun x=>((x.n,x.t):Fld))=t.names.zip t.parts:=by
 apply List.ext_getElem
 {simp[els,hl]}
 {intro i h1 h2;have h3:i < t.names.length:=by simpa[els] using h1
  have h4:i < t.parts.length:=by omega
  simp[els,h3,h4]}
theorem Zae {w wi:World} {t:Sh} {q:Ptr} {FN FP:List Nat} {qs:Nat->Ptr} {Fs Fs':Nat->List Nat} (hr:right t=true) (hs:Small t q) (h0:t.names.length≠0)
 (hn:t.names.length=0/\FN= []\/ ∃b,q.A=some ⟨b,0,none⟩/\FN= [b]/\TxR w b t.names) (hp:t.parts.length=0/\FP= []\/ ∃b,q.P=some ⟨b,0,none⟩/\FP= [b]/\PaR w b t.parts qs)
 (hnd: (FN++FP++(List.range t.parts.length).flatMap Fs).Nodup) (h:Swi w wi t.parts qs Fs Fs' t.parts.length):
 ∃bn bp,q.A=some ⟨bn,0,none⟩/\q.P=some ⟨bp,0,none⟩/\(half t).names.length=(half t).parts.length/\TxR wi bn (half t).names/\PaR wi bp (half t).parts qs/\bn≠bp/\
  ∀(d':Array El) (w2:World),PermIn 0 (half t).names.length (els (half t) qs Fs') d'->SortedIn ltEl 0 (half t).names.length d'->FSt wi bn bp (half t).names.length d' w2->
   UpF (FN++FP++(List.range t.parts.length).flatMap Fs) w w2/\ ∃F',F'.Perm (FN++FP++(List.range t.parts.length).flatMap Fs)/\Own w2 q (sorted t) F':=by
 obtain ⟨hl,hnn⟩:=(Z1s hr).resolve_left (fun e=>h0 (by rw[e]; rfl));rcases hn with ⟨hn,_⟩ | ⟨bn,hA,rfl,hT⟩
 {omega}
 rcases hp with ⟨hp,_⟩ | ⟨bp,hP,rfl,hPa⟩
 {omega}
 obtain ⟨n1,n2,n3,_,_⟩:=Z2E hnd;have hbnp:bn≠bp:=fun e=>n1 bn (by simp) (by simp[e]);have hinP:bp∉(List.range t.parts.length).flatMap Fs:=fun hb2=>by
  obtain ⟨j,hj,hb2⟩:=List.mem_flatMap.1 hb2;exact n3 bp (by simp) j (List.mem_range.1 hj) hb2
 have hinN:bn∉(List.range t.parts.length).flatMap Fs:=fun hb2=>by
  obtain ⟨j,hj,hb2⟩:=List.mem_flatMap.1 hb2;exact n2 bn (by simp) j (List.mem_range.1 hj) hb2
 have hlh: (half t).names.length=(half t).parts.length:=by simpa[half] using hl
 refine ⟨bn,bp,hA,hP,hlh,hT.of (h.up.same hT.lt hinN) h.up.size,⟨Nat.lt_of_lt_of_le hPa.lt h.up.size,fun i hi=> ?_,fun k=>((h.up.same hPa.lt hinP).2 k).trans (hPa.fz k)⟩,hbnp, ?_⟩
 {have hi2:i < t.parts.length:=by simpa[half] using hi
  have hm:t.parts[i]∈t.parts:=List.getElem_mem hi2;have:=Z4P (Z05 hr hm) ((hPa.at_ i hi2).of (h.up.same hPa.lt hinP).1);simpa[half] using this}
 {intro d' w2 hpm hso hf;have hpl:=Z8B hpm (Z3g _ _ _);have hown: ∀i (hi:i < (half t).parts.length),Own w2 (qs i) ((half t).parts[i]'hi) (Fs' i):=fun i hi=>by
   have hi2:i < t.parts.length:=by simpa[half] using hi
   have ho:=h.halfs i hi;refine ho.of (fun b hb=> ?_) hf.up.size;have hbF:b∈Fs i:=(h.pm i hi2).mem_iff.1 hb;have hb1:b≠bn:=fun e=>n2 bn (by simp) i hi2 (e▸hbF);have hb2:b≠bp:=fun e=>n3 bp (by simp) i hi2 (e▸hbF);have hbl:=hf.up.block b (ho.lt b hb) hb1 hb2;exact ⟨fun k=>World.cell?_of_block (w:=wi) hbl,fun k=>World.frozen?_of_block (w:=wi) hbl⟩
  obtain ⟨o1,o2⟩:=Zb0 (N:=(half t).names.length) hA hP (Z4X hs) rfl hlh.symm hf hpl hown;have hsorted:sorted t=⟨(half t).kind,(half t).of_,(half t).name,d'.toList.map El.n,d'.toList.map El.t⟩:=by
   have hfst: (t.names.zip (t.parts.map sorted)).map Prod.fst=t.names:=List.map_fst_zip (by rw[List.length_map,hl]; exact Nat.le_refl _);have hu: (d'.toList.map fun x=>((x.n,x.t):Fld))=sortF (t.names.zip (t.parts.map sorted)):=by
    refine Z1p ?_ (Z6e hso hf.size) (by rw[hfst]; exact hnn);have:=hpl.map (fun x=>((x.n,x.t):Fld))
    rwa [Zad hlh] at this
   rw[Z0d,if_neg (fun e=>h0 (by rw[e]; rfl)), <-hu];simp[half,List.map_map,Function.comp_def]
  refine ⟨?_,_, ?_,by rw[hsorted]; exact o1⟩
  {have hU1:UpF ([bn]++ [bp]++(List.range t.parts.length).flatMap Fs) w wi:=(UpF.refl _ w).next h.up (fun x hx=>List.mem_append_right _ hx);exact hU1.next (hf.up.upF (F:= [bn]++ [bp]) (by simp) (by simp)) (fun x hx=>List.mem_append_left _ hx)}
  {refine o2.trans ?_;have:=(Z5w h.pm).append_left ([bn]++ [bp]);simpa[half] using this}}
theorem Box5.same {W W':World} {g:Nat} {t:Sh} {q:Ptr} (h:Box5 W g t q) (hs:Z0v W W' g) (hz:W.heap.size<=W'.heap.size):Box5 W' g t q:=by
 obtain ⟨h0,h1,f0,f1,f2,f3,f4⟩:=h;exact ⟨Nat.lt_of_lt_of_le h0 hz,h1.of hs.1,(hs.2 _).trans f0,(hs.2 _).trans f1,(hs.2 _).trans f2,(hs.2 _).trans f3,(hs.2 _).trans f4⟩
theorem Swi.box {w wi:World} {t:Sh} {q:Ptr} {qs:Nat->Ptr} {Fs Fs':Nat->List Nat} {i g:Nat} (h:Swi w wi t.parts qs Fs Fs' i) (hb:Box5 w g t q) (hg:g∉(List.range t.parts.length).flatMap Fs):Box5 wi g t q:=
 hb.same (h.up.same hb.1 hg) h.up.size
theorem Z4Y (t:Sh): ∀(q:Ptr) (F:List Nat) (w:World),Own w q t F->F.Nodup->right t=true->size t<=400->
 Calls Tryd.prog 36 #[.agg (Y8 t q)] w
  fun e w'=>e= .returned (.tuple #[])/\UpF F w w'/\ ∃F',F'.Perm F/\Own w' q (sorted t) F':=by
 induction t using Sh.ind with
 | h t ih=>
 intro q F w hO hnd hr hz;have hb0:=Z00 w (.cells (Y8 t q) 25);have HB:=Y1 (Z07 w t q);have HM:=Y1 hO.small;have hlt:=hO.lt;obtain ⟨FN,FP,qs,Fs,hn,hp,hrr,rfl⟩:=(Z0p hO hb0).inv;obtain ⟨n1,n2,n3,n4,n5⟩:=Z2E hnd;have hg:w.heap.size∉(List.range t.parts.length).flatMap Fs:=fun hm=>by
  have:=hlt w.heap.size (List.mem_append_right _ hm);omega
 have HG:=Y1 hg;have HS0:=Y1 (Swi.start hrr Y2);have HN:=Y1 hn;have HP:=Y1 hp;have HND:=Y1 hnd;have HD:=Y1 n5;have HN4:=Y1 n4;have HN3:=Y1 n3;have HR:=Y1 hr;have HZ:Hid (size t=1+sizes t.parts):=Y1 (size_eq t);have HB0:=Y1 hb0;have hlen:=Z0L t.parts;have hpl:t.parts.length<=400:=by have:=HZ.out; omega
 clear hb0 hO hlt hn hp hrr hnd n1 n2 n3 n4 n5 hr hg hlen;go_enter Tryd.func36,Tryd.ntmps36
 go_wp2_with fail
 generalize w.alloc (.cells (Y8 t q) 25)=W0 at HB HS0 HN HP HB0 ⊢
 go_loopw [7] (fun ii wr=> ∃i:Nat,ii= .int .i64 i/\i<=t.parts.length/\Hid (∃Fs',Swi W0 wr t.parts qs Fs Fs' i)) (fun i _=>t.parts.length - (intOf i).toNat)
 case atStart=>exact ⟨0,rfl,Nat.zero_le _,Y1 ⟨_,HS0.out⟩⟩
 case round=>
  obtain ⟨i,rfl,hi,HSW⟩:=hrel;by_cases hlt:i < t.parts.length
  {obtain ⟨Fs',hsw⟩:=HSW.out;rcases HP.out with ⟨h0,_⟩ | ⟨bp,hqP,hFP,hPa⟩
   {omega}
   {obtain ⟨x,hx⟩: ∃x,x=t.parts[i]:=⟨_,rfl⟩;have hxr:right x=true:=by rw[hx]; exact Z05 HR.out (List.getElem_mem _)
    have hxz:size x<=400:=by
     have:=Z1l (List.getElem_mem hlt);have:=HZ.out;rw[hx]; omega
    have hinP:bp∉(List.range t.parts.length).flatMap Fs:=fun hb2=>by
     obtain ⟨j,hj,hb2⟩:=List.mem_flatMap.1 hb2;exact HN3.out bp (by rw[hFP]; simp) j (List.mem_range.1 hj) hb2
    obtain ⟨p0,p1,p2,p3,p4⟩:=(hPa.at_ i hlt).of (hsw.up.same hPa.lt hinP).1;have hbx:=Z00 wr (.cells (Y8 x (qs i)) 25);have hsw2:=hsw.below hbx;have hox:=hsw2.hi i hlt (Nat.le_refl _);rw[<-hx] at p0 p1 p2 p3 p4 hox;have IH:=Y1 (ih t.parts[i] (List.getElem_mem _) (qs i) (Fs' i) (wr.alloc (.cells (Y8 x (qs i)) 25)) (by rw[<-hx]; exact hox) (((hsw.pm i hlt).nodup_iff).2 (HN4.out i hlt)) (by rw[<-hx]; exact hxr) (by rw[<-hx]; exact hxz));rw[<-hx] at IH;have HX:=Y1 hx;have HSW2:=Y1 hsw2;clear hx hsw hsw2 hox hbx hinP hPa hFP hxr hxz ih HSW;have hi1: (i:Int) < (t.parts.length:Int):=by omega
    rw[hqP];clear hqP
    go_wp2_with fail
    refine IH.out.mono ?_;rintro e w2 ⟨rfl,hu,F',hF',ho'⟩;have HS3:Hid (∃Fs2,Swi W0 w2 t.parts qs Fs Fs2 (i+1)):=Y1 (HSW2.out.step hlt HD.out hu hF' (by rw[<-HX.out]; exact ho'));clear hu hF' ho' IH HSW2;go_wp2
    go_roundw
    case rel=>exact ⟨i+1,by go_num,by omega,HS3⟩
    case measure=>simp[intOf]; omega}}
  {obtain ⟨Fs',hsw⟩:=HSW.out;have hie:i=t.parts.length:=by omega
   subst hie;have hi1: ¬(t.parts.length:Int) < (t.parts.length:Int):=by omega
   obtain ⟨_,⟨b0,b1,b2,b3,b4⟩,_⟩:=hsw.box HB.out HG.out;have HSW3:=Y1 hsw;clear hsw HSW hlt
   go_wp2_with fail
   by_cases h0:t.names.length=0
   {refine (Z7k t q wr h0).mono ?_;rintro e w2 ⟨rfl,hb2⟩;obtain ⟨r1,r2⟩:=Zac HR.out HM.out h0 HN.out HP.out HND.out HSW3.out hb2;have HR1:=Y1 (((UpF.refl _ w).below HB0.out).next r1 (fun x hx=>hx));have HR2:=Y1 r2;clear r1 r2 hb2 HSW3;go_wp2
    go_end0
    exact ⟨rfl,HR1.out,HR2.out⟩}
   {obtain ⟨bn,bp,hA,hP,hl,hT,hPa,hne,hall⟩:=Zae HR.out HM.out h0 HN.out HP.out HND.out HSW3.out;have hw:=Z8A (half t) q qs Fs' bn bp wr hA hP hl (by
     have: (half t).parts.length=t.parts.length:=by simp[half]
     omega) hT hPa hne
    have hkk: (half t).parts.length=t.parts.length:=by simp[half]
    have e1: (half t).kind=t.kind:=rfl;have e2: (half t).of_=t.of_:=rfl;have e3: (half t).name=t.name:=rfl;have e4: (half t).names.length=t.names.length:=rfl;rw[hkk,e1,e2,e3,e4] at hw;refine hw.mono ?_;rintro e w2 ⟨rfl,d',hpm,hso,hf⟩;obtain ⟨r1,r2⟩:=hall d' w2 hpm hso hf;have HR1:=Y1 (((UpF.refl _ w).below HB0.out).next r1 (fun x hx=>hx));have HR2:=Y1 r2;clear r1 r2 hpm hso hf hw hall HSW3 hA hP hl hT hPa hne hkk e1 e2 e3 e4;go_wp2
    go_end0
    exact ⟨rfl,HR1.out,HR2.out⟩}}
end
section
open Go.RowKit
def wordsC:Array Value:=#[.string ⟨#[]⟩,.string ⟨#[73,110,116]⟩,.string ⟨#[66,111,111,108]⟩,.string ⟨#[84,101,120,116]⟩,.string ⟨#[65,110,121]⟩]
theorem Z4y:Tryd.prog.globalNamed "pandect/shape.words" =some 0:=by kernel_rfl
def WGlobs (w:World):Prop:=w.var? Tryd.prog "pandect/shape.words" =some wordsC
theorem WGlobs.cell {w:World} (h:WGlobs w) (i:Nat):w.cell? ⟨0,i,none⟩=wordsC[i]? :=World.var?_cell Z4y h i
theorem WGlobs.lt {w:World} (h:WGlobs w):0 < w.heap.size:=Z1N ((WGlobs.cell h 0).trans (by rfl:wordsC[0]? =some (.string ⟨#[]⟩)))
theorem WGlobs.next {w w':World} (h:WGlobs w) (hb:Below w.heap.size w w'):WGlobs w':=var?_below hb Z4y (WGlobs.lt h) h
theorem Z3w {P:Program} {w:World}: ∀ {l:List (String×DataW Unit)} {ps:List MemPlace},DataW.LaidVars P w l ps-> ∀x∈l,
 ∃g t cs fuel p,P.globalNamed x.1=some g/\(P.globals[g]?).map (·.type)=some t/\w.var? P x.1=some cs/\DataW.trod (fun _=>()) P w 0 (fun _=>true) false fuel t cs.toList=some (x.2,p)
 | [],_,_,x,hx=>by simp at hx
 | (n,d)::r,ps,h,x,hx=>by
  obtain ⟨g,t,cs,fuel,p,q,h1,h2,h3,h4,h5,_⟩:=h;rcases List.mem_cons.1 hx with rfl | hx
  {exact ⟨g,t,cs,fuel,p,h1,h2,h3,h4⟩}
  {exact Z3w h5 x hx}
theorem Zaf {L:List (String×DataW Unit)} {W:World} (h:laidMet Tryd.prog L W) (m4: ("pandect/shape.words",Rows.laid_pandect_shape_words)∈L):WGlobs W:=by
 unfold WGlobs;obtain ⟨ps,hv,_,_⟩:=h;obtain ⟨g1,t1,cs,f1,p1,a1,b1,c1,d1⟩:=Z3w hv _ m4;obtain rfl:=Option.some.inj (Z4y.symm.trans a1);have ht: (Tryd.prog.globals[0]?).map (·.type)=some 132:=by kernel_rfl
 obtain rfl:=Option.some.inj (ht.symm.trans b1);rw[c1];congr 1;have hc1:Tryd.prog.cellsOf 9=1:=by kernel_rfl
 obtain ⟨xs,m,_,hx,hsz,hl,he⟩:=DataW.trod_array Tryd.underlying132 d1;rw[hc1] at he;have hc6:Tryd.prog.cellsOf 132=5:=by kernel_rfl
 rw[hc6] at hsz;have hx1:=(Prod.mk.inj hx).1;apply Array.ext'
 match xs,hl,hx1 with
 | [y0,y1,y2,y3,y4],_,hx1=>
  obtain ⟨L,hL⟩: ∃L,L=cs.toList:=⟨_,rfl⟩;rw[<-hL] at hsz he ⊢;clear hL
  match L,hsz with
  | [k0,k1,k2,k3,k4],_=>
   have e0:=he 0 (by omega);have e1:=he 1 (by omega);have e2:=he 2 (by omega);have e3:=he 3 (by omega);have e4:=he 4 (by omega);simp only[List.getElem?_cons_zero,List.getElem?_cons_succ,Nat.mul_one,List.drop_zero,List.drop_succ_cons,List.take_succ_cons,List.take_zero] at e0 e1 e2 e3 e4;obtain ⟨x0,h0,rfl,_⟩:=DataW.trod_string Tryd.underlying9 e0;obtain ⟨x1,h1,rfl,_⟩:=DataW.trod_string Tryd.underlying9 e1;obtain ⟨x2,h2,rfl,_⟩:=DataW.trod_string Tryd.underlying9 e2;obtain ⟨x3,h3,rfl,_⟩:=DataW.trod_string Tryd.underlying9 e3;obtain ⟨x4,h4,rfl,_⟩:=DataW.trod_string Tryd.underlying9 e4;simp at h0 h1 h2 h3 h4;simp[Rows.laid_pandect_shape_words] at hx1;obtain ⟨z0,z1,z2,z3,z4⟩:=hx1;have key: ∀(x:ByteArray) (l:List UInt8),l=x.data.toList->x=⟨l.toArray⟩:=fun x l h=>by rw[h]
   rw[h0,h1,h2,h3,h4];have k0:=key x0 [] (by simp[z0]);have k1:=key x1 [73,110,116] (by simp[<-z1]);have k2:=key x2 [66,111,111,108] (by simp[<-z2]);have k3:=key x3 [84,101,120,116] (by simp[<-z3]);have k4:=key x4 [65,110,121] (by simp[<-z4]);rw[k0,k1,k2,k3,k4]; rfl
end
section
open Go.RowKit Shp
def wordB (s:List UInt8):Bool:= []==s|| [73,110,116]==s|| [66,111,111,108]==s|| [84,101,120,116]==s|| [65,110,121]==s
def NotYet (s:List UInt8) (i:Int):Prop:=((1:Int)<=i->(([]:List UInt8)==s)=false)/\((2:Int)<=i->([73,110,116]==s)=false)/\((3:Int)<=i->([66,111,111,108]==s)=false)/\((4:Int)<=i->([84,101,120,116]==s)=false)/\((5:Int)<=i->([65,110,121]==s)=false)
theorem Z6C (s:List UInt8) (w:World) (hg:WGlobs w):
 Calls Tryd.prog 68 #[.string ⟨s.toArray⟩] w fun e w'=>e= .returned (.bool (wordB s))/\w=w':=by
 have c0:w.cell? ⟨0,0,none⟩=some (.string ⟨#[]⟩):=hg.cell 0;have c1:w.cell? ⟨0,1,none⟩=some (.string ⟨#[73,110,116]⟩):=hg.cell 1;have c2:w.cell? ⟨0,2,none⟩=some (.string ⟨#[66,111,111,108]⟩):=hg.cell 2;have c3:w.cell? ⟨0,3,none⟩=some (.string ⟨#[84,101,120,116]⟩):=hg.cell 3;have c4:w.cell? ⟨0,4,none⟩=some (.string ⟨#[65,110,121]⟩):=hg.cell 4;clear hg;have i0: ∀W,(Instr.index 132 (.agg #[.string ⟨#[]⟩,.string ⟨#[73,110,116]⟩,.string ⟨#[66,111,111,108]⟩,.string ⟨#[84,101,120,116]⟩,.string ⟨#[65,110,121]⟩]) (.int .i64 0)).run Tryd.prog W= .ok (.string ⟨#[]⟩) W:=fun W=>by kernel_rfl
 have i1: ∀W,(Instr.index 132 (.agg #[.string ⟨#[]⟩,.string ⟨#[73,110,116]⟩,.string ⟨#[66,111,111,108]⟩,.string ⟨#[84,101,120,116]⟩,.string ⟨#[65,110,121]⟩]) (.int .i64 1)).run Tryd.prog W= .ok (.string ⟨#[73,110,116]⟩) W:=fun W=>by kernel_rfl
 have i2: ∀W,(Instr.index 132 (.agg #[.string ⟨#[]⟩,.string ⟨#[73,110,116]⟩,.string ⟨#[66,111,111,108]⟩,.string ⟨#[84,101,120,116]⟩,.string ⟨#[65,110,121]⟩]) (.int .i64 2)).run Tryd.prog W= .ok (.string ⟨#[66,111,111,108]⟩) W:=fun W=>by kernel_rfl
 have i3: ∀W,(Instr.index 132 (.agg #[.string ⟨#[]⟩,.string ⟨#[73,110,116]⟩,.string ⟨#[66,111,111,108]⟩,.string ⟨#[84,101,120,116]⟩,.string ⟨#[65,110,121]⟩]) (.int .i64 3)).run Tryd.prog W= .ok (.string ⟨#[84,101,120,116]⟩) W:=fun W=>by kernel_rfl
 have i4: ∀W,(Instr.index 132 (.agg #[.string ⟨#[]⟩,.string ⟨#[73,110,116]⟩,.string ⟨#[66,111,111,108]⟩,.string ⟨#[84,101,120,116]⟩,.string ⟨#[65,110,121]⟩]) (.int .i64 4)).run Tryd.prog W= .ok (.string ⟨#[65,110,121]⟩) W:=fun W=>by kernel_rfl
 go_enter Tryd.func68,Tryd.ntmps68
 go_wp2_with fail
 go_loopw [6] (fun ii wr=> ∃i:Int,ii= .int .i64 i/\0<=i/\i<=5/\Hid (NotYet s i)/\w=wr)
  (fun i _=>(5 - intOf i).toNat)
 case atStart=>exact ⟨0,rfl,by omega,by omega,Y1 ⟨fun h=>absurd h (by omega),fun h=>absurd h (by omega),fun h=>absurd h (by omega),fun h=>absurd h (by omega),fun h=>absurd h (by omega)⟩,rfl⟩
 case round=>
  obtain ⟨i,rfl,hi0,hi,HN,rfl⟩:=hrel;clear c0 c1 c2 c3 c4;have hc:i=0\/i=1\/i=2\/i=3\/i=4\/i=5:=by omega
  rcases hc with rfl | rfl | rfl | rfl | rfl | rfl
  {cases hq: (([]:List UInt8)==s)
   {have HN2:Hid (NotYet s 1):=Y1 (show ((1:Int)<=1->(([]:List UInt8)==s)=false)/\((2:Int)<=1->([73,110,116]==s)=false)/\((3:Int)<=1->([66,111,111,108]==s)=false)/\((4:Int)<=1->([84,101,120,116]==s)=false)/\((5:Int)<=1->([65,110,121]==s)=false) from ⟨fun _=>hq,fun h=>absurd h (by omega),fun h=>absurd h (by omega),fun h=>absurd h (by omega),fun h=>absurd h (by omega)⟩);have hqe:s.isEmpty=false:=by cases s <;> simp_all
    go_wp2
    go_roundw
    case rel=>exact ⟨1,rfl,by omega,by omega,HN2,trivial⟩
    case measure=>simp[intOf]}
   {have HF:Hid (wordB s=true):=Y1 (by unfold wordB; rw[hq]; simp);have hqe:s.isEmpty=true:=by cases s <;> simp_all
    go_wp2;go_ret;exact ⟨by rw[HF.out]; rfl,rfl⟩}}
  {cases hq: ([73,110,116]==s)
   {have HN2:Hid (NotYet s 2):=Y1 (show ((1:Int)<=2->(([]:List UInt8)==s)=false)/\((2:Int)<=2->([73,110,116]==s)=false)/\((3:Int)<=2->([66,111,111,108]==s)=false)/\((4:Int)<=2->([84,101,120,116]==s)=false)/\((5:Int)<=2->([65,110,121]==s)=false) from ⟨fun _=>HN.out.1 (by omega),fun _=>hq,fun h=>absurd h (by omega),fun h=>absurd h (by omega),fun h=>absurd h (by omega)⟩);go_wp2
    go_roundw
    case rel=>exact ⟨2,rfl,by omega,by omega,HN2,trivial⟩
    case measure=>simp[intOf]}
   {have HF:Hid (wordB s=true):=Y1 (by unfold wordB; rw[hq]; simp);go_wp2;go_ret;exact ⟨by rw[HF.out]; rfl,rfl⟩}}
  {cases hq: ([66,111,111,108]==s)
   {have HN2:Hid (NotYet s 3):=Y1 (show ((1:Int)<=3->(([]:List UInt8)==s)=false)/\((2:Int)<=3->([73,110,116]==s)=false)/\((3:Int)<=3->([66,111,111,108]==s)=false)/\((4:Int)<=3->([84,101,120,116]==s)=false)/\((5:Int)<=3->([65,110,121]==s)=false) from ⟨fun _=>HN.out.1 (by omega),fun _=>HN.out.2.1 (by omega),fun _=>hq,fun h=>absurd h (by omega),fun h=>absurd h (by omega)⟩);go_wp2
    go_roundw
    case rel=>exact ⟨3,rfl,by omega,by omega,HN2,trivial⟩
    case measure=>simp[intOf]}
   {have HF:Hid (wordB s=true):=Y1 (by unfold wordB; rw[hq]; simp);go_wp2;go_ret;exact ⟨by rw[HF.out]; rfl,rfl⟩}}
  {cases hq: ([84,101,120,116]==s)
   {have HN2:Hid (NotYet s 4):=Y1 (show ((1:Int)<=4->(([]:List UInt8)==s)=false)/\((2:Int)<=4->([73,110,116]==s)=false)/\((3:Int)<=4->([66,111,111,108]==s)=false)/\((4:Int)<=4->([84,101,120,116]==s)=false)/\((5:Int)<=4->([65,110,121]==s)=false) from ⟨fun _=>HN.out.1 (by omega),fun _=>HN.out.2.1 (by omega),fun _=>HN.out.2.2.1 (by omega),fun _=>hq,fun h=>absurd h (by omega)⟩);go_wp2
    go_roundw
    case rel=>exact ⟨4,rfl,by omega,by omega,HN2,trivial⟩
    case measure=>simp[intOf]}
   {have HF:Hid (wordB s=true):=Y1 (by unfold wordB; rw[hq]; simp);go_wp2;go_ret;exact ⟨by rw[HF.out]; rfl,rfl⟩}}
  {cases hq: ([65,110,121]==s)
   {have HN2:Hid (NotYet s 5):=Y1 (show ((1:Int)<=5->(([]:List UInt8)==s)=false)/\((2:Int)<=5->([73,110,116]==s)=false)/\((3:Int)<=5->([66,111,111,108]==s)=false)/\((4:Int)<=5->([84,101,120,116]==s)=false)/\((5:Int)<=5->([65,110,121]==s)=false) from ⟨fun _=>HN.out.1 (by omega),fun _=>HN.out.2.1 (by omega),fun _=>HN.out.2.2.1 (by omega),fun _=>HN.out.2.2.2.1 (by omega),fun _=>hq⟩);go_wp2
    go_roundw
    case rel=>exact ⟨5,rfl,by omega,by omega,HN2,trivial⟩
    case measure=>simp[intOf]}
   {have HF:Hid (wordB s=true):=Y1 (by unfold wordB; rw[hq]; simp);go_wp2;go_ret;exact ⟨by rw[HF.out]; rfl,rfl⟩}}
  {have HF:Hid (wordB s=false):=Y1 (by
    unfold wordB;obtain ⟨h0,h1,h2,h3,h4⟩:=HN.out;rw[h0 (by omega),h1 (by omega),h2 (by omega),h3 (by omega),h4 (by omega)]; rfl)
   go_wp2;go_ret;exact ⟨by rw[HF.out]; rfl,rfl⟩}
theorem Z0E {l:List UInt8} {b:Bool} (h: (l== [])=b):l.isEmpty=b:=by cases l <;> simp_all
theorem Z1q {l:List (List UInt8)}: ((l.length:Int)==0)=decide (l.length=0):=by rw[Bool.eq_iff_iff]; simp
end
end Go.Proofs.YtchklpedlbkgaaaDoor
namespace Shp
def nameOk (t:Sh) (wordB:List UInt8->Bool):Bool:=if t.of_= [] then Lex.isUpper t.name&& !wordB t.name else Lex.isName t.of_&&Lex.isUpper t.name
section
variable {t : Sh}
include t
theorem Z8V (h1:1<=t.kind) (h2:t.kind<=4):fits t=(bare t&&decide (t.names.length=0)&&decide (t.parts.length=0)):=by
 cases hb:bare t with
 | false=>rw[Z0X (by omega) hb]; rfl
 | true=>
  by_cases hz:0 < t.names.length
  {rw[Z1H (by omega) hb (by omega) hz,decide_eq_false (p:=t.names.length=0) (by omega)]; rfl}
  {rw[Z2u hb (by omega) (by omega) hz (by omega) (by omega),decide_eq_true h1,decide_eq_true h2,decide_eq_true (p:=t.names.length=0) (by omega)]}
theorem Z8W (h:t.kind=5):fits t=(bare t&&decide (t.names.length=0)&&decide (t.parts.length=1)):=by
 cases hb:bare t with
 | false=>rw[Z0X (by omega) hb]; rfl
 | true=>
  by_cases hz:0 < t.names.length
  {rw[Z1H (by omega) hb (by omega) hz,decide_eq_false (p:=t.names.length=0) (by omega)]; rfl}
  {rw[Z3K hb h hz,decide_eq_true (p:=t.names.length=0) (by omega)]; rfl}
theorem Zal (h:t.kind=8):fits t=(bare t&&decide (t.names.length=0)&&decide (0 < t.parts.length)):=by
 cases hb:bare t with
 | false=>rw[Z0X (by omega) hb]; rfl
 | true=>
  by_cases hz:0 < t.names.length
  {rw[Z1H (by omega) hb (by omega) hz,decide_eq_false (p:=t.names.length=0) (by omega)]; rfl}
  {rw[Z4u hb h hz,decide_eq_true (p:=t.names.length=0) (by omega)]; rfl}
theorem Zam (h:t.kind=6\/t.kind=7):fits t=(bare t&&decide (t.names.length=t.parts.length)&&areNames t.names):=by
 cases hb:bare t with
 | false=>rw[Z0X (by omega) hb]; rfl
 | true=>rw[Z2k hb h,Bool.true_and,Bool.and_comm]
theorem Zan (h:t.kind < 1\/10 < t.kind):fits t=false:=by
 cases hb:bare t with
 | false=>rw[Z0X (by omega) hb]
 | true=>
  by_cases hz:0 < t.names.length
  {rw[Z1H (by omega) hb (by omega) hz]}
  {rw[Z2u hb (by omega) (by omega) hz (by omega) (by omega)];rcases h with h | h
   {rw[decide_eq_false (by omega)]; rfl}
   {rw[decide_eq_false (p:=t.kind<=4) (by omega),Bool.and_false]; rfl}}
theorem Z7F (h:t.kind=10):fits t=(Lex.isName t.of_&&Lex.isUpper t.name&&decide (t.names.length=0)&&decide (t.parts.length=0)):=by
 rw[Z26 (Or.inr h)];unfold ofOk;rw[h,show decide ((10:Int)=9)=false from rfl,Bool.and_false,Bool.false_and,Bool.or_false,Bool.and_comm (Lex.isUpper t.name)]
end
end Shp
namespace Go.Proofs.YtchklpedlbkgaaaDoor
open Go.RowKit Shp
theorem Zao:Lex.isUpper []=false:=rfl
theorem Z7G {s:List UInt8} (h:Lex.isUpper s=true):wordB s=plain s:=by
 have h0: ([]==s)=false:=by
  cases s with
  | nil=>rw[Zao] at h; cases h
  | cons a l=>rfl
 have c: ∀a b:List UInt8,(a==b)=(b==a):=fun a b=>by rw[Bool.eq_iff_iff,beq_iff_eq,beq_iff_eq]; exact eq_comm
 unfold wordB plain;rw[h0,Bool.false_or,c [73,110,116],c [66,111,111,108],c [84,101,120,116],c [65,110,121]]
theorem Z8X {t:Sh} (h:t.kind=9):fits t=(nameOk t wordB&&decide (t.names.length=0)&&decide (t.parts.length=0)):=by
 rw[Z26 (Or.inl h)];congr 2;unfold ofOk nameOk;rw[h,show decide ((9:Int)=9)=true from rfl,Bool.and_true];by_cases ho:t.of_= []
 {rw[if_pos ho,ho];cases hu:Lex.isUpper t.name with
  | false=>rfl
  | true=>rw[Z7G hu]; rfl}
 {rw[if_neg ho,show (t.of_== [])=false from beq_eq_false_iff_ne.2 ho,Bool.false_and,Bool.or_false,Bool.and_comm]}
theorem Z3R (t:Sh) (q:Ptr) (w:World):
 Y9 56 #[.agg (Y8 t q)] w (.bool (bare t)):=by
 have HB:Hid (bare t=(t.of_== []&&t.name== [])):=Y1 rfl;have hb0:=Z00 w (.cells (Y8 t q) 25);have HB0:=Y1 hb0;clear hb0;obtain ⟨_,⟨c0,c1,c2,c3,c4⟩,_⟩:=Z07 w t q;cases h1: (t.of_== [])
 {have hoe:=Z0E h1;have HF:Hid (bare t=false):=Y1 (by rw[HB.out,h1]; rfl);clear h1;go_enter Tryd.func56,Tryd.ntmps56;go_wp2;go_ret;exact ⟨by rw[HF.out]; rfl,HB0.out⟩}
 {have hoe:=Z0E h1;cases h2: (t.name== [])
  all_goals
   have hne:=Z0E h2;have HF:Hid _:=Y1 (show bare t=_ from by rw[HB.out,h1,h2]);clear h1 h2;go_enter Tryd.func56,Tryd.ntmps56;go_wp2;go_ret;exact ⟨Z0o (by rw[HF.out]; rfl),HB0.out⟩}
theorem Z7H (t:Sh) (q:Ptr) (w:World) (hs:Small t q) (hg:WGlobs w):
 Y9 58 #[.agg (Y8 t q)] w (.bool (nameOk t wordB)):=by
 have HS:=Y1 hs;have HB:Hid (nameOk t wordB=if t.of_= [] then Lex.isUpper t.name&& !wordB t.name else Lex.isName t.of_&&Lex.isUpper t.name):=Y1 rfl;have hb0:=Z00 w (.cells (Y8 t q) 25);have hu:=fun W=>Z4o t.name HS.out.n W;have hn:=fun W=>Z2g t.of_ HS.out.o W;have hw:=Z6C t.name _ (hg.next hb0);have HB0:=Y1 hb0;clear hb0 hg hs;obtain ⟨_,⟨c0,c1,c2,c3,c4⟩,_⟩:=Z07 w t q;cases h1: (t.of_== [])
 {have hoe:=Z0E h1;have HF:Hid (nameOk t wordB=(Lex.isName t.of_&&Lex.isUpper t.name)):=Y1 (by rw[HB.out,if_neg (by simpa using h1)]);clear h1;cases h2:Lex.isName t.of_
  all_goals
   rw[h2] at HF;simp only[h2] at hn;clear h2;go_enter Tryd.func58,Tryd.ntmps58
   go_wp2_with fail
   refine (hn _).mono ?_;rintro e w' ⟨rfl,rfl⟩
  {go_wp2;go_ret;exact ⟨by rw[HF.out]; rfl,HB0.out⟩}
  {go_wp2_with fail
   refine (hu _).mono ?_;rintro e w' ⟨rfl,rfl⟩;go_wp2;go_ret;exact ⟨Z0o (by rw[HF.out]; rfl),HB0.out⟩}}
 {have hoe:=Z0E h1;have HF:Hid (nameOk t wordB=(Lex.isUpper t.name&& !wordB t.name)):=Y1 (by rw[HB.out,if_pos (by simpa using h1)]);clear h1;cases h2:Lex.isUpper t.name
  all_goals
   rw[h2] at HF;simp only[h2] at hu;clear h2;go_enter Tryd.func58,Tryd.ntmps58
   go_wp2_with fail
   refine (hu _).mono ?_;rintro e w' ⟨rfl,rfl⟩
  {go_wp2;go_ret;exact ⟨by rw[HF.out]; rfl,HB0.out⟩}
  {go_wp2_with fail
   refine hw.mono ?_;rintro e w' ⟨rfl,rfl⟩;go_wp2;go_ret;exact ⟨Z0o (by rw[HF.out]; rfl),HB0.out⟩}}
theorem Z85 {a b:Nat}: ((a:Int)==(b:Int))=decide (a=b):=by rw[Bool.eq_iff_iff,beq_iff_eq,decide_eq_true_eq]; omega
theorem Z0x {k n:Int} (m:Int) (h:k=n) (e: (n==m)=true): (k==m)=true:=by rw[h]; exact e
theorem Z0q {k n:Int} (m:Int) (h:k=n) (e: (n==m)=false): (k==m)=false:=by rw[h]; exact e
section
variable (t : Sh) (q : Ptr) (w : World) (hq : ShAt w w.heap.size q t) (hg : WGlobs w)
include t q w hq hg
theorem Zby (hk:t.kind=1\/t.kind=2\/t.kind=3\/t.kind=4\/t.kind=5\/t.kind=8):
 Y9 48 #[.agg (Y8 t q)] w (.bool (fits t)):=by
 have HS:=Y1 hq.small;have HA:=Y1 hq.strs;have hB:=Z07 w t q;have HB:=Y1 hB;have hb0:=Z00 w (.cells (Y8 t q) 25);have HB0:=Y1 hb0;have HG:=Y1 (hg.next hb0);obtain ⟨_,⟨c0,c1,c2,c3,c4⟩,_⟩:=hB;rcases hk with hk | hk | hk | hk | hk | hk
 all_goals
  first | have k1:=Z0x 1 hk rfl | have k1:=Z0q 1 hk rfl
  first | have k2:=Z0x 2 hk rfl | have k2:=Z0q 2 hk rfl
  first | have k3:=Z0x 3 hk rfl | have k3:=Z0q 3 hk rfl
  first | have k4:=Z0x 4 hk rfl | have k4:=Z0q 4 hk rfl
  first | have k5:=Z0x 5 hk rfl | have k5:=Z0q 5 hk rfl
  first | have k6:=Z0x 6 hk rfl | have k6:=Z0q 6 hk rfl
  first | have k7:=Z0x 7 hk rfl | have k7:=Z0q 7 hk rfl
  first | have k8:=Z0x 8 hk rfl | have k8:=Z0q 8 hk rfl
  first | have k9:=Z0x 9 hk rfl | have k9:=Z0q 9 hk rfl
  first | have k10:=Z0x 10 hk rfl | have k10:=Z0q 10 hk rfl
  first | have HF:=Y1 (Z8W hk) | have HF:=Y1 (Zal hk) | have HF:=Y1 (Z8V (t:=t) (by omega) (by omega))
  have hc:=Z3R t q (w.alloc (.cells (Y8 t q) 25));clear hk hg hq hb0;cases hb:bare t
  {rw[hb] at hc HF;clear hb;go_enter Tryd.func48,Tryd.ntmps48
   go_wp2_with fail
   refine hc.mono ?_;rintro e w' ⟨rfl,hb'⟩;go_wp2;go_ret;exact ⟨by rw[HF.out]; rfl,Z02 HB0.out hb'⟩}
  {rw[hb] at hc HF;clear hb;cases hz:decide (t.names.length=0)
   {rw[hz] at HF;have hz2: ((t.names.length:Int)==0)=false:=by rw[Z1q]; exact hz
    clear hz;go_enter Tryd.func48,Tryd.ntmps48
    go_wp2_with fail
    refine hc.mono ?_;rintro e w' ⟨rfl,hb'⟩;obtain ⟨_,⟨c0,c1,c2,c3,c4⟩,_⟩:=HB.out.next hb';go_wp2;go_ret;exact ⟨by rw[HF.out]; rfl,Z02 HB0.out hb'⟩}
   {rw[hz] at HF;have hz2: ((t.names.length:Int)==0)=true:=by rw[Z1q]; exact hz
    clear hz;go_enter Tryd.func48,Tryd.ntmps48
    go_wp2_with fail
    refine hc.mono ?_;rintro e w' ⟨rfl,hb'⟩;obtain ⟨_,⟨c0,c1,c2,c3,c4⟩,_⟩:=HB.out.next hb';go_wp2;go_ret;exact ⟨Z0o (by rw[HF.out,Bool.eq_iff_iff]; simp; try omega),Z02 HB0.out hb'⟩}}
theorem Zbz (hk:t.kind=6\/t.kind=7) (hz:t.parts.length<=1000000):
 Y9 48 #[.agg (Y8 t q)] w (.bool (fits t)):=by
 have HS:=Y1 hq.small;have HA:=Y1 hq.strs;have hB:=Z07 w t q;have HB:=Y1 hB;have hb0:=Z00 w (.cells (Y8 t q) 25);have HB0:=Y1 hb0;have HG:=Y1 (hg.next hb0);have HZ:=Y1 hz;clear hz;obtain ⟨_,⟨c0,c1,c2,c3,c4⟩,_⟩:=hB;rcases hk with hk | hk
 all_goals
  first | have k1:=Z0x 1 hk rfl | have k1:=Z0q 1 hk rfl
  first | have k2:=Z0x 2 hk rfl | have k2:=Z0q 2 hk rfl
  first | have k3:=Z0x 3 hk rfl | have k3:=Z0q 3 hk rfl
  first | have k4:=Z0x 4 hk rfl | have k4:=Z0q 4 hk rfl
  first | have k5:=Z0x 5 hk rfl | have k5:=Z0q 5 hk rfl
  first | have k6:=Z0x 6 hk rfl | have k6:=Z0q 6 hk rfl
  first | have k7:=Z0x 7 hk rfl | have k7:=Z0q 7 hk rfl
  first | have k8:=Z0x 8 hk rfl | have k8:=Z0q 8 hk rfl
  first | have k9:=Z0x 9 hk rfl | have k9:=Z0q 9 hk rfl
  first | have k10:=Z0x 10 hk rfl | have k10:=Z0q 10 hk rfl
  have HF:=Y1 (Zam (t:=t) (by first | exact Or.inl hk | exact Or.inr hk));have hc:=Z3R t q (w.alloc (.cells (Y8 t q) 25));clear hk hg hq hb0;cases hb:bare t
  {rw[hb] at hc HF;clear hb;go_enter Tryd.func48,Tryd.ntmps48
   go_wp2_with fail
   refine hc.mono ?_;rintro e w' ⟨rfl,hb'⟩;go_wp2;go_ret;exact ⟨by rw[HF.out]; rfl,Z02 HB0.out hb'⟩}
  {rw[hb] at hc HF;clear hb;cases hz:decide (t.names.length=t.parts.length)
   {rw[hz] at HF;have hz2: ((t.names.length:Int)==(t.parts.length:Int))=false:=by rw[Z85]; exact hz
    clear hz;go_enter Tryd.func48,Tryd.ntmps48
    go_wp2_with fail
    refine hc.mono ?_;rintro e w' ⟨rfl,hb'⟩;obtain ⟨_,⟨c0,c1,c2,c3,c4⟩,_⟩:=HB.out.next hb';go_wp2;go_ret;exact ⟨by rw[HF.out]; rfl,Z02 HB0.out hb'⟩}
   {rw[hz] at HF;have hz2: ((t.names.length:Int)==(t.parts.length:Int))=true:=by rw[Z85]; exact hz
    clear hz;have hlen:t.names.length<=1000000:=by have:=HZ.out; have h2:=beq_iff_eq.1 hz2; omega
    have HA0:=HA.out.next HB0.out;go_enter Tryd.func48,Tryd.ntmps48
    go_wp2_with fail
    refine hc.mono ?_;rintro e w1 ⟨rfl,hb'⟩;have hn:=Z7D q.A q.c t.names w1 (HA0.next hb') hlen HS.out.ns;obtain ⟨_,⟨c0,c1,c2,c3,c4⟩,_⟩:=HB.out.next hb';have hbw:=Z02 HB0.out hb';clear hc hb' HA0
    go_wp2_with fail
    refine hn.mono ?_;rintro e w' ⟨rfl,hb2⟩;go_wp2;go_ret;exact ⟨Z0o (by rw[HF.out]; rfl),Z02 hbw hb2⟩}}
theorem ZbA (hk:t.kind=9):
 Y9 48 #[.agg (Y8 t q)] w (.bool (fits t)):=by
 have HS:=Y1 hq.small;have HA:=Y1 hq.strs;have hB:=Z07 w t q;have HB:=Y1 hB;have hb0:=Z00 w (.cells (Y8 t q) 25);have HB0:=Y1 hb0;have HG:=Y1 (hg.next hb0);obtain ⟨_,⟨c0,c1,c2,c3,c4⟩,_⟩:=hB;have k1:=Y3 1 hk rfl;have k2:=Y3 2 hk rfl;have k3:=Y3 3 hk rfl;have k4:=Y3 4 hk rfl;have k5:=Y3 5 hk rfl;have k6:=Y3 6 hk rfl;have k7:=Y3 7 hk rfl;have k8:=Y3 8 hk rfl;have k9:=Y4 9 hk rfl;have k10:=Y3 10 hk rfl;have HF:=Y1 (Z8X hk);have hc:=Z7H t q (w.alloc (.cells (Y8 t q) 25)) HS.out HG.out;clear hk hg hq hb0;cases hb:nameOk t wordB
 {rw[hb] at hc HF;clear hb;go_enter Tryd.func48,Tryd.ntmps48
  go_wp2_with fail
  refine hc.mono ?_;rintro e w' ⟨rfl,hb'⟩;go_wp2;go_ret;exact ⟨by rw[HF.out]; rfl,Z02 HB0.out hb'⟩}
 {rw[hb] at hc HF;clear hb;cases hz:decide (t.names.length=0)
  {rw[hz] at HF;have hz2: ((t.names.length:Int)==0)=false:=by rw[Z1q]; exact hz
   clear hz;go_enter Tryd.func48,Tryd.ntmps48
   go_wp2_with fail
   refine hc.mono ?_;rintro e w' ⟨rfl,hb'⟩;obtain ⟨_,⟨c0,c1,c2,c3,c4⟩,_⟩:=HB.out.next hb';go_wp2;go_ret;exact ⟨by rw[HF.out]; rfl,Z02 HB0.out hb'⟩}
  {rw[hz] at HF;have hz2: ((t.names.length:Int)==0)=true:=by rw[Z1q]; exact hz
   clear hz;go_enter Tryd.func48,Tryd.ntmps48
   go_wp2_with fail
   refine hc.mono ?_;rintro e w' ⟨rfl,hb'⟩;obtain ⟨_,⟨c0,c1,c2,c3,c4⟩,_⟩:=HB.out.next hb';go_wp2;go_ret;exact ⟨Z0o (by rw[HF.out,Bool.eq_iff_iff]; simp; try omega),Z02 HB0.out hb'⟩}}
theorem Zbe (hk:t.kind=10):
 Y9 48 #[.agg (Y8 t q)] w (.bool (fits t)):=by
 have HS:=Y1 hq.small;have HA:=Y1 hq.strs;have hB:=Z07 w t q;have HB:=Y1 hB;have hb0:=Z00 w (.cells (Y8 t q) 25);have HB0:=Y1 hb0;have HG:=Y1 (hg.next hb0);obtain ⟨_,⟨c0,c1,c2,c3,c4⟩,_⟩:=hB;have k1:=Y3 1 hk rfl;have k2:=Y3 2 hk rfl;have k3:=Y3 3 hk rfl;have k4:=Y3 4 hk rfl;have k5:=Y3 5 hk rfl;have k6:=Y3 6 hk rfl;have k7:=Y3 7 hk rfl;have k8:=Y3 8 hk rfl;have k9:=Y3 9 hk rfl;have k10:=Y4 10 hk rfl;have HF:=Y1 (Z7F hk);have hn:=fun W=>Z2g t.of_ HS.out.o W;have hu:=fun W=>Z4o t.name HS.out.n W;clear hk hg hq hb0;cases h1:Lex.isName t.of_
 {rw[h1] at HF;simp only[h1] at hn;clear h1;go_enter Tryd.func48,Tryd.ntmps48
  go_wp2_with fail
  refine (hn _).mono ?_;rintro e w' ⟨rfl,rfl⟩;go_wp2;go_ret;exact ⟨by rw[HF.out]; rfl,HB0.out⟩}
 {rw[h1] at HF;simp only[h1] at hn;clear h1;cases h2:Lex.isUpper t.name
  {rw[h2] at HF;simp only[h2] at hu;clear h2;go_enter Tryd.func48,Tryd.ntmps48
   go_wp2_with fail
   refine (hn _).mono ?_;rintro e w' ⟨rfl,rfl⟩
   go_wp2_with fail
   refine (hu _).mono ?_;rintro e w' ⟨rfl,rfl⟩;go_wp2;go_ret;exact ⟨by rw[HF.out]; rfl,HB0.out⟩}
  {rw[h2] at HF;simp only[h2] at hu;clear h2;cases hz:decide (t.names.length=0)
   all_goals
    rw[hz] at HF;have hz2:=hz;rw[<-Z1q] at hz2;clear hz;go_enter Tryd.func48,Tryd.ntmps48
    go_wp2_with fail
    refine (hn _).mono ?_;rintro e w' ⟨rfl,rfl⟩
    go_wp2_with fail
    refine (hu _).mono ?_;rintro e w' ⟨rfl,rfl⟩;go_wp2;go_ret;exact ⟨Z0o (by rw[HF.out,Bool.eq_iff_iff]; simp),HB0.out⟩}}
theorem Z8Y (hk:t.kind < 1\/10 < t.kind):
 Y9 48 #[.agg (Y8 t q)] w (.bool (fits t)):=by
 have HS:=Y1 hq.small;have HA:=Y1 hq.strs;have hB:=Z07 w t q;have HB:=Y1 hB;have hb0:=Z00 w (.cells (Y8 t q) 25);have HB0:=Y1 hb0;have HG:=Y1 (hg.next hb0);obtain ⟨_,⟨c0,c1,c2,c3,c4⟩,_⟩:=hB;have k1: (t.kind==1)=false:=by rw[beq_eq_false_iff_ne]; omega
 have k2: (t.kind==2)=false:=by rw[beq_eq_false_iff_ne]; omega
 have k3: (t.kind==3)=false:=by rw[beq_eq_false_iff_ne]; omega
 have k4: (t.kind==4)=false:=by rw[beq_eq_false_iff_ne]; omega
 have k5: (t.kind==5)=false:=by rw[beq_eq_false_iff_ne]; omega
 have k6: (t.kind==6)=false:=by rw[beq_eq_false_iff_ne]; omega
 have k7: (t.kind==7)=false:=by rw[beq_eq_false_iff_ne]; omega
 have k8: (t.kind==8)=false:=by rw[beq_eq_false_iff_ne]; omega
 have k9: (t.kind==9)=false:=by rw[beq_eq_false_iff_ne]; omega
 have k10: (t.kind==10)=false:=by rw[beq_eq_false_iff_ne]; omega
 have HF:=Y1 (Zan hk);clear hk hg hq hb0;go_enter Tryd.func48,Tryd.ntmps48;go_wp2;go_ret;exact ⟨by rw[HF.out]; rfl,HB0.out⟩
theorem Z8Z (hz:t.parts.length<=1000000):
 Y9 48 #[.agg (Y8 t q)] w (.bool (fits t)):=by
 by_cases h:t.kind < 1\/10 < t.kind
 {exact Z8Y t q w hq hg h}
 {have:t.kind=1\/t.kind=2\/t.kind=3\/t.kind=4\/t.kind=5\/t.kind=6\/t.kind=7\/t.kind=8\/t.kind=9\/t.kind=10:=by omega
  rcases this with h | h | h | h | h | h | h | h | h | h
  case inr.inr.inr.inr.inr.inr.inr.inr.inl=>exact ZbA t q w hq hg h
  case inr.inr.inr.inr.inr.inr.inr.inr.inr=>exact Zbe t q w hq hg h
  all_goals first | exact Zby t q w hq hg (by omega) | exact Zbz t q w hq hg (by omega) hz}
end
end Go.Proofs.YtchklpedlbkgaaaDoor
namespace Go.Proofs.YtchklpedlbkgaaaDoor
section
open Go.RowKit Shp
def Z1b (p:Sh->Bool) (l:List Sh):Int:=match l.findIdx? p with
 | some i=>(i:Int)
 | none=> -1
theorem Zap {p:Sh->Bool} {l:List Sh} {i:Nat} (hi:i < l.length) (h:p (l[i]'hi)=true) (hn: ∀j (hj:j < l.length),j < i->p (l[j]'hj)=false):Z1b p l=(i:Int):=by
 have:l.findIdx? p=some i:=List.findIdx?_eq_some_iff_getElem.2 ⟨hi,h,fun j hj=>by rw[hn j (by omega) hj]; simp⟩;unfold Z1b; rw[this]
theorem Z7I {p:Sh->Bool} {l:List Sh} (hn: ∀j (hj:j < l.length),p (l[j]'hj)=false):Z1b p l= -1:=by
 have:l.findIdx? p=none:=List.findIdx?_eq_none_iff.2 (fun x hx=>by
  obtain ⟨j,hj,rfl⟩:=List.getElem_of_mem hx;exact hn j hj)
 unfold Z1b; rw[this]
theorem Z90 (p:Sh->Bool) (l:List Sh):decide (0<=Z1b p l)=l.any p:=by
 unfold Z1b;cases h:l.findIdx? p with
 | some i=>
  obtain ⟨hi,hp,_⟩:=List.findIdx?_eq_some_iff_getElem.1 h;show decide ((0:Int)<=(i:Int))=_;rw[decide_eq_true (by omega)];exact (List.any_eq_true.2 ⟨_,List.getElem_mem hi,hp⟩).symm
 | none=>
  have:=List.findIdx?_eq_none_iff.1 h;show false=_;symm;rw[List.any_eq_false];intro x hx; rw[this x hx]; simp
theorem Zaq (p:Sh->Bool) (l:List Sh): -1<=Z1b p l:=by
 unfold Z1b;cases l.findIdx? p with
 | some i=>show (-1:Int)<=(i:Int); omega
 | none=>show (-1:Int)<= -1; omega
theorem Z5O (l:List Sh):l.any (fun p=> !right p)= !rights l:=by
 rw[Z1M];induction l with
 | nil=>rfl
 | cons a l ih=>simp[ih]
section
variable (P : Option Addr) (d : Nat) (l : List Sh) (g off : Nat) (qs : Nat -> Ptr) (w : World) (hl : l.length <= 1000000) (hp : l.length = 0 \/ P = some ⟨g, off, none⟩ /\ g < w.heap.size /\ (∀ i (h : i < l.length), Sh5 w g (off + i * 5) (l[i]'h) (qs i)) /\ ∀ i (h : i < l.length), ShAt w w.heap.size (qs i) (l[i]'h)) (hg : WGlobs w) (hf : ∀ x ∈ l, ∀ (q : Ptr) (w : World), ShAt w w.heap.size q x -> WGlobs w -> Y9 30 #[.agg (Y8 x q)] w (.bool (!right x)))
include P d l g off qs w hl hp hg hf
theorem Zar:
 Y9 61 #[.slice P l.length d,.func (.func 30) #[] #[]] w (.int .i64 (Z1b (fun p=> !right p) l)):=by
 have HP:=Y1 hp;have HF:=Y1 hf;have HG:=Y1 hg;clear hg;clear hp hf;go_enter Tryd.func61,Tryd.ntmps61
 go_wp2_with fail
 go_loopw [8] (fun ii wr=> ∃i:Nat,ii= .int .i64 i/\i<=l.length/\Hid (∀j (h:j < l.length),j < i->(!right (l[j]'h))=false)/\Below w.heap.size w wr) (fun i _=>l.length - (intOf i).toNat)
 case atStart=>exact ⟨0,rfl,Nat.zero_le _,Y1 (fun j _ hj=>absurd hj (by omega)),Below.refl _ _⟩
 case round=>
  obtain ⟨i,rfl,hi,HN,hb⟩:=hrel;by_cases hlt:i < l.length
  {rcases HP.out with h0 | ⟨rfl,hg,hc,hr⟩
   {omega}
   {obtain ⟨x,hx⟩: ∃x,x=l[i]'hlt:=⟨_,rfl⟩;obtain ⟨p0,p1,p2,p3,p4⟩:=(hc i hlt).keep hg hb;have hat:ShAt wr wr.heap.size (qs i) x:=by rw[hx]; exact (hr i hlt).next hb
    have ihx:=HF.out l[i] (List.getElem_mem _) (qs i) wr;rw[<-hx] at p0 p1 p2 p3 p4 ihx;have IH:=ihx hat (HG.out.next hb);have HX:=Y1 hx;clear hx hc hr hat ihx;have hi1: (i:Int) < (l.length:Int):=by omega
    cases hox: !right x with
    | true=>
     rw[hox] at IH;have HV:Hid (Z1b (fun p=> !right p) l=(i:Int)):=Y1 (Zap hlt (by show (!right _)=true; rw[<-HX.out]; exact hox) (fun j hj hji=>HN.out j hj hji));clear hox
     go_wp2_with fail
     refine IH.mono ?_;rintro e w' ⟨rfl,hb'⟩;go_wp2;go_ret;exact ⟨Z19 HV.out.symm,Z02 hb hb'⟩
    | false=>
     rw[hox] at IH;have HO:=Y1 hox;clear hox
     go_wp2_with fail
     refine IH.mono ?_;rintro e w' ⟨rfl,hb'⟩;go_wp2
     go_roundw
     case rel=>exact ⟨i+1,by go_num,by omega,Y1 (fun j hj hji=>by
      rcases Nat.lt_succ_iff_lt_or_eq.1 hji with h | rfl
      {exact HN.out j hj h}
      · rw[<-HX.out]; exact HO.out),Z02 hb hb'⟩
     case measure=>simp[intOf]; omega}}
  {have hi1: ¬(i:Int) < (l.length:Int):=by omega
   have HV:Hid (Z1b (fun p=> !right p) l= -1):=Y1 (Z7I (fun j hj=>HN.out j hj (by omega)));go_wp2;go_ret;exact ⟨Z19 HV.out.symm,hb⟩}
theorem Z6D:
 Y9 49 #[.slice P l.length d,.func (.func 30) #[] #[]] w (.bool (l.any (fun p=> !right p))):=by
 have HI:=Zar P d l g off qs w hl hp hg hf;have HV:=Y1 (Z90 (fun p=> !right p) l);have hge:=Zaq (fun p=> !right p) l;generalize Z1b (fun p=> !right p) l=r at HI HV hge;clear hp hf;go_enter Tryd.func49,Tryd.ntmps49
 go_wp2_with fail
 refine HI.mono ?_;rintro e w' ⟨rfl,hb'⟩;go_wp2;go_ret;exact ⟨Z0o HV.out,hb'⟩
end
theorem ZbB {w:World} {q:Ptr} {t:Sh} (h:ShAt w w.heap.size q t): ∃(g off:Nat) (qs:Nat->Ptr),t.parts.length=0\/q.P=some ⟨g,off,none⟩/\g < w.heap.size/\(∀i (h:i < t.parts.length),Sh5 w g (off+i * 5) (t.parts[i]'h) (qs i))/\ ∀i (h:i < t.parts.length),ShAt w w.heap.size (qs i) (t.parts[i]'h):=by
 rcases h.part with h0 | ⟨g,off,qs,h1,h2,h3,h4⟩
 {exact ⟨0,0,fun _=>q,Or.inl h0⟩}
 {exact ⟨g,off,qs,Or.inr ⟨h1,h2,h3,h4⟩⟩}
theorem Z6E (t:Sh): ∀(q:Ptr) (w:World),ShAt w w.heap.size q t->WGlobs w->size t<=1000000->
 Y9 30 #[.agg (Y8 t q)] w (.bool (!right t)):=by
 induction t using Sh.ind with
 | h t ih=>
 intro q w hq hg hz;have hpl:t.parts.length<=1000000:=by have:=Z0L t.parts; rw[size_eq] at hz; omega
 have hb0:=Z00 w (.cells (Y8 t q) 25);have hf:=Z8Z t q _ (hq.next hb0) (hg.next hb0) hpl;have HC:=Y1 (fun W (h:Below w.heap.size w W)=>by
  obtain ⟨g,off,qs,h1⟩:=ZbB (hq.next h);exact Z6D q.P q.d t.parts g off qs W hpl h1 (hg.next h) (fun x hx q' w' hat hg'=>ih x hx q' w' hat hg' (by have:=Z1l hx; rw[size_eq] at hz; omega)))
 have HD:=Y1 (Z1z t);have HA:=Y1 (Z5O t.parts);have HB0:=Y1 hb0;have HB:=Y1 (Z07 w t q);obtain ⟨_,⟨c0,c1,c2,c3,c4⟩,_⟩:=HB.out;clear hb0 hq hg hz hpl ih;cases hft:fits t
 {have HF:Hid (right t=false):=Y1 (by rw[HD.out,hft]; rfl);rw[hft] at hf;clear hft;go_enter Tryd.func30,Tryd.ntmps30
  go_wp2_with fail
  refine hf.mono ?_;rintro e w' ⟨rfl,hb'⟩;go_wp2;go_ret;exact ⟨by rw[HF.out]; rfl,Z02 HB0.out hb'⟩}
 {have HF:Hid ((!right t)=t.parts.any (fun p=> !right p)):=Y1 (by rw[HD.out,hft,HA.out]; rfl);rw[hft] at hf;clear hft;go_enter Tryd.func30,Tryd.ntmps30
  go_wp2_with fail
  refine hf.mono ?_;rintro e w1 ⟨rfl,hb'⟩;have hbw:=Z02 HB0.out hb';have hc:=HC.out w1 hbw;obtain ⟨_,⟨d0,d1,d2,d3,d4⟩,_⟩:=HB.out.next hb';clear hf c0 c1 c2 c3 c4 hb'
  go_wp2_with fail
  refine hc.mono ?_;rintro e w' ⟨rfl,hb2⟩;go_wp2;go_ret;exact ⟨Z0o HF.out.symm,Z02 hbw hb2⟩}
structure UpC (cb B:Nat) (w w':World):Prop where
 os:w'.os=w.os
 tape:w'.tape=w.tape
 output:w'.output=w.output
 size:w.heap.size<=w'.heap.size
 block: ∀k,k < B->k≠cb->w'.heap[k]? =w.heap[k]?
 c1:w'.cell? ⟨cb,1,none⟩=w.cell? ⟨cb,1,none⟩
 f0:w'.frozen? ⟨cb,0,none⟩=w.frozen? ⟨cb,0,none⟩
theorem UpC.refl (cb B:Nat) (w:World):UpC cb B w w:=⟨rfl,rfl,rfl,Nat.le_refl _,fun _ _ _=>rfl,rfl,rfl⟩
theorem UpC.trans {cb B:Nat} {a b c:World} (h:UpC cb B a b) (k:UpC cb B b c):UpC cb B a c:=
 ⟨k.os.trans h.os,k.tape.trans h.tape,k.output.trans h.output,Nat.le_trans h.size k.size,fun i hi hn=>(k.block i hi hn).trans (h.block i hi hn),k.c1.trans h.c1,k.f0.trans h.f0⟩
theorem UpC.mono {cb B B':Nat} {w w':World} (h:UpC cb B w w') (hB:B'<=B):UpC cb B' w w':=⟨h.os,h.tape,h.output,h.size,fun k hk=>h.block k (Nat.lt_of_lt_of_le hk hB),h.c1,h.f0⟩
theorem UpC.below {cb B:Nat} {a w w':World} (h:UpC cb B a w) (hb:Below B w w') (hc:cb < B):UpC cb B a w':=
 h.trans ⟨hb.os,hb.tape,hb.output,hb.size,fun k hk _=>hb.block k hk,hb.cell (p:=⟨cb,1,none⟩) hc,hb.frozen (p:=⟨cb,0,none⟩) hc⟩
theorem UpC.set {cb B:Nat} {a w:World} (h:UpC cb B a w) (v:Value):UpC cb B a (w.setCell ⟨cb,0,none⟩ v):=
 h.trans ⟨rfl,rfl,rfl,by simp[World.setCell],fun k hk hn=>Below.heap_setCell _ _ _ _ hn,by simp[go_sem],by simp[go_sem]⟩
theorem UpC.next {cb:Nat} {a b c:World} (h:UpC cb a.heap.size a b) (k:UpC cb b.heap.size b c):UpC cb a.heap.size a c:=h.trans (k.mono h.size)
theorem UpC.cell {cb B:Nat} {w w':World} (h:UpC cb B w w') {g k:Nat} (hg:g < B) (hn:g≠cb):w'.cell? ⟨g,k,none⟩=w.cell? ⟨g,k,none⟩:=World.cell?_of_block (w:=w) (h.block g hg hn)
theorem UpC.toBelow {cb B:Nat} {w w':World} (h:UpC cb B w w') (hB:B<=cb):Below B w w':=⟨h.os,h.tape,h.output,h.size,fun k hk=>h.block k hk (by omega)⟩
structure Cnt (w:World) (cb p m:Nat):Prop where
 lt:cb < w.heap.size
 c0:w.cell? ⟨cb,0,none⟩=some (.int .i64 (p:Int))
 c1:m=400
 f0:w.frozen? ⟨cb,0,none⟩=false
theorem Cnt.below {w w':World} {cb p m:Nat} (h:Cnt w cb p m) (hb:Below w.heap.size w w'):Cnt w' cb p m:=
 ⟨Nat.lt_of_lt_of_le h.lt hb.size,(hb.cell (p:=⟨cb,0,none⟩) h.lt).trans h.c0,h.c1,(hb.frozen (p:=⟨cb,0,none⟩) h.lt).trans h.f0⟩
theorem Cnt.set {w:World} {cb p m:Nat} (h:Cnt w cb p m) (n:Nat):Cnt (w.setCell ⟨cb,0,none⟩ (.int .i64 (n:Int))) cb n m:=
 ⟨by simpa[World.setCell] using h.lt,by simp[go_sem,h.c0],h.c1,by simp[go_sem,h.f0]⟩
theorem ShAt.upc {w w':World} {B C cb:Nat} {q:Ptr} {t:Sh} (h:ShAt w B q t) (hu:UpC cb C w w') (h1:B<=cb) (h2:B<=C):ShAt w' B q t:=
 h.of (Nat.le_refl _) (fun g k hg=>hu.cell (by omega) (by omega))
theorem Z5B (t:Sh): ∀(q:Ptr) (B cb p m:Nat) (w:World),ShAt w B q t->B<=cb->Cnt w cb p m->p+size t<=m->m<=1000000->
 Calls Tryd.prog 47 #[.pointer (some ⟨cb,0,none⟩),.agg (Y8 t q)] w
  fun e w'=>e= .returned (.int .i64 (deep t:Int))/\UpC cb w.heap.size w w'/\Cnt w' cb (p+size t) m:=by
 induction t using Sh.ind with
 | h t ih=>
 intro q B cb p m w hq hBc hc hpm hm;have HQ:=Y1 hq;have HM:=Y1 hq.small.m;have HP:=Y1 hq.part;have HD:Hid (deep t=deeps t.parts+1):=Y1 (Z0l t);have HZ:Hid (size t=1+sizes t.parts):=Y1 (size_eq t);have HDS:=Y1 (Z1G t);have HPM:Hid (p+size t<=m):=Y1 hpm;have hlt:p < m:=by have:=HZ.out; omega
 have hpe: ((p:Int)==400)=false:=by rw[beq_eq_false_iff_ne]; have:=hc.c1; omega
 have hpi: (p:Int)<=1000000:=by omega
 have hb0:=Z00 w (.cells (Y8 t q) 25);have HC:=Y1 hc;have hB:=Z07 w t q;have HB:=Y1 hB;have HC1:=Y1 (hc.below hb0);have HU:=Y1 ((UpC.refl cb w.heap.size w).below hb0 hc.lt);have hcl:=hc.lt;obtain ⟨_,k0,k1,k2⟩:=hc.below hb0;clear k1;clear hb0 hc hB hpm hq;have hne:w.heap.size≠cb:=by omega
 have hne2:cb≠w.heap.size:=by omega
 go_enter Tryd.func47,Tryd.ntmps47
 go_wp2_with fail
 obtain ⟨W0,hW0⟩: ∃W0,W0=(w.setCell ⟨cb,0,none⟩ (.int .i64 ((p:Int)+1))).alloc (.cells (Y8 t q) 25):=⟨_,rfl⟩;have hsz0:W0.heap.size=w.heap.size+1:=by rw[hW0]; simp[World.setCell]
 have hU0:UpC cb w.heap.size w W0:=by
  rw[hW0];exact ((UpC.refl cb w.heap.size w).set _).below ((Z00 _ _).mono (by simp[World.setCell])) hcl
 have hC0:Cnt W0 cb (p+1) m:=by
  rw[hW0];exact (HC.out.set (p+1)).below (Z00 _ _)
 have hB0:Box5 W0 w.heap.size t q:=by
  have e: (w.setCell ⟨cb,0,none⟩ (.int .i64 ((p:Int)+1))).heap.size=w.heap.size:=by simp[World.setCell]
  have h5:=Z07 (w.setCell ⟨cb,0,none⟩ (.int .i64 ((p:Int)+1))) t q;rw[e] at h5;rw[hW0]; exact h5
 have HU0:=Y1 hU0;have HC0:=Y1 hC0;have HB0:=Y1 hB0;clear hU0 hC0 hB0;rw[<-hW0];have HSZ:=Y1 hsz0;clear hW0 k0 k2 HU HC1 HB hsz0
 go_loopw [5,24] (fun dd ii wr=> ∃i:Nat,ii= .int .i64 i/\i<=t.parts.length/\dd= .int .i64 (deeps (t.parts.take i):Int)/\Hid (UpC cb W0.heap.size W0 wr)/\Hid (Cnt wr cb (p+1+sizes (t.parts.take i)) m)) (fun _ i _=>t.parts.length - (intOf i).toNat)
 case atStart=>exact ⟨0,rfl,Nat.zero_le _,rfl,Y1 (UpC.refl _ _ _),HC0⟩
 case round=>
  obtain ⟨i,rfl,hi,rfl,HUR,HCR⟩:=hrel;have hmm:=HM.out;have htk:=Z39 t.parts i;have hds:=HDS.out;have hd2:deeps t.parts<=1000000:=by have:=HD.out; have:=HPM.out; omega
  by_cases hlt:i < t.parts.length
  {rcases HP.out with h0 | ⟨g,off,qs,hqP,hg,hc,hr⟩
   {omega}
   {have hur:UpC cb w.heap.size w wr:=HU0.out.next HUR.out;obtain ⟨x,hx⟩: ∃x,x=t.parts[i]:=⟨_,rfl⟩;have hgw:g < w.heap.size:=by omega
    obtain ⟨p0,p1,p2,p3,p4⟩:=(hc i hlt).of (w':=wr) (fun k=>hur.cell hgw (by omega));have hbx:=Z00 wr (.cells (Y8 x (qs i)) 25);have hat:ShAt (wr.alloc (.cells (Y8 x (qs i)) 25)) B (qs i) x:=by
     rw[hx];exact ((hr i hlt).upc hur hBc (by omega)).keep (Z00 wr _) (by have:=hur.size; omega)
    have hcx:=HCR.out.below hbx;have HN:Hid (sizes (t.parts.take (i+1))=sizes (t.parts.take i)+size x):=Y1 (by rw[hx]; exact Z1L hlt);have HE:Hid (deeps (t.parts.take (i+1))=max (deeps (t.parts.take i)) (deep x)):=Y1 (by rw[hx]; exact Z37 hlt);have ihx:=ih t.parts[i] (List.getElem_mem _) (qs i) B cb (p+1+sizes (t.parts.take i)) m (wr.alloc (.cells (Y8 x (qs i)) 25));rw[<-hx] at p0 p1 p2 p3 p4 ihx;have hdx:deep x<=1000000:=by rw[hx]; exact Nat.le_trans (Z0F (List.getElem_mem _)) hd2
    have hbd:p+1+sizes (t.parts.take i)+size x<=m:=by
     have:=Z38 t.parts (i+1);have:=HN.out;have:=HPM.out;have:=HZ.out;omega
    have IH:=ihx hat hBc hcx hbd hm;have HBX:=Y1 (HB0.out);clear hx hc hr hat ihx hcx hbd hd2 hur hbx ih;have hi1: (i:Int) < (t.parts.length:Int):=by omega
    obtain ⟨a,ha⟩: ∃a,a=deeps (t.parts.take i):=⟨_,rfl⟩;rw[<-ha] at HE htk ⊢;clear ha;rw[hqP];clear hqP
    go_wp2_with fail
    refine IH.mono ?_;rintro e w2 ⟨rfl,hu2,hc2⟩;have HU2:Hid (UpC cb W0.heap.size W0 w2):=Y1 ((HUR.out.below ((Z00 wr _).mono HUR.out.size) (by have:=HSZ.out; omega)).trans (hu2.mono (by have:=HUR.out.size; simp; omega)));have HC2:Hid (Cnt w2 cb (p+1+sizes (t.parts.take (i+1))) m):=Y1 (by rw[HN.out, <-Nat.add_assoc]; exact hc2);clear hu2 hc2 IH;by_cases hgt: (a:Int) < (deep x:Int)
    all_goals
     go_wp2
     go_roundw
     case rel=>exact ⟨i+1,by go_num,by omega,by rw[HE.out]; go_num,HU2,HC2⟩
     case measure=>simp[intOf]; omega}}
  {have HF:Hid (deep t=deeps (t.parts.take i)+1):=Y1 (by rw[HD.out,show i=t.parts.length from by omega,List.take_length]);have HG:Hid (p+size t=p+1+sizes (t.parts.take i)):=Y1 (by rw[HZ.out,show i=t.parts.length from by omega,List.take_length]; omega);have hi1: ¬(i:Int) < (t.parts.length:Int):=by omega
   go_wp2;go_ret;exact ⟨Z19 (by rw[HF.out]; go_num),HU0.out.next HUR.out,by rw[HG.out]; exact HCR.out⟩}
theorem Z7J (t:Sh): ∀(q:Ptr) (B cb p m:Nat) (w:World),ShAt w B q t->B<=cb->Cnt w cb p m->p<=m->m < p+size t->m<=1000000->
 Calls Tryd.prog 47 #[.pointer (some ⟨cb,0,none⟩),.agg (Y8 t q)] w
  fun e w'=>e= .panicked [{ v:= .iface 29 (.int .i64 3),recovered:=false }]/\UpC cb w.heap.size w w':=by
 induction t using Sh.ind with
 | h t ih=>
 intro q B cb p m w hq hBc hc hpm hov hm;have HQ:=Y1 hq;have HM:=Y1 hq.small.m;have HP:=Y1 hq.part;have HD:Hid (deep t=deeps t.parts+1):=Y1 (Z0l t);have HZ:Hid (size t=1+sizes t.parts):=Y1 (size_eq t);have HDS:=Y1 (Z1G t);have HOV:Hid (m < p+size t):=Y1 hov;have hpi: (p:Int)<=1000000:=by omega
 have hb0:=Z00 w (.cells (Y8 t q) 25);have HC:=Y1 hc;have hB:=Z07 w t q;have HB:=Y1 hB;have HC1:=Y1 (hc.below hb0);have HU:=Y1 ((UpC.refl cb w.heap.size w).below hb0 hc.lt);have hcl:=hc.lt;obtain ⟨_,k0,k1,k2⟩:=hc.below hb0;clear k1;clear hb0 hc hB hov hq;have hne:w.heap.size≠cb:=by omega
 have hne2:cb≠w.heap.size:=by omega
 by_cases hpm2:p=m
 {have hpe: ((p:Int)==400)=true:=by rw[beq_iff_eq]; have:=HC.out.c1; omega
  have HUX:=HU;clear hpm2 hpm ih;go_enter Tryd.func47,Tryd.ntmps47
  go_wp2_with fail
  exact ⟨rfl,rfl,HU.out⟩}
 have hlt:p < m:=by omega
 have hpe: ((p:Int)==400)=false:=by rw[beq_eq_false_iff_ne]; have:=HC.out.c1; omega
 clear hpm2;go_enter Tryd.func47,Tryd.ntmps47
 go_wp2_with fail
 obtain ⟨W0,hW0⟩: ∃W0,W0=(w.setCell ⟨cb,0,none⟩ (.int .i64 ((p:Int)+1))).alloc (.cells (Y8 t q) 25):=⟨_,rfl⟩;have hsz0:W0.heap.size=w.heap.size+1:=by rw[hW0]; simp[World.setCell]
 have hU0:UpC cb w.heap.size w W0:=by
  rw[hW0];exact ((UpC.refl cb w.heap.size w).set _).below ((Z00 _ _).mono (by simp[World.setCell])) hcl
 have hC0:Cnt W0 cb (p+1) m:=by
  rw[hW0];exact (HC.out.set (p+1)).below (Z00 _ _)
 have hB0:Box5 W0 w.heap.size t q:=by
  have e: (w.setCell ⟨cb,0,none⟩ (.int .i64 ((p:Int)+1))).heap.size=w.heap.size:=by simp[World.setCell]
  have h5:=Z07 (w.setCell ⟨cb,0,none⟩ (.int .i64 ((p:Int)+1))) t q;rw[e] at h5;rw[hW0]; exact h5
 have HU0:=Y1 hU0;have HC0:=Y1 hC0;have HB0:=Y1 hB0;clear hU0 hC0 hB0;rw[<-hW0];have HSZ:=Y1 hsz0;clear hW0 k0 k2 HU HC1 HB hsz0
 go_loopw [5,24] (fun dd ii wr=> ∃i:Nat,ii= .int .i64 i/\i<=t.parts.length/\dd= .int .i64 (deeps (t.parts.take i):Int)/\Hid (UpC cb W0.heap.size W0 wr)/\p+1+sizes (t.parts.take i)<=m/\Hid (Cnt wr cb (p+1+sizes (t.parts.take i)) m)) (fun _ i _=>t.parts.length - (intOf i).toNat)
 case atStart=>exact ⟨0,rfl,Nat.zero_le _,rfl,Y1 (UpC.refl _ _ _),by simp[sizes]; omega,HC0⟩
 case round=>
  obtain ⟨i,rfl,hi,rfl,HUR,hpi2,HCR⟩:=hrel;have hmm:=HM.out;have htk:deeps (t.parts.take i)<=1000000:=by have:=Z73 (t.parts.take i); omega
  by_cases hlt:i < t.parts.length
  {rcases HP.out with h0 | ⟨g,off,qs,hqP,hg,hc,hr⟩
   {omega}
   {have hur:UpC cb w.heap.size w wr:=HU0.out.next HUR.out;obtain ⟨x,hx⟩: ∃x,x=t.parts[i]:=⟨_,rfl⟩;have hgw:g < w.heap.size:=by omega
    obtain ⟨p0,p1,p2,p3,p4⟩:=(hc i hlt).of (w':=wr) (fun k=>hur.cell hgw (by omega));have hbx:=Z00 wr (.cells (Y8 x (qs i)) 25);have hat:ShAt (wr.alloc (.cells (Y8 x (qs i)) 25)) B (qs i) x:=by
     rw[hx];exact ((hr i hlt).upc hur hBc (by omega)).keep (Z00 wr _) (by have:=hur.size; omega)
    have hcx:=HCR.out.below hbx;have HN:Hid (sizes (t.parts.take (i+1))=sizes (t.parts.take i)+size x):=Y1 (by rw[hx]; exact Z1L hlt);have HE:Hid (deeps (t.parts.take (i+1))=max (deeps (t.parts.take i)) (deep x)):=Y1 (by rw[hx]; exact Z37 hlt);have ihx:=ih t.parts[i] (List.getElem_mem _) (qs i) B cb (p+1+sizes (t.parts.take i)) m (wr.alloc (.cells (Y8 x (qs i)) 25));rw[<-hx] at p0 p1 p2 p3 p4 ihx;have hml:=fun hbd=>Z5B x (qs i) B cb (p+1+sizes (t.parts.take i)) m (wr.alloc (.cells (Y8 x (qs i)) 25)) hat hBc hcx hbd hm;have hmo:=fun hbd=>ihx hat hBc hcx hpi2 hbd hm;have HSB:=Y1 hur;have HBX:=Y1 (HB0.out);clear hx hc hr hat ihx hcx hur hbx ih;have hi1: (i:Int) < (t.parts.length:Int):=by omega
    obtain ⟨a,ha⟩: ∃a,a=deeps (t.parts.take i):=⟨_,rfl⟩;rw[<-ha] at HE htk ⊢;clear ha;rw[hqP];clear hqP;by_cases hfit:m < p+1+sizes (t.parts.take i)+size x
    {have IH:=hmo hfit;clear hml hmo hfit
     go_wp2_with fail
     refine IH.mono ?_;rintro e w2 ⟨rfl,hu2⟩;have HU2:Hid (UpC cb w.heap.size w w2):=Y1 ((HSB.out.below ((Z00 wr _).mono HSB.out.size) hcl).trans (hu2.mono (by have:=HSB.out.size; simp; omega)));clear hu2 IH;go_wp2;exact ⟨rfl,rfl,HU2.out⟩}
    have IH:=hml (by omega);have hdx:deep x<=1000000:=by have:=Z1G x; omega
    have HF1:Hid (p+1+sizes (t.parts.take (i+1))<=m):=Y1 (by rw[HN.out]; omega);clear hml hmo hfit
    go_wp2_with fail
    refine IH.mono ?_;rintro e w2 ⟨rfl,hu2,hc2⟩;have HU2:Hid (UpC cb W0.heap.size W0 w2):=Y1 ((HUR.out.below ((Z00 wr _).mono HUR.out.size) (by have:=HSZ.out; omega)).trans (hu2.mono (by have:=HUR.out.size; simp; omega)));have HC2:Hid (Cnt w2 cb (p+1+sizes (t.parts.take (i+1))) m):=Y1 (by rw[HN.out, <-Nat.add_assoc]; exact hc2);clear hu2 hc2 IH;by_cases hgt: (a:Int) < (deep x:Int)
    all_goals
     go_wp2
     go_roundw
     case rel=>exact ⟨i+1,by go_num,by omega,by rw[HE.out]; go_num,HU2,HF1.out,HC2⟩
     case measure=>simp[intOf]; omega}}
  {exfalso;have:=HOV.out;rw[show i=t.parts.length from by omega,List.take_length] at hpi2;rw[HZ.out] at this;omega}
theorem Z91 (b c:Addr) (x y:Int) (u:TypeId) (pv:Value) (older:List PanicEntry) (w:World) (hb:w.cell? b=some (.int .i64 x)) (hc:w.cell? c=some (.int .i64 y)) (fb:w.frozen? b=false) (fc:w.frozen? c=false)
 (hbc:b≠c):
 CallsD Tryd.prog 46 #[.pointer (some b),.pointer (some c)] (.panicking ({ v:= .iface u pv,recovered:=false }::older)) w fun e u' w'=>
  e= .returned (.tuple #[])/\u'= .panicking ({ v:= .iface u pv,recovered:=true }::older)/\w'=(w.setCell b (.int .i64 401)).setCell c (.int .i64 0):=by
 have hc2: (w.setCell b (.int .i64 401)).cell? c=some (.int .i64 y):=(World.cell?_setCell_other _ _ _ _ hbc).trans hc;refine callsD_of_wpS Tryd.func46 rfl fun c₀ cs hu=> ?_;apply wpS_seq;apply wpS_region;simp[wpOpsS,go_sem,recoverD,hu,Tryd.ntmps46,Exit.thenS];refine wpS_cond (t:=true) (by simp[Act.eval,Array.replicate]) ?_;simp only[if_true];apply wpS_region;simp[wpOpsS,go_sem,hb,hc2,fb,fc,bodyPostS,results,Tryd.results46]
theorem Z92 (b c:Addr) (w:World):
 CallsD Tryd.prog 46 #[.pointer (some b),.pointer (some c)] .returning w fun e u' w'=>e= .returned (.tuple #[])/\u'= .returning/\w'=w:=by
 refine callsD_of_wpS Tryd.func46 rfl fun c₀ cs hu=> ?_;apply wpS_seq;apply wpS_region;simp[wpOpsS,go_sem,recoverD,hu,Tryd.ntmps46,Exit.thenS];refine wpS_cond (t:=false) (by simp[Act.eval,Array.replicate]) ?_;simp only[Bool.false_eq_true,if_false];refine wpS_of_wp (wp_skip ?_);cases c₀;simp_all [bodyPostS,results,Tryd.results46]
def mW (w:World) (t:Sh) (q:Ptr):World:=
 (((w.alloc (.cells (Y8 t q) 25)).alloc (.cells #[.int .i64 0] 3)).alloc (.cells #[.int .i64 0] 3)).alloc (.cells #[.int .i64 0] 86)
structure MW (w W:World) (x y:Int):Prop where
 bel:Below w.heap.size w W
 size:w.heap.size+4<=W.heap.size
 b:W.cell? ⟨w.heap.size+1,0,none⟩=some (.int .i64 x)
 c:W.cell? ⟨w.heap.size+1+1,0,none⟩=some (.int .i64 y)
 fb:W.frozen? ⟨w.heap.size+1,0,none⟩=false
 fc:W.frozen? ⟨w.heap.size+1+1,0,none⟩=false
theorem Zas (w:World) (t:Sh) (q:Ptr):Cnt (mW w t q) (w.heap.size+1+1+1) 0 400:=by
 unfold mW;exact ⟨by simp,by simp[go_sem],rfl,by simp[go_sem]⟩
theorem Z5X (w:World) (t:Sh) (q:Ptr):MW w (mW w t q) 0 0:=by
 unfold mW;refine ⟨Z0i (Z0i (Z0i (Z00 _ _) _) _) _,by simp, ?_, ?_, ?_, ?_⟩ <;> simp[go_sem]
theorem MW.upc {w W W':World} {x y:Int} (h:MW w W x y) (hu:UpC (w.heap.size+1+1+1) W.heap.size W W'):MW w W' x y:=by
 have e: ∀g,g < w.heap.size+3->W'.heap[g]? =W.heap[g]? :=fun g hg=>hu.block g (by have:=h.size; omega) (by omega);refine ⟨h.bel.trans ⟨hu.os,hu.tape,hu.output,hu.size,fun k hk=>e k (by omega)⟩,Nat.le_trans h.size hu.size, ?_, ?_, ?_, ?_⟩
 {exact (World.cell?_of_block (w:=W) (e (w.heap.size+1) (by omega))).trans h.b}
 {exact (World.cell?_of_block (w:=W) (e (w.heap.size+1+1) (by omega))).trans h.c}
 {exact (World.frozen?_of_block (w:=W) (e (w.heap.size+1) (by omega))).trans h.fb}
 {exact (World.frozen?_of_block (w:=W) (e (w.heap.size+1+1) (by omega))).trans h.fc}
section
variable (t : Sh) (q : Ptr) (w : World) (hq : ShAt w w.heap.size q t)
include t q w hq
theorem Z6F (hov:400 < size t):
 Y9 29 #[.agg (Y8 t q)] w (.tuple #[.int .i64 401,.int .i64 0]):=by
 have hmf: ∀(fn:Fn) (first cap:Array Value) (w:World),(Instr.makeFunc fn first cap).run Tryd.prog w= .ok (.func fn first cap) w:=fun _ _ _ _=>rfl;have HL:=Y1 (Z7J t q w.heap.size _ 0 400 _ (hq.keep (Z5X w t q).bel (Nat.le_refl _)) (by omega) (Zas w t q) (Nat.zero_le _) (by omega) (by omega));have HW:=Y1 (Z5X w t q);clear hq hov
 go_enter_defers Tryd.func29,Tryd.ntmps29
 go_wp2_with fail
 change Calls _ _ _ (mW w t q) _;generalize mW w t q=W at HL HW ⊢;refine HL.out.mono ?_;rintro e w2 ⟨rfl,hu⟩;obtain ⟨hbel,hsz,cb,cc,fb,fc⟩:=HW.out.upc hu;have HBEL:=Y1 hbel;clear hbel hu HL
 go_wp2_with fail
 refine leaves_cons (f:=46) (args:=#[.pointer (some ⟨w.heap.size+1,0,none⟩),.pointer (some ⟨w.heap.size+1+1,0,none⟩)]) (by simp) (by simp[go_sem]) ?_;refine (Z91 ⟨w.heap.size+1,0,none⟩ ⟨w.heap.size+1+1,0,none⟩ 0 0 29 _ [] _ cb cc fb fc (by simp)).mono ?_;rintro e u' w'' ⟨rfl,rfl,rfl⟩;simp[Leaves,settle,results,Tryd.results29,go_sem,cb,cc];exact (HBEL.out.setCell (p:=⟨w.heap.size+1,0,none⟩) (by simp) _).setCell (p:=⟨w.heap.size+1+1,0,none⟩) (by simp; omega) _
theorem Z93 (hov:size t<=400):
 Y9 29 #[.agg (Y8 t q)] w (.tuple #[.int .i64 (size t:Int),.int .i64 (deep t:Int)]):=by
 have hmf: ∀(fn:Fn) (first cap:Array Value) (w:World),(Instr.makeFunc fn first cap).run Tryd.prog w= .ok (.func fn first cap) w:=fun _ _ _ _=>rfl;have HL:=Y1 (Z5B t q w.heap.size _ 0 400 _ (hq.keep (Z5X w t q).bel (Nat.le_refl _)) (by omega) (Zas w t q) (by omega) (by omega));have HW:=Y1 (Z5X w t q);clear hq hov
 go_enter_defers Tryd.func29,Tryd.ntmps29
 go_wp2_with fail
 change Calls _ _ _ (mW w t q) _;generalize mW w t q=W at HL HW ⊢;refine HL.out.mono ?_;rintro e w2 ⟨rfl,hu,hcn⟩;obtain ⟨hbel,hsz,cb,cc,fb,fc⟩:=HW.out.upc hu;have k0:=hcn.c0;have HBEL:=Y1 hbel;rw[Nat.zero_add] at k0;clear hbel hu HL hcn
 go_wp2_with fail
 have HB3:Hid (Below w.heap.size w (w2.setCell ⟨w.heap.size+1+1,0,none⟩ (.int .i64 (deep t:Int)))):=Y1 (HBEL.out.setCell (by simp; omega) _);have k3: (w2.setCell ⟨w.heap.size+1+1,0,none⟩ (.int .i64 (deep t:Int))).cell? ⟨w.heap.size+1+1+1,0,none⟩=some (.int .i64 (size t:Int)):=(World.cell?_setCell_other _ _ _ _ (fun e=>by have:=congrArg Addr.block e; simp at this)).trans k0;have b3: (w2.setCell ⟨w.heap.size+1+1,0,none⟩ (.int .i64 (deep t:Int))).cell? ⟨w.heap.size+1,0,none⟩=some (.int .i64 0):=(World.cell?_setCell_other _ _ _ _ (fun e=>by have:=congrArg Addr.block e; simp at this)).trans cb;have c3: (w2.setCell ⟨w.heap.size+1+1,0,none⟩ (.int .i64 (deep t:Int))).cell? ⟨w.heap.size+1+1,0,none⟩=some (.int .i64 (deep t:Int)):=by simp[go_sem,cc]
 have fb3: (w2.setCell ⟨w.heap.size+1+1,0,none⟩ (.int .i64 (deep t:Int))).frozen? ⟨w.heap.size+1,0,none⟩=false:=by rw[World.frozen?_setCell]; exact fb
 have fc3: (w2.setCell ⟨w.heap.size+1+1,0,none⟩ (.int .i64 (deep t:Int))).frozen? ⟨w.heap.size+1+1,0,none⟩=false:=by rw[World.frozen?_setCell]; exact fc
 generalize w2.setCell ⟨w.heap.size+1+1,0,none⟩ (.int .i64 (deep t:Int))=W3 at HB3 k3 b3 c3 fb3 fc3 ⊢;clear k0 cb cc fb fc hsz HBEL
 go_region
 all_goals
  go_wp2_with fail
  refine leaves_cons (f:=46) (args:=#[.pointer (some ⟨w.heap.size+1,0,none⟩),.pointer (some ⟨w.heap.size+1+1,0,none⟩)]) (by simp) (by simp[go_sem]) ?_;refine (Z92 ⟨w.heap.size+1,0,none⟩ ⟨w.heap.size+1+1,0,none⟩ _).mono ?_;rintro e u' w'' ⟨rfl,rfl,rfl⟩;simp[Leaves,settle,results,Tryd.results29,go_sem,b3,c3];exact ((HB3.out.setCell (p:=⟨w.heap.size+1,0,none⟩) (by simp) _).setCell (p:=⟨w.heap.size+1+1,0,none⟩) (by simp; omega) _).drew
end
def Z32 (m:Nat) (t:Sh):Int:=if m < size t then (m:Int)+1 else size t
def Z33 (m:Nat) (t:Sh):Int:=if m < size t then 0 else deep t
section
variable (t : Sh) (q : Ptr) (w : World) (hq : ShAt w w.heap.size q t)
include t q w hq
theorem Z6G:
 Y9 29 #[.agg (Y8 t q)] w (.tuple #[.int .i64 (Z32 400 t),.int .i64 (Z33 400 t)]):=by
 unfold Z32 Z33;by_cases h:400 < size t
 {rw[if_pos h,if_pos h]; exact Z6F t q w hq h}
 {rw[if_neg h,if_neg h]; exact Z93 t q w hq (by omega)}
theorem Z1g (hg:WGlobs w):
 Y9 18 #[.agg (Y8 t q)] w (.int .i64 (check t)):=by
 have hb0:=Z00 w (.cells (Y8 t q) 25);have hm:=Z6G t q _ (hq.next hb0);have HC:Hid (check t=if 400 < size t then 3 else if 40 < deep t then 91 else if right t=false then 70 else 0):=Y1 rfl;have HB0:=Y1 hb0;have HB:=Y1 (Z07 w t q);have HQ:=Y1 hq;have HG:=Y1 hg;obtain ⟨_,⟨c0,c1,c2,c3,c4⟩,_⟩:=HB.out;clear hb0 hq hg;by_cases h4:400 < size t
 {have HF:Hid (check t=3):=Y1 (by rw[HC.out,if_pos h4]);have hx:Z32 400 t=401:=by unfold Z32; rw[if_pos h4]; rfl
  rw[hx] at hm;generalize Z33 400 t=y at hm;clear h4 hx;go_enter Tryd.func18,Tryd.ntmps18
  go_wp2_with fail
  refine hm.mono ?_;rintro e w' ⟨rfl,hb'⟩;go_wp2;go_ret;exact ⟨Z19 HF.out.symm,Z02 HB0.out hb'⟩}
 {have hx:Z32 400 t=(size t:Int):=by unfold Z32; rw[if_neg h4]
  have hy:Z33 400 t=(deep t:Int):=by unfold Z33; rw[if_neg h4]
  rw[hx,hy] at hm;have h4': ¬(400:Int) < (size t:Int):=by omega
  by_cases h40:40 < deep t
  {have HF:Hid (check t=91):=Y1 (by rw[HC.out,if_neg h4,if_pos h40]);have h40': (40:Int) < (deep t:Int):=by omega
   clear h4 h40 hx hy;go_enter Tryd.func18,Tryd.ntmps18
   go_wp2_with fail
   refine hm.mono ?_;rintro e w' ⟨rfl,hb'⟩;go_wp2;go_ret;exact ⟨Z19 HF.out.symm,Z02 HB0.out hb'⟩}
  {have h40': ¬(40:Int) < (deep t:Int):=by omega
   have HF:Hid (check t=if right t=false then 70 else 0):=Y1 (by rw[HC.out,if_neg h4,if_neg h40]);have HZ:Hid (size t<=1000000):=Y1 (by omega);clear h4 h40 hx hy;go_enter Tryd.func18,Tryd.ntmps18
   go_wp2_with fail
   refine hm.mono ?_;rintro e w2 ⟨rfl,hb2⟩;have hbw:=Z02 HB0.out hb2;have HBW2:=Y1 hbw;have HB2:=Y1 (HB.out.next hb2);have hr:=Z6E t q w2 (HQ.out.next hbw) (HG.out.next hbw) HZ.out;clear hm hb2 hbw c0 c1 c2 c3 c4;obtain ⟨_,⟨c0,c1,c2,c3,c4⟩,_⟩:=HB2.out;cases hrt:right t
   all_goals
    rw[hrt] at hr HF;clear hrt
    go_wp2_with fail
    refine hr.mono ?_;rintro e w' ⟨rfl,hb'⟩;go_wp2;go_ret;exact ⟨Z19 (by rw[HF.out]; rfl),Z02 HBW2.out hb'⟩}}
theorem Z94 (hg:WGlobs w):
 Y9 35 #[.agg (Y8 t q)] w (.bool (decide (check t=0))):=by
 have hb0:=Z00 w (.cells (Y8 t q) 25);have hm:=Z1g t q _ (hq.next hb0) (hg.next hb0);have HB0:=Y1 hb0;obtain ⟨_,⟨c0,c1,c2,c3,c4⟩,_⟩:=Z07 w t q;clear hb0 hq hg;go_enter Tryd.func35,Tryd.ntmps35
 go_wp2_with fail
 refine hm.mono ?_;rintro e w' ⟨rfl,hb'⟩;go_wp2;go_ret;exact ⟨Z0o (by rw[Bool.eq_iff_iff]; simp),Z02 HB0.out hb'⟩
end
end
section
open Go.RowKit Shp Go.Sort
theorem Z95 {t:Sh} (q:Ptr) (hr:right t=true):
 (.agg #[.int .i64 t.kind,.string ⟨t.of_.toArray⟩,.string ⟨t.name.toArray⟩,.slice q.A t.names.length q.c,.slice q.P t.parts.length q.d]:Value)= .agg #[.int .i64 (sorted t).kind,.string ⟨(sorted t).of_.toArray⟩,.string ⟨(sorted t).name.toArray⟩,.slice q.A (sorted t).names.length q.c,.slice q.P (sorted t).parts.length q.d]:=by
 obtain ⟨k1,k2,k3⟩:=Z2D t;obtain ⟨l1,l2⟩:=Z4e (t:=t) ((Z1s hr).imp id And.left);rw[k1,k2,k3,l1,l2]
theorem UpF.toBelow {F:List Nat} {w w':World} {B:Nat} (h:UpF F w w') (hF: ∀b∈F,B<=b) (hB:B<=w.heap.size):Below B w w':=
 ⟨h.os,h.tape,h.output,h.size,fun k hk=>h.block k (Nat.lt_of_lt_of_le hk hB) (fun hm=>by have:=hF k hm; omega)⟩
theorem Z3S (t:Sh) (q:Ptr) (w:World) (hq:ShAt w w.heap.size q t) (hg:WGlobs w) (hck:check t=0):
 Calls Tryd.prog 22 #[.agg (Y8 t q)] w fun e w'=> ∃q' F,e= .returned (.agg (Y8 (sorted t) q'))/\Own w' q' (sorted t) F/\(∀b∈F,w.heap.size<=b)/\Below w.heap.size w w':=by
 obtain ⟨hz,_,hr⟩:=Z0f hck;have HQ:=Y1 hq;have HG:=Y1 hg;have HR:=Y1 hr;have HCK:=Y1 hck;have HS:=Y1 (Z2n w t q);have HB:=Y1 (Z9O w t q);have HE:=Y1 (Z6b w t q);have HCP:=Y1 (Z4d t q (sW w t q) (hq.next (Z2n w t q)) hz hr);have HB0:=Y1 (Z07 w t q);obtain ⟨_,⟨c0,c1,c2,c3,c4⟩,_⟩:=HB0.out;clear hq hg hr hck;go_enter Tryd.func22,Tryd.ntmps22
 go_wp2_with fail
 clear c0 c1 c2 c3 c4 HB0;change Calls _ _ _ (sW w t q) _;generalize sW w t q=W at HS HB HE HCP ⊢;refine HCP.out.mono ?_;rintro e w1 ⟨q',F,rfl,ho,hnd,hF,hb1⟩;have HO:=Y1 ho;have HND:=Y1 hnd;have HF:=Y1 hF;have HS1:=Y1 (Z02 HS.out hb1);have HB1:=Y1 (HB.out.next hb1);have HE1:=Y1 (HE.out.next hb1);have HLF:=Y1 ho.lt;have hbw:=Z00 w1 (.cells (Y8 t q') 25);have HBW:=Y1 hbw;have HB2:=Y1 (HB1.out.next hbw);have HE2:=Y1 (HE1.out.next hbw);have HT2:=Y1 (Z07 w1 t q');have HO2:=Y1 (Z0p ho hbw);have HS2:=Y1 (Z02 HS1.out hbw);have hm:=Z94 t q _ (HQ.out.next HS2.out) (HG.out.next HS2.out);rw[show decide (check t=0)=true from by rw[HCK.out]; rfl] at hm;have HM:=Y1 hm;obtain ⟨_,⟨c0,c1,c2,c3,c4⟩,_⟩:=HB2.out;clear ho hnd hF hb1 hbw hm HCP
 go_wp2_with fail
 refine HM.out.mono ?_;rintro e w3 ⟨rfl,hb3⟩;have HS3:=Y1 (Z02 HS2.out hb3);have HE3:=Y1 (HE2.out.next hb3);have HT3:=Y1 (HT2.out.next hb3);have HO3:=Y1 (Z0p HO2.out hb3);clear c0 c1 c2 c3 c4;obtain ⟨_,⟨c0,c1,c2,c3,c4⟩,_⟩:=HT3.out;have HW:=Y1 (Z4Y t q' F w3 HO3.out HND.out HR.out hz);have hbl:w1.heap.size+1<=w3.heap.size:=by have:=hb3.size; simp at this; exact this
 have HLT:=Y1 hbl;clear hb3 HM hbl
 go_wp2_with fail
 refine HW.out.mono ?_;rintro e w4 ⟨rfl,hu,F',hp,ho⟩;have HLN:=Y1 (show w.heap.size+1∉F from fun hm=>by have:=HF.out _ hm; have:=HE.out.1; omega);have HLT2:=Y1 (show w1.heap.size∉F from fun hm=>by have:=HLF.out _ hm; omega);have HT4:=Y1 (HT3.out.same (hu.same HT3.out.1 HLT2.out) hu.size);have HE4:=Y1 (HE3.out.same (hu.same HE3.out.1 HLN.out) hu.size);have HS4:=Y1 (HS3.out.trans (hu.toBelow (fun b hb=>by have:=HF.out b hb; have:=HB.out.1; omega) HS3.out.size));have HO4:=Y1 ho;have HNF:=Y1 (show ∀b∈F',w.heap.size+1≠b from fun b hb e=>HLN.out (by rw[e]; exact hp.mem_iff.1 hb));have HGE:Hid (∀b∈F',w.heap.size<=b):=Y1 (fun b hb=>by have:=HF.out b (hp.mem_iff.1 hb); have:=HB.out.1; omega);clear hu hp ho HW c0 c1 c2 c3 c4;obtain ⟨_,⟨c0,c1,c2,c3,c4⟩,_⟩:=HT4.out;obtain ⟨_,⟨r0,r1,r2,r3,r4⟩,f0,f1,f2,f3,f4⟩:=HE4.out;simp only[Nat.zero_add] at c0 c1 c2 c3 c4 r0 r1 r2 r3 r4;have hne:w1.heap.size≠w.heap.size+1:=fun e=>by have:=HE1.out.1; omega
 go_wp2;refine bodyPost_ret (v:= .agg (Y8 t q')) (by simp[results,Tryd.results22,go_sem,r0,r1,r2,r3,r4]) rfl ?_;refine ⟨q',F',by rw[Z95 q' HR.out], ?_,fun b hb=>HGE.out b hb,Z0n HS4.out (by omega) _ _ _ _ _⟩;have h5:=Z1a HO4.out HNF.out (.int .i64 t.kind) (.string ⟨t.of_.toArray⟩) (.string ⟨t.name.toArray⟩) (.slice q'.A t.names.length q'.c) (.slice q'.P t.parts.length q'.d);exact h5
end
end Go.Proofs.YtchklpedlbkgaaaDoor
namespace Go.Proofs.YtchklpedlbkgaaaDoor
open Go.RowKit Shp Sub
namespace SubM
theorem Zcy {W:World} {q:Ptr} {t:Sh} {F:List Nat} {B:Nat} (h:Own W q t F) (hF: ∀b∈F,B<=b):Kept (fun b=>B<=b) W (t,q):=fun W' hz hs=>by
 have h2:Own W' q t F:=h.of (fun x hx=>⟨fun k=>World.cell?_of_block (w:=W) (hs x (h.lt x hx) (hF x hx)),fun k=>World.frozen?_of_block (w:=W) (hs x (h.lt x hx) (hF x hx))⟩) hz;exact h2.at_ (fun x hx=>Nat.lt_of_lt_of_le (h.lt x hx) hz)
end SubM
end Go.Proofs.YtchklpedlbkgaaaDoor
