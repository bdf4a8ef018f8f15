/- What the proofs of ExpandDeclares want, part 5. -/
import Derived.Test.YtmeiijjpomcgcaaDoorK0n4
set_option linter.unusedVariables false
set_option linter.unusedSimpArgs false
set_option linter.unusedSectionVars false
set_option maxRecDepth 100000
set_option maxHeartbeats 16000000
namespace Go.Proofs.YtmeiijjpomcgcaaDoor
section
open Go.RowKit Go.Sort
variable {α : Type} [Inhabited α] {N B : Nat} {rv : Value} {lt : α -> α -> Bool} {St : Array α -> World -> Prop}
theorem Zbt (H:Srt N B rv lt St) (a b:Nat) (d:Array α) (w:World) (hH:St d w) (hab:a < b) (hb:b<=N):
 Calls Tryd.prog 80 #[.iface 92 rv,.int .i64 a,.int .i64 b] w fun e w'=>
  e= .returned (.bool (Sort.partialInsertionSort lt d a b).2)/\St (Sort.partialInsertionSort lt d a b).1 w':=by
 have mL:=H.mL;have mS:=H.mS;have hbig:=H.big;go_enter Tryd.func80,Tryd.ntmps80
 go_wp2_with fail
 go_loopw [7,8] (fun vi vs wr=> ∃(i s:Nat) (dk:Array α),vi= .int .i64 i/\vs= .int .i64 s/\s<=5/\a < i/\i<=b/\St dk wr/\Hid (partialIns lt a b (5 - s) i dk=partialIns lt a b 5 (a+1) d)) (fun _ vs _=>5 - (intOf vs).toNat)
 case atStart=>exact ⟨a+1,0,d,by go_num,rfl,by omega,by omega,by omega,hH,rfl⟩
 case round=>
  clear hH;obtain ⟨i,s,dk,rfl,rfl,hs5,hai,hib,hS,HO⟩:=hrel;by_cases hs:s < 5
  {go_upto_block 2 with fail
   (try rw[decide_eq_true (show (s:Int) < 5 by omega)])
   go_cut [7] (fun p wx=> ∃k:Nat,p= .int .i64 k/\i<=k/\k<=b/\St dk wx/\Hid (scanSorted lt dk b i=k))
   case first=>
    go_wp2_with fail
    go_loopw [7] (fun vi w1=> ∃k:Nat,vi= .int .i64 k/\i<=k/\k<=b/\St dk w1/\Hid (scanSorted lt dk b i=scanSorted lt dk b k)) (fun vi _=>b - (intOf vi).toNat)
    case atStart=>exact ⟨i,rfl,Nat.le_refl _,hib,hS,rfl⟩
    case round=>
     clear hS;obtain ⟨k,rfl,hik,hkb,hS,hsc⟩:=hrel;by_cases hlt:k < b
     {cases hlv:lt dk[k]! dk[k - 1]! with
      | false=>
       go_wp2_with fail
       refine (H.lessAt hS k (k - 1) hlv (by omega) (by omega) (by omega) (by omega)).mono ?_;rintro e w' ⟨rfl,hS1, -⟩
       go_wp2_with fail
       go_roundw
       case rel=>exact ⟨k+1,by go_num,by omega,by omega,hS1,(show Hid _ from hsc.out.trans (scanSorted_go lt dk b k hlt hlv))⟩
       case measure=>simp[intOf]; omega
      | true=>
       go_wp2_with fail
       refine (H.lessAt hS k (k - 1) hlv (by omega) (by omega) (by omega) (by omega)).mono ?_;rintro e w' ⟨rfl,hS1, -⟩
       go_wp2_with fail
       go_meet
       exact ⟨k,rfl,hik,hkb,hS1,(show Hid _ from hsc.out.trans (scanSorted_stop lt dk b k (Or.inr hlv)))⟩}
     {go_wp2_with fail
      go_meet
      exact ⟨k,rfl,hik,hkb,hS,(show Hid _ from hsc.out.trans (scanSorted_stop lt dk b k (Or.inl hlt)))⟩}
   case rest=>
    clear hS;obtain ⟨k,rfl,hik,hkb,hS,HK⟩:=hcut;by_cases hkb':k=b
    {have hx:=HO.out.symm.trans (pi_true lt a b s i dk hs (by rw[HK.out,hkb']));have HX:Hid _:=hx;clear hx;subst hkb'
     go_wp2_with fail
     go_ret;unfold Sort.partialInsertionSort;rw[HX.out];exact ⟨rfl,hS⟩}
    {by_cases h50:b - a < 50
     {have hx:=HO.out.symm.trans (pi_short lt a b s i dk hs (by rw[HK.out]; exact hkb') h50);have HX:Hid _:=hx;clear hx;have h50z: (b:Int) - (a:Int) < 50:=by omega
      go_wp2_with fail
      go_ret;unfold Sort.partialInsertionSort;rw[HX.out];exact ⟨rfl,hS⟩}
     {have hx:=HO.out.symm.trans (pi_go lt a b s i k dk hs HK.out hkb' h50);have HX:Hid _:=hx;clear hx HO HK;have h50z: ¬(b:Int) - (a:Int) < 50:=by omega
      go_wp2_with fail
      refine (H.swapAt hS k (k - 1) (by omega) (by omega) (by omega) (by omega)).mono ?_;rintro e w1 ⟨rfl,hS1, -⟩;obtain ⟨d1,hd1⟩: ∃d1:Array α,d1=swp dk k (k - 1):=⟨_,rfl⟩;rw[<-hd1] at hS1 HX;clear hS hd1
      go_upto_if 45 with fail
      go_cut [9] (fun p wx=>St (fixDown lt a k d1) wx)
      case first=>
       clear HX;by_cases h2:k - a>=2
       {have h2z: (2:Int)<=(k:Int) - (a:Int):=by omega
        go_wp2_with fail
        (try rw[decide_eq_true h2z])
        go_loopw [9] (fun vj w1=> ∃(j:Nat) (dj:Array α),vj= .int .i64 j/\j < k/\St dj w1/\Hid (shiftDown lt j dj=fixDown lt a k d1)) (fun vj _=>(intOf vj).toNat)
        case atStart=>exact ⟨k - 1,d1,by go_num,by omega,hS1,(show Hid _ from by unfold fixDown; rw[if_pos h2]; rfl)⟩
        case round=>
         clear hS1;obtain ⟨j,dj,rfl,hjk,hS,HJ⟩:=hrel;by_cases hj:1<=j
         {cases hlv:lt dj[j]! dj[j - 1]! with
          | true=>
           go_wp2_with fail
           refine (H.lessAt hS j (j - 1) hlv (by omega) (by omega) (by omega) (by omega)).mono ?_;rintro e w' ⟨rfl,hS1, -⟩
           go_wp2_with fail
           refine (H.swapAt hS1 j (j - 1) (by omega) (by omega) (by omega) (by omega)).mono ?_;rintro e w2 ⟨rfl,hS2, -⟩
           go_wp2_with fail
           go_roundw
           case rel=>exact ⟨j - 1,_,by go_num,by omega,hS2,(show Hid _ from (shiftDown_go lt j dj hj hlv).symm.trans HJ.out)⟩
           case measure=>simp[intOf]; omega
          | false=>
           go_wp2_with fail
           refine (H.lessAt hS j (j - 1) hlv (by omega) (by omega) (by omega) (by omega)).mono ?_;rintro e w' ⟨rfl,hS1, -⟩
           go_wp2_with fail
           go_meet
           rw[<-HJ.out,shiftDown_stop lt j dj (Or.inr hlv)];exact hS1}
         {go_wp2_with fail
          go_meet
          rw[<-HJ.out,shiftDown_stop lt j dj (Or.inl (by omega))];exact hS}}
       {have h2z: ¬(2:Int)<=(k:Int) - (a:Int):=by omega
        go_wp2_with fail
        go_meet
        unfold fixDown;rw[if_neg h2];exact hS1}
      case rest=>
       clear hS1;generalize fixDown lt a k d1=d2 at hcut HX
       rename_i hS1
       have END: ∀d3 wx,St d3 wx->d3=fixUp lt b k d2-> ∃(i' s':Nat) (dk':Array α),Value.int .i64 (k:Int)= .int .i64 (i':Nat)/\Value.int .i64 ((s:Int)+1)= .int .i64 (s':Nat)/\s'<=5/\a < i'/\i'<=b/\St dk' wx/\Hid (partialIns lt a b (5 - s') i' dk'=partialIns lt a b 5 (a+1) d):=
        fun d3 wx h3 e3=>⟨k,s+1,d3,rfl,by go_num,by omega,by omega,by omega,h3,by rw[e3]; exact HX.out.symm⟩
       have HE:Hid _:=END;clear END;by_cases h2:b - k>=2
       {have h2z: (2:Int)<=(b:Int) - (k:Int):=by omega
        go_wp2_with fail
        (try rw[decide_eq_true h2z])
        go_loopw [10] (fun vj w1=> ∃(j:Nat) (dj:Array α),vj= .int .i64 j/\k < j/\j<=b/\St dj w1/\Hid (shiftUp lt b j dj=fixUp lt b k d2)) (fun vj _=>b - (intOf vj).toNat)
        case atStart=>exact ⟨k+1,d2,by go_num,by omega,by omega,hcut,(show Hid _ from by unfold fixUp; rw[if_pos h2]; rfl)⟩
        case round=>
         clear hcut;obtain ⟨j,dj,rfl,hkj,hjb,hS,HJ⟩:=hrel;by_cases hj:j < b
         {cases hlv:lt dj[j]! dj[j - 1]! with
          | true=>
           go_wp2_with fail
           refine (H.lessAt hS j (j - 1) hlv (by omega) (by omega) (by omega) (by omega)).mono ?_;rintro e w' ⟨rfl,hS1, -⟩
           go_wp2_with fail
           refine (H.swapAt hS1 j (j - 1) (by omega) (by omega) (by omega) (by omega)).mono ?_;rintro e w2 ⟨rfl,hS2, -⟩
           go_wp2_with fail
           go_roundw
           case rel=>exact ⟨j+1,_,by go_num,by omega,by omega,hS2,(show Hid _ from (shiftUp_go lt b j dj hj hlv).symm.trans HJ.out)⟩
           case measure=>simp[intOf]; omega
          | false=>
           go_wp2_with fail
           refine (H.lessAt hS j (j - 1) hlv (by omega) (by omega) (by omega) (by omega)).mono ?_;rintro e w' ⟨rfl,hS1, -⟩
           go_wp2_with fail
           go_roundw
           case rel=>exact HE.out dj _ hS1 (by rw[<-HJ.out,shiftUp_stop lt b j dj (Or.inr hlv)])
           case measure=>simp[intOf]; omega}
         {go_wp2_with fail
          go_roundw
          case rel=>exact HE.out dj _ hS (by rw[<-HJ.out,shiftUp_stop lt b j dj (Or.inl hj)])
          case measure=>simp[intOf]; omega}}
       {have h2z: ¬(2:Int)<=(b:Int) - (k:Int):=by omega
        go_wp2_with fail
        go_roundw
        case rel=>exact HE.out d2 _ hcut (by unfold fixUp; rw[if_neg h2])
        case measure=>simp[intOf]; omega}}}}
  {have hx:s=5:=by omega
   subst hx;have HX:Hid _:=HO.out.symm.trans (pi_end lt a b i dk);clear HO
   go_wp2_with fail
   go_ret;unfold Sort.partialInsertionSort;rw[HX.out];exact ⟨rfl,hS⟩}
def Sorts {α:Type} [Inhabited α] (lt:α->α->Bool) (a b:Nat) (d:Array α) (a' b':Nat) (dk:Array α):Prop:= ∀R,PermIn a' b' dk R->SortedIn lt a' b' R->PermIn a b d R/\SortedIn lt a b R
theorem Sorts.perm {a b a' b':Nat} {d dk d2:Array α} (h:Sorts lt a b d a' b' dk) (hp:PermIn a' b' dk d2):Sorts lt a b d a' b' d2:=fun R h1 h2=>h R (permIn_trans _ _ _ a' b' hp h1) h2
theorem Zan (H:Srt N B rv lt St) (hO:SWO lt): ∀(n a b limit:Nat) (d:Array α) (w:World),b - a < n->St d w->a<=b->b<=N->limit < 1000000->Sort.Below lt a b d->
 Calls Tryd.prog 63 #[.iface 92 rv,.int .i64 a,.int .i64 b,.int .i64 limit] w fun e w'=>e= .returned (.tuple #[])/\ ∃d',PermIn a b d d'/\SortedIn lt a b d'/\St d' w':=by
 have mL:=H.mL;have mS:=H.mS;have hbig:=H.big;intro n;induction n with
 | zero=>intro _ _ _ _ _ h; exact absurd h (Nat.not_lt_zero _)
 | succ n ih=>
  intro a b limit d w hn hH hab hb hlimit hBel;have IH:Hid _:=ih;clear ih;go_enter Tryd.func63,Tryd.ntmps63;go_wp2
  go_loopg [1,2,3,8,9] (b - a) (fun k s1 s2 s3 s8 s9 wr=> ∃(a' b' lim:Nat) (wb wp:Bool) (dk:Array α),s1= .int .i64 a'/\s2= .int .i64 b'/\s3= .int .i64 lim/\s8= .bool wb/\s9= .bool wp/\
   a'<=b'/\b'<=b/\b' - a'<=k/\k<=b - a/\lim<=limit/\St dk wr/\Hid (Sort.Below lt a' b' dk)/\Hid (Sorts lt a b d a' b' dk))
  case atStart=>exact ⟨a,b,limit,true,true,d,rfl,rfl,rfl,rfl,rfl,hab,Nat.le_refl _,Nat.le_refl _,Nat.le_refl _,Nat.le_refl _,hH,hBel,(show Hid _ from fun R h1 h2=>⟨h1,h2⟩)⟩
  case round=>
   clear hH hBel;obtain ⟨a',b',lim,wb,wp,dk,rfl,rfl,rfl,rfl,rfl,hab',hb',hk,hkN,hlim,hS,HB,HA⟩:=hrel;have hsk:=H.size _ _ hS;by_cases h12:b' - a'<=12
   {have h12z: (b':Int) - (a':Int)<=12:=by omega
    go_wp2_with fail
    refine (Zak H a' b' dk _ hS hab' (by omega)).mono ?_;rintro e w1 ⟨rfl,hS1⟩
    go_wp2_with fail
    (try simp only[Exit.inBlock,Exit.then]); refine bodyPost_ret (results_none rfl _ _ _) rfl ?_
    obtain ⟨r1,r2⟩:=insertionSort_holds hO dk a' b' hab' (by omega);exact ⟨rfl,_,(HA.out _ r1 r2).1,(HA.out _ r1 r2).2,hS1⟩}
   {have h12z: ¬(b':Int) - (a':Int)<=12:=by omega
    by_cases hl0:lim=0
    {subst hl0
     go_wp2_with fail
     refine (Z8Y H a' b' dk _ hS (by omega) (by omega)).mono ?_;rintro e w1 ⟨rfl,hS1⟩
     go_wp2_with fail
     (try simp only[Exit.inBlock,Exit.then]); refine bodyPost_ret (results_none rfl _ _ _) rfl ?_
     obtain ⟨r1,r2⟩:=heapSort_holds hO dk a' b' hab' (by omega);exact ⟨rfl,_,(HA.out _ r1 r2).1,(HA.out _ r1 r2).2,hS1⟩}
    {have hl0z: ¬(lim:Int)=0:=by omega
     go_upto_if 35 with fail
     go_cut [3] (fun p wx=> ∃(l2:Nat) (d2:Array α),p= .int .i64 l2/\l2<=lim/\Hid (PermIn a' b' dk d2)/\St d2 wx)
     case first=>
      cases wb with
      | true=>
       go_wp2_with fail
       go_meet
       exact ⟨lim,dk,rfl,Nat.le_refl _,permIn_refl _ _ _,hS⟩
      | false=>
       go_wp2_with fail
       refine (Z7O H a' b' dk _ hS (by omega) (by omega)).mono ?_;rintro e w1 ⟨rfl,d2,hp,hS1⟩;have HP:Hid _:=hp;clear hp
       go_wp2_with fail
       go_meet
       exact ⟨lim - 1,d2,by go_num,by omega,HP,hS1⟩
     case rest=>
      clear hS;obtain ⟨l2,d2,rfl,hl2,HP2,hS⟩:=hcut;have HB2:Hid (Sort.Below lt a' b' d2):=HB.out.perm (by omega) HP2.out;have HA2:Hid (Sorts lt a b d a' b' d2):=HA.out.perm HP2.out;clear HB HA HP2 hsk
      go_wp2_with fail
      refine (Z7P H a' b' d2 _ hS (by omega) (by omega)).mono ?_;rintro e w1 ⟨pv,hint,rfl,hp1,hp2,hh0,hh2,hS1⟩;have hsk:=H.size _ _ hS1
      go_upto_if 50 with fail
      go_cut [11,12] (fun p h wx=> ∃(p2:Nat) (h2:Int) (d3:Array α),p= .int .i64 p2/\h= .int .i64 h2/\a'<=p2/\p2 < b'/\Hid (PermIn a' b' d2 d3)/\St d3 wx)
      case first=>
       by_cases h2:hint=2
       {subst h2
        go_wp2_with fail
        refine (Zal H a' b' d2 _ hS1 (by omega) (by omega)).mono ?_;rintro e w2 ⟨rfl,d3,hp,hS2⟩;have HP:Hid _:=hp;clear hp
        go_wp2_with fail
        go_meet
        exact ⟨(b' - 1) - (pv - a'),1,d3,by congr 1; omega,rfl,by omega,by omega,HP,hS2⟩}
       {go_wp2_with fail
        go_meet
        exact ⟨pv,hint,d2,rfl,rfl,hp1,hp2,permIn_refl _ _ _,hS1⟩}
      case rest=>
       clear hS hS1 hp1 hp2 hh0 hh2;obtain ⟨p,h,d3,rfl,rfl,hp1,hp2,HP3,hS⟩:=hcut;have HB3:Hid (Sort.Below lt a' b' d3):=HB2.out.perm (by omega) HP3.out;have HA3:Hid (Sorts lt a b d a' b' d3):=HA2.out.perm HP3.out;clear HB2 HA2 HP3 hsk;have hsk:=H.size _ _ hS
       go_upto_region 15 with fail
       go_cut [68] (fun q wx=> ∃v:Bool,q= .bool v/\St d3 wx)
       case first=>
        cases wb with
        | false=>
         go_wp2_with fail
         go_meet
         exact ⟨_,rfl,hS⟩
        | true=>
         cases wp with
         | false=>
          go_wp2_with fail
          go_meet
          exact ⟨_,rfl,hS⟩
         | true=>
          go_wp2_with fail
          go_meet
          exact ⟨_,rfl,hS⟩
       case rest=>
        clear hS;obtain ⟨v,rfl,hS⟩:=hcut
        go_upto_if 68 with fail
        go_cut [0] (fun q wx=> ∃d4:Array α,q= .iface 92 rv/\Hid (PermIn a' b' d3 d4)/\St d4 wx)
        case first=>
         cases v with
         | false=>
          go_wp2_with fail
          go_meet
          exact ⟨d3,rfl,permIn_refl _ _ _,hS⟩
         | true=>
          have hpi:=partialInsertionSort_holds hO d3 a' b' (by omega) (by omega) HB3.out;have hc:=Zbt H a' b' d3 wc hS (by omega) (by omega);generalize Sort.partialInsertionSort lt d3 a' b'=r at hpi hc;obtain ⟨d4,u⟩:=r;have HPI:Hid _:=hpi;clear hpi;cases u with
          | true=>
           go_wp2_with fail
           refine hc.mono ?_;rintro e w2 ⟨rfl,hS2⟩;clear hc
           go_wp2_with fail
           (try simp only[Exit.inBlock,Exit.then]); refine bodyPost_ret (results_none rfl _ _ _) rfl ?_
           obtain ⟨r1,r2⟩:=HPI.out;have r3:=r2 (by first | trivial | rfl);exact ⟨rfl,_,(HA3.out _ r1 r3).1,(HA3.out _ r1 r3).2,hS2⟩
          | false=>
           go_wp2_with fail
           refine hc.mono ?_;rintro e w2 ⟨rfl,hS2⟩;clear hc
           go_wp2_with fail
           go_meet
           exact ⟨d4,rfl,HPI.out.1,hS2⟩
        case rest=>
         clear hS;obtain ⟨d4,rfl,HP4,hS⟩:=hcut;have HB4:Hid (Sort.Below lt a' b' d4):=HB3.out.perm (by omega) HP4.out;have HA4:Hid (Sorts lt a b d a' b' d4):=HA3.out.perm HP4.out;clear HB3 HA3 HP4 hsk;have hsk:=H.size _ _ hS
         go_upto_region 17 with fail
         go_cut [82] (fun q wx=> ∃v:Bool,q= .bool v/\St d4 wx/\Hid (v=true->0 < a'/\lt d4[a' - 1]! d4[p]! =false))
         case first=>
          by_cases ha0:0 < a'
          {cases hlv:lt d4[a' - 1]! d4[p]! with
           | true=>
            go_wp2_with fail
            refine (H.lessAt hS (a' - 1) p hlv (by omega) (by omega) (by omega) rfl).mono ?_;rintro e w2 ⟨rfl,hS2, -⟩
            go_wp2_with fail
            go_meet
            exact ⟨_,rfl,hS2,(show Hid _ from fun h=>by cases h)⟩
           | false=>
            go_wp2_with fail
            refine (H.lessAt hS (a' - 1) p hlv (by omega) (by omega) (by omega) rfl).mono ?_;rintro e w2 ⟨rfl,hS2, -⟩
            go_wp2_with fail
            go_meet
            exact ⟨_,rfl,hS2,(show Hid _ from fun _=>⟨ha0,hlv⟩)⟩}
          {go_wp2_with fail
           go_meet
           exact ⟨_,rfl,hS,(show Hid _ from fun h=>by cases h)⟩}
         case rest=>
          clear hS;obtain ⟨v,rfl,hS,HV⟩:=hcut;cases v with
          | true=>
           have hv:=HV.out (by first | trivial | rfl);have hc:=Zam H a' b' p d4 wc hS hp1 hp2 (by omega);obtain ⟨mid,d5,hx⟩: ∃mid d5,partitionEqual lt d4 a' b' p=(mid,d5):=⟨_,_,rfl⟩;obtain ⟨r1,r2,r3,r4,r5⟩:=round_eq hO (partitionEqual_holds lt) hv.1 hp1 hp2 (by omega) HB4.out hv.2 hx;rw[hx] at hc;have R4:Hid _:=r4;have R5:Hid _:=r5;clear r4 r5 hx hv
           go_wp2_with fail
           refine hc.mono ?_;rintro e w2 ⟨rfl,hS2⟩;clear hc
           go_wp2_with fail
           go_roundg (b' - mid)
           case measure=>omega
           case rel=>exact ⟨mid,b',l2,wb,wp,d5,rfl,rfl,rfl,rfl,rfl,r2,hb',Nat.le_refl _,by omega,by omega,hS2,R4,(show Hid _ from fun R h1 h2=>HA4.out R (R5.out R h1 h2).1 (R5.out R h1 h2).2)⟩
          | false=>
           have hc:=Z90 H a' b' p d4 wc hS hp1 hp2 (by omega);obtain ⟨mid,ap,d5,hx⟩: ∃mid ap d5,partition lt d4 a' b' p=(mid,ap,d5):=⟨_,_,_,rfl⟩;obtain ⟨r1,r2,r3,r4,r5,r6,r7⟩:=round_part hO (partition_holds lt) hp1 hp2 (by omega) HB4.out hx;rw[hx] at hc;have R4:Hid _:=r4;have R5:Hid _:=r5;have R6:Hid _:=r6;have R7:Hid _:=r7;clear r4 r5 r6 r7 hx HV
           go_wp2_with fail
           refine hc.mono ?_;rintro e w2 ⟨rfl,hS2⟩;clear hc;by_cases h4:mid - a' < b' - mid
           {have h4z: (mid:Int) - (a':Int) < (b':Int) - (mid:Int):=by omega
            go_wp2_with fail
            refine (IH.out a' mid l2 d5 _ (by omega) hS2 (by omega) (by omega) (by omega) R4.out).mono ?_;rintro e w3 ⟨rfl,d6,q1,q2,hS3⟩;have Q:=R6.out d6 q1 q2;have Q1:Hid _:=Q;clear Q q1 q2
            go_wp2_with fail
            go_roundg (b' - (mid+1))
            case measure=>omega
            case rel=>exact ⟨mid+1,b',l2,_,ap,d6,by go_num,rfl,rfl,rfl,rfl,by omega,by omega,Nat.le_refl _,by omega,by omega,hS3,(show Hid _ from Q1.out.1),(show Hid _ from fun R h1 h2=>HA4.out R (Q1.out.2 R h1 h2).1 (Q1.out.2 R h1 h2).2)⟩}
           {have h4z: ¬(mid:Int) - (a':Int) < (b':Int) - (mid:Int):=by omega
            have hih:=IH.out (mid+1) b' l2 d5;rw[show ((mid+1:Nat):Int)=(mid:Int)+1 by omega] at hih
            go_wp2_with fail
            refine (hih _ (by omega) hS2 (by omega) (by omega) (by omega) R5.out).mono ?_;rintro e w3 ⟨rfl,d6,q1,q2,hS3⟩;have Q:=R7.out d6 q1 q2;have Q1:Hid _:=Q;clear Q q1 q2 hih
            go_wp2_with fail
            go_roundg (mid - a')
            case measure=>omega
            case rel=>exact ⟨a',mid,l2,_,ap,d6,rfl,rfl,rfl,rfl,rfl,by omega,by omega,Nat.le_refl _,by omega,by omega,hS3,(show Hid _ from Q1.out.1),(show Hid _ from fun R h1 h2=>HA4.out R (Q1.out.2 R h1 h2).1 (Q1.out.2 R h1 h2).2)⟩}}}
theorem Zao (n:Nat) (hn:n < 1000000):bitsLen n<=20:=(bitsLen_le_iff n 20).2 (by omega)
theorem Z57 (H:Srt N B rv lt St) (hO:SWO lt) (mN: ∀w,Sem.run Tryd.prog (method (Tryd.prog.types.size+100) 92 rv "Len") w= .ok (115,rv) w)
 (hlen: ∀d w,St d w->Calls Tryd.prog 115 #[rv] w fun e w'=>e= .returned (.int .i64 (N:Int))/\St d w') (d:Array α) (w:World) (hH:St d w):
 Calls Tryd.prog 52 #[.iface 92 rv] w fun e w'=>e= .returned (.tuple #[])/\ ∃d',PermIn 0 N d d'/\SortedIn lt 0 N d'/\St d' w':=by
 have hbig:=H.big;have hsz:=H.size _ _ hH;have hb:=Zao N hbig;by_cases h1:N<=1
 {have h1z: (N:Int)<=1:=by omega
  go_enter Tryd.func52,Tryd.ntmps52
  go_wp2_with fail
  refine (hlen d _ hH).mono ?_;rintro e w1 ⟨rfl,hS1⟩
  go_wp2_with fail
  (try simp only[Exit.inBlock,Exit.then]); refine bodyPost_ret (results_none rfl _ _ _) rfl ?_
  exact ⟨rfl,d,permIn_refl _ _ _,fun i j _ h2 h3=>absurd h3 (by omega),hS1⟩}
 {have h1z: ¬(N:Int)<=1:=by omega
  have wr:IntKind.u64.wrap (N:Int)=N:=by rw[IntKind.wrap_u64]; omega
  go_enter Tryd.func52,Tryd.ntmps52
  go_wp2_with fail
  refine (hlen d _ hH).mono ?_;rintro e w1 ⟨rfl,hS1⟩
  go_wp2_with fail
  refine (Z5E N (by omega) _).mono ?_;rintro e w2 ⟨rfl,rfl⟩
  go_wp2_with fail
  have hc:=Zan H hO (N+1) 0 N (bitsLen N) d _ (by omega) hS1 (by omega) (by omega) (by omega) (Or.inl rfl);refine hc.mono ?_;rintro e w3 ⟨rfl,d',q1,q2,hS3⟩;clear hc
  go_wp2_with fail
  go_end0
  exact ⟨rfl,d',q1,q2,hS3⟩}
end
section
open Go.RowKit Shp
def fv (t:Sh) (q:Ptr):Value:= .agg (Y8 t q)
section
variable (t : Sh) (q : Ptr) (w : World)
include t q w
theorem Z5F:Calls Tryd.prog 115 #[.agg #[.int .i64 t.kind,.string ⟨t.of_.toArray⟩,.string ⟨t.name.toArray⟩,.slice q.A t.names.length q.c,.slice q.P t.parts.length q.d]] w fun e w'=>e= .returned (.int .i64 (t.names.length:Int))/\Below w.heap.size w w':=by
  go_enter Tryd.func115,Tryd.ntmps115;go_wp2;go_ret;exact ⟨rfl,Z01 _ _⟩
theorem fmL:Sem.run Tryd.prog (method (Tryd.prog.types.size+100) 92 (.agg #[.int .i64 t.kind,.string ⟨t.of_.toArray⟩,.string ⟨t.name.toArray⟩,.slice q.A t.names.length q.c,.slice q.P t.parts.length q.d]) "Less") w= .ok (116,.agg #[.int .i64 t.kind,.string ⟨t.of_.toArray⟩,.string ⟨t.name.toArray⟩,.slice q.A t.names.length q.c,.slice q.P t.parts.length q.d]) w:=by kernel_rfl
theorem fmS:Sem.run Tryd.prog (method (Tryd.prog.types.size+100) 92 (.agg #[.int .i64 t.kind,.string ⟨t.of_.toArray⟩,.string ⟨t.name.toArray⟩,.slice q.A t.names.length q.c,.slice q.P t.parts.length q.d]) "Swap") w= .ok (117,.agg #[.int .i64 t.kind,.string ⟨t.of_.toArray⟩,.string ⟨t.name.toArray⟩,.slice q.A t.names.length q.c,.slice q.P t.parts.length q.d]) w:=by kernel_rfl
theorem fmN:Sem.run Tryd.prog (method (Tryd.prog.types.size+100) 92 (.agg #[.int .i64 t.kind,.string ⟨t.of_.toArray⟩,.string ⟨t.name.toArray⟩,.slice q.A t.names.length q.c,.slice q.P t.parts.length q.d]) "Len") w= .ok (115,.agg #[.int .i64 t.kind,.string ⟨t.of_.toArray⟩,.string ⟨t.name.toArray⟩,.slice q.A t.names.length q.c,.slice q.P t.parts.length q.d]) w:=by kernel_rfl
end
theorem Z91 (K:Int) (o m:ByteArray) (bn n c d:Nat) (P:Option Addr) (l:Nat) (x y:List UInt8) (i j:Nat) (w:World) (hi:i < n) (hj:j < n) (hn:n < 1000000) (hb:bn < w.heap.size)
 (c1:w.cell? ⟨bn,i,none⟩=some (.string ⟨x.toArray⟩)) (c2:w.cell? ⟨bn,j,none⟩=some (.string ⟨y.toArray⟩)):
 Y9 116 #[.agg #[.int .i64 K,.string o,.string m,.slice (some ⟨bn,0,none⟩) n c,.slice P l d],.int .i64 i,.int .i64 j] w (.bool (decide (x < y))):=by
 have k1:=((Z01 w (.cells #[.int .i64 K,.string o,.string m,.slice (some ⟨bn,0,none⟩) n c,.slice P l d] 92)).cell (p:=⟨bn,i,none⟩) hb).trans c1;have k2:=((Z01 w (.cells #[.int .i64 K,.string o,.string m,.slice (some ⟨bn,0,none⟩) n c,.slice P l d] 92)).cell (p:=⟨bn,j,none⟩) hb).trans c2;have b3: (w.alloc (.cells #[.int .i64 K,.string o,.string m,.slice (some ⟨bn,0,none⟩) n c,.slice P l d] 92)).cell? ⟨w.heap.size,3,none⟩=some (.slice (some ⟨bn,0,none⟩) n c):=by rw[World.cell?_alloc_at _ _ _ _ rfl]; rfl
 have HW:=Z01 w (.cells #[.int .i64 K,.string o,.string m,.slice (some ⟨bn,0,none⟩) n c,.slice P l d] 92);clear c1 c2;go_enter Tryd.func116,Tryd.ntmps116
 go_upto_region 1 with fail
 generalize w.alloc (.cells #[.int .i64 K,.string o,.string m,.slice (some ⟨bn,0,none⟩) n c,.slice P l d] 92)=W0 at k1 k2 b3 HW ⊢;have HW0:Hid _:=HW;clear HW
 go_quiet (fail)
 go_wp2;go_ret;exact ⟨(show Ending.returned (.bool (Op.bytesLess x.toArray.toList y.toArray.toList))=_ from by rw[Z4c]),Z0Q HW0.out _⟩
def set5 (W:World) (b o:Nat) (a0 a1 a2 a3 a4:Value):World:=((((W.setCell ⟨b,o,none⟩ a0).setCell ⟨b,o+1,none⟩ a1).setCell ⟨b,o+2,none⟩ a2).setCell ⟨b,o+3,none⟩ a3).setCell ⟨b,o+4,none⟩ a4
theorem Z92 (K:Int) (o m:ByteArray) (bn n c bp l d:Nat) (x y:ByteArray) (i j:Nat) (uk vk:Int) (u1 u2 v1 v2:ByteArray) (uA uP vA vP:Option Addr) (un uc um ud vn vc vm vd:Nat) (w:World) (hi:i < n) (hj:j < n) (hl:n<=l) (hn:l < 1000000) (hb:bn < w.heap.size) (hp:bp < w.heap.size) (hne:bn≠bp)
 (c1:w.cell? ⟨bn,i,none⟩=some (.string x)) (c2:w.cell? ⟨bn,j,none⟩=some (.string y)) (f1: ∀k,w.frozen? ⟨bn,k,none⟩=false) (f2: ∀k,w.frozen? ⟨bp,k,none⟩=false)
 (p0:w.cell? ⟨bp,i * 5,none⟩=some (.int .i64 uk)) (r0:w.cell? ⟨bp,j * 5,none⟩=some (.int .i64 vk))
 (p1:w.cell? ⟨bp,i * 5+1,none⟩=some (.string u1)) (r1:w.cell? ⟨bp,j * 5+1,none⟩=some (.string v1))
 (p2:w.cell? ⟨bp,i * 5+2,none⟩=some (.string u2)) (r2:w.cell? ⟨bp,j * 5+2,none⟩=some (.string v2))
 (p3:w.cell? ⟨bp,i * 5+3,none⟩=some (.slice uA un uc)) (r3:w.cell? ⟨bp,j * 5+3,none⟩=some (.slice vA vn vc))
 (p4:w.cell? ⟨bp,i * 5+4,none⟩=some (.slice uP um ud)) (r4:w.cell? ⟨bp,j * 5+4,none⟩=some (.slice vP vm vd)):
 Calls Tryd.prog 117 #[.agg #[.int .i64 K,.string o,.string m,.slice (some ⟨bn,0,none⟩) n c,.slice (some ⟨bp,0,none⟩) l d],.int .i64 i,.int .i64 j] w fun e w'=>e= .returned (.tuple #[])/\ ∃W0,Below w.heap.size w W0/\
  w'=(set5 (set5 (((W0.setCell ⟨bn,i,none⟩ (.string y)).setCell ⟨bn,j,none⟩ (.string x)).drew) bp (i * 5) (.int .i64 vk) (.string v1) (.string v2) (.slice vA vn vc) (.slice vP vm vd)) bp (j * 5) (.int .i64 uk) (.string u1) (.string u2) (.slice uA un uc) (.slice uP um ud)).drew:=by
 have HW:=Z01 w (.cells #[.int .i64 K,.string o,.string m,.slice (some ⟨bn,0,none⟩) n c,.slice (some ⟨bp,0,none⟩) l d] 92);have b3: (w.alloc (.cells #[.int .i64 K,.string o,.string m,.slice (some ⟨bn,0,none⟩) n c,.slice (some ⟨bp,0,none⟩) l d] 92)).cell? ⟨w.heap.size,3,none⟩=some (.slice (some ⟨bn,0,none⟩) n c):=by rw[World.cell?_alloc_at _ _ _ _ rfl]; rfl
 have b4: (w.alloc (.cells #[.int .i64 K,.string o,.string m,.slice (some ⟨bn,0,none⟩) n c,.slice (some ⟨bp,0,none⟩) l d] 92)).cell? ⟨w.heap.size,4,none⟩=some (.slice (some ⟨bp,0,none⟩) l d):=by rw[World.cell?_alloc_at _ _ _ _ rfl]; rfl
 have F1:=fun k=>(HW.frozen (p:=⟨bn,k,none⟩) hb).trans (f1 k);have F2:=fun k=>(HW.frozen (p:=⟨bp,k,none⟩) hp).trans (f2 k);have k1:=(HW.cell (p:=⟨bn,i,none⟩) hb).trans c1;have k2:=(HW.cell (p:=⟨bn,j,none⟩) hb).trans c2;clear c1 c2 f1 f2;go_enter Tryd.func117,Tryd.ntmps117
 go_upto_region 1 with fail
 generalize w.alloc (.cells #[.int .i64 K,.string o,.string m,.slice (some ⟨bn,0,none⟩) n c,.slice (some ⟨bp,0,none⟩) l d] 92)=W0 at k1 k2 b3 b4 F1 F2 HW ⊢;have HW0:Hid _:=HW;clear HW;generalize hg:w.heap.size=g at b3 b4 ⊢;have q1:=F1 i;have q2:=F1 j;obtain ⟨v',hy'⟩:=cell?_setCell_some (w:=W0) (p:=⟨bn,i,none⟩) (x:= .string y) (q:=⟨bn,j,none⟩) k2;have HF1:Hid _:=F1;have HF2:Hid _:=F2;clear F1 F2
 go_region
 have hgn:bn≠g:=by omega
 have hgp:bp≠g:=by omega
 have b40:=b4;have b4': (((W0.setCell ⟨bn,i,none⟩ (.string y)).setCell ⟨bn,j,none⟩ (.string x)).drew).cell? ⟨g,4,none⟩=some (.slice (some ⟨bp,0,none⟩) l d):=by
  rw[World.cell?_drew,World.cell?_setCell_far _ _ _ _ (by assumption),World.cell?_setCell_far _ _ _ _ (by assumption)]; exact b40
 have P00:=(HW0.out.cell (p:=⟨bp,i * 5,none⟩) hp).trans p0;have R00:=(HW0.out.cell (p:=⟨bp,j * 5,none⟩) hp).trans r0;have P0: (((W0.setCell ⟨bn,i,none⟩ (.string y)).setCell ⟨bn,j,none⟩ (.string x)).drew).cell? ⟨bp,i * 5,none⟩=some (.int .i64 uk):=by
  rw[World.cell?_drew,World.cell?_setCell_far _ _ _ _ (by assumption),World.cell?_setCell_far _ _ _ _ (by assumption)]; exact P00
 have R0: (((W0.setCell ⟨bn,i,none⟩ (.string y)).setCell ⟨bn,j,none⟩ (.string x)).drew).cell? ⟨bp,j * 5,none⟩=some (.int .i64 vk):=by
  rw[World.cell?_drew,World.cell?_setCell_far _ _ _ _ (by assumption),World.cell?_setCell_far _ _ _ _ (by assumption)]; exact R00
 have P10:=(HW0.out.cell (p:=⟨bp,i * 5+1,none⟩) hp).trans p1;have R10:=(HW0.out.cell (p:=⟨bp,j * 5+1,none⟩) hp).trans r1;have P1: (((W0.setCell ⟨bn,i,none⟩ (.string y)).setCell ⟨bn,j,none⟩ (.string x)).drew).cell? ⟨bp,i * 5+1,none⟩=some (.string u1):=by
  rw[World.cell?_drew,World.cell?_setCell_far _ _ _ _ (by assumption),World.cell?_setCell_far _ _ _ _ (by assumption)]; exact P10
 have R1: (((W0.setCell ⟨bn,i,none⟩ (.string y)).setCell ⟨bn,j,none⟩ (.string x)).drew).cell? ⟨bp,j * 5+1,none⟩=some (.string v1):=by
  rw[World.cell?_drew,World.cell?_setCell_far _ _ _ _ (by assumption),World.cell?_setCell_far _ _ _ _ (by assumption)]; exact R10
 have P20:=(HW0.out.cell (p:=⟨bp,i * 5+2,none⟩) hp).trans p2;have R20:=(HW0.out.cell (p:=⟨bp,j * 5+2,none⟩) hp).trans r2;have P2: (((W0.setCell ⟨bn,i,none⟩ (.string y)).setCell ⟨bn,j,none⟩ (.string x)).drew).cell? ⟨bp,i * 5+2,none⟩=some (.string u2):=by
  rw[World.cell?_drew,World.cell?_setCell_far _ _ _ _ (by assumption),World.cell?_setCell_far _ _ _ _ (by assumption)]; exact P20
 have R2: (((W0.setCell ⟨bn,i,none⟩ (.string y)).setCell ⟨bn,j,none⟩ (.string x)).drew).cell? ⟨bp,j * 5+2,none⟩=some (.string v2):=by
  rw[World.cell?_drew,World.cell?_setCell_far _ _ _ _ (by assumption),World.cell?_setCell_far _ _ _ _ (by assumption)]; exact R20
 have P30:=(HW0.out.cell (p:=⟨bp,i * 5+3,none⟩) hp).trans p3;have R30:=(HW0.out.cell (p:=⟨bp,j * 5+3,none⟩) hp).trans r3;have P3: (((W0.setCell ⟨bn,i,none⟩ (.string y)).setCell ⟨bn,j,none⟩ (.string x)).drew).cell? ⟨bp,i * 5+3,none⟩=some (.slice uA un uc):=by
  rw[World.cell?_drew,World.cell?_setCell_far _ _ _ _ (by assumption),World.cell?_setCell_far _ _ _ _ (by assumption)]; exact P30
 have R3: (((W0.setCell ⟨bn,i,none⟩ (.string y)).setCell ⟨bn,j,none⟩ (.string x)).drew).cell? ⟨bp,j * 5+3,none⟩=some (.slice vA vn vc):=by
  rw[World.cell?_drew,World.cell?_setCell_far _ _ _ _ (by assumption),World.cell?_setCell_far _ _ _ _ (by assumption)]; exact R30
 have P40:=(HW0.out.cell (p:=⟨bp,i * 5+4,none⟩) hp).trans p4;have R40:=(HW0.out.cell (p:=⟨bp,j * 5+4,none⟩) hp).trans r4;have P4: (((W0.setCell ⟨bn,i,none⟩ (.string y)).setCell ⟨bn,j,none⟩ (.string x)).drew).cell? ⟨bp,i * 5+4,none⟩=some (.slice uP um ud):=by
  rw[World.cell?_drew,World.cell?_setCell_far _ _ _ _ (by assumption),World.cell?_setCell_far _ _ _ _ (by assumption)]; exact P40
 have R4: (((W0.setCell ⟨bn,i,none⟩ (.string y)).setCell ⟨bn,j,none⟩ (.string x)).drew).cell? ⟨bp,j * 5+4,none⟩=some (.slice vP vm vd):=by
  rw[World.cell?_drew,World.cell?_setCell_far _ _ _ _ (by assumption),World.cell?_setCell_far _ _ _ _ (by assumption)]; exact R40
 clear P00 P10 P20 P30 P40 R00 R10 R20 R30 R40 b40 p0 p1 p2 p3 p4 r0 r1 r2 r3 r4;have G2: ∀k,(((W0.setCell ⟨bn,i,none⟩ (.string y)).setCell ⟨bn,j,none⟩ (.string x)).drew).frozen? ⟨bp,k,none⟩=false:=fun k=>by rw[World.frozen?_drew]; simpa using HF2.out k
 clear b3 q1 q2 k1 k2
 go_upto_region 2 with fail
 generalize hW1: (((W0.setCell ⟨bn,i,none⟩ (.string y)).setCell ⟨bn,j,none⟩ (.string x)).drew)=W1 at b4' P0 P1 P2 P3 P4 R0 R1 R2 R3 R4 G2 ⊢;have HW1:Hid _:=hW1;clear hW1 b4 hy';have g0:=G2 (i * 5);have h0:=G2 (j * 5);have g1:=G2 (i * 5+1);have h1:=G2 (j * 5+1);have g2:=G2 (i * 5+2);have h2:=G2 (j * 5+2);have g3:=G2 (i * 5+3);have h3:=G2 (j * 5+3);have g4:=G2 (i * 5+4);have h4:=G2 (j * 5+4);clear G2;have EX0: ∃v,(W1.setCell ⟨bp,i * 5,none⟩ (.int .i64 vk)).cell? ⟨bp,j * 5,none⟩=some v:=by
  obtain ⟨e10,E10⟩:=cell?_setCell_some (w:=W1) (p:=⟨bp,i * 5,none⟩) (x:=(.int .i64 vk)) (q:=⟨bp,j * 5,none⟩) R0;exact ⟨_,E10⟩
 obtain ⟨e0,E0⟩:=EX0;have EX1: ∃v,((W1.setCell ⟨bp,i * 5,none⟩ (.int .i64 vk)).setCell ⟨bp,i * 5+1,none⟩ (.string v1)).cell? ⟨bp,j * 5+1,none⟩=some v:=by
  obtain ⟨e11,E11⟩:=cell?_setCell_some (w:=W1) (p:=⟨bp,i * 5,none⟩) (x:=(.int .i64 vk)) (q:=⟨bp,j * 5+1,none⟩) R1;obtain ⟨e21,E21⟩:=cell?_setCell_some (w:=(W1.setCell ⟨bp,i * 5,none⟩ (.int .i64 vk))) (p:=⟨bp,i * 5+1,none⟩) (x:=(.string v1)) (q:=⟨bp,j * 5+1,none⟩) E11;exact ⟨_,E21⟩
 obtain ⟨e1,E1⟩:=EX1;have EX2: ∃v,(((W1.setCell ⟨bp,i * 5,none⟩ (.int .i64 vk)).setCell ⟨bp,i * 5+1,none⟩ (.string v1)).setCell ⟨bp,i * 5+2,none⟩ (.string v2)).cell? ⟨bp,j * 5+2,none⟩=some v:=by
  obtain ⟨e12,E12⟩:=cell?_setCell_some (w:=W1) (p:=⟨bp,i * 5,none⟩) (x:=(.int .i64 vk)) (q:=⟨bp,j * 5+2,none⟩) R2;obtain ⟨e22,E22⟩:=cell?_setCell_some (w:=(W1.setCell ⟨bp,i * 5,none⟩ (.int .i64 vk))) (p:=⟨bp,i * 5+1,none⟩) (x:=(.string v1)) (q:=⟨bp,j * 5+2,none⟩) E12;obtain ⟨e32,E32⟩:=cell?_setCell_some (w:=((W1.setCell ⟨bp,i * 5,none⟩ (.int .i64 vk)).setCell ⟨bp,i * 5+1,none⟩ (.string v1))) (p:=⟨bp,i * 5+2,none⟩) (x:=(.string v2)) (q:=⟨bp,j * 5+2,none⟩) E22;exact ⟨_,E32⟩
 obtain ⟨e2,E2⟩:=EX2;have EX3: ∃v,((((W1.setCell ⟨bp,i * 5,none⟩ (.int .i64 vk)).setCell ⟨bp,i * 5+1,none⟩ (.string v1)).setCell ⟨bp,i * 5+2,none⟩ (.string v2)).setCell ⟨bp,i * 5+3,none⟩ (.slice vA vn vc)).cell? ⟨bp,j * 5+3,none⟩=some v:=by
  obtain ⟨e13,E13⟩:=cell?_setCell_some (w:=W1) (p:=⟨bp,i * 5,none⟩) (x:=(.int .i64 vk)) (q:=⟨bp,j * 5+3,none⟩) R3;obtain ⟨e23,E23⟩:=cell?_setCell_some (w:=(W1.setCell ⟨bp,i * 5,none⟩ (.int .i64 vk))) (p:=⟨bp,i * 5+1,none⟩) (x:=(.string v1)) (q:=⟨bp,j * 5+3,none⟩) E13;obtain ⟨e33,E33⟩:=cell?_setCell_some (w:=((W1.setCell ⟨bp,i * 5,none⟩ (.int .i64 vk)).setCell ⟨bp,i * 5+1,none⟩ (.string v1))) (p:=⟨bp,i * 5+2,none⟩) (x:=(.string v2)) (q:=⟨bp,j * 5+3,none⟩) E23;obtain ⟨e43,E43⟩:=cell?_setCell_some (w:=(((W1.setCell ⟨bp,i * 5,none⟩ (.int .i64 vk)).setCell ⟨bp,i * 5+1,none⟩ (.string v1)).setCell ⟨bp,i * 5+2,none⟩ (.string v2))) (p:=⟨bp,i * 5+3,none⟩) (x:=(.slice vA vn vc)) (q:=⟨bp,j * 5+3,none⟩) E33;exact ⟨_,E43⟩
 obtain ⟨e3,E3⟩:=EX3;have EX4: ∃v,(((((W1.setCell ⟨bp,i * 5,none⟩ (.int .i64 vk)).setCell ⟨bp,i * 5+1,none⟩ (.string v1)).setCell ⟨bp,i * 5+2,none⟩ (.string v2)).setCell ⟨bp,i * 5+3,none⟩ (.slice vA vn vc)).setCell ⟨bp,i * 5+4,none⟩ (.slice vP vm vd)).cell? ⟨bp,j * 5+4,none⟩=some v:=by
  obtain ⟨e14,E14⟩:=cell?_setCell_some (w:=W1) (p:=⟨bp,i * 5,none⟩) (x:=(.int .i64 vk)) (q:=⟨bp,j * 5+4,none⟩) R4;obtain ⟨e24,E24⟩:=cell?_setCell_some (w:=(W1.setCell ⟨bp,i * 5,none⟩ (.int .i64 vk))) (p:=⟨bp,i * 5+1,none⟩) (x:=(.string v1)) (q:=⟨bp,j * 5+4,none⟩) E14;obtain ⟨e34,E34⟩:=cell?_setCell_some (w:=((W1.setCell ⟨bp,i * 5,none⟩ (.int .i64 vk)).setCell ⟨bp,i * 5+1,none⟩ (.string v1))) (p:=⟨bp,i * 5+2,none⟩) (x:=(.string v2)) (q:=⟨bp,j * 5+4,none⟩) E24;obtain ⟨e44,E44⟩:=cell?_setCell_some (w:=(((W1.setCell ⟨bp,i * 5,none⟩ (.int .i64 vk)).setCell ⟨bp,i * 5+1,none⟩ (.string v1)).setCell ⟨bp,i * 5+2,none⟩ (.string v2))) (p:=⟨bp,i * 5+3,none⟩) (x:=(.slice vA vn vc)) (q:=⟨bp,j * 5+4,none⟩) E34;obtain ⟨e54,E54⟩:=cell?_setCell_some (w:=((((W1.setCell ⟨bp,i * 5,none⟩ (.int .i64 vk)).setCell ⟨bp,i * 5+1,none⟩ (.string v1)).setCell ⟨bp,i * 5+2,none⟩ (.string v2)).setCell ⟨bp,i * 5+3,none⟩ (.slice vA vn vc))) (p:=⟨bp,i * 5+4,none⟩) (x:=(.slice vP vm vd)) (q:=⟨bp,j * 5+4,none⟩) E44;exact ⟨_,E54⟩
 obtain ⟨e4,E4⟩:=EX4;have hi2:i < l:=by omega
 have hj2:j < l:=by omega
 go_region
 go_end0
 refine ⟨rfl,W0,HW0.out, ?_⟩;rw[<-HW1.out];rfl
end
section
open Go.RowKit Shp Go.Sort
structure El where
 n:List UInt8
 t:Sh
 q:Ptr
 F:List Nat
instance:Inhabited El:=⟨⟨[],⟨0,[],[],[],[]⟩,⟨none,0,none,0⟩,[]⟩⟩
def ltEl (a b:El):Bool:=decide (a.n < b.n)
theorem Zap:SWO ltEl:=⟨fun x=>swo_ltStr.irrefl x.n,fun x y z=>swo_ltStr.trans x.n y.n z.n,fun x y z=>swo_ltStr.ntrans x.n y.n z.n⟩
structure Up2 (bn bp:Nat) (w w':World):Prop where
 os:w'.os=w.os
 tape:w'.tape=w.tape
 output:w'.output=w.output
 size:w.heap.size<=w'.heap.size
 block: ∀k,k < w.heap.size->k≠bn->k≠bp->w'.heap[k]? =w.heap[k]?
theorem Up2.refl (bn bp:Nat) (w:World):Up2 bn bp w w:=⟨rfl,rfl,rfl,Nat.le_refl _,fun _ _ _ _=>rfl⟩
theorem Up2.below {bn bp:Nat} {a b c:World} (h:Up2 bn bp a b) (k:Below a.heap.size b c):Up2 bn bp a c:=
 ⟨k.os.trans h.os,k.tape.trans h.tape,k.output.trans h.output,Nat.le_trans h.size k.size,fun x h1 h2 h3=>(k.block x h1).trans (h.block x h1 h2 h3)⟩
theorem Up2.set {bn bp:Nat} {a b:World} (h:Up2 bn bp a b) {p:Addr} (hp:p.block=bn\/p.block=bp) (v:Value):Up2 bn bp a (b.setCell p v):=
 ⟨h.os,h.tape,h.output,by simpa[World.setCell] using h.size,fun x h1 h2 h3=>(Below.heap_setCell _ _ _ _ (fun e=>by rcases hp with e2 | e2 <;> omega)).trans (h.block x h1 h2 h3)⟩
theorem Up2.drew {bn bp:Nat} {a b:World} (h:Up2 bn bp a b):Up2 bn bp a b.drew:=⟨h.os,h.tape,h.output,h.size,h.block⟩
theorem Up2.set5 {bn bp:Nat} {a b:World} (h:Up2 bn bp a b) (o:Nat) (a0 a1 a2 a3 a4:Value):Up2 bn bp a (set5 b bp o a0 a1 a2 a3 a4):=
 ((((h.set (Or.inr rfl) _).set (Or.inr rfl) _).set (Or.inr rfl) _).set (Or.inr rfl) _).set (Or.inr rfl) _
theorem Z6E (W:World) (b o:Nat) (a0 a1 a2 a3 a4:Value) (x:Addr) (h:b≠x.block): (set5 W b o a0 a1 a2 a3 a4).cell? x=W.cell? x:=by
 unfold set5;rw[World.cell?_setCell_far _ _ _ _ h,World.cell?_setCell_far _ _ _ _ h,World.cell?_setCell_far _ _ _ _ h,World.cell?_setCell_far _ _ _ _ h,World.cell?_setCell_far _ _ _ _ h]
theorem Zcp {b x y:Nat} (h:x≠y): (⟨b,x,none⟩:Addr)≠⟨b,y,none⟩:=fun e=>h (by injection e)
theorem so {W:World} {b x y:Nat} {v:Value} (h:x≠y): (W.setCell ⟨b,x,none⟩ v).cell? ⟨b,y,none⟩=W.cell? ⟨b,y,none⟩:=World.cell?_setCell_other _ _ _ _ (Zcp h)
theorem ss {W:World} {b x:Nat} {v u:Value} (h:W.cell? ⟨b,x,none⟩=some u): (W.setCell ⟨b,x,none⟩ v).cell? ⟨b,x,none⟩=some v:=World.cell?_setCell_same _ _ _ h
theorem Zbu (W:World) (b o:Nat) (a0 a1 a2 a3 a4:Value) (x:Nat) (h:x < o\/o+4 < x): (set5 W b o a0 a1 a2 a3 a4).cell? ⟨b,x,none⟩=W.cell? ⟨b,x,none⟩:=by
 unfold set5;rw[so,so,so,so,so] <;> omega
theorem Z4f (W:World) (b o:Nat) (t:Sh) (q:Ptr) (t':Sh) (q':Ptr) (h:Sh5 W b o t' q'):
 Sh5 (set5 W b o (.int .i64 t.kind) (.string ⟨t.of_.toArray⟩) (.string ⟨t.name.toArray⟩) (.slice q.A t.names.length q.c) (.slice q.P t.parts.length q.d)) b o t q:=by
 obtain ⟨h0,h1,h2,h3,h4⟩:=h;unfold set5;refine ⟨?_, ?_, ?_, ?_, ?_⟩
 {rw[so,so,so,so]
  {exact ss h0}
  all_goals omega}
 {rw[so,so,so]
  {exact ss ((so (by omega)).trans h1)}
  all_goals omega}
 {rw[so,so]
  {exact ss ((so (by omega)).trans ((so (by omega)).trans h2))}
  all_goals omega}
 {rw[so]
  {exact ss ((so (by omega)).trans ((so (by omega)).trans ((so (by omega)).trans h3)))}
  all_goals omega}
 {exact ss ((so (by omega)).trans ((so (by omega)).trans ((so (by omega)).trans ((so (by omega)).trans h4))))}
theorem Z3x (W:World) (b i k:Nat) (a0 a1 a2 a3 a4:Value) (t:Sh) (q:Ptr) (hne:k≠i) (h:Sh5 W b (k * 5) t q):Sh5 (set5 W b (i * 5) a0 a1 a2 a3 a4) b (k * 5) t q:=by
 obtain ⟨h0,h1,h2,h3,h4⟩:=h;refine ⟨?_, ?_, ?_, ?_, ?_⟩ <;> rw[Zbu _ _ _ _ _ _ _ _ _ (by omega)] <;> assumption
structure FSt (w0:World) (bn bp N:Nat) (d:Array El) (w:World):Prop where
 size:d.size=N
 tx: ∀i,i < N->w.cell? ⟨bn,i,none⟩=some (.string ⟨(d[i]!).n.toArray⟩)
 pa: ∀i,i < N->Sh5 w bp (i * 5) (d[i]!).t (d[i]!).q
 fn: ∀k,w.frozen? ⟨bn,k,none⟩=false
 fp: ∀k,w.frozen? ⟨bp,k,none⟩=false
 ln:bn < w0.heap.size
 lp:bp < w0.heap.size
 ne:bn≠bp
 up:Up2 bn bp w0 w
theorem FSt.keep {w0:World} {bn bp N:Nat} {d:Array El} {w w':World} (h:FSt w0 bn bp N d w) (hb:Below w0.heap.size w w'):FSt w0 bn bp N d w':=
 ⟨h.size,fun i hi=>(hb.cell (p:=⟨bn,i,none⟩) h.ln).trans (h.tx i hi),fun i hi=>(h.pa i hi).of (fun k=>hb.cell (p:=⟨bp,k,none⟩) h.lp),fun k=>(hb.frozen (p:=⟨bn,k,none⟩) h.ln).trans (h.fn k),
  fun k=>(hb.frozen (p:=⟨bp,k,none⟩) h.lp).trans (h.fp k),h.ln,h.lp,h.ne,h.up.below hb⟩
theorem Z5G {W:World} {b o c:Nat} {t:Sh} {q:Ptr} {v:Value} {x:Nat} (hne:b≠c) (h:Sh5 W c o t q):Sh5 (W.setCell ⟨b,x,none⟩ v) c o t q:=
 h.of fun k=>World.cell?_setCell_far _ _ _ _ hne
theorem Z93 (w0:World) (bn bp N:Nat) (K:Int) (o m:List UInt8) (c l dd:Nat) (hN:N < 400000) (hl:N<=l) (hl2:l < 1000000):
 Srt N w0.heap.size (.agg #[.int .i64 K,.string ⟨o.toArray⟩,.string ⟨m.toArray⟩,.slice (some ⟨bn,0,none⟩) N c,.slice (some ⟨bp,0,none⟩) l dd]) ltEl (FSt w0 bn bp N) where
 less d w i j h hi0 hi hj0 hj:=by
  obtain ⟨a,rfl⟩:=Int.eq_ofNat_of_zero_le hi0;obtain ⟨b,rfl⟩:=Int.eq_ofNat_of_zero_le hj0;have ha:a < N:=by omega
  have hb:b < N:=by omega
  refine (Z91 K ⟨o.toArray⟩ ⟨m.toArray⟩ bn N c dd (some ⟨bp,0,none⟩) l _ _ a b w ha hb (by omega) (Nat.lt_of_lt_of_le h.ln h.up.size) (h.tx a ha) (h.tx b hb)).mono ?_;rintro e w' ⟨rfl,hw⟩;exact ⟨rfl,h.keep (hw.mono h.up.size),hw.size,fun x _ hx=>hw.block x hx⟩
 swap d w i j h hi0 hi hj0 hj:=by
  obtain ⟨a,rfl⟩:=Int.eq_ofNat_of_zero_le hi0;obtain ⟨b,rfl⟩:=Int.eq_ofNat_of_zero_le hj0;have ha:a < N:=by omega
  have hb:b < N:=by omega
  have hs:=h.size;obtain ⟨p0,p1,p2,p3,p4⟩:=h.pa a ha;obtain ⟨r0,r1,r2,r3,r4⟩:=h.pa b hb;have hnw:=Nat.lt_of_lt_of_le h.ln h.up.size;have hpw:=Nat.lt_of_lt_of_le h.lp h.up.size;refine (Z92 K ⟨o.toArray⟩ ⟨m.toArray⟩ bn N c bp l dd _ _ a b _ _ _ _ _ _ _ _ _ _ _ _ _ _ _ _ _ _ w ha hb hl hl2 hnw hpw h.ne (h.tx a ha) (h.tx b hb) h.fn h.fp p0 r0 p1 r1 p2 r2 p3 r3 p4 r4).mono ?_;rintro e w' ⟨rfl,W0,hW0,rfl⟩;have h0:=h.keep (hW0.mono h.up.size);have hne:=h.ne;have ea: ((a:Nat):Int).toNat=a:=by omega
  have eb: ((b:Nat):Int).toNat=b:=by omega
  rw[ea,eb];have hget:=fun k=>swp_get d (i:=a) (j:=b) (by omega) (by omega) k;refine ⟨rfl,⟨by rw[size_swp]; exact hs,fun k hk=> ?_,fun k hk=> ?_,fun k=> ?_,fun k=> ?_,h.ln,h.lp,hne, ?_⟩, ?_, ?_⟩
  {rw[World.cell?_drew,Z6E _ _ _ _ _ _ _ _ _ hne.symm,Z6E _ _ _ _ _ _ _ _ _ hne.symm,World.cell?_drew];by_cases hkb:k=b
   {subst hkb;rw[swp_right d a k (by omega)];obtain ⟨v,hv⟩:=cell?_setCell_some (w:=W0) (p:=⟨bn,a,none⟩) (x:= .string ⟨(d[k]!).n.toArray⟩) (q:=⟨bn,k,none⟩) (h0.tx k hk);exact ss hv}
   {rw[so (Ne.symm hkb)];by_cases hka:k=a
    {subst hka;rw[swp_left d k b (by omega) hkb];exact ss (h0.tx k hk)}
    {rw[so (Ne.symm hka),swp_other d a b k hka hkb];exact h0.tx k hk}}}
  {have hz: ∀k,k < N->Sh5 ((((W0.setCell ⟨bn,a,none⟩ (.string ⟨(d[b]!).n.toArray⟩)).setCell ⟨bn,b,none⟩ (.string ⟨(d[a]!).n.toArray⟩)).drew)) bp (k * 5) (d[k]!).t (d[k]!).q:=fun k hk=>
    (Z5G hne (Z5G hne (h0.pa k hk))).of fun _=>World.cell?_drew _ _
   refine Sh5.of (w:=set5 _ _ _ _ _ _ _ _) ?_ (fun _=>World.cell?_drew _ _);by_cases hkb:k=b
   {subst hkb;rw[swp_right d a k (by omega)];by_cases hka:k=a
    {subst hka;exact Z4f _ _ _ _ _ _ _ (Z4f _ _ _ _ _ _ _ (hz k hk))}
    {exact Z4f _ _ _ _ _ _ _ (Z3x _ _ _ _ _ _ _ _ _ _ _ hka (hz k hk))}}
   {refine Z3x _ _ _ _ _ _ _ _ _ _ _ hkb ?_;by_cases hka:k=a
    {subst hka;rw[swp_left d k b (by omega) hkb];exact Z4f _ _ _ _ _ _ _ (hz k hk)}
    {rw[swp_other d a b k hka hkb];exact Z3x _ _ _ _ _ _ _ _ _ _ _ hka (hz k hk)}}}
  {have:=h0.fn k;simpa[set5,World.frozen?_drew] using this}
  {have:=h0.fp k;simpa[set5,World.frozen?_drew] using this}
  {exact (((((h0.up.set (Or.inl rfl) _).set (Or.inl rfl) _).drew).set5 _ _ _ _ _ _).set5 _ _ _ _ _ _).drew}
  {have:=hW0.size;simpa[set5,World.setCell] using this}
  {intro x hx1 hx2;have hn:x≠bn:=by have:=h.ln; omega
   have hp:x≠bp:=by have:=h.lp; omega
   have hU:=((((((Up2.refl bn bp W0).set (Or.inl rfl) (.string ⟨(d[b]!).n.toArray⟩) (p:=⟨bn,a,none⟩)).set (Or.inl rfl) (.string ⟨(d[a]!).n.toArray⟩) (p:=⟨bn,b,none⟩)).drew).set5 (a * 5) (.int .i64 (d[b]!).t.kind) (.string ⟨(d[b]!).t.of_.toArray⟩) (.string ⟨(d[b]!).t.name.toArray⟩) (.slice (d[b]!).q.A (d[b]!).t.names.length (d[b]!).q.c) (.slice (d[b]!).q.P (d[b]!).t.parts.length (d[b]!).q.d)).set5 (b * 5) (.int .i64 (d[a]!).t.kind) (.string ⟨(d[a]!).t.of_.toArray⟩) (.string ⟨(d[a]!).t.name.toArray⟩) (.slice (d[a]!).q.A (d[a]!).t.names.length (d[a]!).q.c) (.slice (d[a]!).q.P (d[a]!).t.parts.length (d[a]!).q.d)).drew;exact (hU.block x (Nat.lt_of_lt_of_le hx2 hW0.size) hn hp).trans (hW0.block x hx2)}
 size d w h:=h.size
 big:=by omega
 base d w h:=h.up.size
 keep d w w' h hb:=h.keep hb
 mL w:=by kernel_rfl
 mS w:=by kernel_rfl
theorem Z7Q (t:Sh) (q:Ptr) (w:World) (h0:t.names.length=0):
 Y9 52 #[.iface 92 (.agg (Y8 t q))] w (.tuple #[]):=by
 have H:Srt t.names.length w.heap.size (.agg (Y8 t q)) ltEl (fun d w1=>d.size=t.names.length/\Below w.heap.size w w1):= {
  less:=fun d w1 i j h hi0 hi=>absurd hi (by omega)
  swap:=fun d w1 i j h hi0 hi=>absurd hi (by omega)
  size:=fun d w1 h=>h.1
  big:=by omega
  base:=fun d w1 h=>h.2.size
  keep:=fun d w1 w2 h hb=>⟨h.1,h.2.trans hb⟩
  mL:=fmL t q
  mS:=fmS t q }
 exact (Z57 H Zap (fmN t q) (fun d w1 h=>(Z5F t q w1).mono fun e w2 ⟨he,hb⟩=>⟨he,h.1,Z03 h.2 hb⟩) #[] w ⟨by rw[h0]; rfl,Below.refl _ _⟩).mono fun e w' ⟨he,d',_,_,h⟩=>⟨he,h.2⟩
def els (t:Sh) (qs:Nat->Ptr) (Fs:Nat->List Nat):Array El:=((List.range t.names.length).map fun i=>(⟨t.names.getD i [],t.parts.getD i ⟨0,[],[],[],[]⟩,qs i,Fs i⟩:El)).toArray
section
variable (t : Sh) (qs : Nat -> Ptr) (Fs : Nat -> List Nat)
include t qs Fs
theorem Z3y: (els t qs Fs).size=t.names.length:=by simp[els]
theorem Z6F (i:Nat) (h:i < t.names.length) (h2:i < t.parts.length): (els t qs Fs)[i]! =⟨t.names[i],t.parts[i],qs i,Fs i⟩:=by
 rw[getElem!_pos (els t qs Fs) i (by rw[Z3y]; exact h)];simp[els,h,h2]
end
theorem Z94 (t:Sh) (q:Ptr) (qs:Nat->Ptr) (Fs:Nat->List Nat) (bn bp:Nat) (w:World) (hA:q.A=some ⟨bn,0,none⟩) (hP:q.P=some ⟨bp,0,none⟩) (hl:t.names.length=t.parts.length) (hN:t.names.length < 400000)
    (ht:TxR w bn t.names) (hp:PaR w bp t.parts qs) (hne:bn≠bp):
    Calls Tryd.prog 52 #[.iface 92 (.agg #[.int .i64 t.kind,.string ⟨t.of_.toArray⟩,.string ⟨t.name.toArray⟩,.slice q.A t.names.length q.c,.slice q.P t.parts.length q.d])] w fun e w'=>e= .returned (.tuple #[])/\
      ∃d',PermIn 0 t.names.length (els t qs Fs) d'/\SortedIn ltEl 0 t.names.length d'/\FSt w bn bp t.names.length d' w':=by
  have hlen:=Z5F t q;have mN:=fmN t q;rw[hA,hP] at hlen mN ⊢;have H:=Z93 w bn bp t.names.length t.kind t.of_ t.name q.c t.parts.length q.d hN (by omega) (by omega);refine Z57 H Zap mN (fun d w1 h=>(hlen w1).mono fun e w2 ⟨he,hb⟩=>⟨he,h.keep (hb.mono h.up.size)⟩) (els t qs Fs) w ?_;exact ⟨Z3y t qs Fs,fun i hi=>by rw[Z6F t qs Fs i hi (by omega)]; exact ht.at_ i hi,fun i hi=>by rw[Z6F t qs Fs i hi (by omega)]; exact hp.at_ i (by omega),ht.fz,hp.fz,ht.lt,hp.lt,hne,Up2.refl _ _ _⟩
theorem Z95 {N:Nat} {d d':Array El} (h:PermIn 0 N d d') (hN:d.size=N):d'.toList.Perm d.toList:=by
 obtain ⟨h1,_,h3⟩:=h;have e:d.extract 0 N=d:=by rw[<-hN]; exact Array.extract_size
 have e':d'.extract 0 N=d':=by rw[<-hN, <-h1]; exact Array.extract_size
 rwa [e,e'] at h3
theorem Z6G {N:Nat} {d:Array El} (h:SortedIn ltEl 0 N d) (hN:d.size=N): (d.toList.map fun x=>(x.n,x.t)).Pairwise (fun a b:Fld=>a.1<=b.1):=by
 rw[List.pairwise_map,List.pairwise_iff_getElem];intro i j hi hj hij;have:=h i j (Nat.zero_le _) hij (by simpa[hN] using hj);simp only[ltEl,decide_eq_false_iff_not,List.not_lt] at this;rw[getElem!_pos d i (by simpa using hi),getElem!_pos d j (by simpa using hj)] at this;simpa using this
theorem Z96 {t t':Sh} {q:Ptr} (h:Small t q) (ho:t'.of_=t.of_) (hn:t'.name=t.name) (hns:t'.names.Perm t.names) (hp:t'.parts.length=t.parts.length):Small t' q:=by
 have hl:=hns.length_eq;obtain ⟨h1,h2,h3,h4,h5,h6,h7,h8,h9⟩:=h;exact ⟨by rw[ho]; exact h1,by rw[hn]; exact h2,fun x hx=>h3 x (hns.mem_iff.1 hx),by rw[hl]; exact h4,by rw[hp]; exact h5,by rw[hl]; exact h6,by rw[hp]; exact h7,h8,h9⟩
theorem Zbv {w0 W:World} {t:Sh} {q:Ptr} {bn bp N:Nat} {qs:Nat->Ptr} {Fs:Nat->List Nat} {d:Array El} (hA:q.A=some ⟨bn,0,none⟩) (hP:q.P=some ⟨bp,0,none⟩) (hs:Small t q)
 (hN:t.names.length=N) (hN2:t.parts.length=N) (hf:FSt w0 bn bp N d W) (hp:d.toList.Perm (els t qs Fs).toList) (hr: ∀i (h:i < t.parts.length),Own W (qs i) (t.parts[i]'h) (Fs i)):
 Own W q ⟨t.kind,t.of_,t.name,d.toList.map El.n,d.toList.map El.t⟩ ([bn]++ [bp]++d.toList.flatMap El.F)/\([bn]++ [bp]++d.toList.flatMap El.F).Perm ([bn]++ [bp]++(List.range t.parts.length).flatMap Fs):=by
 have hsz:=hf.size;have hall: ∀x∈d.toList,Own W x.q x.t x.F:=fun x hx=>by
  have hx2:=hp.mem_iff.1 hx;obtain ⟨i,hi,rfl⟩:=List.getElem_of_mem hx2;have hi2:i < t.names.length:=by simpa[els] using hi
  have:=Z6F t qs Fs i hi2 (by omega);rw[getElem!_pos (els t qs Fs) i (by rw[Z3y]; exact hi2)] at this;rw[Array.getElem_toList,this];exact hr i (by omega)
 have hen: ((els t qs Fs).toList.map El.n)=t.names:=by
  apply List.ext_getElem
  {simp[els]}
  {intro i h1 h2;simp[els,h2]}
 have heF: (els t qs Fs).toList.flatMap El.F=(List.range t.parts.length).flatMap Fs:=by
  rw[hN2, <-hN];simp[els,List.flatMap_map]
 have hget: ∀i (h:i < d.toList.length),d[i]! =d.toList[i]'h:=fun i h=>by
  rw[getElem!_pos d i (by simpa using h)];simp
 refine ⟨.mk q _ _ [bn] [bp] (fun i=>(d[i]!).q) (fun i=>(d[i]!).F) (Z96 hs rfl rfl ((hp.map El.n).trans (by rw[hen])) (by simp; omega)) ?_ ?_ ?_ ?_, ?_⟩
 {refine Or.inr ⟨bn,hA,rfl,Nat.lt_of_lt_of_le hf.ln hf.up.size,fun i hi=> ?_,hf.fn⟩;have hi2:i < d.toList.length:=by simpa using hi
  rw[hf.tx i (by simpa[hsz] using hi2),hget i hi2];simp}
 {refine Or.inr ⟨bp,hP,rfl,Nat.lt_of_lt_of_le hf.lp hf.up.size,fun i hi=> ?_,hf.fp⟩;have hi2:i < d.toList.length:=by simpa using hi
  have:=hf.pa i (by simpa[hsz] using hi2);rw[hget i hi2] at this;simpa[hget i hi2] using this}
 {intro i hi;have hi2:i < d.toList.length:=by simpa using hi
  have:=hall _ (List.getElem_mem hi2);simpa[hget i hi2] using this}
 {congr 1;show d.toList.flatMap El.F=(List.range (d.toList.map El.t).length).flatMap (fun i=>(d[i]!).F);rw[List.length_map];have:d.toList=(List.range d.toList.length).map (fun i=>d[i]!):=by
   apply List.ext_getElem
   {simp}
   {intro i h1 h2;simp[hget i h1]}
  conv=>lhs; rw[this]
  rw[List.flatMap_map]}
 {rw[<-heF];exact List.Perm.append_left _ (List.Perm.flatMap_right El.F hp)}
end
end Go.Proofs.YtmeiijjpomcgcaaDoor
