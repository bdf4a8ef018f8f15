/- What the proofs of ExpandDeclares want, part 4. -/
import Derived.Sort.AssemblyPlain
import Derived.Sort.WalkA6
import Derived.Sort.WalkB2
import Derived.Sort.WalkC4
import Derived.Deep.DeepCutAuto
import Derived.Shelf.Strings.Builder1
import Derived.Shelf.Strconv.Itoa0
import Derived.Sort.Walk7a
import Derived.Deep.CutBlock
import Derived.Test.YtmeiijjpomcgcaaDoorK0n3
set_option linter.unusedVariables false
set_option linter.unusedSimpArgs false
set_option linter.unusedSectionVars false
set_option maxRecDepth 100000
set_option maxHeartbeats 16000000
namespace Go.Proofs.YtmeiijjpomcgcaaDoor
section
open Go.RowKit Shp
def noneQ:Ptr:=⟨none,0,none,0⟩
def sW (w:World) (t:Sh) (q:Ptr):World:=(w.alloc (.cells (Y8 t q) 25)).alloc (.cells Yb 25)
section
variable (w : World) (t : Sh) (q : Ptr)
include w t q
theorem Z18:Below w.heap.size w (sW w t q):=Z0h (Z01 _ _) _
theorem Z6D:Box5 (sW w t q) w.heap.size t q:=(Z07 w t q).next (Z01 _ _)
theorem Z41:Box5 (sW w t q) (w.heap.size+1) Z67 noneQ:=by
 have h:=Z07 (w.alloc (.cells (Y8 t q) 25)) Z67 noneQ;have e: (w.alloc (.cells (Y8 t q) 25)).heap.size=w.heap.size+1:=by simp
 rw[e] at h;exact h
end
def put5 (W:World) (b:Nat) (a0 a1 a2 a3 a4:Value):World:=((((W.setCell ⟨b,0,none⟩ a0).setCell ⟨b,1,none⟩ a1).setCell ⟨b,2,none⟩ a2).setCell ⟨b,3,none⟩ a3).setCell ⟨b,4,none⟩ a4
theorem Z19 {W:World} {q:Ptr} {t:Sh} {F:List Nat} (h:Own W q t F) {b:Nat} (hb: ∀x∈F,b≠x) (a0 a1 a2 a3 a4:Value):Own (put5 W b a0 a1 a2 a3 a4) q t F:=
 h.of (fun x hx=>((((Z0i _ ⟨b,0,none⟩ a0 (hb x hx)).trans (Z0i _ ⟨b,1,none⟩ a1 (hb x hx))).trans (Z0i _ ⟨b,2,none⟩ a2 (hb x hx))).trans (Z0i _ ⟨b,3,none⟩ a3 (hb x hx))).trans (Z0i _ ⟨b,4,none⟩ a4 (hb x hx))) (by simp[put5,World.setCell])
theorem Z0j {B:Nat} {a W:World} (h:Below B a W) {b:Nat} (hb:B<=b) (a0 a1 a2 a3 a4:Value):Below B a (put5 W b a0 a1 a2 a3 a4):=
 ((((h.setCell (p:=⟨b,0,none⟩) hb _).setCell (p:=⟨b,1,none⟩) hb _).setCell (p:=⟨b,2,none⟩) hb _).setCell (p:=⟨b,3,none⟩) hb _).setCell (p:=⟨b,4,none⟩) hb _
theorem Z4n (t:Sh) (q:Ptr) (w:World) (hq:ShAt w w.heap.size q t) (hz:size t<=400) (hr:right t=true):
 Calls Tryd.prog 26 #[.agg (Y8 t q)] w fun e w'=> ∃q' F,e= .returned (.agg (Y8 t q'))/\Own w' q' t F/\F.Nodup/\(∀b∈F,w.heap.size<=b)/\Below w.heap.size w w':=by
 have HS:=Y1 (Z18 w t q);have HE:=Y1 (Z41 w t q);have HZ:=Y1 (show (sW w t q).heap.size=w.heap.size+2 from by simp[sW]);have HCP:=Y1 (Z7M t q (sW w t q) (hq.next (Z18 w t q)) hz hr);obtain ⟨_,⟨c0,c1,c2,c3,c4⟩,_⟩:=Z07 w t q;clear hq hr;go_enter Tryd.func26,Tryd.ntmps26
 go_wp2_with fail
 clear c0 c1 c2 c3 c4;change Calls _ _ _ (sW w t q) _;generalize sW w t q=W at HS HE HCP HZ ⊢;refine HCP.out.mono ?_;rintro e w1 ⟨q',F,rfl,ho,hnd,hF,hb1⟩;have HO:=Y1 ho;have HND:=Y1 hnd;have HF:=Y1 (fun b hb=>show w.heap.size+2<=b from by have:=hF b hb; have:=HZ.out; omega);have HS1:=Y1 (Z03 HS.out hb1);have HE1:=Y1 (HE.out.next hb1);clear ho hnd hF hb1 HCP;obtain ⟨_,⟨r0,r1,r2,r3,r4⟩,f0,f1,f2,f3,f4⟩:=HE1.out;simp only[Nat.zero_add] at r0 r1 r2 r3 r4;go_wp2;refine bodyPost_ret (v:= .agg (Y8 t q')) (by simp[results,Tryd.results26,go_sem,r0,r1,r2,r3,r4]) rfl ?_;exact ⟨q',F,rfl,Z19 HO.out (fun x hx e=>by have:=HF.out x hx; omega) _ _ _ _ _,HND.out,fun b hb=>by have:=HF.out b hb; omega,Z0j HS1.out (by omega) _ _ _ _ _⟩
end
section
open Go.RowKit Go.Sort
def Kpt (B:Nat) (w w':World):Prop:=w.heap.size<=w'.heap.size/\ ∀b,B<=b->b < w.heap.size->w'.heap[b]? =w.heap[b]?
theorem Kpt.next {B:Nat} {a b c:World} (h:Kpt B a b) (k:Kpt B b c):Kpt B a c:=⟨Nat.le_trans h.1 k.1,fun x h1 h2=>(k.2 x h1 (Nat.lt_of_lt_of_le h2 h.1)).trans (h.2 x h1 h2)⟩
structure Srt {α:Type} [Inhabited α] (N B:Nat) (rv:Value) (lt:α->α->Bool) (St:Array α->World->Prop):Prop where
 less: ∀d w (i j:Int),St d w->0<=i->i < N->0<=j->j < N->Calls Tryd.prog 116 #[rv,.int .i64 i,.int .i64 j] w fun e w'=>e= .returned (.bool (lt d[i.toNat]! d[j.toNat]!))/\St d w'/\Kpt B w w'
 swap: ∀d w (i j:Int),St d w->0<=i->i < N->0<=j->j < N->Calls Tryd.prog 117 #[rv,.int .i64 i,.int .i64 j] w fun e w'=>e= .returned (.tuple #[])/\St (swp d i.toNat j.toNat) w'/\Kpt B w w'
 size: ∀d w,St d w->d.size=N
 big:N < 1000000
 base: ∀d w,St d w->B<=w.heap.size
 keep: ∀d w w',St d w->Below B w w'->St d w'
 mL: ∀w,Sem.run Tryd.prog (method (Tryd.prog.types.size+100) 92 rv "Less") w= .ok (116,rv) w
 mS: ∀w,Sem.run Tryd.prog (method (Tryd.prog.types.size+100) 92 rv "Swap") w= .ok (117,rv) w
variable {α : Type} [Inhabited α] {N B : Nat} {rv : Value} {lt : α -> α -> Bool} {St : Array α -> World -> Prop}
section
variable (H : Srt N B rv lt St) {d : Array α} {w : World} (h : St d w) (i j : Nat) {x y : Int}
include H d w h i j x y
theorem Srt.lessAt {v:Bool} (hv:lt d[i]! d[j]! =v) (hi:i < N) (hj:j < N) (hx:x=i) (hy:y=j):
 Calls Tryd.prog 116 #[rv,.int .i64 x,.int .i64 y] w fun e w'=>e= .returned (.bool v)/\St d w'/\Kpt B w w':=by
 subst hx; subst hy; subst hv;exact H.less d w i j h (by omega) (by omega) (by omega) (by omega)
theorem Srt.swapAt (hi:i < N) (hj:j < N) (hx:x=i) (hy:y=j):
 Calls Tryd.prog 117 #[rv,.int .i64 x,.int .i64 y] w fun e w'=>e= .returned (.tuple #[])/\St (swp d i j) w'/\Kpt B w w':=by
 subst hx; subst hy;exact H.swap d w i j h (by omega) (by omega) (by omega) (by omega)
end
theorem Zak (H:Srt N B rv lt St) (a b:Nat) (d:Array α) (w:World) (hH:St d w) (hab:a<=b) (hb:b<=N):
 Calls Tryd.prog 75 #[.iface 92 rv,.int .i64 a,.int .i64 b] w fun e w'=>e= .returned (.tuple #[])/\St (Sort.insertionSort lt d a b) w':=by
 have mL:=H.mL;have mS:=H.mS;have hbig:=H.big;have hsz:=H.size d w hH;go_enter Tryd.func75,Tryd.ntmps75;go_wp2
 go_loopw [6] (fun vi wr=> ∃(i:Nat) (dk:Array α),vi= .int .i64 i/\a < i/\i<=b+1/\St dk wr/\insOuter lt a b i dk=insOuter lt a b (a+1) d) (fun vi _=>b+1 - (intOf vi).toNat)
 case atStart=>exact ⟨a+1,d,by go_num,by omega,by omega,hH,rfl⟩
 case round=>
  obtain ⟨i,dk,rfl,hai,hib,hwr,hO⟩:=hrel;have HO:Hid (insOuter lt a b i dk=insOuter lt a b (a+1) d):=hO;clear hO;go_wp2
  {go_loopw [7] (fun vj wr2=> ∃(j:Nat) (dj:Array α),vj= .int .i64 j/\a<=j/\j<=i/\St dj wr2/\insInner lt a j dj=insInner lt a i dk) (fun vj _=>(intOf vj).toNat)
   case atStart=>exact ⟨i,dk,rfl,by omega,Nat.le_refl _,hwr,rfl⟩
   case round=>
    obtain ⟨j,dj,rfl,haj,hji,hw2,hI⟩:=hrel;have hlt:i < b:=by assumption
    have HI:Hid (insInner lt a j dj=insInner lt a i dk):=hI;clear hI hwr;have out: (j<=a\/lt dj[j]! dj[j - 1]! =false)-> ∀w2,St dj w2-> ∃i' dk',Value.int .i64 ((i:Int)+1)= .int .i64 (i':Nat)/\a < i'/\i'<=b+1/\St dk' w2/\insOuter lt a b i' dk'=insOuter lt a b (a+1) d:=fun hs w2 h2=>
     ⟨i+1,dj,by go_num,by omega,by omega,h2,by rw[<-HO.out,insOuter_go _ _ _ _ _ hlt, <-HI.out,insInner_stop _ _ _ _ hs]⟩
    have OUT:Hid _:=out;clear out;by_cases hja:a < j
    {cases hlv:lt dj[j]! dj[j - 1]! with
     | true=>
      go_wp2_with fail
      refine (H.less dj _ _ _ hw2 (by omega) (by omega) (by omega) (by omega)).mono ?_;rintro e w' ⟨rfl,hS, -⟩;rw[show ((j:Int)).toNat=j by omega,show ((j:Int) - 1).toNat=j - 1 by omega,hlv]
      go_wp2_with fail
      refine (H.swap dj _ _ _ hS (by omega) (by omega) (by omega) (by omega)).mono ?_;rintro e w2 ⟨rfl,hS2, -⟩;rw[show ((j:Int)).toNat=j by omega,show ((j:Int) - 1).toNat=j - 1 by omega] at hS2
      go_wp2_with fail
      go_roundw
      case rel=>
       (repeat apply Exists.intro)
       exact ⟨⟨j - 1,swp dj j (j - 1),by congr 1 <;> omega,by omega,by omega,hS2,by rw[<-HI.out,insInner_go lt a j dj hja hlv]⟩,by rw[decide_eq_true hlt,show ((j - 1:Nat):Int)=(j:Int) - 1 by omega]⟩
      case measure=>simp[intOf]; omega
     | false=>
      go_wp2_with fail
      refine (H.less dj _ _ _ hw2 (by omega) (by omega) (by omega) (by omega)).mono ?_;rintro e w' ⟨rfl,hS, -⟩;rw[show ((j:Int)).toNat=j by omega,show ((j:Int) - 1).toNat=j - 1 by omega,hlv]
      go_wp2_with fail
      go_roundw
      case rel=>exact OUT.out (Or.inr hlv) _ hS
      case measure=>simp[intOf]; omega}
    {go_wp2
     go_roundw
     case rel=>exact OUT.out (Or.inl (by omega)) _ hw2
     case measure=>simp[intOf]; omega}}
  {have hge: ¬i < b:=by assumption
   go_end0
   exact ⟨rfl,by unfold Sort.insertionSort; rw[<-HO.out,insOuter_stop _ _ _ _ _ hge]; exact hwr⟩}
end
section
open Go.RowKit Go.Sort
variable {α : Type} [Inhabited α] {N B : Nat} {rv : Value} {lt : α -> α -> Bool} {St : Array α -> World -> Prop}
section
variable (H : Srt N B rv lt St)
include H
theorem Z56 (lo hi first:Nat) (d:Array α) (w:World) (hH:St d w) (hlo:lo<=hi) (hb:first+hi<=N):
 Calls Tryd.prog 88 #[.iface 92 rv,.int .i64 lo,.int .i64 hi,.int .i64 first] w fun e w'=>e= .returned (.tuple #[])/\St (siftDown lt hi first lo d) w':=by
 have mL:=H.mL;have mS:=H.mS;have hbig:=H.big;go_enter Tryd.func88,Tryd.ntmps88;go_wp2
 go_loopg [8] (hi - lo) (fun kx s8 wr=> ∃(root:Nat) (dk:Array α),s8= .int .i64 root/\root<=hi/\hi - root<=kx/\St dk wr/\Hid (siftDown lt hi first root dk=siftDown lt hi first lo d))
 case atStart=>exact ⟨lo,d,rfl,hlo,Nat.le_refl _,hH,rfl⟩
 case round=>
  obtain ⟨root,dk,rfl,hr,hkx,hS,HE⟩:=hrel;clear hH;by_cases h0:hi<=2 * root+1
  {have h0z: (hi:Int)<=2 * (root:Int)+1:=by omega
   go_wp2
   go_end0
   exact ⟨rfl,by rw[<-HE.out,sd_end lt dk h0]; exact hS⟩}
  {have h0z: ¬((hi:Int)<=2 * (root:Int)+1):=by omega
   go_upto_region 3 with fail
   go_cut [31] (fun p wx=> ∃v:Bool,p= .bool v/\St dk wx/\Hid (v=true->2 * root+2 < hi/\lt dk[first+(2 * root+1)]! dk[first+(2 * root+2)]! =true)/\Hid (v=false->2 * root+2 < hi->lt dk[first+(2 * root+1)]! dk[first+(2 * root+2)]! =false))
   case first=>
    clear HE;by_cases h1:2 * root+2 < hi
    {have h1z:2 * (root:Int)+1+1 < (hi:Int):=by omega
     cases hL:lt dk[first+(2 * root+1)]! dk[first+(2 * root+2)]! <;>
     {go_wp2_with fail
      refine (H.lessAt hS (first+(2 * root+1)) (first+(2 * root+2)) hL (by omega) (by omega) (by omega) (by omega)).mono ?_;rintro e w1 ⟨rfl,hS1, -⟩
      go_wp2_with fail
      go_meet
      exact ⟨_,rfl,hS1,(show Hid _ from fun h=>by first | exact ⟨h1,hL⟩ | cases h),(show Hid _ from fun h _=>by first | exact hL | cases h)⟩}}
    {have h1z: ¬(2 * (root:Int)+1+1 < (hi:Int)):=by omega
     go_wp2_with fail
     go_meet
     exact ⟨_,rfl,hS,(show Hid _ from fun h=>by cases h),(show Hid _ from fun h h2=>absurd h2 h1)⟩}
   case rest=>
    clear hS;obtain ⟨v,rfl,hS,V1,V2⟩:=hcut
    go_upto_if 31 with fail
    go_cut [9] (fun p wx=> ∃c:Nat,p= .int .i64 c/\root < c/\c < hi/\St dk wx/\Hid ((lt dk[first+root]! dk[first+c]! =false->siftDown lt hi first root dk=dk)/\
     (lt dk[first+root]! dk[first+c]! =true->siftDown lt hi first root dk=siftDown lt hi first c (swp dk (first+root) (first+c)))))
    case first=>
     clear HE;cases v with
     | true=>
      have h1:=V1.out rfl;have h1z:2 * (root:Int)+1+1 < (hi:Int):=by omega
      go_wp2_with fail
      go_meet
      exact ⟨2 * root+2,by go_num,by omega,by omega,hS,fun hG=>sd_right_stop lt dk h1.1 h1.2 hG,fun hG=>sd_right_go lt dk h1.1 h1.2 hG⟩
     | false=>
      go_wp2_with fail
      go_meet
      exact ⟨2 * root+1,by go_num,by omega,by omega,hS,fun hG=>sd_left_stop lt dk (by omega) (fun h=>V2.out (by first | trivial | rfl) h) hG,fun hG=>sd_left_go lt dk (by omega) (fun h=>V2.out (by first | trivial | rfl) h) hG⟩
    case rest=>
     clear hS;obtain ⟨c,rfl,hc1,hc2,hS,hC⟩:=hcut;cases hG:lt dk[first+root]! dk[first+c]! with
     | true=>
      go_wp2_with fail
      refine (H.lessAt hS (first+root) (first+c) hG (by omega) (by omega) (by omega) (by omega)).mono ?_;rintro e w2 ⟨rfl,hS2, -⟩
      go_wp2_with fail
      refine (H.swapAt hS2 (first+root) (first+c) (by omega) (by omega) (by omega) (by omega)).mono ?_;rintro e w3 ⟨rfl,hS3, -⟩
      go_wp2_with fail
      go_roundg (hi - c)
      case measure=>omega
      case rel=>exact ⟨c,swp dk (first+root) (first+c),rfl,by omega,Nat.le_refl _,hS3,(show Hid _ from by rw[<-HE.out,hC.out.2 hG]; exact rfl)⟩
     | false=>
      go_wp2_with fail
      refine (H.lessAt hS (first+root) (first+c) hG (by omega) (by omega) (by omega) (by omega)).mono ?_;rintro e w2 ⟨rfl,hS2, -⟩
      go_wp2_with fail
      (try simp only[Exit.inBlock,Exit.then]); refine bodyPost_ret (results_none rfl _ _ _) rfl ?_
      exact ⟨rfl,by rw[<-HE.out,hC.out.1 hG]; exact hS2⟩}
theorem Z8Y (a b:Nat) (d:Array α) (w:World) (hH:St d w) (hab:a < b) (hb:b<=N):
 Calls Tryd.prog 76 #[.iface 92 rv,.int .i64 a,.int .i64 b] w fun e w'=>e= .returned (.tuple #[])/\St (heapSort lt d a b) w':=by
 have mL:=H.mL;have mS:=H.mS;have hbig:=H.big;go_enter Tryd.func76,Tryd.ntmps76;go_wp2
 go_loopg [9] ((b - a - 1) / 2+1) (fun kx s9 wr=> ∃(k:Nat) (dk:Array α),s9= .int .i64 ((k:Int) - 1)/\k<=(b - a - 1) / 2+1/\k<=kx/\St dk wr/\Hid (heapBuild lt (b - a) a k dk=heapBuild lt (b - a) a ((b - a - 1) / 2+1) d))
 case atStart=>exact ⟨(b - a - 1) / 2+1,d,by congr 1; omega,Nat.le_refl _,Nat.le_refl _,hH,rfl⟩
 case round=>
  obtain ⟨k,dk,rfl,hk,hkx,hS,HE⟩:=hrel;clear hH;cases k with
  | succ k=>
   have hz: (0:Int)<=((k+1:Nat):Int) - 1:=by omega
   go_wp2_with fail
   have hc:=Z56 H k (b - a) a dk _ hS (by omega) (by omega);rw[show (((b - a:Nat)):Int)=(b:Int) - (a:Int) by omega] at hc;refine hc.mono ?_;rintro e w1 ⟨rfl,hS1⟩;clear hc
   go_wp2_with fail
   go_roundg k
   case measure=>omega
   case rel=>exact ⟨k,_,rfl,by omega,Nat.le_refl _,hS1,(show Hid _ from by rw[<-HE.out]; exact rfl)⟩
  | zero=>
   have hD:heapBuild lt (b - a) a ((b - a - 1) / 2+1) d=dk:=HE.out.symm;have HD:Hid _:=hD;clear hD HE;go_wp2
   go_loopg [10] (b - a) (fun kx s10 wr=> ∃(k:Nat) (dj:Array α),s10= .int .i64 ((k:Int) - 1)/\k<=b - a/\k<=kx/\St dj wr/\Hid (heapPop lt a k dj=heapPop lt a (b - a) dk))
   case atStart=>exact ⟨b - a,dk,by congr 1; omega,Nat.le_refl _,Nat.le_refl _,hS,rfl⟩
   case round=>
    clear hS;obtain ⟨k,dj,rfl,hk2,hkx2,hS,HE⟩:=hrel;cases k with
    | succ k=>
     have hz: (0:Int)<=((k+1:Nat):Int) - 1:=by omega
     go_wp2_with fail
     refine (H.swapAt hS a (a+k) (by omega) (by omega) (by omega) (by omega)).mono ?_;rintro e w1 ⟨rfl,hS1, -⟩
     go_wp2_with fail
     have hc:=Z56 H 0 k a _ _ hS1 (by omega) (by omega);refine hc.mono ?_;rintro e w2 ⟨rfl,hS2⟩;clear hc
     go_wp2_with fail
     go_roundg k
     case measure=>omega
     case rel=>exact ⟨k,_,rfl,by omega,Nat.le_refl _,hS2,(show Hid _ from by rw[<-HE.out]; exact rfl)⟩
    | zero=>
     go_wp2
     go_end0
     exact ⟨rfl,by unfold heapSort; rw[HD.out, <-HE.out]; exact hS⟩
theorem Zal (a b:Nat) (d:Array α) (w:World) (hH:St d w) (hab:a < b) (hb:b<=N):
 Calls Tryd.prog 79 #[.iface 92 rv,.int .i64 a,.int .i64 b] w fun e w'=>e= .returned (.tuple #[])/\ ∃d',PermIn a b d d'/\St d' w':=by
 have mL:=H.mL;have mS:=H.mS;have hbig:=H.big;have hsz:=H.size d w hH;go_enter Tryd.func79,Tryd.ntmps79;go_wp2
 go_loopg [6,7] (b - a) (fun k s6 s7 wr=> ∃(i j:Int) (dk:Array α),s6= .int .i64 i/\s7= .int .i64 j/\(a:Int)<=i/\i<=b/\(a:Int) - 1<=j/\j < b/\(j - i).toNat<=k/\St dk wr/\Hid (PermIn a b d dk))
 case atStart=>exact ⟨a,(b:Int) - 1,d,rfl,rfl,by omega,by omega,by omega,by omega,by omega,hH,permIn_refl _ _ _⟩
 case round=>
  obtain ⟨i,j,dk,rfl,rfl,h1,h2,h3,h4,hk,hS,HP⟩:=hrel;clear hH;by_cases hlt:i < j
  {have hsk:=H.size _ _ hS
   go_wp2_with fail
   refine (H.swapAt hS i.toNat j.toNat (by omega) (by omega) (by omega) (by omega)).mono ?_;rintro e w1 ⟨rfl,hS1, -⟩
   go_wp2_with fail
   go_roundg ((j - 1) - (i+1)).toNat
   case measure=>omega
   case rel=>exact ⟨i+1,j - 1,_,rfl,rfl,by omega,by omega,by omega,by omega,Nat.le_refl _,hS1,(show Hid _ from permIn_trans _ _ _ a b HP.out (swp_permIn _ _ _ _ _ (by omega) (by omega) (by omega) (by omega) (by omega)))⟩}
  {go_wp2
   go_end0
   exact ⟨rfl,dk,HP.out,hS⟩}
end
end
end Go.Proofs.YtmeiijjpomcgcaaDoor
namespace Go.Proofs
open Go.Shelf
def Tryd.lays129_ren:Go.Shelf.Ren:=⟨fun | 129=>74 | n=>n,fun | 3=>3 | 4=>4 | 5=>5 | 9=>9 | 46=>106 | 53=>121 | n=>n,fun | n=>n⟩
theorem Tryd.lays129:Go.Proofs.Lays.n129 Tryd.prog Tryd.lays129_ren:= {
 mixed:=by kernel_rfl
 f129:=Tryd.func74.trans (congrArg some (by kernel_rfl))
 t3:=Tryd.underlying3
 a3:=Tryd.isAgg3
 z3:=Tryd.sizeOf3
 v3:=Tryd.zeroValue3
 t4:=Tryd.underlying4
 a4:=Tryd.isAgg4
 z4:=Tryd.sizeOf4
 v4:=Tryd.zeroValue4
 t5:=Tryd.underlying5
 a5:=Tryd.isAgg5
 z5:=Tryd.sizeOf5
 v5:=Tryd.zeroValue5
 t9:=Tryd.underlying9
 a9:=Tryd.isAgg9
 z9:=Tryd.sizeOf9
 v9:=Tryd.zeroValue9
 t46:=Tryd.underlying106
 a46:=Tryd.isAgg106
 z46:=Tryd.sizeOf106
 v46:=Tryd.zeroValue106
 t53:=Tryd.underlying121
 a53:=Tryd.isAgg121
 z53:=Tryd.sizeOf121
 v53:=Tryd.zeroValue121 }
section
open Go.RowKit
theorem Tryd.len64 (x:Int) (w:World) (h0:0<=x) (h1:x<=18446744073709551615):
 Calls Tryd.prog 74 #[.int .u64 x] w fun e w'=>e= .returned (.int .i64 (Lib.bitLen x.toNat))/\w'=w:=
 Any.bits_Len64 Tryd.lays129 x w h0 h1
end
end Go.Proofs
namespace Go.Proofs.YtmeiijjpomcgcaaDoor
section
open Go.RowKit Go.Sort
variable {α : Type} [Inhabited α] {N B : Nat} {rv : Value} {lt : α -> α -> Bool} {St : Array α -> World -> Prop}
theorem Z8Z (b0 X:Nat) (hX:X < 18446744073709551616) (w:World) (hc:w.cell? ⟨b0,0,none⟩=some (.int .u64 X)) (hf:w.frozen? ⟨b0,0,none⟩=false):
 Calls Tryd.prog 90 #[.pointer (some ⟨b0,0,none⟩)] w fun e w'=>e= .returned (.int .u64 (xorNextN X:Nat))/\w'=(w.setCell ⟨b0,0,none⟩ (.int .u64 (xorNextN X:Nat))).drewN 3:=by
 obtain ⟨x1,h1⟩: ∃x1:Nat,x1=X ^^^ (X * 8192 % 18446744073709551616):=⟨_,rfl⟩;obtain ⟨x2,h2⟩: ∃x2:Nat,x2=x1 ^^^ (x1 / 128):=⟨_,rfl⟩;obtain ⟨x3,h3⟩: ∃x3:Nat,x3=x2 ^^^ (x2 * 131072 % 18446744073709551616):=⟨_,rfl⟩;have l1:x1 < 18446744073709551616:=by rw[h1]; exact Nat.xor_lt_two_pow (n:=64) (by omega) (by omega)
 have l2:x2 < 18446744073709551616:=by rw[h2]; exact Nat.xor_lt_two_pow (n:=64) (by omega) (by omega)
 have e1:bits .xor .u64 (X:Int) (IntKind.u64.wrap ((X:Int) * 8192))=(x1:Int):=by
  rw[IntKind.wrap_u64,show ((X:Int) * 8192 % 18446744073709551616)=((X * 8192 % 18446744073709551616:Nat):Int) by omega,bits_xor_u64_nat _ _ hX (by omega),h1]
 have e2:bits .xor .u64 (x1:Int) ((x1:Int) / 128)=(x2:Int):=by
  rw[show ((x1:Int) / 128)=((x1 / 128:Nat):Int) by omega,bits_xor_u64_nat _ _ l1 (by omega),h2]
 have e3:bits .xor .u64 (x2:Int) (IntKind.u64.wrap ((x2:Int) * 131072))=(x3:Int):=by
  rw[IntKind.wrap_u64,show ((x2:Int) * 131072 % 18446744073709551616)=((x2 * 131072 % 18446744073709551616:Nat):Int) by omega,bits_xor_u64_nat _ _ l2 (by omega),h3]
 have hv:xorNextN X=x3:=by unfold xorNextN; simp only[]; rw[<-h1, <-h2, <-h3]
 rw[hv];clear h1 h2 h3 hv;have hss: ∀v v',(w.setCell ⟨b0,0,none⟩ v).setCell ⟨b0,0,none⟩ v'=w.setCell ⟨b0,0,none⟩ v':=setCell_setCell w b0 0;go_enter Tryd.func90,Tryd.ntmps90;go_wp2
 go_region
 all_goals go_wp2
 all_goals go_region
 all_goals go_wp2
 all_goals go_region
 all_goals go_wp2
 go_ret;exact ⟨rfl,rfl⟩
section
variable (n : Nat) (hn : n < 4611686018427387904) (w : World)
include n hn w
theorem Z5E:Calls Tryd.prog 62 #[.int .u64 (n:Int)] w fun e w'=>e= .returned (.int .i64 (bitsLen n:Nat))/\w'=w:=by
 have h:=fun w=>Tryd.len64 (n:Int) w (by omega) (by omega);rw[Int.toNat_natCast,bitLen_eq _ (by omega)] at h;go_enter Tryd.func62,Tryd.ntmps62
 go_wp2_with fail
 refine (h _).mono ?_;rintro e w' ⟨rfl,rfl⟩;clear h
 go_wp2_with fail
 go_ret;exact ⟨rfl,rfl⟩
theorem Z7N:Calls Tryd.prog 89 #[.int .i64 n] w fun e w'=>e= .returned (.int .u64 ((1 <<< bitsLen n:Nat):Int))/\w'=w:=by
 have hk:bitsLen n<=62:=(bitsLen_le_iff n 62).2 (by omega);have hp:=wrap_two_pow (bitsLen n) hk;go_enter Tryd.func89,Tryd.ntmps89
 go_wp2_with fail
 refine (Z5E n hn _).mono ?_;rintro e w' ⟨rfl,rfl⟩
 go_wp2_with fail
 go_ret;exact ⟨rfl,rfl⟩
end
theorem Z7O (H:Srt N B rv lt St) (a b:Nat) (d:Array α) (w:World) (hH:St d w) (hab:a+8<=b) (hb:b<=N):
 Calls Tryd.prog 77 #[.iface 92 rv,.int .i64 a,.int .i64 b] w fun e w'=>e= .returned (.tuple #[])/\ ∃d',PermIn a b d d'/\St d' w':=by
 have mS:=H.mS;have hbig:=H.big;have hB:=H.base _ _ hH;obtain ⟨L,hL⟩: ∃L:Nat,L=b - a:=⟨_,rfl⟩;obtain ⟨M,hM⟩: ∃M:Nat,M=1 <<< bitsLen L:=⟨_,rfl⟩;have hM1:1<=M:=by rw[hM,Nat.one_shiftLeft]; exact Nat.two_pow_pos _
 have hM2:M<=2 * L:=by rw[hM,Nat.one_shiftLeft]; exact two_pow_bitsLen_le (by omega)
 have hLz: ((b:Int) - (a:Int))=(L:Int):=by omega
 have h8z: (8:Int)<=(L:Int):=by omega
 have hNP: ∀w,Calls Tryd.prog 89 #[.int .i64 (L:Int)] w fun e w'=>e= .returned (.int .u64 (M:Int))/\w'=w:=by rw[hM]; exact fun w=>Z7N L (by omega) w
 have HL:Hid (L=b - a):=hL;clear hM hL;have hC0: ∃R:Nat,R < 18446744073709551616/\(w.alloc (.cells #[.int .u64 (L:Int)] 134)).cell? ⟨w.heap.size,0,none⟩=some (.int .u64 (R:Int)):=⟨L,by omega,by rw[World.cell?_alloc_at _ _ _ _ rfl]; rfl⟩;have hF0: (w.alloc (.cells #[.int .u64 (L:Int)] 134)).frozen? ⟨w.heap.size,0,none⟩=false:=World.frozen?_alloc_at _ _ _ _ rfl;have hS0:St d (w.alloc (.cells #[.int .u64 (L:Int)] 134)):=H.keep _ _ _ hH (Y2.alloc hB _);have hZ0:w.heap.size < (w.alloc (.cells #[.int .u64 (L:Int)] 134)).heap.size:=by simp
 clear hH;go_enter Tryd.func77,Tryd.ntmps77
 go_wp2_with fail
 refine (hNP _).mono ?_;rintro e w' ⟨rfl,rfl⟩;clear hNP
 go_wp2_with fail
 generalize hW0:w.alloc (.cells #[.int .u64 (L:Int)] 134)=W0 at hC0 hF0 hS0 hZ0 ⊢;generalize w.heap.size=b0 at hC0 hF0 hZ0 hB ⊢;clear hW0
 go_loopg [9] 3 (fun g1 vi wr=> ∃(t R:Nat) (dk:Array α),vi= .int .i64 ((a:Int)+(L:Int) / 4 * 2 - 1+(t:Int))/\t<=3/\3 - t<=g1/\St dk wr/\Hid (PermIn a b d dk)/\R < 18446744073709551616/\
  b0 < wr.heap.size/\wr.cell? ⟨b0,0,none⟩=some (.int .u64 (R:Int))/\wr.frozen? ⟨b0,0,none⟩=false)
 case atStart=>
  obtain ⟨R,h1,h2⟩:=hC0;exact ⟨0,R,d,by simp,by omega,by omega,hS0,permIn_refl _ _ _,h1,hZ0,h2,hF0⟩
 case round=>
  clear hC0 hF0 hS0 hZ0;obtain ⟨t,R,dk,rfl,ht,hg1,hS,HP,lR,hz,cR,fR⟩:=hrel;have hsk:=H.size _ _ hS;have hLg:8<=L:=by have:=HL.out; omega
  by_cases ht3:t < 3
  {have hle: (a:Int)+(L:Int) / 4 * 2 - 1+(t:Int)<=(a:Int)+(L:Int) / 4 * 2+1:=by omega
   obtain ⟨R',hR'⟩: ∃R':Nat,R'=xorNextN R:=⟨_,rfl⟩;have lR':R' < 18446744073709551616:=by rw[hR']; exact xorNextN_lt R lR
   obtain ⟨O,hO⟩: ∃O:Nat,O=R' &&& (M - 1):=⟨_,rfl⟩;have lO:O<=M - 1:=by rw[hO]; exact Nat.and_le_right
   have eAnd:bits .and .u64 (R':Int) ((M:Int) - 1)=(O:Int):=by
    rw[show ((M:Int) - 1)=((M - 1:Nat):Int) by omega,bits_and_u64_nat _ _ lR' (by omega),hO]
   have hN:=Z8Z b0 R lR wr cR fR;rw[<-hR'] at hN;have hS2:St dk ((wr.setCell ⟨b0,0,none⟩ (.int .u64 (R':Int))).drewN 3):=H.keep _ _ _ hS (Z0Q (Y2.setCell hB _) 3);have c2: ((wr.setCell ⟨b0,0,none⟩ (.int .u64 (R':Int))).drewN 3).cell? ⟨b0,0,none⟩=some (.int .u64 (R':Int)):=by rw[World.cell?_drewN]; exact World.cell?_setCell_same _ _ _ cR
   have f2: ((wr.setCell ⟨b0,0,none⟩ (.int .u64 (R':Int))).drewN 3).frozen? ⟨b0,0,none⟩=false:=by rw[World.frozen?_drewN]; simpa using fR
   have z2:b0 < ((wr.setCell ⟨b0,0,none⟩ (.int .u64 (R':Int))).drewN 3).heap.size:=by simpa[World.setCell] using hz
   generalize (wr.setCell ⟨b0,0,none⟩ (.int .u64 (R':Int))).drewN 3=w2 at hN hS2 c2 f2 z2;clear hR' hO cR fR hz hS;have hLn:a+L<=b:=by have:=HL.out; omega
   have hLn':b<=a+L:=by have:=HL.out; omega
   by_cases hLO:L<=O
   {have hLOz: (L:Int)<=(O:Int):=by omega
    go_wp2_with fail
    refine hN.mono ?_;rintro e w1 ⟨rfl,h1⟩;have hS1:St dk w1:=by rw[h1]; exact hS2
    have c1:w1.cell? ⟨b0,0,none⟩=some (.int .u64 (R':Int)):=by rw[h1]; exact c2
    have f1:w1.frozen? ⟨b0,0,none⟩=false:=by rw[h1]; exact f2
    have z1:b0 < w1.heap.size:=by rw[h1]; exact z2
    clear h1 hN c2 f2 z2 hS2
    go_wp2_with fail
    refine (H.swapAt hS1 (a+L / 4 * 2 - 1+t) (a+(O - L)) (by omega) (by omega) (by omega) (by omega)).mono ?_;rintro e w3 ⟨rfl,hS3,hk⟩
    go_wp2_with fail
    go_roundg (3 - (t+1))
    case measure=>omega
    case rel=>exact ⟨t+1,R',_,by congr 1; push_cast; omega,by omega,Nat.le_refl _,hS3,(show Hid _ from permIn_trans _ _ _ a b HP.out (swp_permIn _ _ _ _ _ (by omega) (by omega) (by omega) (by omega) (by omega))),lR',Nat.lt_of_lt_of_le z1 hk.1,(World.cell?_of_block (w:=w1) (hk.2 _ hB z1)).trans c1,(World.frozen?_of_block (w:=w1) (hk.2 _ hB z1)).trans f1⟩}
   {have hLOz: ¬(L:Int)<=(O:Int):=by omega
    go_wp2_with fail
    refine hN.mono ?_;rintro e w1 ⟨rfl,h1⟩;have hS1:St dk w1:=by rw[h1]; exact hS2
    have c1:w1.cell? ⟨b0,0,none⟩=some (.int .u64 (R':Int)):=by rw[h1]; exact c2
    have f1:w1.frozen? ⟨b0,0,none⟩=false:=by rw[h1]; exact f2
    have z1:b0 < w1.heap.size:=by rw[h1]; exact z2
    clear h1 hN c2 f2 z2 hS2
    go_wp2_with fail
    refine (H.swapAt hS1 (a+L / 4 * 2 - 1+t) (a+O) (by omega) (by omega) (by omega) (by omega)).mono ?_;rintro e w3 ⟨rfl,hS3,hk⟩
    go_wp2_with fail
    go_roundg (3 - (t+1))
    case measure=>omega
    case rel=>exact ⟨t+1,R',_,by congr 1; push_cast; omega,by omega,Nat.le_refl _,hS3,(show Hid _ from permIn_trans _ _ _ a b HP.out (swp_permIn _ _ _ _ _ (by omega) (by omega) (by omega) (by omega) (by omega))),lR',Nat.lt_of_lt_of_le z1 hk.1,(World.cell?_of_block (w:=w1) (hk.2 _ hB z1)).trans c1,(World.frozen?_of_block (w:=w1) (hk.2 _ hB z1)).trans f1⟩}}
  {obtain rfl:t=3:=by omega
   have hle: ¬((a:Int)+(L:Int) / 4 * 2 - 1+((3:Nat):Int)<=(a:Int)+(L:Int) / 4 * 2+1):=by omega
   go_wp2
   go_end0
   exact ⟨rfl,dk,HP.out,hS⟩}
structure Cntr (B:Nat) (w:World) (p:Addr) (s:Int):Prop where
 lo:B<=p.block
 lt:p.block < w.heap.size
 at_:w.cell? p=some (.int .i64 s)
 fz:w.frozen? p=false
theorem Cntr.kpt {w w':World} {p:Addr} {s:Int} (h:Cntr B w p s) (hk:Kpt B w w'):Cntr B w' p s:=
 ⟨h.lo,Nat.lt_of_lt_of_le h.lt hk.1,(World.cell?_of_block (w:=w) (hk.2 _ h.lo h.lt)).trans h.at_,(World.frozen?_of_block (w:=w) (hk.2 _ h.lo h.lt)).trans h.fz⟩
section
variable (H : Srt N B rv lt St)
include H
theorem Z2S (a b:Nat) (b0:Nat) (s:Int) (d:Array α) (w:World) (hH:St d w) (ha:a < N) (hb:b < N) (hC:Cntr B w ⟨b0,0,none⟩ s) (hs0:0<=s) (hs:s < 1000):
 Calls Tryd.prog 97 #[.iface 92 rv,.int .i64 a,.int .i64 b,.pointer (some ⟨b0,0,none⟩)] w fun e w'=> ∃(x y:Nat) (s':Int),e= .returned (.tuple #[.int .i64 x,.int .i64 y])/\(x=a/\y=b\/x=b/\y=a)/\St d w'/\Cntr B w' ⟨b0,0,none⟩ s'/\0<=s'/\s'<=s+1:=by
 have mL:=H.mL;have mS:=H.mS;have hbig:=H.big;go_enter Tryd.func97,Tryd.ntmps97;cases hlv:lt d[b]! d[a]! with
 | true=>
  go_wp2_with fail
  refine (H.lessAt hH b a hlv hb ha rfl rfl).mono ?_;rintro e w1 ⟨rfl,hS1,hk⟩;have hC1:=hC.kpt hk;have c0:=hC1.at_;have f0:=hC1.fz;have HC:Hid (Cntr B w1 ⟨b0,0,none⟩ s):=hC1;clear hC hC1 hk
  go_wp2_with fail
  go_ret2
  have hC1:=HC.out;refine ⟨b,a,s+1,rfl,Or.inr ⟨rfl,rfl⟩,H.keep _ _ _ hS1 (Y2.setCell hC1.lo _),⟨hC1.lo,by simpa[World.setCell] using hC1.lt,World.cell?_setCell_same _ _ _ c0,by simpa[World.frozen?_setCell] using f0⟩,by omega,by omega⟩
 | false=>
  go_wp2_with fail
  refine (H.lessAt hH b a hlv hb ha rfl rfl).mono ?_;rintro e w1 ⟨rfl,hS1,hk⟩;have hC1:=hC.kpt hk
  go_wp2_with fail
  go_ret2
  exact ⟨a,b,s,rfl,Or.inl ⟨rfl,rfl⟩,hS1,hC1,hs0,by omega⟩
theorem Z2w (a b c:Nat) (b0:Nat) (s:Int) (d:Array α) (w:World) (hH:St d w) (ha:a < N) (hb:b < N) (hc:c < N) (hC:Cntr B w ⟨b0,0,none⟩ s) (hs0:0<=s) (hs:s < 900):
 Calls Tryd.prog 92 #[.iface 92 rv,.int .i64 a,.int .i64 b,.int .i64 c,.pointer (some ⟨b0,0,none⟩)] w fun e w'=> ∃(x:Nat) (s':Int),e= .returned (.int .i64 x)/\(x=a\/x=b\/x=c)/\St d w'/\Cntr B w' ⟨b0,0,none⟩ s'/\0<=s'/\s'<=s+3:=by
 go_enter Tryd.func92,Tryd.ntmps92
 go_wp2_with fail
 refine (Z2S H a b b0 s d w hH ha hb hC hs0 (by omega)).mono ?_;rintro e w1 ⟨x1,y1,s1,rfl,h1,hS1,hC1,p1,q1⟩
 go_wp2_with fail
 refine (Z2S H y1 c b0 s1 d w1 hS1 (by omega) hc hC1 p1 (by omega)).mono ?_;rintro e w2 ⟨x2,y2,s2,rfl,h2,hS2,hC2,p2,q2⟩
 go_wp2_with fail
 refine (Z2S H x1 x2 b0 s2 d w2 hS2 (by omega) (by omega) hC2 p2 (by omega)).mono ?_;rintro e w3 ⟨x3,y3,s3,rfl,h3,hS3,hC3,p3,q3⟩
 go_wp2_with fail
 go_ret;exact ⟨y3,s3,rfl,by omega,hS3,hC3,p3,by omega⟩
theorem Z2x (a:Nat) (b0:Nat) (s:Int) (d:Array α) (w:World) (hH:St d w) (ha:1<=a) (hb:a+1 < N) (hC:Cntr B w ⟨b0,0,none⟩ s) (hs0:0<=s) (hs:s < 900):
 Calls Tryd.prog 91 #[.iface 92 rv,.int .i64 a,.pointer (some ⟨b0,0,none⟩)] w fun e w'=> ∃(x:Nat) (s':Int),e= .returned (.int .i64 x)/\(a - 1<=x/\x<=a+1)/\St d w'/\Cntr B w' ⟨b0,0,none⟩ s'/\0<=s'/\s'<=s+3:=by
 have hbig:=H.big;have hm:=Z2w H (a - 1) a (a+1) b0 s d w hH (by omega) (by omega) (by omega) hC hs0 hs;rw[show ((a - 1:Nat):Int)=(a:Int) - 1 by omega,show ((a+1:Nat):Int)=(a:Int)+1 by omega] at hm;go_enter Tryd.func91,Tryd.ntmps91
 go_wp2_with fail
 refine hm.mono ?_;rintro e w3 ⟨x3,s3,rfl,h3,hS3,hC3,p3,q3⟩;clear hm
 go_wp2_with fail
 go_ret;exact ⟨x3,s3,rfl,by omega,hS3,hC3,p3,by omega⟩
theorem Z7P (a b:Nat) (d:Array α) (w:World) (hH:St d w) (hab:a+8<=b) (hb:b<=N):
 Calls Tryd.prog 78 #[.iface 92 rv,.int .i64 a,.int .i64 b] w fun e w'=> ∃(p:Nat) (h:Int),e= .returned (.tuple #[.int .i64 p,.int .i64 h])/\a<=p/\p < b/\0<=h/\h<=2/\St d w':=by
 have hbig:=H.big;have hB:=H.base _ _ hH;have hC0:Cntr B (w.alloc (.cells #[.int .i64 0] 3)) ⟨w.heap.size,0,none⟩ 0:=⟨hB,by simp,by rw[World.cell?_alloc_at _ _ _ _ rfl]; rfl,World.frozen?_alloc_at _ _ _ _ rfl⟩;have hS0:St d (w.alloc (.cells #[.int .i64 0] 3)):=H.keep _ _ _ hH (Y2.alloc hB _);obtain ⟨I,hI⟩: ∃I:Nat,I=a+(b - a) / 4 * 1:=⟨_,rfl⟩;obtain ⟨J,hJ⟩: ∃J:Nat,J=a+(b - a) / 4 * 2:=⟨_,rfl⟩;obtain ⟨K,hK⟩: ∃K:Nat,K=a+(b - a) / 4 * 3:=⟨_,rfl⟩;have eI: ((a:Int)+((b:Int) - (a:Int)) / 4)=(I:Int):=by omega
 have eJ: ((a:Int)+((b:Int) - (a:Int)) / 4 * 2)=(J:Int):=by omega
 have eK: ((a:Int)+((b:Int) - (a:Int)) / 4 * 3)=(K:Int):=by omega
 have h8z: (8:Int)<=(b:Int) - (a:Int):=by omega
 have HI:Hid (I=a+(b - a) / 4 * 1):=hI;have HJ:Hid (J=a+(b - a) / 4 * 2):=hJ;have HK:Hid (K=a+(b - a) / 4 * 3):=hK;clear hI hJ hK hH;have cS:=hC0.at_;go_enter Tryd.func78,Tryd.ntmps78
 go_upto_region 3 with fail
 generalize hW0:w.alloc (.cells #[.int .i64 0] 3)=W0 at hC0 hS0 cS ⊢;generalize w.heap.size=b0 at hC0 cS ⊢;clear hW0 hB w cS;by_cases h50:b - a>=50
 {have h50z: (50:Int)<=(b:Int) - (a:Int):=by omega
  have g:1<=I/\K+2<=b/\I+2<=J/\J+2<=K/\a+1<=I:=by have:=HI.out; have:=HJ.out; have:=HK.out; omega
  go_upto_region 8 with fail
  (try rw[eI]); (try rw[eJ]); (try rw[eK])
  clear eI eJ eK
  go_wp2_with fail
  refine (Z2x H I b0 0 d W0 hS0 (by omega) (by omega) hC0 (by omega) (by omega)).mono ?_;rintro e w1 ⟨x1,s1,rfl,h1,hS1,hC1,p1,q1⟩
  go_wp2_with fail
  refine (Z2x H J b0 s1 d w1 hS1 (by omega) (by omega) hC1 (by omega) (by omega)).mono ?_;rintro e w2 ⟨x2,s2,rfl,h2,hS2,hC2,p2,q2⟩
  go_wp2_with fail
  refine (Z2x H K b0 s2 d w2 hS2 (by omega) (by omega) hC2 (by omega) (by omega)).mono ?_;rintro e w3 ⟨x3,s3,rfl,h3,hS3,hC3,p3,q3⟩
  go_wp2_with fail
  refine (Z2w H x1 x2 x3 b0 s3 d w3 hS3 (by omega) (by omega) (by omega) hC3 (by omega) (by omega)).mono ?_;rintro e w4 ⟨x4,s4,rfl,h4,hS4,hC4,p4,q4⟩;have c4:=hC4.at_;have hx:a<=x4/\x4 < b:=by omega
  clear hC4 hC3 hC2 hC1 hC0;by_cases z0:s4=0
  {subst z0
   go_wp2_with fail
   go_ret2
   exact ⟨x4,1,rfl,hx.1,hx.2,by omega,by omega,hS4⟩}
  {by_cases z1:s4=12
   {subst z1
    go_wp2_with fail
    go_ret2
    exact ⟨x4,2,rfl,hx.1,hx.2,by omega,by omega,hS4⟩}
   {go_wp2_with fail
    go_ret2
    exact ⟨x4,0,rfl,hx.1,hx.2,by omega,by omega,hS4⟩}}}
 {have h50z: ¬(50:Int)<=(b:Int) - (a:Int):=by omega
  have g:a<=I/\K < b/\I<=J/\J<=K:=by have:=HI.out; have:=HJ.out; have:=HK.out; omega
  go_upto_region 11 with fail
  (try rw[eI]); (try rw[eJ]); (try rw[eK])
  clear eI eJ eK
  go_wp2_with fail
  refine (Z2w H I J K b0 0 d W0 hS0 (by omega) (by omega) (by omega) hC0 (by omega) (by omega)).mono ?_;rintro e w4 ⟨x4,s4,rfl,h4,hS4,hC4,p4,q4⟩;have c4:=hC4.at_;have hx:a<=x4/\x4 < b:=by omega
  clear hC4 hC0;by_cases z0:s4=0
  {subst z0
   go_wp2_with fail
   go_ret2
   exact ⟨x4,1,rfl,hx.1,hx.2,by omega,by omega,hS4⟩}
  {have z1:s4≠12:=by omega
   go_wp2_with fail
   go_ret2
   exact ⟨x4,0,rfl,hx.1,hx.2,by omega,by omega,hS4⟩}}
theorem Zam (a b pivot:Nat) (d:Array α) (w:World) (hH:St d w) (hap:a<=pivot) (hpb:pivot < b) (hb:b<=N):
 Calls Tryd.prog 81 #[.iface 92 rv,.int .i64 a,.int .i64 b,.int .i64 pivot] w fun e w'=>e= .returned (.int .i64 (Sort.partitionEqual lt d a b pivot).1)/\St (Sort.partitionEqual lt d a b pivot).2 w':=by
 have mL:=H.mL;have mS:=H.mS;have hbig:=H.big;go_enter Tryd.func81,Tryd.ntmps81
 go_wp2_with fail
 refine (H.swapAt hH a pivot (by omega) (by omega) rfl rfl).mono ?_;rintro e w1 ⟨rfl,hS0, -⟩;clear hH
 go_wp2_with fail
 go_loopw [9,10] (fun vi vj wr=> ∃(i j:Nat) (dk:Array α),vi= .int .i64 i/\vj= .int .i64 j/\a < i/\i<=j+1/\j < b/\St dk wr/\Hid (Sort.partEqLoop lt a i j dk=Sort.partEqLoop lt a (a+1) (b - 1) (Sort.swp d a pivot)))
  (fun vi vj _=>(intOf vj).toNat+1 - (intOf vi).toNat)
 case atStart=>exact ⟨a+1,b - 1,_,by go_num,by go_num,by omega,by omega,by omega,hS0,rfl⟩
 case round=>
  clear hS0;obtain ⟨i,j,dk,rfl,rfl,hai,hij,hjb,hS,HE⟩:=hrel
  go_upto_block 2 with fail
  go_cut [9] (fun p wx=> ∃i2:Nat,p= .int .i64 i2/\i<=i2/\i2<=j+1/\St dk wx/\Hid (i2=Sort.scanUp (fun x=> !lt dk[a]! x) dk j i))
  case first=>
   go_wp2_with fail
   go_loopw [9] (fun vi w1=> ∃i':Nat,vi= .int .i64 i'/\i<=i'/\i'<=j+1/\St dk w1/\Hid (Sort.scanUp (fun x=> !lt dk[a]! x) dk j i'=Sort.scanUp (fun x=> !lt dk[a]! x) dk j i)) (fun vi _=>j+1 - (intOf vi).toNat)
   case atStart=>exact ⟨i,rfl,Nat.le_refl _,by omega,hS,rfl⟩
   case round=>
    clear hS;obtain ⟨i',rfl,hii,hij',hS,hsc⟩:=hrel;by_cases hle:i'<=j
    {cases hlv:lt dk[a]! dk[i']! with
     | false=>
      go_wp2_with fail
      refine (H.lessAt hS a i' hlv (by omega) (by omega) rfl rfl).mono ?_;rintro e w' ⟨rfl,hS1, -⟩
      go_wp2_with fail
      go_roundw
      case rel=>exact ⟨i'+1,by go_num,by omega,by omega,hS1,(show Hid _ from (scanUp_go (fun x=> !lt dk[a]! x) dk j i' hle (by simp[hlv])).symm.trans hsc.out)⟩
      case measure=>simp[intOf]; omega
     | true=>
      go_wp2_with fail
      refine (H.lessAt hS a i' hlv (by omega) (by omega) rfl rfl).mono ?_;rintro e w' ⟨rfl,hS1, -⟩
      go_wp2_with fail
      go_meet
      exact ⟨i',rfl,hii,hij',hS1,(show Hid _ from (scanUp_end (fun x=> !lt dk[a]! x) dk j i' (Or.inr (by simp[hlv]))).symm.trans hsc.out)⟩}
    {go_wp2_with fail
     go_meet
     exact ⟨i',rfl,hii,hij',hS,(show Hid _ from (scanUp_end (fun x=> !lt dk[a]! x) dk j i' (Or.inl hle)).symm.trans hsc.out)⟩}
  case rest=>
   clear hS;obtain ⟨i2,rfl,hi2,hi2j,hS,HI⟩:=hcut
   go_upto_block 4 with fail
   go_cut [10] (fun p wx=> ∃j2:Nat,p= .int .i64 j2/\j2<=j/\i2<=j2+1/\St dk wx/\Hid (j2=Sort.scanDown (fun x=>lt dk[a]! x) dk i2 j))
   case first=>
    go_wp2_with fail
    go_loopw [10] (fun vj w1=> ∃j':Nat,vj= .int .i64 j'/\j'<=j/\i2<=j'+1/\St dk w1/\Hid (Sort.scanDown (fun x=>lt dk[a]! x) dk i2 j'=Sort.scanDown (fun x=>lt dk[a]! x) dk i2 j)) (fun vj _=>(intOf vj).toNat)
    case atStart=>exact ⟨j,rfl,Nat.le_refl _,by omega,hS,rfl⟩
    case round=>
     clear hS;obtain ⟨j',rfl,hjj,hij',hS,hsc⟩:=hrel;by_cases hle:i2<=j'
     {cases hlv:lt dk[a]! dk[j']! with
      | true=>
       go_wp2_with fail
       refine (H.lessAt hS a j' hlv (by omega) (by omega) rfl rfl).mono ?_;rintro e w' ⟨rfl,hS1, -⟩
       go_wp2_with fail
       go_roundw
       case rel=>exact ⟨j' - 1,by go_num,by omega,by omega,hS1,(show Hid _ from (scanDown_go (fun x=>lt dk[a]! x) dk i2 j' hle (by omega) (by simp[hlv])).symm.trans hsc.out)⟩
       case measure=>simp[intOf]; omega
      | false=>
       go_wp2_with fail
       refine (H.lessAt hS a j' hlv (by omega) (by omega) rfl rfl).mono ?_;rintro e w' ⟨rfl,hS1, -⟩
       go_wp2_with fail
       go_meet
       exact ⟨j',rfl,hjj,hij',hS1,(show Hid _ from (scanDown_end (fun x=>lt dk[a]! x) dk i2 j' (Or.inr (by simp[hlv]))).symm.trans hsc.out)⟩}
     {go_wp2_with fail
      go_meet
      exact ⟨j',rfl,hjj,hij',hS,(show Hid _ from (scanDown_end (fun x=>lt dk[a]! x) dk i2 j' (Or.inl hle)).symm.trans hsc.out)⟩}
   case rest=>
    clear hS;obtain ⟨j2,rfl,hj2,hj2i,hS,HJ⟩:=hcut;by_cases hgt:j2 < i2
    {go_wp2_with fail
     go_ret;have e:=partEq_break lt a i j dk HI.out HJ.out hgt;have e2:=HE.out.symm.trans e;unfold Sort.partitionEqual;rw[e2];exact ⟨rfl,hS⟩}
    {have hlt3:=scans_lt lt a i j dk (by omega) HI.out HJ.out (by omega)
     go_wp2_with fail
     refine (H.swapAt hS i2 j2 (by omega) (by omega) rfl rfl).mono ?_;rintro e w3 ⟨rfl,hS3, -⟩
     go_wp2_with fail
     go_roundw
     case rel=>exact ⟨i2+1,j2 - 1,_,by go_num,by go_num,by omega,by omega,by omega,hS3,(show Hid _ from by rw[<-HE.out]; exact (partEq_go lt a i j dk HI.out HJ.out (by omega)).symm)⟩
     case measure=>simp[intOf]; omega}
theorem Z90 (a b pivot:Nat) (d:Array α) (w:World) (hH:St d w) (hap:a<=pivot) (hpb:pivot < b) (hb:b<=N):
 Calls Tryd.prog 82 #[.iface 92 rv,.int .i64 a,.int .i64 b,.int .i64 pivot] w fun e w'=>
  e= .returned (.tuple #[.int .i64 (Sort.partition lt d a b pivot).1,.bool (Sort.partition lt d a b pivot).2.1])/\St (Sort.partition lt d a b pivot).2.2 w':=by
 have mL:=H.mL;have mS:=H.mS;have hbig:=H.big;obtain ⟨i,hi⟩: ∃i:Nat,i=a+1:=⟨_,rfl⟩;obtain ⟨j,hj⟩: ∃j:Nat,j=b - 1:=⟨_,rfl⟩;obtain ⟨dk,hdk⟩: ∃dk:Array α,dk=Sort.swp d a pivot:=⟨_,rfl⟩;have eI: (a:Int)+1=(i:Int):=by omega
 have eJ: (b:Int) - 1=(j:Int):=by omega
 have hai:a < i:=by omega
 have hij:i<=j+1:=by omega
 have hjb:j < b:=by omega
 have HI0:Hid (i=a+1):=hi;have HJ0:Hid (j=b - 1):=hj;have HD0:Hid (dk=Sort.swp d a pivot):=hdk;clear hi hj;go_enter Tryd.func82,Tryd.ntmps82
 go_wp2_with fail
 refine (H.swapAt hH a pivot (by omega) (by omega) rfl rfl).mono ?_;rintro e w1 ⟨rfl,hS, -⟩;rw[<-hdk] at hS;clear hH hdk
 go_upto_block 0 with fail
 go_cut [10] (fun p wx=> ∃i2:Nat,p= .int .i64 i2/\i<=i2/\i2<=j+1/\St dk wx/\Hid (i2=Sort.scanUp (fun x=>lt x dk[a]!) dk j i))
 case first=>
  go_wp2_with fail
  go_loopw [10] (fun vi w1=> ∃i':Nat,vi= .int .i64 i'/\i<=i'/\i'<=j+1/\St dk w1/\Hid (Sort.scanUp (fun x=>lt x dk[a]!) dk j i'=Sort.scanUp (fun x=>lt x dk[a]!) dk j i)) (fun vi _=>j+1 - (intOf vi).toNat)
  case atStart=>exact ⟨i,rfl,Nat.le_refl _,by omega,hS,rfl⟩
  case round=>
   clear hS;obtain ⟨i',rfl,hii,hij',hS,hsc⟩:=hrel;by_cases hle:i'<=j
   {cases hlv:lt dk[i']! dk[a]! with
    | true=>
     go_wp2_with fail
     refine (H.lessAt hS i' a hlv (by omega) (by omega) rfl rfl).mono ?_;rintro e w' ⟨rfl,hS1, -⟩
     go_wp2_with fail
     go_roundw
     case rel=>exact ⟨i'+1,by go_num,by omega,by omega,hS1,(show Hid _ from (scanUp_go (fun x=>lt x dk[a]!) dk j i' hle (by simp[hlv])).symm.trans hsc.out)⟩
     case measure=>simp[intOf]; omega
    | false=>
     go_wp2_with fail
     refine (H.lessAt hS i' a hlv (by omega) (by omega) rfl rfl).mono ?_;rintro e w' ⟨rfl,hS1, -⟩
     go_wp2_with fail
     go_meet
     exact ⟨i',rfl,hii,hij',hS1,(show Hid _ from (scanUp_end (fun x=>lt x dk[a]!) dk j i' (Or.inr (by simp[hlv]))).symm.trans hsc.out)⟩}
   {go_wp2_with fail
    go_meet
    exact ⟨i',rfl,hii,hij',hS,(show Hid _ from (scanUp_end (fun x=>lt x dk[a]!) dk j i' (Or.inl hle)).symm.trans hsc.out)⟩}
 case rest=>
  clear hS;obtain ⟨i2,rfl,hi2,hi2j,hS,HI⟩:=hcut
  go_upto_block 2 with fail
  go_cut [11] (fun p wx=> ∃j2:Nat,p= .int .i64 j2/\j2<=j/\i2<=j2+1/\St dk wx/\Hid (j2=Sort.scanDown (fun x=> !lt x dk[a]!) dk i2 j))
  case first=>
   go_wp2_with fail
   go_loopw [11] (fun vj w1=> ∃j':Nat,vj= .int .i64 j'/\j'<=j/\i2<=j'+1/\St dk w1/\Hid (Sort.scanDown (fun x=> !lt x dk[a]!) dk i2 j'=Sort.scanDown (fun x=> !lt x dk[a]!) dk i2 j)) (fun vj _=>(intOf vj).toNat)
   case atStart=>exact ⟨j,rfl,Nat.le_refl _,by omega,hS,rfl⟩
   case round=>
    clear hS;obtain ⟨j',rfl,hjj,hij',hS,hsc⟩:=hrel;by_cases hle:i2<=j'
    {cases hlv:lt dk[j']! dk[a]! with
     | false=>
      go_wp2_with fail
      refine (H.lessAt hS j' a hlv (by omega) (by omega) rfl rfl).mono ?_;rintro e w' ⟨rfl,hS1, -⟩
      go_wp2_with fail
      go_roundw
      case rel=>exact ⟨j' - 1,by go_num,by omega,by omega,hS1,(show Hid _ from (scanDown_go (fun x=> !lt x dk[a]!) dk i2 j' hle (by omega) (by simp[hlv])).symm.trans hsc.out)⟩
      case measure=>simp[intOf]; omega
     | true=>
      go_wp2_with fail
      refine (H.lessAt hS j' a hlv (by omega) (by omega) rfl rfl).mono ?_;rintro e w' ⟨rfl,hS1, -⟩
      go_wp2_with fail
      go_meet
      exact ⟨j',rfl,hjj,hij',hS1,(show Hid _ from (scanDown_end (fun x=> !lt x dk[a]!) dk i2 j' (Or.inr (by simp[hlv]))).symm.trans hsc.out)⟩}
    {go_wp2_with fail
     go_meet
     exact ⟨j',rfl,hjj,hij',hS,(show Hid _ from (scanDown_end (fun x=> !lt x dk[a]!) dk i2 j' (Or.inl hle)).symm.trans hsc.out)⟩}
  case rest=>
   clear hS;obtain ⟨j2,rfl,hj2,hj2i,hS,HJ⟩:=hcut;clear eI eJ;by_cases hgt:j2 < i2
   {go_wp2_with fail
    refine (H.swapAt hS j2 a (by omega) (by omega) rfl rfl).mono ?_;rintro e w3 ⟨rfl,hS3, -⟩
    go_wp2_with fail
    go_ret2
    have e:=part_first_break lt d a b pivot HI0.out HJ0.out HD0.out HI.out HJ.out hgt;rw[e];exact ⟨rfl,hS3⟩}
   {have hlt3:=part_scans_lt lt a i j dk (by omega) HI.out HJ.out (by omega)
    go_wp2_with fail
    refine (H.swapAt hS i2 j2 (by omega) (by omega) rfl rfl).mono ?_;rintro e w3 ⟨rfl,hS3, -⟩
    go_wp2_with fail
    (try rw[decide_eq_false (show ¬j2 < i2 by omega)])
    obtain ⟨I0,hI0⟩: ∃I0:Nat,I0=i2+1:=⟨_,rfl⟩;obtain ⟨J0,hJ0⟩: ∃J0:Nat,J0=j2 - 1:=⟨_,rfl⟩;obtain ⟨D0,hD0⟩: ∃D0:Array α,D0=Sort.swp dk i2 j2:=⟨_,rfl⟩;have PF:Hid (Sort.partition lt d a b pivot=((Sort.partLoop lt a I0 J0 D0).1,false,Sort.swp (Sort.partLoop lt a I0 J0 D0).2 (Sort.partLoop lt a I0 J0 D0).1 a)):=by
     rw[hI0,hJ0,hD0]; exact part_first_go lt d a b pivot HI0.out HJ0.out HD0.out HI.out HJ.out (by omega)
    rw[<-hD0] at hS3
    go_loopw [10,11] (fun vi vj wr=> ∃(i j:Nat) (dk:Array α),vi= .int .i64 i/\vj= .int .i64 j/\a < i/\i<=j+1/\j < b/\St dk wr/\Hid (Sort.partLoop lt a i j dk=Sort.partLoop lt a I0 J0 D0))
     (fun vi vj _=>(intOf vj).toNat+1 - (intOf vi).toNat)
    case atStart=>exact ⟨I0,J0,D0,by rw[hI0]; go_num,by rw[hJ0]; go_num,by omega,by omega,by omega,hS3,rfl⟩
    case round=>
     clear hI0 hJ0 hD0 HJ HI hS hS3 hlt3 hgt HI0 HJ0 HD0 hj2 hj2i hi2 hi2j hai hij hjb;obtain ⟨i,j,dk,rfl,rfl,hai,hij,hjb,hS,HE⟩:=hrel
     go_upto_block 6 with fail
     go_cut [10] (fun p wx=> ∃i2:Nat,p= .int .i64 i2/\i<=i2/\i2<=j+1/\St dk wx/\Hid (i2=Sort.scanUp (fun x=>lt x dk[a]!) dk j i))
     case first=>
      go_wp2_with fail
      go_loopw [10] (fun vi w1=> ∃i':Nat,vi= .int .i64 i'/\i<=i'/\i'<=j+1/\St dk w1/\Hid (Sort.scanUp (fun x=>lt x dk[a]!) dk j i'=Sort.scanUp (fun x=>lt x dk[a]!) dk j i)) (fun vi _=>j+1 - (intOf vi).toNat)
      case atStart=>exact ⟨i,rfl,Nat.le_refl _,by omega,hS,rfl⟩
      case round=>
       clear hS;obtain ⟨i',rfl,hii,hij',hS,hsc⟩:=hrel;by_cases hle:i'<=j
       {cases hlv:lt dk[i']! dk[a]! with
        | true=>
         go_wp2_with fail
         refine (H.lessAt hS i' a hlv (by omega) (by omega) rfl rfl).mono ?_;rintro e w' ⟨rfl,hS1, -⟩
         go_wp2_with fail
         go_roundw
         case rel=>exact ⟨i'+1,by go_num,by omega,by omega,hS1,(show Hid _ from (scanUp_go (fun x=>lt x dk[a]!) dk j i' hle (by simp[hlv])).symm.trans hsc.out)⟩
         case measure=>simp[intOf]; omega
        | false=>
         go_wp2_with fail
         refine (H.lessAt hS i' a hlv (by omega) (by omega) rfl rfl).mono ?_;rintro e w' ⟨rfl,hS1, -⟩
         go_wp2_with fail
         go_meet
         exact ⟨i',rfl,hii,hij',hS1,(show Hid _ from (scanUp_end (fun x=>lt x dk[a]!) dk j i' (Or.inr (by simp[hlv]))).symm.trans hsc.out)⟩}
       {go_wp2_with fail
        go_meet
        exact ⟨i',rfl,hii,hij',hS,(show Hid _ from (scanUp_end (fun x=>lt x dk[a]!) dk j i' (Or.inl hle)).symm.trans hsc.out)⟩}
     case rest=>
      clear hS;obtain ⟨i2,rfl,hi2,hi2j,hS,HI⟩:=hcut
      go_upto_block 8 with fail
      go_cut [11] (fun p wx=> ∃j2:Nat,p= .int .i64 j2/\j2<=j/\i2<=j2+1/\St dk wx/\Hid (j2=Sort.scanDown (fun x=> !lt x dk[a]!) dk i2 j))
      case first=>
       go_wp2_with fail
       go_loopw [11] (fun vj w1=> ∃j':Nat,vj= .int .i64 j'/\j'<=j/\i2<=j'+1/\St dk w1/\Hid (Sort.scanDown (fun x=> !lt x dk[a]!) dk i2 j'=Sort.scanDown (fun x=> !lt x dk[a]!) dk i2 j)) (fun vj _=>(intOf vj).toNat)
       case atStart=>exact ⟨j,rfl,Nat.le_refl _,by omega,hS,rfl⟩
       case round=>
        clear hS;obtain ⟨j',rfl,hjj,hij',hS,hsc⟩:=hrel;by_cases hle:i2<=j'
        {cases hlv:lt dk[j']! dk[a]! with
         | false=>
          go_wp2_with fail
          refine (H.lessAt hS j' a hlv (by omega) (by omega) rfl rfl).mono ?_;rintro e w' ⟨rfl,hS1, -⟩
          go_wp2_with fail
          go_roundw
          case rel=>exact ⟨j' - 1,by go_num,by omega,by omega,hS1,(show Hid _ from (scanDown_go (fun x=> !lt x dk[a]!) dk i2 j' hle (by omega) (by simp[hlv])).symm.trans hsc.out)⟩
          case measure=>simp[intOf]; omega
         | true=>
          go_wp2_with fail
          refine (H.lessAt hS j' a hlv (by omega) (by omega) rfl rfl).mono ?_;rintro e w' ⟨rfl,hS1, -⟩
          go_wp2_with fail
          go_meet
          exact ⟨j',rfl,hjj,hij',hS1,(show Hid _ from (scanDown_end (fun x=> !lt x dk[a]!) dk i2 j' (Or.inr (by simp[hlv]))).symm.trans hsc.out)⟩}
        {go_wp2_with fail
         go_meet
         exact ⟨j',rfl,hjj,hij',hS,(show Hid _ from (scanDown_end (fun x=> !lt x dk[a]!) dk i2 j' (Or.inl hle)).symm.trans hsc.out)⟩}
      case rest=>
       clear hS;obtain ⟨j2,rfl,hj2,hj2i,hS,HJ⟩:=hcut;by_cases hgt:j2 < i2
       {have HE2:Hid (Sort.partLoop lt a I0 J0 D0=(j2,dk)):=HE.out.symm.trans (part_break lt a i j dk HI.out HJ.out hgt)
        go_wp2_with fail
        refine (H.swapAt hS j2 a (by omega) (by omega) rfl rfl).mono ?_;rintro e w3 ⟨rfl,hS3, -⟩
        go_wp2_with fail
        go_ret2
        rw[PF.out,HE2.out];exact ⟨rfl,hS3⟩}
       {have hlt3:=part_scans_lt lt a i j dk (by omega) HI.out HJ.out (by omega)
        go_wp2_with fail
        refine (H.swapAt hS i2 j2 (by omega) (by omega) rfl rfl).mono ?_;rintro e w3 ⟨rfl,hS3, -⟩
        go_wp2_with fail
        go_roundw
        case rel=>exact ⟨i2+1,j2 - 1,_,by go_num,by go_num,by omega,by omega,by omega,hS3,(show Hid _ from by rw[<-HE.out]; exact (part_go lt a i j dk HI.out HJ.out (by omega)).symm)⟩
        case measure=>simp[intOf]; omega}}
end
end
end Go.Proofs.YtmeiijjpomcgcaaDoor
