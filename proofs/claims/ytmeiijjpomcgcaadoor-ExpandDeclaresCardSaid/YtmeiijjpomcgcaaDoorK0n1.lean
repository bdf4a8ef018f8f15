/- What the proofs of ExpandDeclares want, part 1. -/
import Derived.Maps.OwnSet
import Derived.DeepKeys4
import Derived.Test.YtmeiijjpomcgcaaDoorK0n0
set_option linter.unusedVariables false
set_option linter.unusedSimpArgs false
set_option linter.unusedSectionVars false
set_option maxRecDepth 100000
set_option maxHeartbeats 16000000
namespace Go.Proofs.YtmeiijjpomcgcaaDoor
section
open Go.RowKit Shp
theorem Z7m (A:Option Addr) (c:Nat) (l:List (List UInt8)) (p:Nat) (w:World) (hA:Strs w w.heap.size A (strs l)) (hl:l.length<=9223372036854775807) (hx: ∀x∈l,x.length<=9223372036854775807):
 Y9 66 #[.slice A l.length c,.int .i64 (p:Int)] w (.bool (areNames l&&decide (l.length=p))):=by
 have HA:=Y1 hA;have HX:=Y1 hx;clear hA hx;go_enter Tryd.func66,Tryd.ntmps66
 go_wp2_with fail
 go_loopw [5] (fun ii wr=> ∃i:Nat,ii= .int .i64 i/\i<=l.length/\Hid (∀j (hj:j < l.length),j < i->Lex.isName (l[j]'hj)=true/\ ∀k (hk:k < j),l[k]'(by omega)≠l[j]'hj)/\Below w.heap.size w wr)
  (fun i _=>l.length - (intOf i).toNat)
 case atStart=>exact ⟨0,rfl,Nat.zero_le _,Y1 (fun j _ hj=>absurd hj (by omega)),Below.refl _ _⟩
 case round=>
  obtain ⟨i,rfl,hi,HN,hb⟩:=hrel;by_cases hlt:i < l.length
  {have hi1: (i:Int) < (l.length:Int):=by omega
   rcases (HA.out.next hb).cell7 with h0 | ⟨g,off,rfl,hg,hc⟩
   {omega}
   {have hcell:=hc i hlt;obtain ⟨x,hx⟩: ∃x,x=l[i]'hlt:=⟨_,rfl⟩;rw[<-hx] at hcell;have hxl:x.length<=9223372036854775807:=by rw[hx]; exact HX.out _ (List.getElem_mem _)
    have HE:=Y1 hx;have HC:=Y1 hc;clear hx hc;cases hn:Lex.isName x with
    | false=>
     have HF:Hid (areNames l=false):=Y1 (Z3Q hlt (by rw[<-HE.out]; exact hn));have hw:=Z3o x hxl wr;rw[hn] at hw;clear hn
     go_wp2_with (refine hw.mono ?_; rintro e w' ⟨rfl,hb'⟩)
     go_ret;exact ⟨by rw[HF.out]; rfl,Z03 hb hb'⟩
    | true=>
     have HT:Hid (Lex.isName (l[i]'hlt)=true):=Y1 (by rw[<-HE.out]; exact hn);have hw:=Z3o x hxl wr;rw[hn] at hw;clear hn
     go_wp2_with (refine hw.mono ?_; rintro e w' ⟨rfl,hb'⟩)
     have hbw:=Z03 hb hb';have HC2:Hid (∀j (hj:j < l.length),w'.cell? ⟨g,off+j,none⟩=some (.string ⟨(l[j]'hj).toArray⟩)):=Y1 (fun j hj=>((hb'.cell (p:=⟨g,off+j,none⟩) hg).trans (HC.out j hj)));have hcell2:=HC2.out i hlt;rw[<-HE.out] at hcell2;have HH2:=Y1 hcell2;have HBW:=Y1 hbw;clear hw hb hb' hbw hcell hcell2
     go_loopw [6] (fun kk wr2=> ∃k:Nat,kk= .int .i64 k/\k<=i/\Hid (∀j (hj:j < i),j < k->l[j]'(by omega)≠l[i]'hlt)/\Hid (Below w'.heap.size w' wr2))
      (fun k _=>i - (intOf k).toNat)
     case atStart=>exact ⟨0,rfl,Nat.zero_le _,Y1 (fun j _ hj=>absurd hj (by omega)),Y1 Y2⟩
     case round=>
      obtain ⟨k,rfl,hk,HK,HB2⟩:=hrel;have hgw:g < w'.heap.size:=Z1N HH2.out;by_cases hki:k < i
      {have hk1: (k:Int) < (i:Int):=by omega
       have hk2: (k:Int) < (l.length:Int):=by omega
       have hck:=(HB2.out.cell (p:=⟨g,off+k,none⟩) hgw).trans (HC2.out k (by omega));have hci:=(HB2.out.cell (p:=⟨g,off+i,none⟩) hgw).trans HH2.out;obtain ⟨y,hy⟩: ∃y,y=l[k]'(by omega):=⟨_,rfl⟩;rw[<-hy] at hck;have HY:=Y1 hy;clear hy;cases hq: (y==x)
       {have HM:Hid (l[k]'(by omega)≠l[i]'hlt):=Y1 (by rw[<-HY.out, <-HE.out]; intro h; rw[h] at hq; simp at hq)
        go_wp2_with fail
        go_quiet (fail)
        go_wp2
        go_roundw
        case rel=>exact ⟨k+1,by go_num,by omega,Y1 (fun j hj hji=>by
         rcases Nat.lt_succ_iff_lt_or_eq.1 hji with h | rfl
         {exact HK.out j hj h}
         · exact HM.out),Y1 (Z0Q HB2.out _)⟩
        case measure=>simp[intOf]; omega}
       {have HF:Hid (areNames l=false):=Y1 (Z37 hlt hki (by rw[<-HY.out, <-HE.out]; simpa using hq))
        go_wp2_with fail
        go_quiet (fail)
        go_wp2;go_ret;exact ⟨by rw[HF.out]; rfl,Z0Q (Z03 HBW.out HB2.out) _⟩}}
      {have hke:k=i:=by omega
       have HN2:Hid (∀j (hj:j < l.length),j < i+1->Lex.isName (l[j]'hj)=true/\ ∀k (hk:k < j),l[k]'(by omega)≠l[j]'hj):=Y1 (fun j hj hji=>by
        rcases Nat.lt_succ_iff_lt_or_eq.1 hji with h | rfl
        {exact HN.out j hj h}
        · exact ⟨HT.out,fun m hm=>HK.out m hm (by omega)⟩)
       have hk1: ¬(k:Int) < (i:Int):=by omega
       clear hke;go_wp2
       go_roundw
       case rel=>exact ⟨i+1,by go_num,by omega,HN2,Z03 HBW.out HB2.out⟩
       case measure=>simp[intOf]; omega}}}
  {have hi1: ¬(i:Int) < (l.length:Int):=by omega
   have HM:Hid (areNames l=true):=Y1 (Z4h (fun j hj=>(HN.out j hj (by omega)).1) (fun j hj=>(HN.out j hj (by omega)).2));go_wp2;go_ret;exact ⟨Z0p (by rw[HM.out,Bool.true_and,Bool.eq_iff_iff]; simp; omega),hb⟩}
end
end Go.Proofs.YtmeiijjpomcgcaaDoor
namespace Lex
section
def join:List (List UInt8)->List UInt8
 | []=> []
 | [p]=>p
 | p::q::ps=>p++32::join (q::ps)
def Placed (s:List UInt8):Nat->List (Tok×Nat)->Prop
 | a,[]=>a<=s.length
 | a,(t,p)::r=>a<=p/\p<=s.length/\1<=t.kind/\t.kind<=7/\(t.kind=4->Placed s (p+2) r)/\(t.kind≠4->p+t.text.length<=s.length/\(s.drop p).take t.text.length=t.text/\Placed s (p+t.text.length) r)
theorem Placed.less {s:List UInt8} {a b:Nat} (hab:b<=a): ∀ {l:List (Tok×Nat)},Placed s a l->Placed s b l
 | [],h=>Nat.le_trans hab h
 | (t,p)::r,h=>by
  obtain ⟨h1,h2⟩:=h;exact ⟨Nat.le_trans hab h1,h2⟩
def up (k:Nat):Except Nat Nat->Except Nat Nat
 | .ok n=> .ok (k+n)
 | .error n=> .error (k+n)
end
end Lex
namespace Lex
def letter (c:UInt8):Bool:=small c||great c
theorem Z6o (c:UInt8):nameB c=(letter c||digit c||c==95):=rfl
end Lex
namespace Go.Proofs.YtmeiijjpomcgcaaDoor
open Go.RowKit
section
variable (c : UInt8) (w : World)
include c w
theorem Z1q:
 Calls Tryd.prog 69 #[.int .u8 (c.toNat:Int)] w fun e w'=>e= .returned (.bool (Lex.small c))/\w=w':=by
 have hlt:=c.toNat_lt;have H:c.toNat<=96\/(97<=c.toNat/\c.toNat<=122)\/123<=c.toNat:=by omega
 have HB:Hid (Lex.small c=(decide (97<=c.toNat)&&decide (c.toNat<=122))):=Y1 rfl;obtain ⟨n,hn⟩: ∃n,n=c.toNat:=⟨_,rfl⟩;rw[<-hn] at H HB hlt ⊢;clear hn;rcases H with h1 | ⟨h1,h2⟩ | h1
 {have h3:decide ((97:Int)<=(n:Int))=false:=decide_eq_false (by omega);go_enter Tryd.func69,Tryd.ntmps69;go_wp2;go_ret;exact ⟨by rw[HB.out,decide_eq_false (by omega)]; rfl,rfl⟩}
 {have h3:decide ((n:Int)<=122)=true:=decide_eq_true (by omega);have h4:decide ((97:Int)<=(n:Int))=true:=decide_eq_true (by omega);go_enter Tryd.func69,Tryd.ntmps69;go_wp2;go_ret;exact ⟨by rw[HB.out,decide_eq_true h1,decide_eq_true h2]; rfl,rfl⟩}
 {have h3:decide ((n:Int)<=122)=false:=decide_eq_false (by omega);have h4:decide ((97:Int)<=(n:Int))=true:=decide_eq_true (by omega);go_enter Tryd.func69,Tryd.ntmps69;go_wp2;go_ret;exact ⟨by rw[HB.out,decide_eq_false (p:=n<=122) (by omega),Bool.and_false]; rfl,rfl⟩}
theorem Z2N:
 Calls Tryd.prog 72 #[.int .u8 (c.toNat:Int)] w fun e w'=>e= .returned (.bool (Lex.great c))/\w=w':=by
 have hlt:=c.toNat_lt;have H:c.toNat<=64\/(65<=c.toNat/\c.toNat<=90)\/91<=c.toNat:=by omega
 have HB:Hid (Lex.great c=(decide (65<=c.toNat)&&decide (c.toNat<=90))):=Y1 rfl;obtain ⟨n,hn⟩: ∃n,n=c.toNat:=⟨_,rfl⟩;rw[<-hn] at H HB hlt ⊢;clear hn;rcases H with h1 | ⟨h1,h2⟩ | h1
 {have h3:decide ((65:Int)<=(n:Int))=false:=decide_eq_false (by omega);go_enter Tryd.func72,Tryd.ntmps72;go_wp2;go_ret;exact ⟨by rw[HB.out,decide_eq_false (by omega)]; rfl,rfl⟩}
 {have h3:decide ((n:Int)<=90)=true:=decide_eq_true (by omega);have h4:decide ((65:Int)<=(n:Int))=true:=decide_eq_true (by omega);go_enter Tryd.func72,Tryd.ntmps72;go_wp2;go_ret;exact ⟨by rw[HB.out,decide_eq_true h1,decide_eq_true h2]; rfl,rfl⟩}
 {have h3:decide ((n:Int)<=90)=false:=decide_eq_false (by omega);have h4:decide ((65:Int)<=(n:Int))=true:=decide_eq_true (by omega);go_enter Tryd.func72,Tryd.ntmps72;go_wp2;go_ret;exact ⟨by rw[HB.out,decide_eq_false (p:=n<=90) (by omega),Bool.and_false]; rfl,rfl⟩}
theorem Z2O:
 Calls Tryd.prog 96 #[.int .u8 (c.toNat:Int)] w fun e w'=>e= .returned (.bool (Lex.digit c))/\w=w':=by
 have hlt:=c.toNat_lt;have H:c.toNat<=47\/(48<=c.toNat/\c.toNat<=57)\/58<=c.toNat:=by omega
 have HB:Hid (Lex.digit c=(decide (48<=c.toNat)&&decide (c.toNat<=57))):=Y1 rfl;obtain ⟨n,hn⟩: ∃n,n=c.toNat:=⟨_,rfl⟩;rw[<-hn] at H HB hlt ⊢;clear hn;rcases H with h1 | ⟨h1,h2⟩ | h1
 {have h3:decide ((48:Int)<=(n:Int))=false:=decide_eq_false (by omega);go_enter Tryd.func96,Tryd.ntmps96;go_wp2;go_ret;exact ⟨by rw[HB.out,decide_eq_false (by omega)]; rfl,rfl⟩}
 {have h3:decide ((n:Int)<=57)=true:=decide_eq_true (by omega);have h4:decide ((48:Int)<=(n:Int))=true:=decide_eq_true (by omega);go_enter Tryd.func96,Tryd.ntmps96;go_wp2;go_ret;exact ⟨by rw[HB.out,decide_eq_true h1,decide_eq_true h2]; rfl,rfl⟩}
 {have h3:decide ((n:Int)<=57)=false:=decide_eq_false (by omega);have h4:decide ((48:Int)<=(n:Int))=true:=decide_eq_true (by omega);go_enter Tryd.func96,Tryd.ntmps96;go_wp2;go_ret;exact ⟨by rw[HB.out,decide_eq_false (p:=n<=57) (by omega),Bool.and_false]; rfl,rfl⟩}
theorem Z1O:
 Calls Tryd.prog 95 #[.int .u8 (c.toNat:Int)] w fun e w'=>e= .returned (.bool (Lex.letter c))/\w=w':=by
 have HM:Hid (Lex.letter c=(Lex.small c||Lex.great c)):=Y1 rfl;cases h1:Lex.small c
 {have HF:Hid (Lex.letter c=Lex.great c):=Y1 (by rw[HM.out,h1]; rfl);go_enter Tryd.func95,Tryd.ntmps95
  go_wp2_with fail
  refine (Z1q c _).mono ?_;rintro e w2 ⟨rfl,rfl⟩;rw[h1]
  go_wp2_with fail
  refine (Z2N c _).mono ?_;rintro e w2 ⟨rfl,rfl⟩;go_wp2;go_ret;exact ⟨by rw[HF.out]; rfl,rfl⟩}
 {have HF:Hid (Lex.letter c=true):=Y1 (by rw[HM.out,h1]; rfl);go_enter Tryd.func95,Tryd.ntmps95
  go_wp2_with fail
  refine (Z1q c _).mono ?_;rintro e w2 ⟨rfl,rfl⟩;rw[h1];go_wp2;go_ret;exact ⟨by rw[HF.out]; rfl,rfl⟩}
theorem Z4k:
 Calls Tryd.prog 87 #[.int .u8 (c.toNat:Int)] w fun e w'=>e= .returned (.bool (Lex.nameB c))/\w=w':=by
 have HM:=Y1 (Lex.Z6o c);have b95:=Z8i c;cases h1:Lex.letter c
 {cases h2:Lex.digit c
  {cases g95: (c==95)
   {rw[g95] at b95;have HF:Hid (Lex.nameB c=false):=Y1 (by rw[HM.out,h1,h2,g95]; rfl);clear HM;go_enter Tryd.func87,Tryd.ntmps87
    go_wp2_with fail
    refine (Z1O c _).mono ?_;rintro e w2 ⟨rfl,rfl⟩;rw[h1]
    go_wp2_with fail
    refine (Z2O c _).mono ?_;rintro e w2 ⟨rfl,rfl⟩;rw[h2];go_wp2;go_ret;exact ⟨by rw[HF.out]; rfl,rfl⟩}
   {rw[g95] at b95;have HF:Hid (Lex.nameB c=true):=Y1 (by rw[HM.out,h1,h2,g95]; rfl);clear HM;go_enter Tryd.func87,Tryd.ntmps87
    go_wp2_with fail
    refine (Z1O c _).mono ?_;rintro e w2 ⟨rfl,rfl⟩;rw[h1]
    go_wp2_with fail
    refine (Z2O c _).mono ?_;rintro e w2 ⟨rfl,rfl⟩;rw[h2];go_wp2;go_ret;exact ⟨by rw[HF.out]; rfl,rfl⟩}}
  {have HF:Hid (Lex.nameB c=true):=Y1 (by rw[HM.out,h1,h2]; rfl);clear HM;go_enter Tryd.func87,Tryd.ntmps87
   go_wp2_with fail
   refine (Z1O c _).mono ?_;rintro e w2 ⟨rfl,rfl⟩;rw[h1]
   go_wp2_with fail
   refine (Z2O c _).mono ?_;rintro e w2 ⟨rfl,rfl⟩;rw[h2];go_wp2;go_ret;exact ⟨by rw[HF.out]; rfl,rfl⟩}}
 {have HF:Hid (Lex.nameB c=true):=Y1 (by rw[HM.out,h1]; rfl);clear HM;go_enter Tryd.func87,Tryd.ntmps87
  go_wp2_with fail
  refine (Z1O c _).mono ?_;rintro e w2 ⟨rfl,rfl⟩;rw[h1];go_wp2;go_ret;exact ⟨by rw[HF.out]; rfl,rfl⟩}
end
theorem Z8R (s:List UInt8) (w:World):
 Calls Tryd.prog 71 #[.string ⟨s.toArray⟩] w fun e w'=>e= .returned (.bool (Lex.isWord s))/\w=w':=by
 cases hq:Lex.isWord s
 {have HN: ∀t∈Lex.words,(s==t)=false:=fun t ht=>by
   cases h: (s==t) with
   | false=>rfl
   | true=>
    obtain rfl:=beq_iff_eq.1 h;unfold Lex.isWord at hq;rw[List.contains_iff_mem.2 ht] at hq; cases hq
  have n0: (s== [109,111,100,117,108,101])=false:=HN _ (by decide);have n1: (s== [105,109,112,111,114,116])=false:=HN _ (by decide);have n2: (s== [112,105,110])=false:=HN _ (by decide);have n3: (s== [114,97,110,103,101])=false:=HN _ (by decide);have n4: (s== [116,121,112,101])=false:=HN _ (by decide);have n5: (s== [111,112,97,113,117,101])=false:=HN _ (by decide);have n6: (s== [108,101,116])=false:=HN _ (by decide);have n7: (s== [105,110])=false:=HN _ (by decide);have n8: (s== [101,120,112,111,114,116])=false:=HN _ (by decide);have n9: (s== [102,117,110])=false:=HN _ (by decide);have n10: (s== [105,102])=false:=HN _ (by decide);have n11: (s== [116,104,101,110])=false:=HN _ (by decide);have n12: (s== [101,108,115,101])=false:=HN _ (by decide);have n13: (s== [99,97,115,101])=false:=HN _ (by decide);have n14: (s== [111,102])=false:=HN _ (by decide);have n15: (s== [97,115])=false:=HN _ (by decide);have n16: (s== [110,101,119])=false:=HN _ (by decide);have n17: (s== [114,97,119])=false:=HN _ (by decide);have n18: (s== [116,114,117,101])=false:=HN _ (by decide);have n19: (s== [102,97,108,115,101])=false:=HN _ (by decide);clear HN hq;go_enter Tryd.func71,Tryd.ntmps71;go_wp2;go_ret;exact ⟨rfl,rfl⟩}
 {have hm:s∈Lex.words:=List.contains_iff_mem.1 hq;clear hq;unfold Lex.words at hm;simp only[List.mem_cons,List.not_mem_nil,or_false] at hm;rcases hm with rfl | rfl | rfl | rfl | rfl | rfl | rfl | rfl | rfl | rfl | rfl | rfl | rfl | rfl | rfl | rfl | rfl | rfl | rfl | rfl
  all_goals
   go_enter Tryd.func71,Tryd.ntmps71;go_wp2;go_ret;exact ⟨rfl,rfl⟩}
end Go.Proofs.YtmeiijjpomcgcaaDoor
namespace Lex
def named (l:List UInt8):Bool:=decide (l.length<=24)&&l.tail.all nameB
section
variable {p : UInt8 -> Bool} {l : List UInt8}
include p l
theorem Zbp (h: ∀j (hj:j < l.length),1<=j->p (l[j]'hj)=true):l.tail.all p=true:=by
 cases l with
 | nil=>rfl
 | cons c r=>
  refine List.all_eq_true.2 (fun x hx=> ?_);obtain ⟨j,hj,rfl⟩:=List.mem_iff_getElem.1 hx;exact h (j+1) (by simpa using hj) (by omega)
theorem ZbX {j:Nat} (hj:j < l.length) (h1:1<=j) (h:p (l[j]'hj)=false):l.tail.all p=false:=by
 cases l with
 | nil=>simp at hj
 | cons c r=>
  obtain ⟨k,rfl⟩: ∃k,j=k+1:=⟨j - 1,by omega⟩;have hm: (r[k]'(by simpa using hj))∈r:=List.getElem_mem _;cases hq: (c::r).tail.all p with
  | false=>rfl
  | true=>
   have:=List.all_eq_true.1 hq _ hm;have h':p (r[k]'(by simpa using hj))=false:=h;rw[h'] at this; cases this
end
theorem Z8S (c:UInt8) (r:List UInt8):isName (c::r)=(small c&&named (c::r)&& !isWord (c::r)):=by
 show (decide ((c::r).length<=24)&&small c&&(c::r).all nameB&& !isWord (c::r))=_;cases h:small c with
 | false=>simp
 | true=>
  have:nameB c=true:=by unfold nameB; rw[h]; rfl
  unfold named;simp[this]
theorem Z7q (c:UInt8) (r:List UInt8):isUpper (c::r)=(great c&&named (c::r)):=by
 show (decide ((c::r).length<=24)&&great c&&(c::r).all nameB)=_;cases h:great c with
 | false=>simp
 | true=>
  have:nameB c=true:=by unfold nameB; rw[h]; simp
  unfold named;simp[this]
end Lex
namespace Go.Proofs.YtmeiijjpomcgcaaDoor
open Go.RowKit
section
variable (l : List UInt8) (hl : l.length <= 9223372036854775807) (w : World)
include l hl w
theorem Z2P:
 Calls Tryd.prog 70 #[.string ⟨l.toArray⟩] w fun e w'=>e= .returned (.bool (Lex.named l))/\w=w':=by
 have hz: (⟨l.toArray⟩:ByteArray).size=l.length:=Z0J _;have HM:Hid (Lex.named l=(decide (l.length<=24)&&l.tail.all Lex.nameB)):=Y1 rfl;by_cases h24:l.length<=24
 {have h24d: ¬((24:Int) < (l.length:Int)):=by omega
  go_enter Tryd.func70,Tryd.ntmps70
  go_wp2_with fail
  go_loopw [3] (fun ii wr=> ∃n:Nat,ii= .int .i64 n/\1<=n/\(n<=l.length\/n=1)/\Hid (∀j (hj:j < l.length),1<=j->j < n->Lex.nameB (l[j]'hj)=true)/\w=wr)
   (fun i _=>l.length - (intOf i).toNat)
  case atStart=>exact ⟨1,rfl,Nat.le_refl _,Or.inr rfl,Y1 (fun j _ h1 hj=>absurd hj (by omega)),rfl⟩
  case round=>
   obtain ⟨n,rfl,h1,hn,HN,rfl⟩:=hrel;by_cases hlt:n < l.length
   {have hi1: (n:Int) < (l.length:Int):=by omega
    obtain ⟨c,hc⟩: ∃c,c=l[n]'hlt:=⟨_,rfl⟩;have hidx: ∀W,(Instr.index 9 (.string ⟨l.toArray⟩) (.int .i64 (n:Int))).run Tryd.prog W= .ok (.int .u8 c.toNat) W:=fun W=>by
     rw[hc]; exact Z4P ⟨l.toArray⟩ n (by omega) W
    have HC:=Y1 hc;clear hc;cases hb:Lex.nameB c
    {have HF:Hid (Lex.named l=false):=Y1 (by rw[HM.out,Lex.ZbX hlt h1 (by rw[<-HC.out]; exact hb)]; simp)
     go_wp2_with fail
     refine (Z4k c _).mono ?_;rintro e w2 ⟨rfl,rfl⟩;rw[hb];go_wp2;go_ret;exact ⟨by rw[HF.out]; rfl,rfl⟩}
    {have HN2:Hid (∀j (hj:j < l.length),1<=j->j < n+1->Lex.nameB (l[j]'hj)=true):=Y1 (fun j hj h1 hji=>by
      rcases Nat.lt_succ_iff_lt_or_eq.1 hji with h' | rfl
      {exact HN.out j hj h1 h'}
      · rw[<-HC.out]; exact hb)
     go_wp2_with fail
     refine (Z4k c _).mono ?_;rintro e w2 ⟨rfl,rfl⟩;rw[hb];go_wp2
     go_roundw
     case rel=>exact ⟨n+1,by go_num,by omega,Or.inl (by omega),HN2,trivial⟩
     case measure=>simp[intOf]; omega}}
   {have hi1: ¬(n:Int) < (l.length:Int):=by omega
    have HF:Hid (Lex.named l=true):=Y1 (by rw[HM.out,decide_eq_true h24,Lex.Zbp (fun j hj h1=>HN.out j hj h1 (by omega))]; rfl);go_wp2;go_ret;exact ⟨by rw[HF.out]; rfl,rfl⟩}}
 {have h24d: (24:Int) < (l.length:Int):=by omega
  have HF:Hid (Lex.named l=false):=Y1 (by rw[HM.out,decide_eq_false h24]; rfl);go_enter Tryd.func70,Tryd.ntmps70;go_wp2;go_ret;exact ⟨by rw[HF.out]; rfl,rfl⟩}
theorem Z2i:
 Calls Tryd.prog 59 #[.string ⟨l.toArray⟩] w fun e w'=>e= .returned (.bool (Lex.isName l))/\w=w':=by
 cases l with
 | nil=>
  have HM:Hid (Lex.isName []=false):=Y1 rfl;go_enter Tryd.func59,Tryd.ntmps59;go_wp2;go_ret;exact ⟨by rw[HM.out]; rfl,rfl⟩
 | cons c r=>
  have HM:=Y1 (Lex.Z8S c r);obtain ⟨l,hll⟩: ∃l:List UInt8,l=c::r:=⟨_,rfl⟩;rw[<-hll] at hl HM ⊢;have hz: (⟨l.toArray⟩:ByteArray).size=l.length:=Z0J _;have he:l.isEmpty=false:=by rw[hll]; rfl
  have he2: (l== [])=false:=by rw[hll]; rfl
  have he3: (l != [])=true:=by rw[hll]; rfl
  have hidx: ∀W,(Instr.index 9 (.string ⟨l.toArray⟩) (.int .i64 0)).run Tryd.prog W= .ok (.int .u8 c.toNat) W:=fun W=>by rw[hll]; rfl
  clear hll;cases h1:Lex.small c
  {have HF:Hid (Lex.isName l=false):=Y1 (by rw[HM.out,h1]; rfl);go_enter Tryd.func59,Tryd.ntmps59
   go_wp2_with fail
   refine (Z1q c _).mono ?_;rintro e w2 ⟨rfl,rfl⟩;rw[h1];go_wp2;go_ret;exact ⟨by rw[HF.out]; rfl,rfl⟩}
  {cases h2:Lex.named l
   {have HF:Hid (Lex.isName l=false):=Y1 (by rw[HM.out,h1,h2]; rfl);go_enter Tryd.func59,Tryd.ntmps59
    go_wp2_with fail
    refine (Z1q c _).mono ?_;rintro e w2 ⟨rfl,rfl⟩;rw[h1]
    go_wp2_with fail
    refine (Z2P l hl _).mono ?_;rintro e w2 ⟨rfl,rfl⟩;rw[h2];go_wp2;go_ret;exact ⟨by rw[HF.out]; rfl,rfl⟩}
   {have HF:Hid (Lex.isName l= !Lex.isWord l):=Y1 (by rw[HM.out,h1,h2]; rfl);go_enter Tryd.func59,Tryd.ntmps59
    go_wp2_with fail
    refine (Z1q c _).mono ?_;rintro e w2 ⟨rfl,rfl⟩;rw[h1]
    go_wp2_with fail
    refine (Z2P l hl _).mono ?_;rintro e w2 ⟨rfl,rfl⟩;rw[h2]
    go_wp2_with fail
    refine (Z8R l _).mono ?_;rintro e w2 ⟨rfl,rfl⟩;go_wp2;go_ret;exact ⟨by rw[HF.out]; rfl,rfl⟩}}
theorem Z4l:
 Calls Tryd.prog 60 #[.string ⟨l.toArray⟩] w fun e w'=>e= .returned (.bool (Lex.isUpper l))/\w=w':=by
 cases l with
 | nil=>
  have HM:Hid (Lex.isUpper []=false):=Y1 rfl;go_enter Tryd.func60,Tryd.ntmps60;go_wp2;go_ret;exact ⟨by rw[HM.out]; rfl,rfl⟩
 | cons c r=>
  have HM:=Y1 (Lex.Z7q c r);obtain ⟨l,hll⟩: ∃l:List UInt8,l=c::r:=⟨_,rfl⟩;rw[<-hll] at hl HM ⊢;have hz: (⟨l.toArray⟩:ByteArray).size=l.length:=Z0J _;have he:l.isEmpty=false:=by rw[hll]; rfl
  have he2: (l== [])=false:=by rw[hll]; rfl
  have he3: (l != [])=true:=by rw[hll]; rfl
  have hidx: ∀W,(Instr.index 9 (.string ⟨l.toArray⟩) (.int .i64 0)).run Tryd.prog W= .ok (.int .u8 c.toNat) W:=fun W=>by rw[hll]; rfl
  clear hll;cases h1:Lex.great c
  {have HF:Hid (Lex.isUpper l=false):=Y1 (by rw[HM.out,h1]; rfl);go_enter Tryd.func60,Tryd.ntmps60
   go_wp2_with fail
   refine (Z2N c _).mono ?_;rintro e w2 ⟨rfl,rfl⟩;rw[h1];go_wp2;go_ret;exact ⟨by rw[HF.out]; rfl,rfl⟩}
  {have HF:Hid (Lex.isUpper l=Lex.named l):=Y1 (by rw[HM.out,h1]; rfl);go_enter Tryd.func60,Tryd.ntmps60
   go_wp2_with fail
   refine (Z2N c _).mono ?_;rintro e w2 ⟨rfl,rfl⟩;rw[h1]
   go_wp2_with fail
   refine (Z2P l hl _).mono ?_;rintro e w2 ⟨rfl,rfl⟩;go_wp2;go_ret;exact ⟨by rw[HF.out]; rfl,rfl⟩}
end
end Go.Proofs.YtmeiijjpomcgcaaDoor
namespace Go.Proofs.YtmeiijjpomcgcaaDoor
section
open Go.RowKit Go.Maps Go.WideMaps Shp
theorem Z4d:Keyed Tryd.prog 9:=string_keyed Tryd.underlying9
theorem Z3U (w:World): (zeroValue 115).run Tryd.prog w= .ok (.agg #[]) w:=by kernel_rfl
def seenOf (l:List (List UInt8)) (k:Nat):DataW Unit:=setOf (.agg []) ((l.take k).map Lit.string)
theorem Za4 (l:List (List UInt8)):seenOf l 0= .map []:=by simp[seenOf,setOf]
theorem Za5 (l:List (List UInt8)) (k:Nat) (hk:k < l.length):seenOf l (k+1)=(seenOf l k).put (.string (l[k]'hk)) (.agg []):=by
 unfold seenOf;rw[List.take_succ_eq_append_getElem hk,List.map_append,List.map_cons,List.map_nil,setOf_snoc]
theorem Z6p (x:List UInt8): ∀l:List (List UInt8),l.any ((fun y:Lit=>y.sameKey (.string x)) ∘ Lit.string)=l.contains x
 | []=>rfl
 | a::r=>by
  rw[List.any_cons,List.contains_cons,Z6p x r];congr 1;by_cases e:a=x
  {subst e; simp[Lit.sameKey]}
  {have e': ¬x=a:=fun h=>e h.symm;simp[Lit.sameKey];rw[show (a==x)=false from by simpa using e,show (x==a)=false from by simpa using e']}
theorem Zbq (l:List (List UInt8)) (k:Nat) (x:List UInt8):Maps.has (seenOf l k) (.string x)=(l.take k).contains x:=by
 unfold seenOf;rw[has_setOf _ _ _ (fun y hy=>by obtain ⟨_,_,rfl⟩:=List.mem_map.1 hy; trivial),List.any_map];exact Z6p x _
theorem Z7r (A:Option Addr) (c:Nat) (l:List (List UInt8)) (w:World) (hA:Strs w w.heap.size A (strs l)) (hl:l.length<=1000000) (hx: ∀x∈l,x.length<=9223372036854775807):
 Y9 57 #[.slice A l.length c] w (.bool (areNames l)):=by
 have hmm:= @run_makeMap Tryd.prog;have HA:=Y1 hA;have HX:=Y1 hx;clear hA hx;go_enter Tryd.func57,Tryd.ntmps57
 go_wp2_with fail
 go_loopw [11] (fun ii wr=> ∃k:Nat,k<=l.length/\ii= .int .i64 k/\wr.ownsMap Tryd.prog 9 unitElem w.heap.size k (seenOf l k)/\Below w.heap.size w wr/\Hid (∀j (hj:j < l.length),j < k->Lex.isName (l[j]'hj)=true/\ ∀m (hm:m < j),l[m]'(by omega)≠l[j]'hj))
  (fun i _=>l.length - (intOf i).toNat)
 case atStart=>exact ⟨0,Nat.zero_le _,rfl,by rw[Za4]; exact World.ownsMap_made _ _ _ _,Y2.alloc (Nat.le_refl _) _,Y1 (fun j _ hj=>absurd hj (by omega))⟩
 case round=>
  obtain ⟨k,hk,rfl,hown,hb,HN⟩:=hrel;by_cases hlt:k < l.length
  {have hi1: (k:Int) < (l.length:Int):=by omega
   rcases (HA.out.next hb).cell7 with h0 | ⟨g,off,rfl,hg,hc⟩
   {omega}
   {have hcell:=hc k hlt;obtain ⟨x,hx⟩: ∃x,x=l[k]'hlt:=⟨_,rfl⟩;rw[<-hx] at hcell;have hxl:x.length<=9223372036854775807:=by rw[hx]; exact HX.out _ (List.getElem_mem _)
    have HE:=Y1 hx;have hkey:keyOf Tryd.prog 9 (.string ⟨x.toArray⟩)=some (.string x):=keyOf_string_mk Tryd.underlying9 (by rw[Z0J]; unfold maxLen; exact hxl);clear hx hc;have HHAS:=Y1 (Zbq l k x);have HOWN:=Y1 hown;have HBB:=Y1 hb;clear hb;cases hin: (l.take k).contains x with
    | true=>
     have HF:Hid (areNames l=false):=Y1 (by
      have hm:=List.contains_iff_mem.1 hin;obtain ⟨m,hm,he⟩:=List.getElem_of_mem hm;rw[List.length_take] at hm;rw[List.getElem_take] at he;exact Z37 (k:=m) hlt (by omega) (by rw[he,HE.out]))
     have hhas:=HHAS.out;rw[hin] at hhas;clear hin
     go_wp2_with (first
      | (at_lookup; refine wpList_lookup_own_unit _ rfl _ _ 114 rfl 9 115 Z4d Tryd.underlying114 (Z3U _) w.heap.size k _ rfl hown _ _ rfl hkey ?_)
      | fail)
     go_ret;exact ⟨by rw[HF.out]; rfl,HBB.out.alloc HBB.out.size _⟩
    | false=>
     have HNU:Hid (∀m (hm:m < k),l[m]'(by omega)≠l[k]'hlt):=Y1 (fun m hm he=>by
      rw[<-HE.out] at he;have:x∈l.take k:=by
       rw[<-he];have:=List.getElem_mem (l:=l.take k) (n:=m) (by rw[List.length_take]; omega)
       rwa [List.getElem_take] at this
      rw[List.contains_iff_mem.2 this] at hin;cases hin)
     have hhas:=HHAS.out;rw[hin] at hhas;clear hin;cases hn:Lex.isName x with
     | false=>
      have HF:Hid (areNames l=false):=Y1 (Z3Q hlt (by rw[<-HE.out]; exact hn));have hw:=fun W=>Z2i x hxl W;simp only[hn] at hw;clear hn
      go_wp2_with (first
       | (at_lookup; refine wpList_lookup_own_unit _ rfl _ _ 114 rfl 9 115 Z4d Tryd.underlying114 (Z3U _) w.heap.size k _ rfl hown _ _ rfl hkey ?_)
       | (go_at_call 59; refine (hw _).mono ?_; rintro e w' ⟨rfl,rfl⟩))
      go_ret;exact ⟨by rw[HF.out]; rfl,HBB.out.alloc HBB.out.size _⟩
     | true=>
      have HNA:Hid (Lex.isName (l[k]'hlt)=true):=Y1 (by rw[<-HE.out]; exact hn);have hw:=fun W=>Z2i x hxl W;simp only[hn] at hw;clear hn
      go_wp2_with (first
       | (at_lookup; refine wpList_lookup_own_unit _ rfl _ _ 114 rfl 9 115 Z4d Tryd.underlying114 (Z3U _) w.heap.size k _ rfl hown _ _ rfl hkey ?_)
       | (go_at_call 59; refine (hw _).mono ?_; rintro e w' ⟨rfl,rfl⟩)
       | (at_mapUpdate; refine wpList_mapUpdate_own _ rfl _ _ _ 114 rfl 9 115 Z4d Tryd.underlying114 (unitElem (H:=Unit)) w.heap.size k _ rfl (hown.alloc _) (by unfold maxLen; omega) _ _ _ rfl rfl hkey _ [] unitElem_mk ?_; intro w1 hown1 hgrow1))
      go_roundw
      case rel=>
       refine ⟨k+1,by omega,by go_num, ?_, ?_,Y1 (fun j hj hji=>by
        rcases Nat.lt_succ_iff_lt_or_eq.1 hji with h | rfl
        {exact HN.out j hj h}
        · exact ⟨HNA.out,HNU.out⟩)⟩
       {rw[Za5 l k hlt, <-HE.out]; exact hown1}
       {exact (HBB.out.alloc HBB.out.size _).grown hgrow1 (by have:=HBB.out.size; simp; omega) (fun j hj=>by cases hj; exact Nat.le_refl _)}
      case measure=>simp[intOf]; omega}}
  {have hi1: ¬(k:Int) < (l.length:Int):=by omega
   have HM:Hid (areNames l=true):=Y1 (Z4h (fun j hj=>(HN.out j hj (by omega)).1) (fun j hj=>(HN.out j hj (by omega)).2));go_wp2;go_ret;exact ⟨by rw[HM.out]; rfl,hb⟩}
end
end Go.Proofs.YtmeiijjpomcgcaaDoor
namespace Go.Proofs.YtmeiijjpomcgcaaDoor
open Go.RowKit Go.Maps Go.WideMaps Shp
namespace SubM
abbrev Ky:=List UInt8
def Fine (k:Ky):Prop:=k.length<=9223372036854775807
def KL (k:Ky):Lit:= .string k
theorem keyOf_keyV {k:Ky} (h:Fine k):keyOf Tryd.prog 9 (.string ⟨k.toArray⟩)=some (KL k):=keyOf_string_mk Tryd.underlying9 (by rw[Z0J]; unfold maxLen; exact h)
theorem KL_inj {k k':Ky} (h:Fine k) (h':Fine k') (e:KL k=KL k'):k=k':=by cases e; rfl
theorem KL_key (k:Ky):WideAt.IsKeyLit (KL k):=trivial
def slEl:Value->Option (DataW Unit×List MemPlace)
 | .pointer none=>some (.agg [],[])
 | .pointer (some ⟨g,o,none⟩)=>some (.agg [.lit (.int .i64 (g:Int)),.lit (.int .i64 (o:Int))],[])
 | _=>none
theorem slEl_inj {v v':Value} {d:DataW Unit} {p p':List MemPlace} (h:slEl v=some (d,p)) (h':slEl v'=some (d,p')):v=v':=by
 unfold slEl at h h';split at h <;> split at h' <;> simp only[Option.some.injEq,Prod.mk.injEq,reduceCtorEq] at h h'
 {rfl}
 {obtain ⟨rfl,_⟩:=h;simp at h'}
 {obtain ⟨rfl,_⟩:=h;simp at h'}
 {obtain ⟨rfl,_⟩:=h;simp at h';obtain ⟨⟨h1,h2⟩,_⟩:=h';have e1:_=_:=Int.ofNat_inj.1 h1;have e2:_=_:=Int.ofNat_inj.1 h2;rw[e1,e2]}
theorem zero_sl (w:World): (zeroValue 71).run Tryd.prog w= .ok (.pointer none) w:=by kernel_rfl
def Mp (W:World) (b N:Nat) (S:List Ky) (m:Ky->Value):Prop:=
 ∃D:DataW Unit,W.ownsMap Tryd.prog 9 slEl b N D/\Maps.size D=S.length/\S.Nodup/\(∀k∈S,Fine k)/\(∀k,Fine k->(Maps.has D (KL k)=true ↔ k∈S))/\
  ∀k,Fine k-> ∃p,slEl (if k∈S then m k else .pointer none)=some (D.atKey (KL k) (.agg []),p)
theorem Mp.made (W:World) (m:Ky->Value):Mp (W.alloc (.map #[] 0)) W.heap.size 0 [] m:=by
 refine ⟨.map [],World.ownsMap_made _ _ _ _,rfl,List.nodup_nil,nofun,fun k _=>⟨fun h=>by simp[Maps.has] at h,nofun⟩,fun k _=>⟨[], ?_⟩⟩;rw[if_neg (by simp)];rfl
theorem Mp.lt {W:World} {b N:Nat} {S:List Ky} {m:Ky->Value} (h:Mp W b N S m):b < W.heap.size:=by obtain ⟨_,h,_⟩:=h; exact h.lt
theorem Mp.kept {W W':World} {b N:Nat} {S:List Ky} {m:Ky->Value} (h:Mp W b N S m) {row:Option Nat} (hg:W.grownBy W' row) (hne:some b≠row):Mp W' b N S m:=by
 obtain ⟨D,h1,h2⟩:=h; exact ⟨D,h1.kept hg hne,h2⟩
theorem Mp.same {W W':World} {b N:Nat} {S:List Ky} {m:Ky->Value} (h:Mp W b N S m) (hb:W'.heap[b]? =W.heap[b]?):Mp W' b N S m:=by
 obtain ⟨D,⟨es,clock,h0,h1⟩,h2⟩:=h; exact ⟨D,⟨es,clock,hb.trans h0,h1⟩,h2⟩
end SubM
end Go.Proofs.YtmeiijjpomcgcaaDoor
namespace Shp
section
theorem Z3r {s:List UInt8} (h:Lex.isName s=true):s.length<=24:=by
 cases s with
 | nil=>simp
 | cons c r=>
  have:Lex.isName (c::r)=(decide ((c::r).length<=24)&&Lex.small c&&(c::r).all Lex.nameB&& !Lex.isWord (c::r)):=rfl;rw[this] at h;simp only[Bool.and_eq_true,decide_eq_true_eq] at h;exact h.1.1.1
theorem Z7s {s:List UInt8} (h:Lex.isUpper s=true):s.length<=24:=by
 cases s with
 | nil=>simp
 | cons c r=>
  have:Lex.isUpper (c::r)=(decide ((c::r).length<=24)&&Lex.great c&&(c::r).all Lex.nameB):=rfl;rw[this] at h;simp only[Bool.and_eq_true,decide_eq_true_eq] at h;exact h.1.1
theorem Z3s {t:Sh} (h:fits t=true):
 (1<=t.kind/\t.kind<=4/\t.names= []/\t.parts= [])\/(t.kind=5/\t.names= []/\t.parts.length=1)\/((t.kind=6\/t.kind=7)/\t.names.length=t.parts.length/\areNames t.names=true)\/
 (t.kind=8/\t.names= []/\1<=t.parts.length)\/((t.kind=9\/t.kind=10)/\t.names= []/\t.parts= []/\t.name.length<=24/\t.of_.length<=24):=by
 by_cases h9:t.kind=9\/t.kind=10
 {rw[Z29 h9] at h;simp only[Bool.and_eq_true,decide_eq_true_eq] at h;obtain ⟨⟨⟨h1,h2⟩,h3⟩,h4⟩:=h;refine Or.inr (Or.inr (Or.inr (Or.inr ⟨h9,List.eq_nil_of_length_eq_zero h3,List.eq_nil_of_length_eq_zero h4,Z7s h1, ?_⟩)));unfold ofOk at h2;cases hn:Lex.isName t.of_ with
  | true=>exact Z3r hn
  | false=>
   rw[hn] at h2;simp at h2;rw[h2.1.1]; simp}
 {cases hb:bare t with
  | false=>rw[Z0Z h9 hb] at h; cases h
  | true=>
   by_cases h6:t.kind=6\/t.kind=7
   {rw[Z2o hb h6,Bool.and_eq_true,decide_eq_true_eq] at h;exact Or.inr (Or.inr (Or.inl ⟨h6,h.2,h.1⟩))}
   {by_cases hz:0 < t.names.length
    {rw[Z1E h9 hb h6 hz] at h; cases h}
    {have hn:t.names= []:=List.eq_nil_of_length_eq_zero (by omega);by_cases h8:t.kind=8
     {rw[Z4B hb h8 hz,decide_eq_true_eq] at h;exact Or.inr (Or.inr (Or.inr (Or.inl ⟨h8,hn,h⟩)))}
     {by_cases h5:t.kind=5
      {rw[Z3R hb h5 hz,decide_eq_true_eq] at h;exact Or.inr (Or.inl ⟨h5,hn,h⟩)}
      {rw[Z2C hb h9 h6 hz h8 h5] at h;simp only[Bool.and_eq_true,decide_eq_true_eq] at h;exact Or.inl ⟨h.1.1,h.1.2,hn,List.eq_nil_of_length_eq_zero h.2⟩}}}}}
end
end Shp
namespace Go.Proofs.YtmeiijjpomcgcaaDoor
section
open Shp
theorem Z4D (x:Fld): ∀l:List Fld,(ins x l).Perm (x::l)
 | []=>List.Perm.refl _
 | y::l=>by
  unfold ins;split
  {exact ((Z4D x l).cons y).trans (List.Perm.swap x y l)}
  {exact List.Perm.refl _}
theorem Z3V: ∀(l a:List Fld),(l.foldl (fun a x=>ins x a) a).Perm (l++a)
 | [],a=>List.Perm.refl _
 | x::l,a=>by
  rw[List.foldl_cons];refine (Z3V l _).trans ?_;refine (List.Perm.append_left l (Z4D x a)).trans ?_;exact List.perm_middle
theorem Z0x (l:List Fld): (sortF l).Perm l:=by
 have:=Z3V l []
 rwa [List.append_nil] at this
theorem Z4U (x:Fld): ∀l:List Fld,l.Pairwise (fun a b=>a.1<=b.1)->(ins x l).Pairwise (fun a b=>a.1<=b.1)
 | [],_=>by simp[ins]
 | y::l,h=>by
  rw[List.pairwise_cons] at h;unfold ins;split
  {rename_i hlt
   rw[List.pairwise_cons];refine ⟨fun b hb=> ?_,Z4U x l h.2⟩;rcases List.mem_cons.1 ((Z4D x l).mem_iff.1 hb) with rfl | hb
   {exact List.le_of_lt hlt}
   {exact h.1 b hb}}
  {rename_i hlt
   have hxy:x.1<=y.1:=List.not_lt.1 hlt;rw[List.pairwise_cons,List.pairwise_cons];refine ⟨fun b hb=> ?_,h⟩;rcases List.mem_cons.1 hb with rfl | hb
   {exact hxy}
   {exact List.le_trans hxy (h.1 b hb)}}
theorem Z39: ∀(l a:List Fld),a.Pairwise (fun a b=>a.1<=b.1)->(l.foldl (fun a x=>ins x a) a).Pairwise (fun a b=>a.1<=b.1)
 | [],a,h=>h
 | x::l,a,h=>Z39 l _ (Z4U x a h)
theorem Z1j (l:List Fld): (sortF l).Pairwise (fun a b=>a.1<=b.1):=Z39 l [] List.Pairwise.nil
theorem Za7 {l:List Fld} (h: (l.map Prod.fst).Nodup) {a b:Fld} (ha:a∈l) (hb:b∈l) (he:a.1=b.1):a=b:=by
 induction l with
 | nil=>cases ha
 | cons x l ih=>
  rw[List.map_cons,List.nodup_cons] at h;rcases List.mem_cons.1 ha with e1 | h1
  {rcases List.mem_cons.1 hb with e2 | h2
   {rw[e1,e2]}
   {exact absurd (by rw[<-e1,he]; exact List.mem_map_of_mem h2) h.1}}
  {rcases List.mem_cons.1 hb with e2 | h2
   {exact absurd (by rw[<-e2, <-he]; exact List.mem_map_of_mem h1) h.1}
   {exact ih h.2 h1 h2}}
theorem Z1k {l m:List Fld} (hp:m.Perm l) (hs:m.Pairwise (fun a b=>a.1<=b.1)) (hn: (l.map Prod.fst).Nodup):m=sortF l:=by
 refine List.Perm.eq_of_pairwise (le:=fun a b:Fld=>a.1<=b.1) (fun a b ha hb h1 h2=> ?_) hs (Z1j l) (hp.trans (Z0x l).symm);exact Za7 hn (hp.mem_iff.1 ha) ((Z0x l).mem_iff.1 hb) (List.le_antisymm h1 h2)
end
end Go.Proofs.YtmeiijjpomcgcaaDoor
namespace Sub
section
open Shp
def look:List (List UInt8)->List Sh->List UInt8->Option Sh
 | x::ns,p::ps,n=>if x=n then some p else look ns ps n
 | [],_,_=>none
 | _::_,[],_=>none
def get (t:Sh) (n:List UInt8):Option Sh:=look t.names t.parts n
theorem Z6u {ns:List (List UInt8)} {ps:List Sh} {n:List UInt8} {p:Sh} (h:look ns ps n=some p):n∈ns/\p∈ps:=by
 induction ns generalizing ps with
 | nil=>cases ps <;> simp[look] at h
 | cons x ns ih=>
  cases ps with
  | nil=>simp[look] at h
  | cons q ps=>
   unfold look at h;split at h
   {rename_i e
    cases h;exact ⟨by simp[e],by simp⟩}
   {have:=ih h;exact ⟨by simp[this.1],by simp[this.2]⟩}
structure Rec (t:Sh):Prop where
 k:t.kind=6\/t.kind=7
 b:bare t=true
 l:t.names.length=t.parts.length
 a:areNames t.names=true
theorem Z09 {t p:Sh} {n:List UInt8} (h:get t n=some p):p∈t.parts:=(Z6u h).2
def Narrow (up:Bool) (k:Int):Prop:=(up=true/\k=6)\/(up=false/\k=7)
def Wide (up:Bool) (k:Int):Prop:=(up=true/\k=7)\/(up=false/\k=6)
instance (up:Bool) (k:Int):Decidable (Narrow up k):=by unfold Narrow; infer_instance
instance (up:Bool) (k:Int):Decidable (Wide up k):=by unfold Wide; infer_instance
def V:Nat->Bool->Sh->Sh->Prop
 | 0,_,_,_=>False
 | f+1,up,a,b=>a.kind=b.kind/\
  (Narrow up a.kind-> ∀n q,get b n=some q-> ∃p,get a n=some p/\V f up p q)/\
  (Wide up a.kind-> ∀n p,get a n=some p-> ∃q,get b n=some q/\V f up p q)/\
  (¬(a.kind=6\/a.kind=7)->a.of_=b.of_/\a.name=b.name/\a.parts.length=b.parts.length/\
   ∀i p q,a.parts[i]? =some p->b.parts[i]? =some q->V f (if i+1=a.parts.length then up else !up) p q)
theorem V.refl {f:Nat}: ∀ {up:Bool} {a:Sh},deep a<=f->V f up a a:=by
 induction f with
 | zero=>intro up a h; rw[Z0l] at h; omega
 | succ f ih=>
  intro up a h;have hp: ∀p∈a.parts,deep p<=f:=fun p hp=>by have:=Z0z hp; rw[Z0l] at h; omega
  refine ⟨rfl,fun _ n q hq=>⟨q,hq,ih (hp q (Z09 hq))⟩,fun _ n q hq=>⟨q,hq,ih (hp q (Z09 hq))⟩,fun _=>⟨rfl,rfl,rfl,fun i p q h1 h2=> ?_⟩⟩;rw[h1] at h2;cases h2;exact ih (hp p (List.mem_of_getElem? h1))
theorem V.trans {f:Nat}: ∀ {up:Bool} {a b c:Sh},V f up a b->V f up b c->V f up a c:=by
 induction f with
 | zero=>intro up a b c h; exact h.elim
 | succ f ih=>
  intro up a b c h k;obtain ⟨hk,h1,h2,h3⟩:=h;obtain ⟨kk,k1,k2,k3⟩:=k;rw[<-hk] at k1 k2 k3;refine ⟨hk.trans kk,fun h n r hr=> ?_,fun h n p hp=> ?_,fun h=> ?_⟩
  {obtain ⟨q,hq,hv⟩:=k1 h n r hr;obtain ⟨p,hp,hu⟩:=h1 h n q hq;exact ⟨p,hp,ih hu hv⟩}
  {obtain ⟨q,hq,hv⟩:=h2 h n p hp;obtain ⟨r,hr,hu⟩:=k2 h n q hq;exact ⟨r,hr,ih hv hu⟩}
  {obtain ⟨e1,e2,e3,e4⟩:=h3 h;obtain ⟨g1,g2,g3,g4⟩:=k3 h;refine ⟨e1.trans g1,e2.trans g2,e3.trans g3,fun i p r hp hr=> ?_⟩;have hi:i < a.parts.length:=(List.getElem?_eq_some_iff.1 hp).1;have hib:i < b.parts.length:=by omega
   obtain ⟨q,hq⟩: ∃q,b.parts[i]? =some q:=⟨_,List.getElem?_eq_getElem hib⟩;have:=g4 i q r hq hr;rw[<-e3] at this;exact ih (e4 i p q hp hq) this}
abbrev Cl:=List UInt8×Option Sh×Option Sh
def callsA (a b:Sh):List Cl:=(a.names.zip a.parts).map (fun x=>(x.1,some x.2,get b x.1))
def callsB (a b:Sh):List Cl:=((b.names.zip b.parts).filter (fun x=>(get a x.1).isNone)).map (fun x=>(x.1,none,some x.2))
def calls (a b:Sh):List Cl:=callsA a b++callsB a b
def narrowStep (g:Sh->Sh->Option Sh) (c:Cl):Option Fld:=
 match c with
 | (n,some p,some q)=>(g p q).map (fun x=>(n,x))
 | (_,some _,none)=>none
 | (_,none,_)=>none
def wideStep (g:Sh->Sh->Option Sh) (c:Cl):Option Fld:=
 match c with
 | (n,some p,some q)=>(g p q).map (fun x=>(n,x))
 | (n,some p,none)=>some (n,p)
 | (n,none,some q)=>some (n,q)
 | (_,none,none)=>none
def allOf (s:Cl->Option Fld):List Cl->Option (List Fld)
 | []=>some []
 | c::l=>(s c).bind (fun x=>(allOf s l).map (fun xs=>x::xs))
def placesOf (ga gr:Sh->Sh->Option Sh):List Sh->List Sh->Option (List Sh)
 | [],[]=>some []
 | a::us,b::bs=>(if us.isEmpty then gr a b else ga a b).bind (fun x=>(placesOf ga gr us bs).map (fun xs=>x::xs))
 | [],_::_=>none
 | _::_,[]=>none
def made (k:Int) (l:List Fld):Sh:=⟨k,[],[],l.map Prod.fst,l.map Prod.snd⟩
def bound:Nat->Bool->Sh->Sh->Option Sh
 | 0,_,_,_=>none
 | f+1,up,a,b=>
  if a.kind≠b.kind then none
  else if Narrow up a.kind then some (made a.kind ((calls a b).filterMap (narrowStep (bound f up))))
  else if Wide up a.kind then (allOf (wideStep (bound f up)) (calls a b)).map (made a.kind)
  else if a.of_=b.of_/\a.name=b.name then (placesOf (bound f (!up)) (bound f up) a.parts b.parts).map (fun ps=>⟨a.kind,a.of_,a.name,[],ps⟩)
  else none
def sz:Option Sh->Nat
 | some p=>size p
 | none=>0
end
end Sub
namespace Go.Proofs.YtmeiijjpomcgcaaDoor
open Go.RowKit Shp
namespace SubM
abbrev sv (s:Sh) (q:Ptr):Value:= .agg (Y8 s q)
structure Upd (S:Nat->Prop) (a b:World):Prop where
 os:b.os=a.os
 tape:b.tape=a.tape
 output:b.output=a.output
 size:a.heap.size<=b.heap.size
 block: ∀x,x < a.heap.size-> ¬S x->b.heap[x]? =a.heap[x]?
section
variable {S T : Nat -> Prop} {a b c : World} {B n0 : Nat}
theorem Upd.refl (S:Nat->Prop) (a:World):Upd S a a:=⟨rfl,rfl,rfl,Nat.le_refl _,fun _ _ _=>rfl⟩
theorem Upd.trans (h:Upd S a b) (k:Upd S b c):Upd S a c:=
 ⟨k.os.trans h.os,k.tape.trans h.tape,k.output.trans h.output,Nat.le_trans h.size k.size,fun x h1 h2=>(k.block x (Nat.lt_of_lt_of_le h1 h.size) h2).trans (h.block x h1 h2)⟩
theorem Upd.mono (h:Upd S a b) (hs: ∀x,x < a.heap.size->S x->T x):Upd T a b:=⟨h.os,h.tape,h.output,h.size,fun x h1 h2=>h.block x h1 (fun hx=>h2 (hs x h1 hx))⟩
theorem Upd.of_below (h:Below B a b) (hB: ∀x,x < a.heap.size->B<=x->S x):Upd S a b:=
 ⟨h.os,h.tape,h.output,h.size,fun x h1 h2=>h.block x (Nat.lt_of_not_le (fun hx=>h2 (hB x h1 hx)))⟩
theorem Upd.new (h:Below a.heap.size a b):Upd S a b:=Upd.of_below h (fun x h1 h2=>absurd h1 (by omega))
theorem Upd.below (h:Upd S a b) (hB:B<=a.heap.size) (hS: ∀x,S x->B<=x):Below B a b:=⟨h.os,h.tape,h.output,h.size,fun x h1=>h.block x (by omega) (fun hx=>by have:=hS x hx; omega)⟩
theorem Upd.drew (h:Upd S a b):Upd S a b.drew:=⟨h.os,h.tape,h.output,h.size,h.block⟩
theorem Upd.grown (h:Upd S a b) {row:Option Nat} (hg:b.grownBy c row) (hr: ∀k,row=some k->k < a.heap.size->S k):Upd S a c:=
 ⟨hg.os.trans h.os,hg.tape.trans h.tape,hg.output.trans h.output,Nat.le_trans h.size hg.size,fun x h1 h2=>(hg.block x (Nat.lt_of_lt_of_le h1 h.size) (fun e=>h2 (hr x e.symm h1))).trans (h.block x h1 h2)⟩
theorem Upd.set (h:Upd S a b) (p:Addr) (hp:p.block < a.heap.size->S p.block) (v:Value):Upd S a (b.setCell p v):=
 ⟨h.os,h.tape,h.output,by simpa[World.setCell] using h.size,fun x h1 h2=>(Below.heap_setCell _ _ _ _ (fun e=>h2 (by
  have e':x=p.block:=by first | exact e | exact e.symm
  rw[e']; exact hp (e'▸h1)))).trans (h.block x h1 h2)⟩
theorem Upd.cell (h:Upd S a b) {g k:Nat} (hg:g < a.heap.size) (hS: ¬S g):b.cell? ⟨g,k,none⟩=a.cell? ⟨g,k,none⟩:=World.cell?_of_block (w:=a) (h.block g hg hS)
theorem Upd.frozen (h:Upd S a b) {g k:Nat} (hg:g < a.heap.size) (hS: ¬S g):b.frozen? ⟨g,k,none⟩=a.frozen? ⟨g,k,none⟩:=World.frozen?_of_block (w:=a) (h.block g hg hS)
theorem Z2t {g:Nat} {t:Sh} {q:Ptr} (h:Box5 a g t q) (hu:Upd S a b) (hS: ¬S g):Box5 b g t q:=by
 obtain ⟨h0,h1,f0,f1,f2,f3,f4⟩:=h;exact ⟨Nat.lt_of_lt_of_le h0 hu.size,h1.of (fun k=>hu.cell h0 hS),(hu.frozen h0 hS).trans f0,(hu.frozen h0 hS).trans f1,(hu.frozen h0 hS).trans f2,(hu.frozen h0 hS).trans f3,(hu.frozen h0 hS).trans f4⟩
theorem Z4X {t:Sh} {q:Ptr} (h:ShAt a n0 q t) (hn:n0<=a.heap.size) (hu:Upd S a b) (hS: ∀x,x < n0-> ¬S x):ShAt b n0 q t:=
 h.of (Nat.le_refl _) (fun g k hg=>hu.cell (by omega) (hS g hg))
theorem Zcn {g N:Nat} {K:List Ky} {m:Ky->Value} (h:Mp a g N K m) (hu:Upd S a b) (hS: ¬S g):Mp b g N K m:=h.same (hu.block g h.lt hS)
end
def At (W:World) (n0:Nat) (o:Option Sh) (v:Value):Prop:=
 match o with
 | none=>v= .pointer none
 | some p=> ∃g off q,v= .pointer (some ⟨g,off,none⟩)/\g < n0/\Sh5 W g off p q/\ShAt W n0 q p
theorem At.upd {a b:World} {S:Nat->Prop} {n0:Nat} {o:Option Sh} {v:Value} (h:At a n0 o v) (hn:n0<=a.heap.size) (hu:Upd S a b) (hS: ∀x,x < n0-> ¬S x):At b n0 o v:=by
 cases o with
 | none=>exact h
 | some p=>
  obtain ⟨g,off,q,h1,h2,h3,h4⟩:=h;exact ⟨g,off,q,h1,h2,h3.of (fun k=>hu.cell (by omega) (hS g h2)),Z4X h4 hn hu hS⟩
end SubM
end Go.Proofs.YtmeiijjpomcgcaaDoor
namespace Go.Proofs.YtmeiijjpomcgcaaDoor
open Go.RowKit Shp Sub
namespace SubM
structure Takes (n0 N:Nat) (a b:Sh) (fn:Nat) (cs:List Value) (step:Cl->Bool) (K:Bool->List Cl->World->Prop):Prop where
 keep: ∀ok done W W',K ok done W->Upd (fun x=>N<=x/\x < N+3) W W'->K ok done W'
 call: ∀done c rest W (x y:Value),calls a b=done++c::rest->N+3<=W.heap.size->K true done W->At W n0 c.2.1 x->At W n0 c.2.2 y->
  Calls Tryd.prog fn (.string ⟨c.1.toArray⟩::x::y::cs).toArray W fun e W'=>e= .returned (.bool (step c))/\K (step c) (done++ [c]) W'/\Upd (fun x=>n0<=x/\ ¬(N<=x/\x < N+3)) W W'
def numOf:List (List UInt8)->List UInt8->Nat
 | [],_=>0
 | x::l,n=>if x=n then 0 else numOf l n+1
def place (g off:Nat) (ns:List (List UInt8)) (n:List UInt8):Value:= .pointer (some ⟨g,off+numOf ns n * 5,none⟩)
def Parts (W:World) (n0:Nat) (t:Sh) (q:Ptr) (g off:Nat) (qs:Nat->Ptr):Prop:=
 t.parts.length=0\/(q.P=some ⟨g,off,none⟩/\g < n0/\ ∀i (h:i < t.parts.length),Sh5 W g (off+i * 5) (t.parts[i]'h) (qs i)/\ShAt W n0 (qs i) (t.parts[i]'h))
theorem Parts.upd {a b:World} {S:Nat->Prop} {n0:Nat} {t:Sh} {q:Ptr} {g off:Nat} {qs:Nat->Ptr} (h:Parts a n0 t q g off qs) (hn:n0<=a.heap.size) (hu:Upd S a b) (hS: ∀x,x < n0-> ¬S x):Parts b n0 t q g off qs:=by
 rcases h with h | ⟨hP,hg,hc⟩
 {exact Or.inl h}
 {exact Or.inr ⟨hP,hg,fun i hi=>⟨(hc i hi).1.of (fun k=>hu.cell (by omega) (hS g hg)),Z4X (hc i hi).2 hn hu hS⟩⟩}
structure L1 (N:Nat) (a b:Sh) (pa pb:Ptr) (g off:Nat) (w:World) (k:Nat) (W:World):Prop where
 ba:Box5 W N a pa
 bb:Box5 W (N+1) b pb
 mp: ∃S,Mp W (N+2) k S (place g off b.names)/\ ∀n,n∈S ↔ n∈b.names.take k
 up:Upd (fun x=>N<=x/\x < N+3) w W
structure L2 (n0 N:Nat) (a b:Sh) (pa pb:Ptr) (g off:Nat) (w:World) (K:Bool->List Cl->World->Prop) (gone:List (List UInt8)) (done:List Cl) (W:World):Prop where
 ba:Box5 W N a pa
 bb:Box5 W (N+1) b pb
 mp: ∃S,Mp W (N+2) b.names.length S (place g off b.names)/\ ∀n,n∈S ↔ n∈b.names/\n∉gone
 up:Upd (fun x=>n0<=x) w W
 sz:N+3<=W.heap.size
 k:K true done W
section
variable {n0 : Nat} {a b : Sh} {pa pb : Ptr} {g off : Nat} {w : World} {K : Bool -> List Cl -> World -> Prop} {gone : List (List UInt8)} {done : List Cl} {W W' : World} {fn : Nat} {cs : List Value} {step : Cl -> Bool}
theorem L2.upd (h:L2 n0 w.heap.size a b pa pb g off w K gone done W) (hn:n0<=w.heap.size) (hu:Upd (fun x=>n0<=x/\ ¬(w.heap.size<=x/\x < w.heap.size+3)) W W') {done':List Cl} (hk:K true done' W'):L2 n0 w.heap.size a b pa pb g off w K gone done' W':=by
 obtain ⟨S,hM,hS⟩:=h.mp;exact ⟨Z2t h.ba hu (by omega),Z2t h.bb hu (by omega),⟨S,Zcn hM hu (by omega),hS⟩,h.up.trans (hu.mono (fun x _ hx=>hx.1)),Nat.le_trans h.sz hu.size,hk⟩
theorem L2.drew (h:L2 n0 w.heap.size a b pa pb g off w K gone done W) (hT:Takes n0 w.heap.size a b fn cs step K) (hn:n0<=w.heap.size):L2 n0 w.heap.size a b pa pb g off w K gone done W.drew:=
 h.upd hn (Upd.refl _ W).drew (hT.keep _ _ _ _ h.k (Upd.refl _ W).drew)
end
end SubM
end Go.Proofs.YtmeiijjpomcgcaaDoor
