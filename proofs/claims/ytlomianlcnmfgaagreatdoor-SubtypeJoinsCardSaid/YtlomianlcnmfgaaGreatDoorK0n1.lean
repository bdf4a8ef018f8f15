/- What the proofs of SubtypeJoins, SubtypeMeets want, part 1. -/
import Derived.Maps.OwnSet
import Derived.DeepKeys4
import Derived.Test.YtlomianlcnmfgaaGreatDoorK0n0
set_option linter.unusedVariables false
set_option linter.unusedSimpArgs false
set_option linter.unusedSectionVars false
set_option maxRecDepth 100000
set_option maxHeartbeats 16000000
namespace Go.Proofs.YtlomianlcnmfgaaGreatDoor
section
open Go.RowKit Shp
theorem Z7B (A:Option Addr) (c:Nat) (l:List (List UInt8)) (p:Nat) (w:World) (hA:Strs w w.heap.size A (strs l)) (hl:l.length<=9223372036854775807) (hx: ∀x∈l,x.length<=9223372036854775807):
 Y9 85 #[.slice A l.length c,.int .i64 (p:Int)] w (.bool (areNames l&&decide (l.length=p))):=by
 have HA:=Y1 hA;have HX:=Y1 hx;clear hA hx;go_enter Tryz.func85,Tryz.ntmps85
 go_wp2_with fail
 go_loopw [5] (fun ii wr=> ∃i:Nat,ii= .int .i64 i/\i<=l.length/\Hid (∀j (hj:j < l.length),j < i->Lex.isName (l[j]'hj)=true/\ ∀k (hk:k < j),l[k]'(by omega)≠l[j]'hj)/\Below w.heap.size w wr)
  (fun i _=>l.length - (intOf i).toNat)
 case atStart=>exact ⟨0,rfl,Nat.zero_le _,Y1 (fun j _ hj=>absurd hj (by omega)),Below.refl _ _⟩
 case round=>
  obtain ⟨i,rfl,hi,HN,hb⟩:=hrel;by_cases hlt:i < l.length
  {have hi1: (i:Int) < (l.length:Int):=by omega
   rcases (HA.out.next hb).cell7 with h0 | ⟨g,off,rfl,hg,hc⟩
   {omega}
   {have hcell:=hc i hlt;obtain ⟨x,hx⟩: ∃x,x=l[i]'hlt:=⟨_,rfl⟩;rw[<-hx] at hcell;have hxl:x.length<=9223372036854775807:=by rw[hx]; exact HX.out _ (List.getElem_mem _)
    have HE:=Y1 hx;have HC:=Y1 hc;clear hx hc;cases hn:Lex.isName x with
    | false=>
     have HF:Hid (areNames l=false):=Y1 (Z3U hlt (by rw[<-HE.out]; exact hn));have hw:=Z3z x hxl wr;rw[hn] at hw;clear hn
     go_wp2_with (refine hw.mono ?_; rintro e w' ⟨rfl,hb'⟩)
     go_ret;exact ⟨by rw[HF.out]; rfl,Z00 hb hb'⟩
    | true=>
     have HT:Hid (Lex.isName (l[i]'hlt)=true):=Y1 (by rw[<-HE.out]; exact hn);have hw:=Z3z x hxl wr;rw[hn] at hw;clear hn
     go_wp2_with (refine hw.mono ?_; rintro e w' ⟨rfl,hb'⟩)
     have hbw:=Z00 hb hb';have HC2:Hid (∀j (hj:j < l.length),w'.cell? ⟨g,off+j,none⟩=some (.string ⟨(l[j]'hj).toArray⟩)):=Y1 (fun j hj=>((hb'.cell (p:=⟨g,off+j,none⟩) hg).trans (HC.out j hj)));have hcell2:=HC2.out i hlt;rw[<-HE.out] at hcell2;have HH2:=Y1 hcell2;have HBW:=Y1 hbw;clear hw hb hb' hbw hcell hcell2
     go_loopw [6] (fun kk wr2=> ∃k:Nat,kk= .int .i64 k/\k<=i/\Hid (∀j (hj:j < i),j < k->l[j]'(by omega)≠l[i]'hlt)/\Hid (Below w'.heap.size w' wr2))
      (fun k _=>i - (intOf k).toNat)
     case atStart=>exact ⟨0,rfl,Nat.zero_le _,Y1 (fun j _ hj=>absurd hj (by omega)),Y1 Y2⟩
     case round=>
      obtain ⟨k,rfl,hk,HK,HB2⟩:=hrel;have hgw:g < w'.heap.size:=Z1W HH2.out;by_cases hki:k < i
      {have hk1: (k:Int) < (i:Int):=by omega
       have hk2: (k:Int) < (l.length:Int):=by omega
       have hck:=(HB2.out.cell (p:=⟨g,off+k,none⟩) hgw).trans (HC2.out k (by omega));have hci:=(HB2.out.cell (p:=⟨g,off+i,none⟩) hgw).trans HH2.out;obtain ⟨y,hy⟩: ∃y,y=l[k]'(by omega):=⟨_,rfl⟩;rw[<-hy] at hck;have HY:=Y1 hy;clear hy;cases hq: (y==x)
       {have HM:Hid (l[k]'(by omega)≠l[i]'hlt):=Y1 (by rw[<-HY.out, <-HE.out]; intro h; rw[h] at hq; simp at hq)
        go_wp2_with fail
        go_quiet (fail)
        go_wp2
        go_roundw
        case rel=>exact ⟨k+1,by go_num,by omega,Y1 (fun j hj hji=>by
         rcases Nat.lt_succ_iff_lt_or_eq.1 hji with h | rfl
         {exact HK.out j hj h}
         · exact HM.out),Y1 (Z0r HB2.out _)⟩
        case measure=>simp[intOf]; omega}
       {have HF:Hid (areNames l=false):=Y1 (Z3e hlt hki (by rw[<-HY.out, <-HE.out]; simpa using hq))
        go_wp2_with fail
        go_quiet (fail)
        go_wp2;go_ret;exact ⟨by rw[HF.out]; rfl,Z0r (Z00 HBW.out HB2.out) _⟩}}
      {have hke:k=i:=by omega
       have HN2:Hid (∀j (hj:j < l.length),j < i+1->Lex.isName (l[j]'hj)=true/\ ∀k (hk:k < j),l[k]'(by omega)≠l[j]'hj):=Y1 (fun j hj hji=>by
        rcases Nat.lt_succ_iff_lt_or_eq.1 hji with h | rfl
        {exact HN.out j hj h}
        · exact ⟨HT.out,fun m hm=>HK.out m hm (by omega)⟩)
       have hk1: ¬(k:Int) < (i:Int):=by omega
       clear hke;go_wp2
       go_roundw
       case rel=>exact ⟨i+1,by go_num,by omega,HN2,Z00 HBW.out HB2.out⟩
       case measure=>simp[intOf]; omega}}}
  {have hi1: ¬(i:Int) < (l.length:Int):=by omega
   have HM:Hid (areNames l=true):=Y1 (Z4h (fun j hj=>(HN.out j hj (by omega)).1) (fun j hj=>(HN.out j hj (by omega)).2));go_wp2;go_ret;exact ⟨Z0y (by rw[HM.out,Bool.true_and,Bool.eq_iff_iff]; simp; omega),hb⟩}
end
end Go.Proofs.YtlomianlcnmfgaaGreatDoor
namespace Lex
section
def join:List (List UInt8)->List UInt8
 | []=> []
 | [p]=>p
 | p::q::ps=>p++32::join (q::ps)
def Placed (s:List UInt8):Nat->List (Tok×Nat)->Prop
 | a,[]=>a<=s.length
 | a,(t,p)::r=>a<=p/\p<=s.length/\1<=t.kind/\t.kind<=7/\(t.kind=4->Placed s (p+2) r)/\(t.kind≠4->p+t.text.length<=s.length/\(s.drop p).take t.text.length=t.text/\Placed s (p+t.text.length) r)
theorem Placed.less {s:List UInt8} {a b:Nat} (hab:b<=a): ∀ {l:List (Tok×Nat)},Placed s a l->Placed s b l
 | [],h=>Nat.le_trans hab h
 | (t,p)::r,h=>by
  obtain ⟨h1,h2⟩:=h;exact ⟨Nat.le_trans hab h1,h2⟩
def up (k:Nat):Except Nat Nat->Except Nat Nat
 | .ok n=> .ok (k+n)
 | .error n=> .error (k+n)
end
end Lex
namespace Lex
def letter (c:UInt8):Bool:=small c||great c
theorem Z6x (c:UInt8):nameB c=(letter c||digit c||c==95):=rfl
end Lex
namespace Go.Proofs.YtlomianlcnmfgaaGreatDoor
open Go.RowKit
section
variable (c : UInt8) (w : World)
include c w
theorem Z1I:
 Calls Tryz.prog 120 #[.int .u8 (c.toNat:Int)] w fun e w'=>e= .returned (.bool (Lex.small c))/\w=w':=by
 have hlt:=c.toNat_lt;have H:c.toNat<=96\/(97<=c.toNat/\c.toNat<=122)\/123<=c.toNat:=by omega
 have HB:Hid (Lex.small c=(decide (97<=c.toNat)&&decide (c.toNat<=122))):=Y1 rfl;obtain ⟨n,hn⟩: ∃n,n=c.toNat:=⟨_,rfl⟩;rw[<-hn] at H HB hlt ⊢;clear hn;rcases H with h1 | ⟨h1,h2⟩ | h1
 {have h3:decide ((97:Int)<=(n:Int))=false:=decide_eq_false (by omega);go_enter Tryz.func120,Tryz.ntmps120;go_wp2;go_ret;exact ⟨by rw[HB.out,decide_eq_false (by omega)]; rfl,rfl⟩}
 {have h3:decide ((n:Int)<=122)=true:=decide_eq_true (by omega);have h4:decide ((97:Int)<=(n:Int))=true:=decide_eq_true (by omega);go_enter Tryz.func120,Tryz.ntmps120;go_wp2;go_ret;exact ⟨by rw[HB.out,decide_eq_true h1,decide_eq_true h2]; rfl,rfl⟩}
 {have h3:decide ((n:Int)<=122)=false:=decide_eq_false (by omega);have h4:decide ((97:Int)<=(n:Int))=true:=decide_eq_true (by omega);go_enter Tryz.func120,Tryz.ntmps120;go_wp2;go_ret;exact ⟨by rw[HB.out,decide_eq_false (p:=n<=122) (by omega),Bool.and_false]; rfl,rfl⟩}
theorem Z35:
 Calls Tryz.prog 123 #[.int .u8 (c.toNat:Int)] w fun e w'=>e= .returned (.bool (Lex.great c))/\w=w':=by
 have hlt:=c.toNat_lt;have H:c.toNat<=64\/(65<=c.toNat/\c.toNat<=90)\/91<=c.toNat:=by omega
 have HB:Hid (Lex.great c=(decide (65<=c.toNat)&&decide (c.toNat<=90))):=Y1 rfl;obtain ⟨n,hn⟩: ∃n,n=c.toNat:=⟨_,rfl⟩;rw[<-hn] at H HB hlt ⊢;clear hn;rcases H with h1 | ⟨h1,h2⟩ | h1
 {have h3:decide ((65:Int)<=(n:Int))=false:=decide_eq_false (by omega);go_enter Tryz.func123,Tryz.ntmps123;go_wp2;go_ret;exact ⟨by rw[HB.out,decide_eq_false (by omega)]; rfl,rfl⟩}
 {have h3:decide ((n:Int)<=90)=true:=decide_eq_true (by omega);have h4:decide ((65:Int)<=(n:Int))=true:=decide_eq_true (by omega);go_enter Tryz.func123,Tryz.ntmps123;go_wp2;go_ret;exact ⟨by rw[HB.out,decide_eq_true h1,decide_eq_true h2]; rfl,rfl⟩}
 {have h3:decide ((n:Int)<=90)=false:=decide_eq_false (by omega);have h4:decide ((65:Int)<=(n:Int))=true:=decide_eq_true (by omega);go_enter Tryz.func123,Tryz.ntmps123;go_wp2;go_ret;exact ⟨by rw[HB.out,decide_eq_false (p:=n<=90) (by omega),Bool.and_false]; rfl,rfl⟩}
theorem Z36:
 Calls Tryz.prog 132 #[.int .u8 (c.toNat:Int)] w fun e w'=>e= .returned (.bool (Lex.digit c))/\w=w':=by
 have hlt:=c.toNat_lt;have H:c.toNat<=47\/(48<=c.toNat/\c.toNat<=57)\/58<=c.toNat:=by omega
 have HB:Hid (Lex.digit c=(decide (48<=c.toNat)&&decide (c.toNat<=57))):=Y1 rfl;obtain ⟨n,hn⟩: ∃n,n=c.toNat:=⟨_,rfl⟩;rw[<-hn] at H HB hlt ⊢;clear hn;rcases H with h1 | ⟨h1,h2⟩ | h1
 {have h3:decide ((48:Int)<=(n:Int))=false:=decide_eq_false (by omega);go_enter Tryz.func132,Tryz.ntmps132;go_wp2;go_ret;exact ⟨by rw[HB.out,decide_eq_false (by omega)]; rfl,rfl⟩}
 {have h3:decide ((n:Int)<=57)=true:=decide_eq_true (by omega);have h4:decide ((48:Int)<=(n:Int))=true:=decide_eq_true (by omega);go_enter Tryz.func132,Tryz.ntmps132;go_wp2;go_ret;exact ⟨by rw[HB.out,decide_eq_true h1,decide_eq_true h2]; rfl,rfl⟩}
 {have h3:decide ((n:Int)<=57)=false:=decide_eq_false (by omega);have h4:decide ((48:Int)<=(n:Int))=true:=decide_eq_true (by omega);go_enter Tryz.func132,Tryz.ntmps132;go_wp2;go_ret;exact ⟨by rw[HB.out,decide_eq_false (p:=n<=57) (by omega),Bool.and_false]; rfl,rfl⟩}
theorem Z1Y:
 Calls Tryz.prog 131 #[.int .u8 (c.toNat:Int)] w fun e w'=>e= .returned (.bool (Lex.letter c))/\w=w':=by
 have HM:Hid (Lex.letter c=(Lex.small c||Lex.great c)):=Y1 rfl;cases h1:Lex.small c
 {have HF:Hid (Lex.letter c=Lex.great c):=Y1 (by rw[HM.out,h1]; rfl);go_enter Tryz.func131,Tryz.ntmps131
  go_wp2_with fail
  refine (Z1I c _).mono ?_;rintro e w2 ⟨rfl,rfl⟩;rw[h1]
  go_wp2_with fail
  refine (Z35 c _).mono ?_;rintro e w2 ⟨rfl,rfl⟩;go_wp2;go_ret;exact ⟨by rw[HF.out]; rfl,rfl⟩}
 {have HF:Hid (Lex.letter c=true):=Y1 (by rw[HM.out,h1]; rfl);go_enter Tryz.func131,Tryz.ntmps131
  go_wp2_with fail
  refine (Z1I c _).mono ?_;rintro e w2 ⟨rfl,rfl⟩;rw[h1];go_wp2;go_ret;exact ⟨by rw[HF.out]; rfl,rfl⟩}
theorem Z4m:
 Calls Tryz.prog 129 #[.int .u8 (c.toNat:Int)] w fun e w'=>e= .returned (.bool (Lex.nameB c))/\w=w':=by
 have HM:=Y1 (Lex.Z6x c);have b95:=Z87 c;cases h1:Lex.letter c
 {cases h2:Lex.digit c
  {cases g95: (c==95)
   {rw[g95] at b95;have HF:Hid (Lex.nameB c=false):=Y1 (by rw[HM.out,h1,h2,g95]; rfl);clear HM;go_enter Tryz.func129,Tryz.ntmps129
    go_wp2_with fail
    refine (Z1Y c _).mono ?_;rintro e w2 ⟨rfl,rfl⟩;rw[h1]
    go_wp2_with fail
    refine (Z36 c _).mono ?_;rintro e w2 ⟨rfl,rfl⟩;rw[h2];go_wp2;go_ret;exact ⟨by rw[HF.out]; rfl,rfl⟩}
   {rw[g95] at b95;have HF:Hid (Lex.nameB c=true):=Y1 (by rw[HM.out,h1,h2,g95]; rfl);clear HM;go_enter Tryz.func129,Tryz.ntmps129
    go_wp2_with fail
    refine (Z1Y c _).mono ?_;rintro e w2 ⟨rfl,rfl⟩;rw[h1]
    go_wp2_with fail
    refine (Z36 c _).mono ?_;rintro e w2 ⟨rfl,rfl⟩;rw[h2];go_wp2;go_ret;exact ⟨by rw[HF.out]; rfl,rfl⟩}}
  {have HF:Hid (Lex.nameB c=true):=Y1 (by rw[HM.out,h1,h2]; rfl);clear HM;go_enter Tryz.func129,Tryz.ntmps129
   go_wp2_with fail
   refine (Z1Y c _).mono ?_;rintro e w2 ⟨rfl,rfl⟩;rw[h1]
   go_wp2_with fail
   refine (Z36 c _).mono ?_;rintro e w2 ⟨rfl,rfl⟩;rw[h2];go_wp2;go_ret;exact ⟨by rw[HF.out]; rfl,rfl⟩}}
 {have HF:Hid (Lex.nameB c=true):=Y1 (by rw[HM.out,h1]; rfl);clear HM;go_enter Tryz.func129,Tryz.ntmps129
  go_wp2_with fail
  refine (Z1Y c _).mono ?_;rintro e w2 ⟨rfl,rfl⟩;rw[h1];go_wp2;go_ret;exact ⟨by rw[HF.out]; rfl,rfl⟩}
end
theorem Z94 (s:List UInt8) (w:World):
 Calls Tryz.prog 122 #[.string ⟨s.toArray⟩] w fun e w'=>e= .returned (.bool (Lex.isWord s))/\w=w':=by
 cases hq:Lex.isWord s
 {have HN: ∀t∈Lex.words,(s==t)=false:=fun t ht=>by
   cases h: (s==t) with
   | false=>rfl
   | true=>
    obtain rfl:=beq_iff_eq.1 h;unfold Lex.isWord at hq;rw[List.contains_iff_mem.2 ht] at hq; cases hq
  have n0: (s== [109,111,100,117,108,101])=false:=HN _ (by decide);have n1: (s== [105,109,112,111,114,116])=false:=HN _ (by decide);have n2: (s== [112,105,110])=false:=HN _ (by decide);have n3: (s== [114,97,110,103,101])=false:=HN _ (by decide);have n4: (s== [116,121,112,101])=false:=HN _ (by decide);have n5: (s== [111,112,97,113,117,101])=false:=HN _ (by decide);have n6: (s== [108,101,116])=false:=HN _ (by decide);have n7: (s== [105,110])=false:=HN _ (by decide);have n8: (s== [101,120,112,111,114,116])=false:=HN _ (by decide);have n9: (s== [102,117,110])=false:=HN _ (by decide);have n10: (s== [105,102])=false:=HN _ (by decide);have n11: (s== [116,104,101,110])=false:=HN _ (by decide);have n12: (s== [101,108,115,101])=false:=HN _ (by decide);have n13: (s== [99,97,115,101])=false:=HN _ (by decide);have n14: (s== [111,102])=false:=HN _ (by decide);have n15: (s== [97,115])=false:=HN _ (by decide);have n16: (s== [110,101,119])=false:=HN _ (by decide);have n17: (s== [114,97,119])=false:=HN _ (by decide);have n18: (s== [116,114,117,101])=false:=HN _ (by decide);have n19: (s== [102,97,108,115,101])=false:=HN _ (by decide);clear HN hq;go_enter Tryz.func122,Tryz.ntmps122;go_wp2;go_ret;exact ⟨rfl,rfl⟩}
 {have hm:s∈Lex.words:=List.contains_iff_mem.1 hq;clear hq;unfold Lex.words at hm;simp only[List.mem_cons,List.not_mem_nil,or_false] at hm;rcases hm with rfl | rfl | rfl | rfl | rfl | rfl | rfl | rfl | rfl | rfl | rfl | rfl | rfl | rfl | rfl | rfl | rfl | rfl | rfl | rfl
  all_goals
   go_enter Tryz.func122,Tryz.ntmps122;go_wp2;go_ret;exact ⟨rfl,rfl⟩}
end Go.Proofs.YtlomianlcnmfgaaGreatDoor
namespace Lex
def named (l:List UInt8):Bool:=decide (l.length<=24)&&l.tail.all nameB
section
variable {p : UInt8 -> Bool} {l : List UInt8}
include p l
theorem Zbb (h: ∀j (hj:j < l.length),1<=j->p (l[j]'hj)=true):l.tail.all p=true:=by
 cases l with
 | nil=>rfl
 | cons c r=>
  refine List.all_eq_true.2 (fun x hx=> ?_);obtain ⟨j,hj,rfl⟩:=List.mem_iff_getElem.1 hx;exact h (j+1) (by simpa using hj) (by omega)
theorem Zbr {j:Nat} (hj:j < l.length) (h1:1<=j) (h:p (l[j]'hj)=false):l.tail.all p=false:=by
 cases l with
 | nil=>simp at hj
 | cons c r=>
  obtain ⟨k,rfl⟩: ∃k,j=k+1:=⟨j - 1,by omega⟩;have hm: (r[k]'(by simpa using hj))∈r:=List.getElem_mem _;cases hq: (c::r).tail.all p with
  | false=>rfl
  | true=>
   have:=List.all_eq_true.1 hq _ hm;have h':p (r[k]'(by simpa using hj))=false:=h;rw[h'] at this; cases this
end
theorem Z95 (c:UInt8) (r:List UInt8):isName (c::r)=(small c&&named (c::r)&& !isWord (c::r)):=by
 show (decide ((c::r).length<=24)&&small c&&(c::r).all nameB&& !isWord (c::r))=_;cases h:small c with
 | false=>simp
 | true=>
  have:nameB c=true:=by unfold nameB; rw[h]; rfl
  unfold named;simp[this]
theorem Z7F (c:UInt8) (r:List UInt8):isUpper (c::r)=(great c&&named (c::r)):=by
 show (decide ((c::r).length<=24)&&great c&&(c::r).all nameB)=_;cases h:great c with
 | false=>simp
 | true=>
  have:nameB c=true:=by unfold nameB; rw[h]; simp
  unfold named;simp[this]
end Lex
namespace Go.Proofs.YtlomianlcnmfgaaGreatDoor
open Go.RowKit
section
variable (l : List UInt8) (hl : l.length <= 9223372036854775807) (w : World)
include l hl w
theorem Z37:
 Calls Tryz.prog 121 #[.string ⟨l.toArray⟩] w fun e w'=>e= .returned (.bool (Lex.named l))/\w=w':=by
 have hz: (⟨l.toArray⟩:ByteArray).size=l.length:=Z11 _;have HM:Hid (Lex.named l=(decide (l.length<=24)&&l.tail.all Lex.nameB)):=Y1 rfl;by_cases h24:l.length<=24
 {have h24d: ¬((24:Int) < (l.length:Int)):=by omega
  go_enter Tryz.func121,Tryz.ntmps121
  go_wp2_with fail
  go_loopw [3] (fun ii wr=> ∃n:Nat,ii= .int .i64 n/\1<=n/\(n<=l.length\/n=1)/\Hid (∀j (hj:j < l.length),1<=j->j < n->Lex.nameB (l[j]'hj)=true)/\w=wr)
   (fun i _=>l.length - (intOf i).toNat)
  case atStart=>exact ⟨1,rfl,Nat.le_refl _,Or.inr rfl,Y1 (fun j _ h1 hj=>absurd hj (by omega)),rfl⟩
  case round=>
   obtain ⟨n,rfl,h1,hn,HN,rfl⟩:=hrel;by_cases hlt:n < l.length
   {have hi1: (n:Int) < (l.length:Int):=by omega
    obtain ⟨c,hc⟩: ∃c,c=l[n]'hlt:=⟨_,rfl⟩;have hidx: ∀W,(Instr.index 9 (.string ⟨l.toArray⟩) (.int .i64 (n:Int))).run Tryz.prog W= .ok (.int .u8 c.toNat) W:=fun W=>by
     rw[hc]; exact Z4O ⟨l.toArray⟩ n (by omega) W
    have HC:=Y1 hc;clear hc;cases hb:Lex.nameB c
    {have HF:Hid (Lex.named l=false):=Y1 (by rw[HM.out,Lex.Zbr hlt h1 (by rw[<-HC.out]; exact hb)]; simp)
     go_wp2_with fail
     refine (Z4m c _).mono ?_;rintro e w2 ⟨rfl,rfl⟩;rw[hb];go_wp2;go_ret;exact ⟨by rw[HF.out]; rfl,rfl⟩}
    {have HN2:Hid (∀j (hj:j < l.length),1<=j->j < n+1->Lex.nameB (l[j]'hj)=true):=Y1 (fun j hj h1 hji=>by
      rcases Nat.lt_succ_iff_lt_or_eq.1 hji with h' | rfl
      {exact HN.out j hj h1 h'}
      · rw[<-HC.out]; exact hb)
     go_wp2_with fail
     refine (Z4m c _).mono ?_;rintro e w2 ⟨rfl,rfl⟩;rw[hb];go_wp2
     go_roundw
     case rel=>exact ⟨n+1,by go_num,by omega,Or.inl (by omega),HN2,trivial⟩
     case measure=>simp[intOf]; omega}}
   {have hi1: ¬(n:Int) < (l.length:Int):=by omega
    have HF:Hid (Lex.named l=true):=Y1 (by rw[HM.out,decide_eq_true h24,Lex.Zbb (fun j hj h1=>HN.out j hj h1 (by omega))]; rfl);go_wp2;go_ret;exact ⟨by rw[HF.out]; rfl,rfl⟩}}
 {have h24d: (24:Int) < (l.length:Int):=by omega
  have HF:Hid (Lex.named l=false):=Y1 (by rw[HM.out,decide_eq_false h24]; rfl);go_enter Tryz.func121,Tryz.ntmps121;go_wp2;go_ret;exact ⟨by rw[HF.out]; rfl,rfl⟩}
theorem Z2t:
 Calls Tryz.prog 104 #[.string ⟨l.toArray⟩] w fun e w'=>e= .returned (.bool (Lex.isName l))/\w=w':=by
 cases l with
 | nil=>
  have HM:Hid (Lex.isName []=false):=Y1 rfl;go_enter Tryz.func104,Tryz.ntmps104;go_wp2;go_ret;exact ⟨by rw[HM.out]; rfl,rfl⟩
 | cons c r=>
  have HM:=Y1 (Lex.Z95 c r);obtain ⟨l,hll⟩: ∃l:List UInt8,l=c::r:=⟨_,rfl⟩;rw[<-hll] at hl HM ⊢;have hz: (⟨l.toArray⟩:ByteArray).size=l.length:=Z11 _;have he:l.isEmpty=false:=by rw[hll]; rfl
  have he2: (l== [])=false:=by rw[hll]; rfl
  have he3: (l != [])=true:=by rw[hll]; rfl
  have hidx: ∀W,(Instr.index 9 (.string ⟨l.toArray⟩) (.int .i64 0)).run Tryz.prog W= .ok (.int .u8 c.toNat) W:=fun W=>by rw[hll]; rfl
  clear hll;cases h1:Lex.small c
  {have HF:Hid (Lex.isName l=false):=Y1 (by rw[HM.out,h1]; rfl);go_enter Tryz.func104,Tryz.ntmps104
   go_wp2_with fail
   refine (Z1I c _).mono ?_;rintro e w2 ⟨rfl,rfl⟩;rw[h1];go_wp2;go_ret;exact ⟨by rw[HF.out]; rfl,rfl⟩}
  {cases h2:Lex.named l
   {have HF:Hid (Lex.isName l=false):=Y1 (by rw[HM.out,h1,h2]; rfl);go_enter Tryz.func104,Tryz.ntmps104
    go_wp2_with fail
    refine (Z1I c _).mono ?_;rintro e w2 ⟨rfl,rfl⟩;rw[h1]
    go_wp2_with fail
    refine (Z37 l hl _).mono ?_;rintro e w2 ⟨rfl,rfl⟩;rw[h2];go_wp2;go_ret;exact ⟨by rw[HF.out]; rfl,rfl⟩}
   {have HF:Hid (Lex.isName l= !Lex.isWord l):=Y1 (by rw[HM.out,h1,h2]; rfl);go_enter Tryz.func104,Tryz.ntmps104
    go_wp2_with fail
    refine (Z1I c _).mono ?_;rintro e w2 ⟨rfl,rfl⟩;rw[h1]
    go_wp2_with fail
    refine (Z37 l hl _).mono ?_;rintro e w2 ⟨rfl,rfl⟩;rw[h2]
    go_wp2_with fail
    refine (Z94 l _).mono ?_;rintro e w2 ⟨rfl,rfl⟩;go_wp2;go_ret;exact ⟨by rw[HF.out]; rfl,rfl⟩}}
theorem Z4n:
 Calls Tryz.prog 105 #[.string ⟨l.toArray⟩] w fun e w'=>e= .returned (.bool (Lex.isUpper l))/\w=w':=by
 cases l with
 | nil=>
  have HM:Hid (Lex.isUpper []=false):=Y1 rfl;go_enter Tryz.func105,Tryz.ntmps105;go_wp2;go_ret;exact ⟨by rw[HM.out]; rfl,rfl⟩
 | cons c r=>
  have HM:=Y1 (Lex.Z7F c r);obtain ⟨l,hll⟩: ∃l:List UInt8,l=c::r:=⟨_,rfl⟩;rw[<-hll] at hl HM ⊢;have hz: (⟨l.toArray⟩:ByteArray).size=l.length:=Z11 _;have he:l.isEmpty=false:=by rw[hll]; rfl
  have he2: (l== [])=false:=by rw[hll]; rfl
  have he3: (l != [])=true:=by rw[hll]; rfl
  have hidx: ∀W,(Instr.index 9 (.string ⟨l.toArray⟩) (.int .i64 0)).run Tryz.prog W= .ok (.int .u8 c.toNat) W:=fun W=>by rw[hll]; rfl
  clear hll;cases h1:Lex.great c
  {have HF:Hid (Lex.isUpper l=false):=Y1 (by rw[HM.out,h1]; rfl);go_enter Tryz.func105,Tryz.ntmps105
   go_wp2_with fail
   refine (Z35 c _).mono ?_;rintro e w2 ⟨rfl,rfl⟩;rw[h1];go_wp2;go_ret;exact ⟨by rw[HF.out]; rfl,rfl⟩}
  {have HF:Hid (Lex.isUpper l=Lex.named l):=Y1 (by rw[HM.out,h1]; rfl);go_enter Tryz.func105,Tryz.ntmps105
   go_wp2_with fail
   refine (Z35 c _).mono ?_;rintro e w2 ⟨rfl,rfl⟩;rw[h1]
   go_wp2_with fail
   refine (Z37 l hl _).mono ?_;rintro e w2 ⟨rfl,rfl⟩;go_wp2;go_ret;exact ⟨by rw[HF.out]; rfl,rfl⟩}
end
end Go.Proofs.YtlomianlcnmfgaaGreatDoor
namespace Go.Proofs.YtlomianlcnmfgaaGreatDoor
section
open Go.RowKit Go.Maps Go.WideMaps Shp
theorem Z1t:Keyed Tryz.prog 9:=string_keyed Tryz.underlying9
theorem Z45 (w:World): (zeroValue 112).run Tryz.prog w= .ok (.agg #[]) w:=by kernel_rfl
def seenOf (l:List (List UInt8)) (k:Nat):DataW Unit:=setOf (.agg []) ((l.take k).map Lit.string)
theorem Zae (l:List (List UInt8)):seenOf l 0= .map []:=by simp[seenOf,setOf]
theorem Zaf (l:List (List UInt8)) (k:Nat) (hk:k < l.length):seenOf l (k+1)=(seenOf l k).put (.string (l[k]'hk)) (.agg []):=by
 unfold seenOf;rw[List.take_succ_eq_append_getElem hk,List.map_append,List.map_cons,List.map_nil,setOf_snoc]
theorem Z6y (x:List UInt8): ∀l:List (List UInt8),l.any ((fun y:Lit=>y.sameKey (.string x)) ∘ Lit.string)=l.contains x
 | []=>rfl
 | a::r=>by
  rw[List.any_cons,List.contains_cons,Z6y x r];congr 1;by_cases e:a=x
  {subst e; simp[Lit.sameKey]}
  {have e': ¬x=a:=fun h=>e h.symm;simp[Lit.sameKey];rw[show (a==x)=false from by simpa using e,show (x==a)=false from by simpa using e']}
theorem Zbc (l:List (List UInt8)) (k:Nat) (x:List UInt8):Maps.has (seenOf l k) (.string x)=(l.take k).contains x:=by
 unfold seenOf;rw[has_setOf _ _ _ (fun y hy=>by obtain ⟨_,_,rfl⟩:=List.mem_map.1 hy; trivial),List.any_map];exact Z6y x _
theorem Z7G (A:Option Addr) (c:Nat) (l:List (List UInt8)) (w:World) (hA:Strs w w.heap.size A (strs l)) (hl:l.length<=1000000) (hx: ∀x∈l,x.length<=9223372036854775807):
 Y9 102 #[.slice A l.length c] w (.bool (areNames l)):=by
 have hmm:= @run_makeMap Tryz.prog;have HA:=Y1 hA;have HX:=Y1 hx;clear hA hx;go_enter Tryz.func102,Tryz.ntmps102
 go_wp2_with fail
 go_loopw [11] (fun ii wr=> ∃k:Nat,k<=l.length/\ii= .int .i64 k/\wr.ownsMap Tryz.prog 9 unitElem w.heap.size k (seenOf l k)/\Below w.heap.size w wr/\Hid (∀j (hj:j < l.length),j < k->Lex.isName (l[j]'hj)=true/\ ∀m (hm:m < j),l[m]'(by omega)≠l[j]'hj))
  (fun i _=>l.length - (intOf i).toNat)
 case atStart=>exact ⟨0,Nat.zero_le _,rfl,by rw[Zae]; exact World.ownsMap_made _ _ _ _,Y2.alloc (Nat.le_refl _) _,Y1 (fun j _ hj=>absurd hj (by omega))⟩
 case round=>
  obtain ⟨k,hk,rfl,hown,hb,HN⟩:=hrel;by_cases hlt:k < l.length
  {have hi1: (k:Int) < (l.length:Int):=by omega
   rcases (HA.out.next hb).cell7 with h0 | ⟨g,off,rfl,hg,hc⟩
   {omega}
   {have hcell:=hc k hlt;obtain ⟨x,hx⟩: ∃x,x=l[k]'hlt:=⟨_,rfl⟩;rw[<-hx] at hcell;have hxl:x.length<=9223372036854775807:=by rw[hx]; exact HX.out _ (List.getElem_mem _)
    have HE:=Y1 hx;have hkey:keyOf Tryz.prog 9 (.string ⟨x.toArray⟩)=some (.string x):=keyOf_string_mk Tryz.underlying9 (by rw[Z11]; unfold maxLen; exact hxl);clear hx hc;have HHAS:=Y1 (Zbc l k x);have HOWN:=Y1 hown;have HBB:=Y1 hb;clear hb;cases hin: (l.take k).contains x with
    | true=>
     have HF:Hid (areNames l=false):=Y1 (by
      have hm:=List.contains_iff_mem.1 hin;obtain ⟨m,hm,he⟩:=List.getElem_of_mem hm;rw[List.length_take] at hm;rw[List.getElem_take] at he;exact Z3e (k:=m) hlt (by omega) (by rw[he,HE.out]))
     have hhas:=HHAS.out;rw[hin] at hhas;clear hin
     go_wp2_with (first
      | (at_lookup; refine wpList_lookup_own_unit _ rfl _ _ 111 rfl 9 112 Z1t Tryz.underlying111 (Z45 _) w.heap.size k _ rfl hown _ _ rfl hkey ?_)
      | fail)
     go_ret;exact ⟨by rw[HF.out]; rfl,HBB.out.alloc HBB.out.size _⟩
    | false=>
     have HNU:Hid (∀m (hm:m < k),l[m]'(by omega)≠l[k]'hlt):=Y1 (fun m hm he=>by
      rw[<-HE.out] at he;have:x∈l.take k:=by
       rw[<-he];have:=List.getElem_mem (l:=l.take k) (n:=m) (by rw[List.length_take]; omega)
       rwa [List.getElem_take] at this
      rw[List.contains_iff_mem.2 this] at hin;cases hin)
     have hhas:=HHAS.out;rw[hin] at hhas;clear hin;cases hn:Lex.isName x with
     | false=>
      have HF:Hid (areNames l=false):=Y1 (Z3U hlt (by rw[<-HE.out]; exact hn));have hw:=fun W=>Z2t x hxl W;simp only[hn] at hw;clear hn
      go_wp2_with (first
       | (at_lookup; refine wpList_lookup_own_unit _ rfl _ _ 111 rfl 9 112 Z1t Tryz.underlying111 (Z45 _) w.heap.size k _ rfl hown _ _ rfl hkey ?_)
       | (go_at_call 104; refine (hw _).mono ?_; rintro e w' ⟨rfl,rfl⟩))
      go_ret;exact ⟨by rw[HF.out]; rfl,HBB.out.alloc HBB.out.size _⟩
     | true=>
      have HNA:Hid (Lex.isName (l[k]'hlt)=true):=Y1 (by rw[<-HE.out]; exact hn);have hw:=fun W=>Z2t x hxl W;simp only[hn] at hw;clear hn
      go_wp2_with (first
       | (at_lookup; refine wpList_lookup_own_unit _ rfl _ _ 111 rfl 9 112 Z1t Tryz.underlying111 (Z45 _) w.heap.size k _ rfl hown _ _ rfl hkey ?_)
       | (go_at_call 104; refine (hw _).mono ?_; rintro e w' ⟨rfl,rfl⟩)
       | (at_mapUpdate; refine wpList_mapUpdate_own _ rfl _ _ _ 111 rfl 9 112 Z1t Tryz.underlying111 (unitElem (H:=Unit)) w.heap.size k _ rfl (hown.alloc _) (by unfold maxLen; omega) _ _ _ rfl rfl hkey _ [] unitElem_mk ?_; intro w1 hown1 hgrow1))
      go_roundw
      case rel=>
       refine ⟨k+1,by omega,by go_num, ?_, ?_,Y1 (fun j hj hji=>by
        rcases Nat.lt_succ_iff_lt_or_eq.1 hji with h | rfl
        {exact HN.out j hj h}
        · exact ⟨HNA.out,HNU.out⟩)⟩
       {rw[Zaf l k hlt, <-HE.out]; exact hown1}
       {exact (HBB.out.alloc HBB.out.size _).grown hgrow1 (by have:=HBB.out.size; simp; omega) (fun j hj=>by cases hj; exact Nat.le_refl _)}
      case measure=>simp[intOf]; omega}}
  {have hi1: ¬(k:Int) < (l.length:Int):=by omega
   have HM:Hid (areNames l=true):=Y1 (Z4h (fun j hj=>(HN.out j hj (by omega)).1) (fun j hj=>(HN.out j hj (by omega)).2));go_wp2;go_ret;exact ⟨by rw[HM.out]; rfl,hb⟩}
end
end Go.Proofs.YtlomianlcnmfgaaGreatDoor
namespace Go.Proofs.YtlomianlcnmfgaaGreatDoor
open Go.RowKit Go.Maps Go.WideMaps Shp
namespace SubM
abbrev Ky:=List UInt8
def Fine (k:Ky):Prop:=k.length<=9223372036854775807
def KL (k:Ky):Lit:= .string k
theorem Z2u {k:Ky} (h:Fine k):keyOf Tryz.prog 9 (.string ⟨k.toArray⟩)=some (KL k):=keyOf_string_mk Tryz.underlying9 (by rw[Z11]; unfold maxLen; exact h)
theorem Z52 {k k':Ky} (h:Fine k) (h':Fine k') (e:KL k=KL k'):k=k':=by cases e; rfl
theorem Zag (k:Ky):WideAt.IsKeyLit (KL k):=trivial
def slEl:Value->Option (DataW Unit×List MemPlace)
 | .pointer none=>some (.agg [],[])
 | .pointer (some ⟨g,o,none⟩)=>some (.agg [.lit (.int .i64 (g:Int)),.lit (.int .i64 (o:Int))],[])
 | _=>none
theorem Z6z {v v':Value} {d:DataW Unit} {p p':List MemPlace} (h:slEl v=some (d,p)) (h':slEl v'=some (d,p')):v=v':=by
 unfold slEl at h h';split at h <;> split at h' <;> simp only[Option.some.injEq,Prod.mk.injEq,reduceCtorEq] at h h'
 {rfl}
 {obtain ⟨rfl,_⟩:=h;simp at h'}
 {obtain ⟨rfl,_⟩:=h;simp at h'}
 {obtain ⟨rfl,_⟩:=h;simp at h';obtain ⟨⟨h1,h2⟩,_⟩:=h';have e1:_=_:=Int.ofNat_inj.1 h1;have e2:_=_:=Int.ofNat_inj.1 h2;rw[e1,e2]}
theorem Z8d (w:World): (zeroValue 49).run Tryz.prog w= .ok (.pointer none) w:=by kernel_rfl
def Mp (W:World) (b N:Nat) (S:List Ky) (m:Ky->Value):Prop:=
 ∃D:DataW Unit,W.ownsMap Tryz.prog 9 slEl b N D/\Maps.size D=S.length/\S.Nodup/\(∀k∈S,Fine k)/\(∀k,Fine k->(Maps.has D (KL k)=true ↔ k∈S))/\
  ∀k,Fine k-> ∃p,slEl (if k∈S then m k else .pointer none)=some (D.atKey (KL k) (.agg []),p)
theorem Mp.made (W:World) (m:Ky->Value):Mp (W.alloc (.map #[] 0)) W.heap.size 0 [] m:=by
 refine ⟨.map [],World.ownsMap_made _ _ _ _,rfl,List.nodup_nil,nofun,fun k _=>⟨fun h=>by simp[Maps.has] at h,nofun⟩,fun k _=>⟨[], ?_⟩⟩;rw[if_neg (by simp)];rfl
theorem Mp.lt {W:World} {b N:Nat} {S:List Ky} {m:Ky->Value} (h:Mp W b N S m):b < W.heap.size:=by obtain ⟨_,h,_⟩:=h; exact h.lt
theorem Mp.kept {W W':World} {b N:Nat} {S:List Ky} {m:Ky->Value} (h:Mp W b N S m) {row:Option Nat} (hg:W.grownBy W' row) (hne:some b≠row):Mp W' b N S m:=by
 obtain ⟨D,h1,h2⟩:=h; exact ⟨D,h1.kept hg hne,h2⟩
theorem Mp.same {W W':World} {b N:Nat} {S:List Ky} {m:Ky->Value} (h:Mp W b N S m) (hb:W'.heap[b]? =W.heap[b]?):Mp W' b N S m:=by
 obtain ⟨D,⟨es,clock,h0,h1⟩,h2⟩:=h; exact ⟨D,⟨es,clock,hb.trans h0,h1⟩,h2⟩
section
variable {W : World} {b N : Nat} {S : List Ky}
include W b N S
theorem Mp.like {m m':Ky->Value} (h:Mp W b N S m) (hm: ∀k∈S,m' k=m k):Mp W b N S m':=by
 obtain ⟨D,h1,h2,h3,h4,h5,h6⟩:=h;refine ⟨D,h1,h2,h3,h4,h5,fun k hk=> ?_⟩;obtain ⟨p,hp⟩:=h6 k hk;refine ⟨p, ?_⟩;rw[<-hp];by_cases e:k∈S
 {rw[if_pos e,if_pos e,hm k e]}
 {rw[if_neg e,if_neg e]}
theorem Mp.look {m:Ky->Value} (h:Mp W b N S m) {k:Ky} (hk:Fine k):
 (Instr.lookup 59 (.map (some b)) ((.string ⟨k.toArray⟩)) false).run Tryz.prog W= .ok (if k∈S then m k else .pointer none) W:=by
 obtain ⟨D,h1,_,_,_,_,h6⟩:=h;obtain ⟨v,ps,hr,hv⟩:=h1.lookup Z1t Tryz.underlying59 (Z8d W) (zd:= .agg []) (zp:= []) rfl (Z2u hk);obtain ⟨p,hp⟩:=h6 k hk;rw[hr,Z6z hv hp]
end
theorem Mp.len {W:World} {b N:Nat} {S:List Ky} {m:Ky->Value} (h:Mp W b N S m) (ty:TypeId):
 (Builtin.len_ #[59] ty #[.map (some b)]).run Tryz.prog W= .ok (.int .i64 S.length) W:=by
 obtain ⟨D,h1,h2,_⟩:=h;rw[h1.len Tryz.underlying59 ty,h2]
theorem Mp.put {W:World} {b N:Nat} {S:List Ky} {m:Ky->Value} (h:Mp W b N S m) {k:Ky} (hk:Fine k) (hN:N < maxLen) {v:Value} {z:DataW Unit×List MemPlace} (hv:slEl v=some z):
 ∃W',(Instr.mapUpdate 59 (.map (some b)) ((.string ⟨k.toArray⟩)) v).run Tryz.prog W= .ok () W'/\Mp W' b (N+1) (if k∈S then S else k::S) (fun x=>if x=k then v else m x)/\W.mapTurned W' b:=by
 obtain ⟨D,h1,h2,h3,h4,h5,h6⟩:=h;obtain ⟨W',hr,ho,hg⟩:=h1.store Z1t Tryz.underlying59 hN (Z2u hk) (ps:=z.2) (d:=z.1) (by rw[hv]);have hT:=h1.tidy Z1t;have hsz:=Maps.size_put (k:=KL k) hT z.1;have hmem: ∀x,x∈(if k∈S then S else k::S) ↔ x=k\/x∈S:=fun x=>by
  by_cases e:k∈S
  {rw[if_pos e]; exact ⟨Or.inr,fun h=>h.elim (fun h=>h▸e) id⟩}
  {rw[if_neg e]; exact List.mem_cons}
 refine ⟨W',hr,⟨D.put (KL k) z.1,ho, ?_, ?_, ?_, ?_, ?_⟩,hg⟩
 {rw[hsz,h2];by_cases e:k∈S
  {rw[if_pos ((h5 k hk).2 e),if_pos e]}
  {rw[if_neg (fun h=>e ((h5 k hk).1 h)),if_neg e]; rfl}}
 {by_cases e:k∈S
  {rw[if_pos e]; exact h3}
  {rw[if_neg e]; exact List.nodup_cons.2 ⟨e,h3⟩}}
 {intro x hx;rcases (hmem x).1 hx with rfl | hx
  {exact hk}
  {exact h4 x hx}}
 {intro x hx;rw[hmem];by_cases e:x=k
  {subst e;exact ⟨fun _=>Or.inl rfl,fun _=>Maps.has_put_same h1.isMap (Zag _) _⟩}
  {rw[Maps.has_put_other (fun h=>e (Z52 hx hk h)),h5 x hx];exact ⟨Or.inr,fun h=>h.resolve_left e⟩}}
 {intro x hx;by_cases e:x=k
  {subst e;refine ⟨z.2, ?_⟩;rw[if_pos ((hmem _).2 (Or.inl rfl))];simp only[if_true];rw[Maps.atKey_put_same h1.isMap (Zag _),hv]}
  {obtain ⟨p,hp⟩:=h6 x hx;refine ⟨p, ?_⟩;rw[Maps.atKey_put_other (fun h=>e (Z52 hx hk h)), <-hp];by_cases e2:x∈S
   {rw[if_pos ((hmem x).2 (Or.inr e2)),if_pos e2]; simp only[if_neg e]}
   {rw[if_neg (fun h=>e2 (((hmem x).1 h).resolve_left e)),if_neg e2]}}}
theorem Mp.del {W:World} {b N:Nat} {S:List Ky} {m:Ky->Value} (h:Mp W b N S m) {k:Ky} (hk:Fine k) (ty:TypeId):
 ∃W',(Builtin.delete_ #[59,9] ty #[.map (some b),(.string ⟨k.toArray⟩)]).run Tryz.prog W= .ok (.tuple #[]) W'/\Mp W' b N (S.filter (· ≠k)) m/\W.mapTurned W' b:=by
 obtain ⟨D,h1,h2,h3,h4,h5,h6⟩:=h;obtain ⟨W',hr,ho,hg⟩:=h1.drop Z1t Tryz.underlying59 (Z2u hk) ty;have hT:=h1.tidy Z1t;have hsz:=Maps.size_del (k:=KL k) hT;have hmem: ∀x,x∈S.filter (· ≠k) ↔ x∈S/\x≠k:=fun x=>by simp[List.mem_filter]
 have hlen: (S.filter (· ≠k)).length+(if k∈S then 1 else 0)=S.length:=by
  clear h2 h4 h5 h6 hsz hmem;induction S with
  | nil=>rfl
  | cons a S ih=>
   rw[List.nodup_cons] at h3;have:=ih h3.2;by_cases e:a=k
   {subst e;have hf:S.filter (· ≠a)=S:=List.filter_eq_self.2 (fun x hx=>by simp; rintro rfl; exact h3.1 hx)
    rw[List.filter_cons_of_neg (by simp),hf,if_pos (by simp)]; rfl}
   {rw[List.filter_cons_of_pos (by simp[e]),List.length_cons,List.length_cons];have: (k∈a::S) ↔ k∈S:=by simp[Ne.symm e]
    by_cases e2:k∈S
    {rw[if_pos (this.2 e2)]; rw[if_pos e2] at *; omega}
    {rw[if_neg (fun h=>e2 (this.1 h))]; rw[if_neg e2] at *; omega}}
 refine ⟨W',hr,⟨D.del (KL k),ho, ?_, ?_, ?_, ?_, ?_⟩,hg⟩
 {rw[h2] at hsz;by_cases e:k∈S
  {rw[if_pos ((h5 k hk).2 e)] at hsz; rw[if_pos e] at hlen; omega}
  {rw[if_neg (fun h=>e ((h5 k hk).1 h))] at hsz; rw[if_neg e] at hlen; omega}}
 {exact h3.filter _}
 {exact fun x hx=>h4 x ((hmem x).1 hx).1}
 {intro x hx;rw[hmem];by_cases e:x=k
  {subst e;rw[Maps.has_del_same];exact ⟨nofun,fun h=>absurd rfl h.2⟩}
  {rw[Maps.has_del_other (fun h=>e (Z52 hx hk h)),h5 x hx];exact ⟨fun h=>⟨h,e⟩,fun h=>h.1⟩}}
 {intro x hx;by_cases e:x=k
  {subst e;refine ⟨[], ?_⟩;rw[if_neg (fun h=>((hmem _).1 h).2 rfl),Maps.atKey_del_same]; rfl}
  {obtain ⟨p,hp⟩:=h6 x hx;refine ⟨p, ?_⟩;rw[Maps.atKey_del_other (fun h=>e (Z52 hx hk h)), <-hp];by_cases e2:x∈S
   {rw[if_pos ((hmem x).2 ⟨e2,e⟩),if_pos e2]}
   {rw[if_neg (fun h=>e2 ((hmem x).1 h).1),if_neg e2]}}}
theorem Mp.look2 {W:World} {b N:Nat} {S:List Ky} {m:Ky->Value} (h:Mp W b N S m) {k:Ky} (hk:Fine k):
 (Instr.lookup 59 (.map (some b)) (.string ⟨k.toArray⟩) true).run Tryz.prog W= .ok (.tuple #[if k∈S then m k else .pointer none,.bool (decide (k∈S))]) W:=by
 obtain ⟨D,h1,_,_,_,h5,h6⟩:=h;obtain ⟨v,ps,hr,hv⟩:=h1.look_ok Z1t Tryz.underlying59 (Z8d W) (zd:= .agg []) (zp:= []) rfl (Z2u hk);obtain ⟨p,hp⟩:=h6 k hk;rw[hr,Z6z hv hp];have:Maps.has D (KL k)=decide (k∈S):=by rw[Bool.eq_iff_iff,h5 k hk,decide_eq_true_eq]
 rw[this]
end SubM
end Go.Proofs.YtlomianlcnmfgaaGreatDoor
namespace Shp
section
theorem Z1l {s:List UInt8} (h:Lex.isName s=true):s.length<=24:=by
 cases s with
 | nil=>simp
 | cons c r=>
  have:Lex.isName (c::r)=(decide ((c::r).length<=24)&&Lex.small c&&(c::r).all Lex.nameB&& !Lex.isWord (c::r)):=rfl;rw[this] at h;simp only[Bool.and_eq_true,decide_eq_true_eq] at h;exact h.1.1.1
theorem Z78 {s:List UInt8} (h:Lex.isUpper s=true):s.length<=24:=by
 cases s with
 | nil=>simp
 | cons c r=>
  have:Lex.isUpper (c::r)=(decide ((c::r).length<=24)&&Lex.great c&&(c::r).all Lex.nameB):=rfl;rw[this] at h;simp only[Bool.and_eq_true,decide_eq_true_eq] at h;exact h.1.1
theorem Z1C {t:Sh} (h:fits t=true):
 (1<=t.kind/\t.kind<=4/\t.names= []/\t.parts= [])\/(t.kind=5/\t.names= []/\t.parts.length=1)\/((t.kind=6\/t.kind=7)/\t.names.length=t.parts.length/\areNames t.names=true)\/
 (t.kind=8/\t.names= []/\1<=t.parts.length)\/((t.kind=9\/t.kind=10)/\t.names= []/\t.parts= []/\t.name.length<=24/\t.of_.length<=24):=by
 by_cases h9:t.kind=9\/t.kind=10
 {rw[Z2O h9] at h;simp only[Bool.and_eq_true,decide_eq_true_eq] at h;obtain ⟨⟨⟨h1,h2⟩,h3⟩,h4⟩:=h;refine Or.inr (Or.inr (Or.inr (Or.inr ⟨h9,List.eq_nil_of_length_eq_zero h3,List.eq_nil_of_length_eq_zero h4,Z78 h1, ?_⟩)));unfold ofOk at h2;cases hn:Lex.isName t.of_ with
  | true=>exact Z1l hn
  | false=>
   rw[hn] at h2;simp at h2;rw[h2.1.1]; simp}
 {cases hb:bare t with
  | false=>rw[Z17 h9 hb] at h; cases h
  | true=>
   by_cases h6:t.kind=6\/t.kind=7
   {rw[Z2z hb h6,Bool.and_eq_true,decide_eq_true_eq] at h;exact Or.inr (Or.inr (Or.inl ⟨h6,h.2,h.1⟩))}
   {by_cases hz:0 < t.names.length
    {rw[Z1P h9 hb h6 hz] at h; cases h}
    {have hn:t.names= []:=List.eq_nil_of_length_eq_zero (by omega);by_cases h8:t.kind=8
     {rw[Z4y hb h8 hz,decide_eq_true_eq] at h;exact Or.inr (Or.inr (Or.inr (Or.inl ⟨h8,hn,h⟩)))}
     {by_cases h5:t.kind=5
      {rw[Z3V hb h5 hz,decide_eq_true_eq] at h;exact Or.inr (Or.inl ⟨h5,hn,h⟩)}
      {rw[Z2P hb h9 h6 hz h8 h5] at h;simp only[Bool.and_eq_true,decide_eq_true_eq] at h;exact Or.inl ⟨h.1.1,h.1.2,hn,List.eq_nil_of_length_eq_zero h.2⟩}}}}}
end
end Shp
namespace Go.Proofs.YtlomianlcnmfgaaGreatDoor
section
open Shp
theorem Z4z (x:Fld): ∀l:List Fld,(ins x l).Perm (x::l)
 | []=>List.Perm.refl _
 | y::l=>by
  unfold ins;split
  {exact ((Z4z x l).cons y).trans (List.Perm.swap x y l)}
  {exact List.Perm.refl _}
theorem Z3W: ∀(l a:List Fld),(l.foldl (fun a x=>ins x a) a).Perm (l++a)
 | [],a=>List.Perm.refl _
 | x::l,a=>by
  rw[List.foldl_cons];refine (Z3W l _).trans ?_;refine (List.Perm.append_left l (Z4z x a)).trans ?_;exact List.perm_middle
theorem Z0N (l:List Fld): (sortF l).Perm l:=by
 have:=Z3W l []
 rwa [List.append_nil] at this
theorem Z4L (x:Fld): ∀l:List Fld,l.Pairwise (fun a b=>a.1<=b.1)->(ins x l).Pairwise (fun a b=>a.1<=b.1)
 | [],_=>by simp[ins]
 | y::l,h=>by
  rw[List.pairwise_cons] at h;unfold ins;split
  {rename_i hlt
   rw[List.pairwise_cons];refine ⟨fun b hb=> ?_,Z4L x l h.2⟩;rcases List.mem_cons.1 ((Z4z x l).mem_iff.1 hb) with rfl | hb
   {exact List.le_of_lt hlt}
   {exact h.1 b hb}}
  {rename_i hlt
   have hxy:x.1<=y.1:=List.not_lt.1 hlt;rw[List.pairwise_cons,List.pairwise_cons];refine ⟨fun b hb=> ?_,h⟩;rcases List.mem_cons.1 hb with rfl | hb
   {exact hxy}
   {exact List.le_trans hxy (h.1 b hb)}}
theorem Z3f: ∀(l a:List Fld),a.Pairwise (fun a b=>a.1<=b.1)->(l.foldl (fun a x=>ins x a) a).Pairwise (fun a b=>a.1<=b.1)
 | [],a,h=>h
 | x::l,a,h=>Z3f l _ (Z4L x a h)
theorem Z1U (l:List Fld): (sortF l).Pairwise (fun a b=>a.1<=b.1):=Z3f l [] List.Pairwise.nil
theorem Z9L {l:List Fld} (h: (l.map Prod.fst).Nodup) {a b:Fld} (ha:a∈l) (hb:b∈l) (he:a.1=b.1):a=b:=by
 induction l with
 | nil=>cases ha
 | cons x l ih=>
  rw[List.map_cons,List.nodup_cons] at h;rcases List.mem_cons.1 ha with e1 | h1
  {rcases List.mem_cons.1 hb with e2 | h2
   {rw[e1,e2]}
   {exact absurd (by rw[<-e1,he]; exact List.mem_map_of_mem h2) h.1}}
  {rcases List.mem_cons.1 hb with e2 | h2
   {exact absurd (by rw[<-e2, <-he]; exact List.mem_map_of_mem h1) h.1}
   {exact ih h.2 h1 h2}}
theorem Z1V {l m:List Fld} (hp:m.Perm l) (hs:m.Pairwise (fun a b=>a.1<=b.1)) (hn: (l.map Prod.fst).Nodup):m=sortF l:=by
 refine List.Perm.eq_of_pairwise (le:=fun a b:Fld=>a.1<=b.1) (fun a b ha hb h1 h2=> ?_) hs (Z1U l) (hp.trans (Z0N l).symm);exact Z9L hn (hp.mem_iff.1 ha) ((Z0N l).mem_iff.1 hb) (List.le_antisymm h1 h2)
end
end Go.Proofs.YtlomianlcnmfgaaGreatDoor
namespace Sub
section
open Shp
def look:List (List UInt8)->List Sh->List UInt8->Option Sh
 | x::ns,p::ps,n=>if x=n then some p else look ns ps n
 | [],_,_=>none
 | _::_,[],_=>none
def get (t:Sh) (n:List UInt8):Option Sh:=look t.names t.parts n
section
variable {ns : List (List UInt8)} {ps : List Sh}
include ns ps
theorem Z66 {n:List UInt8} {p:Sh} (h:look ns ps n=some p):n∈ns/\p∈ps:=by
 induction ns generalizing ps with
 | nil=>cases ps <;> simp[look] at h
 | cons x ns ih=>
  cases ps with
  | nil=>simp[look] at h
  | cons q ps=>
   unfold look at h;split at h
   {rename_i e
    cases h;exact ⟨by simp[e],by simp⟩}
   {have:=ih h;exact ⟨by simp[this.1],by simp[this.2]⟩}
theorem Z2A (hd:ns.Nodup) {n:List UInt8} {p:Sh}:look ns ps n=some p ↔ (n,p)∈ns.zip ps:=by
 induction ns generalizing ps with
 | nil=>cases ps <;> simp[look]
 | cons x ns ih=>
  rw[List.nodup_cons] at hd;cases ps with
  | nil=>simp[look]
  | cons q ps=>
   unfold look;rw[List.zip_cons_cons,List.mem_cons];split
   {rename_i e
    subst e;refine ⟨fun h=>Or.inl (by cases h; rfl),fun h=> ?_⟩;rcases h with h | h
    {cases h; rfl}
    {exact absurd (List.of_mem_zip h).1 hd.1}}
   {rename_i e
    rw[ih hd.2];refine ⟨Or.inr,fun h=> ?_⟩;rcases h with h | h
    {cases h; exact absurd rfl e}
    {exact h}}
theorem Z9M (hl:ns.length=ps.length) {n:List UInt8}:look ns ps n=none ↔ n∉ns:=by
 induction ns generalizing ps with
 | nil=>cases ps <;> simp[look]
 | cons x ns ih=>
  cases ps with
  | nil=>simp at hl
  | cons q ps=>
   unfold look;split
   {rename_i e; simp[e]}
   {rename_i e
    rw[ih (by simpa using hl),List.mem_cons,not_or];exact ⟨fun h=>⟨fun e'=>e e'.symm,h⟩,fun h=>h.2⟩}
theorem Z5e (hd:ns.Nodup) {i:Nat} (h1:i < ns.length) (h2:i < ps.length):look ns ps (ns[i]'h1)=some (ps[i]'h2):=
 (Z2A hd).2 (List.mem_iff_getElem.2 ⟨i,by rw[List.length_zip]; omega,by rw[List.getElem_zip]⟩)
end
structure Rec (t:Sh):Prop where
 k:t.kind=6\/t.kind=7
 b:bare t=true
 l:t.names.length=t.parts.length
 a:areNames t.names=true
theorem Rec.nodup {t:Sh} (h:Rec t):t.names.Nodup:=((Z0M _).1 h.a).2
theorem Rec.isName {t:Sh} (h:Rec t) {n:List UInt8} (hn:n∈t.names):Lex.isName n=true:=((Z0M _).1 h.a).1 n hn
theorem Z0p {t:Sh} (h:fits t=true) (hk:t.kind=6\/t.kind=7):Rec t:=by
 have hb:bare t=true:=by
  cases hb:bare t with
  | true=>rfl
  | false=>rw[Z17 (by omega) hb] at h; cases h
 rw[Z2z hb hk,Bool.and_eq_true,decide_eq_true_eq] at h;exact ⟨hk,hb,h.2,h.1⟩
section
variable {t : Sh} (h : Rec t) {n : List UInt8}
include t h n
theorem Rec.get_none:get t n=none ↔ n∉t.names:=Z9M h.l
theorem Rec.get_iff {p:Sh}:get t n=some p ↔ (n,p)∈t.names.zip t.parts:=Z2A h.nodup
end
theorem Z06 {t p:Sh} {n:List UInt8} (h:get t n=some p):p∈t.parts:=(Z66 h).2
def Narrow (up:Bool) (k:Int):Prop:=(up=true/\k=6)\/(up=false/\k=7)
def Wide (up:Bool) (k:Int):Prop:=(up=true/\k=7)\/(up=false/\k=6)
instance (up:Bool) (k:Int):Decidable (Narrow up k):=by unfold Narrow; infer_instance
instance (up:Bool) (k:Int):Decidable (Wide up k):=by unfold Wide; infer_instance
section
variable {k : Int}
include k
theorem Z1e (h:k=6\/k=7) (up:Bool):Narrow up k\/Wide up k:=by
 unfold Narrow Wide;cases up <;> rcases h with h | h <;> simp[h]
theorem Z0R {up:Bool} (h:Narrow up k): ¬Wide up k:=by
 unfold Narrow Wide at *;cases up <;> rcases h with h | h <;> simp_all
theorem Z0w {up:Bool} (h:Narrow up k):k=6\/k=7:=by unfold Narrow at h; omega
theorem Z0D {up:Bool} (h:Wide up k):k=6\/k=7:=by unfold Wide at h; omega
theorem Z2T {up:Bool}:Narrow (!up) k ↔ Wide up k:=by cases up <;> simp[Narrow,Wide]
theorem Z3Y {up:Bool}:Wide (!up) k ↔ Narrow up k:=by cases up <;> simp[Narrow,Wide]
end
def V:Nat->Bool->Sh->Sh->Prop
 | 0,_,_,_=>False
 | f+1,up,a,b=>a.kind=b.kind/\
  (Narrow up a.kind-> ∀n q,get b n=some q-> ∃p,get a n=some p/\V f up p q)/\
  (Wide up a.kind-> ∀n p,get a n=some p-> ∃q,get b n=some q/\V f up p q)/\
  (¬(a.kind=6\/a.kind=7)->a.of_=b.of_/\a.name=b.name/\a.parts.length=b.parts.length/\
   ∀i p q,a.parts[i]? =some p->b.parts[i]? =some q->V f (if i+1=a.parts.length then up else !up) p q)
theorem V.flip {f:Nat}: ∀ {up:Bool} {a b:Sh},V f up a b->V f (!up) b a:=by
 induction f with
 | zero=>intro up a b h; exact h.elim
 | succ f ih=>
  intro up a b h;obtain ⟨hk,h1,h2,h3⟩:=h;refine ⟨hk.symm,fun h n q hq=> ?_,fun h n p hp=> ?_,fun h=> ?_⟩
  {rw[Z2T, <-hk] at h;obtain ⟨p,hp,hv⟩:=h2 h n q hq;exact ⟨p,hp,ih hv⟩}
  {rw[Z3Y, <-hk] at h;obtain ⟨q,hq,hv⟩:=h1 h n p hp;exact ⟨q,hq,ih hv⟩}
  {rw[<-hk] at h;obtain ⟨e1,e2,e3,e4⟩:=h3 h;refine ⟨e1.symm,e2.symm,e3.symm,fun i p q hp hq=> ?_⟩;have:=ih (e4 i q p hq hp);rw[<-e3];by_cases e:i+1=a.parts.length
   {rw[if_pos e] at this ⊢; exact this}
   {rw[if_neg e] at this ⊢; exact this}}
theorem V.refl {f:Nat}: ∀ {up:Bool} {a:Sh},deep a<=f->V f up a a:=by
 induction f with
 | zero=>intro up a h; rw[Z0j] at h; omega
 | succ f ih=>
  intro up a h;have hp: ∀p∈a.parts,deep p<=f:=fun p hp=>by have:=Z0v hp; rw[Z0j] at h; omega
  refine ⟨rfl,fun _ n q hq=>⟨q,hq,ih (hp q (Z06 hq))⟩,fun _ n q hq=>⟨q,hq,ih (hp q (Z06 hq))⟩,fun _=>⟨rfl,rfl,rfl,fun i p q h1 h2=> ?_⟩⟩;rw[h1] at h2;cases h2;exact ih (hp p (List.mem_of_getElem? h1))
theorem V.trans {f:Nat}: ∀ {up:Bool} {a b c:Sh},V f up a b->V f up b c->V f up a c:=by
 induction f with
 | zero=>intro up a b c h; exact h.elim
 | succ f ih=>
  intro up a b c h k;obtain ⟨hk,h1,h2,h3⟩:=h;obtain ⟨kk,k1,k2,k3⟩:=k;rw[<-hk] at k1 k2 k3;refine ⟨hk.trans kk,fun h n r hr=> ?_,fun h n p hp=> ?_,fun h=> ?_⟩
  {obtain ⟨q,hq,hv⟩:=k1 h n r hr;obtain ⟨p,hp,hu⟩:=h1 h n q hq;exact ⟨p,hp,ih hu hv⟩}
  {obtain ⟨q,hq,hv⟩:=h2 h n p hp;obtain ⟨r,hr,hu⟩:=k2 h n q hq;exact ⟨r,hr,ih hv hu⟩}
  {obtain ⟨e1,e2,e3,e4⟩:=h3 h;obtain ⟨g1,g2,g3,g4⟩:=k3 h;refine ⟨e1.trans g1,e2.trans g2,e3.trans g3,fun i p r hp hr=> ?_⟩;have hi:i < a.parts.length:=(List.getElem?_eq_some_iff.1 hp).1;have hib:i < b.parts.length:=by omega
   obtain ⟨q,hq⟩: ∃q,b.parts[i]? =some q:=⟨_,List.getElem?_eq_getElem hib⟩;have:=g4 i q r hq hr;rw[<-e3] at this;exact ih (e4 i p q hp hq) this}
abbrev Cl:=List UInt8×Option Sh×Option Sh
def callsA (a b:Sh):List Cl:=(a.names.zip a.parts).map (fun x=>(x.1,some x.2,get b x.1))
def callsB (a b:Sh):List Cl:=((b.names.zip b.parts).filter (fun x=>(get a x.1).isNone)).map (fun x=>(x.1,none,some x.2))
def calls (a b:Sh):List Cl:=callsA a b++callsB a b
section
variable {a b : Sh} (A : Rec a)
include a b A
theorem Z0l (B:Rec b) {n:List UInt8} {x y:Option Sh}: (n,x,y)∈calls a b ↔ x=get a n/\y=get b n/\(n∈a.names\/n∈b.names):=by
 unfold calls callsA callsB;rw[List.mem_append,List.mem_map,List.mem_map];constructor
 {rintro (⟨⟨m,p⟩,h,e⟩ | ⟨⟨m,p⟩,h,e⟩)
  {simp only[Prod.mk.injEq] at e;obtain ⟨rfl,rfl,rfl⟩:=e;exact ⟨(A.get_iff.2 h).symm,rfl,Or.inl (List.of_mem_zip h).1⟩}
  {simp only[Prod.mk.injEq] at e;obtain ⟨rfl,rfl,rfl⟩:=e;rw[List.mem_filter] at h;refine ⟨?_,(B.get_iff.2 h.1).symm,Or.inr (List.of_mem_zip h.1).1⟩;exact (Option.isNone_iff_eq_none.1 h.2).symm}}
 {rintro ⟨rfl,rfl,h⟩;cases ha:get a n with
  | some p=>exact Or.inl ⟨(n,p),A.get_iff.1 ha,rfl⟩
  | none=>
   have hb:n∈b.names:=h.resolve_left (A.get_none.1 ha);cases hq:get b n with
   | none=>exact absurd hb (B.get_none.1 hq)
   | some q=>exact Or.inr ⟨(n,q),List.mem_filter.2 ⟨B.get_iff.1 hq,by simp[ha]⟩,rfl⟩}
theorem Z8s: (callsA a b).map Prod.fst=a.names:=by
 unfold callsA;rw[List.map_map];exact List.map_fst_zip (by rw[A.l]; exact Nat.le_refl _)
theorem Z2n (B:Rec b) {n:List UInt8} (h:n∈(calls a b).map Prod.fst):Lex.isName n=true:=by
 obtain ⟨⟨m,x,y⟩,hm,rfl⟩:=List.mem_map.1 h;rcases ((Z0l A B).1 hm).2.2 with h | h
 {exact A.isName h}
 {exact B.isName h}
end
def narrowStep (g:Sh->Sh->Option Sh) (c:Cl):Option Fld:=
 match c with
 | (n,some p,some q)=>(g p q).map (fun x=>(n,x))
 | (_,some _,none)=>none
 | (_,none,_)=>none
def wideStep (g:Sh->Sh->Option Sh) (c:Cl):Option Fld:=
 match c with
 | (n,some p,some q)=>(g p q).map (fun x=>(n,x))
 | (n,some p,none)=>some (n,p)
 | (n,none,some q)=>some (n,q)
 | (_,none,none)=>none
def allOf (s:Cl->Option Fld):List Cl->Option (List Fld)
 | []=>some []
 | c::l=>(s c).bind (fun x=>(allOf s l).map (fun xs=>x::xs))
def placesOf (ga gr:Sh->Sh->Option Sh):List Sh->List Sh->Option (List Sh)
 | [],[]=>some []
 | a::us,b::bs=>(if us.isEmpty then gr a b else ga a b).bind (fun x=>(placesOf ga gr us bs).map (fun xs=>x::xs))
 | [],_::_=>none
 | _::_,[]=>none
def made (k:Int) (l:List Fld):Sh:=⟨k,[],[],l.map Prod.fst,l.map Prod.snd⟩
def bound:Nat->Bool->Sh->Sh->Option Sh
 | 0,_,_,_=>none
 | f+1,up,a,b=>
  if a.kind≠b.kind then none
  else if Narrow up a.kind then some (made a.kind ((calls a b).filterMap (narrowStep (bound f up))))
  else if Wide up a.kind then (allOf (wideStep (bound f up)) (calls a b)).map (made a.kind)
  else if a.of_=b.of_/\a.name=b.name then (placesOf (bound f (!up)) (bound f up) a.parts b.parts).map (fun ps=>⟨a.kind,a.of_,a.name,[],ps⟩)
  else none
section
variable {g : Sh -> Sh -> Option Sh} {c : Cl} {x : Fld}
include g c x
theorem Z3t (h:narrowStep g c=some x):x.1=c.1:=by
 unfold narrowStep at h;split at h
 {obtain ⟨_,_,rfl⟩:=Option.map_eq_some_iff.1 h; rfl}
 {cases h}
 {cases h}
theorem Z2B (h:wideStep g c=some x):x.1=c.1:=by
 unfold wideStep at h;split at h
 {obtain ⟨_,_,rfl⟩:=Option.map_eq_some_iff.1 h; rfl}
 {cases h; rfl}
 {cases h; rfl}
 {cases h}
end
section
variable {s : Cl -> Option Fld} (hs : ∀ c x, s c = some x -> x.1 = c.1)
include s hs
theorem Z1o (l:List Cl): ((l.filterMap s).map Prod.fst).Sublist (l.map Prod.fst):=by
 induction l with
 | nil=>exact List.Sublist.refl _
 | cons c l ih=>
  cases h:s c with
  | none=>rw[List.filterMap_cons_none h,List.map_cons]; exact ih.cons _
  | some x=>rw[List.filterMap_cons_some h,List.map_cons,List.map_cons,hs c x h]; exact ih.cons_cons _
theorem Z5k {l:List Cl} {L:List Fld} (h:allOf s l=some L):L.map Prod.fst=l.map Prod.fst:=by
 induction l generalizing L with
 | nil=>unfold allOf at h; cases h; rfl
 | cons c l ih=>
  unfold allOf at h;obtain ⟨x,hx,h⟩:=Option.bind_eq_some_iff.1 h;obtain ⟨xs,hxs,rfl⟩:=Option.map_eq_some_iff.1 h;rw[List.map_cons,List.map_cons,ih hxs,hs c x hx]
end
theorem Z40 {ga gr:Sh->Sh->Option Sh} {us bs xs:List Sh} (h:placesOf ga gr us bs=some xs):xs.length=us.length/\us.length=bs.length:=by
 induction us generalizing bs xs with
 | nil=>cases bs <;> unfold placesOf at h <;> cases h; exact ⟨rfl,rfl⟩
 | cons a us ih=>
  cases bs with
  | nil=>unfold placesOf at h; cases h
  | cons b bs=>
   unfold placesOf at h;obtain ⟨x,_,h⟩:=Option.bind_eq_some_iff.1 h;obtain ⟨xs,hxs,rfl⟩:=Option.map_eq_some_iff.1 h;have:=ih hxs;simp[this.1,this.2]
theorem Z1i {α:Type} (us:List α):us.isEmpty=true ↔ 0=us.length:=by cases us <;> simp
theorem Z4i {ga gr:Sh->Sh->Option Sh} {us bs xs:List Sh} (h:placesOf ga gr us bs=some xs):
 ∀(i:Nat) (p q:Sh),us[i]? =some p->bs[i]? =some q-> ∃x,xs[i]? =some x/\(if i+1=us.length then gr p q else ga p q)=some x:=by
 induction us generalizing bs xs with
 | nil=>intro i p q hp; simp at hp
 | cons a us ih=>
  cases bs with
  | nil=>intro i p q _ hq; simp at hq
  | cons b bs=>
   unfold placesOf at h;obtain ⟨x,hx,h⟩:=Option.bind_eq_some_iff.1 h;obtain ⟨xs,hxs,rfl⟩:=Option.map_eq_some_iff.1 h;intro i p q hp hq;cases i with
   | zero=>
    simp only[List.getElem?_cons_zero,Option.some.injEq] at hp hq;subst hp hq;refine ⟨x,by simp, ?_⟩;rw[<-hx];by_cases e:us.isEmpty=true
    {rw[if_pos e,if_pos (by have:=(Z1i us).1 e; rw[List.length_cons]; omega)]}
    {rw[if_neg e,if_neg (fun h=>e ((Z1i us).2 (by rw[List.length_cons] at h; omega)))]}
   | succ i=>
    simp only[List.getElem?_cons_succ] at hp hq;obtain ⟨y,hy,e⟩:=ih hxs i p q hp hq;refine ⟨y,by simpa using hy, ?_⟩;rw[<-e];simp
theorem Z5G {ga gr:Sh->Sh->Option Sh} {us bs:List Sh} (hl:us.length=bs.length)
 (h: ∀(i:Nat) (p q:Sh),us[i]? =some p->bs[i]? =some q-> ∃x,(if i+1=us.length then gr p q else ga p q)=some x): ∃xs,placesOf ga gr us bs=some xs:=by
 induction us generalizing bs with
 | nil=>
  cases bs with
  | nil=>exact ⟨[],by unfold placesOf; rfl⟩
  | cons b bs=>simp at hl
 | cons a us ih=>
  cases bs with
  | nil=>simp at hl
  | cons b bs=>
   obtain ⟨x,hx⟩:=h 0 a b (by simp) (by simp);obtain ⟨xs,hxs⟩:=ih (bs:=bs) (by simpa using hl) (fun i p q hp hq=>by
    obtain ⟨y,hy⟩:=h (i+1) p q (by simpa using hp) (by simpa using hq);exact ⟨y,by rw[<-hy]; simp⟩)
   refine ⟨x::xs, ?_⟩;unfold placesOf;rw[show (if us.isEmpty then gr a b else ga a b)=some x from ?_,hxs]
   {rfl}
   {rw[<-hx];by_cases e:us.isEmpty=true
    {rw[if_pos e,if_pos (by have:=(Z1i us).1 e; rw[List.length_cons]; omega)]}
    {rw[if_neg e,if_neg (fun h=>e ((Z1i us).2 (by rw[List.length_cons] at h; omega)))]}}
def sz:Option Sh->Nat
 | some p=>size p
 | none=>0
end
end Sub
