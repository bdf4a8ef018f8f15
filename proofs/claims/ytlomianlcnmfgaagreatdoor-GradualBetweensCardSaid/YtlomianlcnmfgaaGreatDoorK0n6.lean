/- What the proofs of GradualBetweens want, part 6. -/
import Derived.DeepKeys4
import Derived.Test.YtlomianlcnmfgaaGreatDoorK0n5
set_option linter.unusedVariables false
set_option linter.unusedSimpArgs false
set_option linter.unusedSectionVars false
set_option maxRecDepth 100000
set_option maxHeartbeats 16000000
namespace Lex
def letter (c:UInt8):Bool:=small c||great c
theorem Z6x (c:UInt8):nameB c=(letter c||digit c||c==95):=rfl
end Lex
namespace Go.Proofs.YtlomianlcnmfgaaGreatDoor
open Go.RowKit
section
variable (c : UInt8) (w : World)
include c w
theorem Z1I:
 Calls Tryz.prog 120 #[.int .u8 (c.toNat:Int)] w fun e w'=>e= .returned (.bool (Lex.small c))/\w=w':=by
 have hlt:=c.toNat_lt;have H:c.toNat<=96\/(97<=c.toNat/\c.toNat<=122)\/123<=c.toNat:=by omega
 have HB:Hid (Lex.small c=(decide (97<=c.toNat)&&decide (c.toNat<=122))):=Y1 rfl;obtain ⟨n,hn⟩: ∃n,n=c.toNat:=⟨_,rfl⟩;rw[<-hn] at H HB hlt ⊢;clear hn;rcases H with h1 | ⟨h1,h2⟩ | h1
 {have h3:decide ((97:Int)<=(n:Int))=false:=decide_eq_false (by omega);go_enter Tryz.func120,Tryz.ntmps120;go_wp2;go_ret;exact ⟨by rw[HB.out,decide_eq_false (by omega)]; rfl,rfl⟩}
 {have h3:decide ((n:Int)<=122)=true:=decide_eq_true (by omega);have h4:decide ((97:Int)<=(n:Int))=true:=decide_eq_true (by omega);go_enter Tryz.func120,Tryz.ntmps120;go_wp2;go_ret;exact ⟨by rw[HB.out,decide_eq_true h1,decide_eq_true h2]; rfl,rfl⟩}
 {have h3:decide ((n:Int)<=122)=false:=decide_eq_false (by omega);have h4:decide ((97:Int)<=(n:Int))=true:=decide_eq_true (by omega);go_enter Tryz.func120,Tryz.ntmps120;go_wp2;go_ret;exact ⟨by rw[HB.out,decide_eq_false (p:=n<=122) (by omega),Bool.and_false]; rfl,rfl⟩}
theorem Z35:
 Calls Tryz.prog 123 #[.int .u8 (c.toNat:Int)] w fun e w'=>e= .returned (.bool (Lex.great c))/\w=w':=by
 have hlt:=c.toNat_lt;have H:c.toNat<=64\/(65<=c.toNat/\c.toNat<=90)\/91<=c.toNat:=by omega
 have HB:Hid (Lex.great c=(decide (65<=c.toNat)&&decide (c.toNat<=90))):=Y1 rfl;obtain ⟨n,hn⟩: ∃n,n=c.toNat:=⟨_,rfl⟩;rw[<-hn] at H HB hlt ⊢;clear hn;rcases H with h1 | ⟨h1,h2⟩ | h1
 {have h3:decide ((65:Int)<=(n:Int))=false:=decide_eq_false (by omega);go_enter Tryz.func123,Tryz.ntmps123;go_wp2;go_ret;exact ⟨by rw[HB.out,decide_eq_false (by omega)]; rfl,rfl⟩}
 {have h3:decide ((n:Int)<=90)=true:=decide_eq_true (by omega);have h4:decide ((65:Int)<=(n:Int))=true:=decide_eq_true (by omega);go_enter Tryz.func123,Tryz.ntmps123;go_wp2;go_ret;exact ⟨by rw[HB.out,decide_eq_true h1,decide_eq_true h2]; rfl,rfl⟩}
 {have h3:decide ((n:Int)<=90)=false:=decide_eq_false (by omega);have h4:decide ((65:Int)<=(n:Int))=true:=decide_eq_true (by omega);go_enter Tryz.func123,Tryz.ntmps123;go_wp2;go_ret;exact ⟨by rw[HB.out,decide_eq_false (p:=n<=90) (by omega),Bool.and_false]; rfl,rfl⟩}
theorem Z36:
 Calls Tryz.prog 132 #[.int .u8 (c.toNat:Int)] w fun e w'=>e= .returned (.bool (Lex.digit c))/\w=w':=by
 have hlt:=c.toNat_lt;have H:c.toNat<=47\/(48<=c.toNat/\c.toNat<=57)\/58<=c.toNat:=by omega
 have HB:Hid (Lex.digit c=(decide (48<=c.toNat)&&decide (c.toNat<=57))):=Y1 rfl;obtain ⟨n,hn⟩: ∃n,n=c.toNat:=⟨_,rfl⟩;rw[<-hn] at H HB hlt ⊢;clear hn;rcases H with h1 | ⟨h1,h2⟩ | h1
 {have h3:decide ((48:Int)<=(n:Int))=false:=decide_eq_false (by omega);go_enter Tryz.func132,Tryz.ntmps132;go_wp2;go_ret;exact ⟨by rw[HB.out,decide_eq_false (by omega)]; rfl,rfl⟩}
 {have h3:decide ((n:Int)<=57)=true:=decide_eq_true (by omega);have h4:decide ((48:Int)<=(n:Int))=true:=decide_eq_true (by omega);go_enter Tryz.func132,Tryz.ntmps132;go_wp2;go_ret;exact ⟨by rw[HB.out,decide_eq_true h1,decide_eq_true h2]; rfl,rfl⟩}
 {have h3:decide ((n:Int)<=57)=false:=decide_eq_false (by omega);have h4:decide ((48:Int)<=(n:Int))=true:=decide_eq_true (by omega);go_enter Tryz.func132,Tryz.ntmps132;go_wp2;go_ret;exact ⟨by rw[HB.out,decide_eq_false (p:=n<=57) (by omega),Bool.and_false]; rfl,rfl⟩}
theorem Z1Y:
 Calls Tryz.prog 131 #[.int .u8 (c.toNat:Int)] w fun e w'=>e= .returned (.bool (Lex.letter c))/\w=w':=by
 have HM:Hid (Lex.letter c=(Lex.small c||Lex.great c)):=Y1 rfl;cases h1:Lex.small c
 {have HF:Hid (Lex.letter c=Lex.great c):=Y1 (by rw[HM.out,h1]; rfl);go_enter Tryz.func131,Tryz.ntmps131
  go_wp2_with fail
  refine (Z1I c _).mono ?_;rintro e w2 ⟨rfl,rfl⟩;rw[h1]
  go_wp2_with fail
  refine (Z35 c _).mono ?_;rintro e w2 ⟨rfl,rfl⟩;go_wp2;go_ret;exact ⟨by rw[HF.out]; rfl,rfl⟩}
 {have HF:Hid (Lex.letter c=true):=Y1 (by rw[HM.out,h1]; rfl);go_enter Tryz.func131,Tryz.ntmps131
  go_wp2_with fail
  refine (Z1I c _).mono ?_;rintro e w2 ⟨rfl,rfl⟩;rw[h1];go_wp2;go_ret;exact ⟨by rw[HF.out]; rfl,rfl⟩}
theorem Z4m:
 Calls Tryz.prog 129 #[.int .u8 (c.toNat:Int)] w fun e w'=>e= .returned (.bool (Lex.nameB c))/\w=w':=by
 have HM:=Y1 (Lex.Z6x c);have b95:=Z87 c;cases h1:Lex.letter c
 {cases h2:Lex.digit c
  {cases g95: (c==95)
   {rw[g95] at b95;have HF:Hid (Lex.nameB c=false):=Y1 (by rw[HM.out,h1,h2,g95]; rfl);clear HM;go_enter Tryz.func129,Tryz.ntmps129
    go_wp2_with fail
    refine (Z1Y c _).mono ?_;rintro e w2 ⟨rfl,rfl⟩;rw[h1]
    go_wp2_with fail
    refine (Z36 c _).mono ?_;rintro e w2 ⟨rfl,rfl⟩;rw[h2];go_wp2;go_ret;exact ⟨by rw[HF.out]; rfl,rfl⟩}
   {rw[g95] at b95;have HF:Hid (Lex.nameB c=true):=Y1 (by rw[HM.out,h1,h2,g95]; rfl);clear HM;go_enter Tryz.func129,Tryz.ntmps129
    go_wp2_with fail
    refine (Z1Y c _).mono ?_;rintro e w2 ⟨rfl,rfl⟩;rw[h1]
    go_wp2_with fail
    refine (Z36 c _).mono ?_;rintro e w2 ⟨rfl,rfl⟩;rw[h2];go_wp2;go_ret;exact ⟨by rw[HF.out]; rfl,rfl⟩}}
  {have HF:Hid (Lex.nameB c=true):=Y1 (by rw[HM.out,h1,h2]; rfl);clear HM;go_enter Tryz.func129,Tryz.ntmps129
   go_wp2_with fail
   refine (Z1Y c _).mono ?_;rintro e w2 ⟨rfl,rfl⟩;rw[h1]
   go_wp2_with fail
   refine (Z36 c _).mono ?_;rintro e w2 ⟨rfl,rfl⟩;rw[h2];go_wp2;go_ret;exact ⟨by rw[HF.out]; rfl,rfl⟩}}
 {have HF:Hid (Lex.nameB c=true):=Y1 (by rw[HM.out,h1]; rfl);clear HM;go_enter Tryz.func129,Tryz.ntmps129
  go_wp2_with fail
  refine (Z1Y c _).mono ?_;rintro e w2 ⟨rfl,rfl⟩;rw[h1];go_wp2;go_ret;exact ⟨by rw[HF.out]; rfl,rfl⟩}
end
theorem Z94 (s:List UInt8) (w:World):
 Calls Tryz.prog 122 #[.string ⟨s.toArray⟩] w fun e w'=>e= .returned (.bool (Lex.isWord s))/\w=w':=by
 cases hq:Lex.isWord s
 {have HN: ∀t∈Lex.words,(s==t)=false:=fun t ht=>by
   cases h: (s==t) with
   | false=>rfl
   | true=>
    obtain rfl:=beq_iff_eq.1 h;unfold Lex.isWord at hq;rw[List.contains_iff_mem.2 ht] at hq; cases hq
  have n0: (s== [109,111,100,117,108,101])=false:=HN _ (by decide);have n1: (s== [105,109,112,111,114,116])=false:=HN _ (by decide);have n2: (s== [112,105,110])=false:=HN _ (by decide);have n3: (s== [114,97,110,103,101])=false:=HN _ (by decide);have n4: (s== [116,121,112,101])=false:=HN _ (by decide);have n5: (s== [111,112,97,113,117,101])=false:=HN _ (by decide);have n6: (s== [108,101,116])=false:=HN _ (by decide);have n7: (s== [105,110])=false:=HN _ (by decide);have n8: (s== [101,120,112,111,114,116])=false:=HN _ (by decide);have n9: (s== [102,117,110])=false:=HN _ (by decide);have n10: (s== [105,102])=false:=HN _ (by decide);have n11: (s== [116,104,101,110])=false:=HN _ (by decide);have n12: (s== [101,108,115,101])=false:=HN _ (by decide);have n13: (s== [99,97,115,101])=false:=HN _ (by decide);have n14: (s== [111,102])=false:=HN _ (by decide);have n15: (s== [97,115])=false:=HN _ (by decide);have n16: (s== [110,101,119])=false:=HN _ (by decide);have n17: (s== [114,97,119])=false:=HN _ (by decide);have n18: (s== [116,114,117,101])=false:=HN _ (by decide);have n19: (s== [102,97,108,115,101])=false:=HN _ (by decide);clear HN hq;go_enter Tryz.func122,Tryz.ntmps122;go_wp2;go_ret;exact ⟨rfl,rfl⟩}
 {have hm:s∈Lex.words:=List.contains_iff_mem.1 hq;clear hq;unfold Lex.words at hm;simp only[List.mem_cons,List.not_mem_nil,or_false] at hm;rcases hm with rfl | rfl | rfl | rfl | rfl | rfl | rfl | rfl | rfl | rfl | rfl | rfl | rfl | rfl | rfl | rfl | rfl | rfl | rfl | rfl
  all_goals
   go_enter Tryz.func122,Tryz.ntmps122;go_wp2;go_ret;exact ⟨rfl,rfl⟩}
end Go.Proofs.YtlomianlcnmfgaaGreatDoor
namespace Lex
def named (l:List UInt8):Bool:=decide (l.length<=24)&&l.tail.all nameB
section
variable {p : UInt8 -> Bool} {l : List UInt8}
include p l
theorem Zbb (h: ∀j (hj:j < l.length),1<=j->p (l[j]'hj)=true):l.tail.all p=true:=by
 cases l with
 | nil=>rfl
 | cons c r=>
  refine List.all_eq_true.2 (fun x hx=> ?_);obtain ⟨j,hj,rfl⟩:=List.mem_iff_getElem.1 hx;exact h (j+1) (by simpa using hj) (by omega)
theorem Zbr {j:Nat} (hj:j < l.length) (h1:1<=j) (h:p (l[j]'hj)=false):l.tail.all p=false:=by
 cases l with
 | nil=>simp at hj
 | cons c r=>
  obtain ⟨k,rfl⟩: ∃k,j=k+1:=⟨j - 1,by omega⟩;have hm: (r[k]'(by simpa using hj))∈r:=List.getElem_mem _;cases hq: (c::r).tail.all p with
  | false=>rfl
  | true=>
   have:=List.all_eq_true.1 hq _ hm;have h':p (r[k]'(by simpa using hj))=false:=h;rw[h'] at this; cases this
end
theorem Z95 (c:UInt8) (r:List UInt8):isName (c::r)=(small c&&named (c::r)&& !isWord (c::r)):=by
 show (decide ((c::r).length<=24)&&small c&&(c::r).all nameB&& !isWord (c::r))=_;cases h:small c with
 | false=>simp
 | true=>
  have:nameB c=true:=by unfold nameB; rw[h]; rfl
  unfold named;simp[this]
theorem Z7F (c:UInt8) (r:List UInt8):isUpper (c::r)=(great c&&named (c::r)):=by
 show (decide ((c::r).length<=24)&&great c&&(c::r).all nameB)=_;cases h:great c with
 | false=>simp
 | true=>
  have:nameB c=true:=by unfold nameB; rw[h]; simp
  unfold named;simp[this]
end Lex
namespace Go.Proofs.YtlomianlcnmfgaaGreatDoor
open Go.RowKit
section
variable (l : List UInt8) (hl : l.length <= 9223372036854775807) (w : World)
include l hl w
theorem Z37:
 Calls Tryz.prog 121 #[.string ⟨l.toArray⟩] w fun e w'=>e= .returned (.bool (Lex.named l))/\w=w':=by
 have hz: (⟨l.toArray⟩:ByteArray).size=l.length:=Z11 _;have HM:Hid (Lex.named l=(decide (l.length<=24)&&l.tail.all Lex.nameB)):=Y1 rfl;by_cases h24:l.length<=24
 {have h24d: ¬((24:Int) < (l.length:Int)):=by omega
  go_enter Tryz.func121,Tryz.ntmps121
  go_wp2_with fail
  go_loopw [3] (fun ii wr=> ∃n:Nat,ii= .int .i64 n/\1<=n/\(n<=l.length\/n=1)/\Hid (∀j (hj:j < l.length),1<=j->j < n->Lex.nameB (l[j]'hj)=true)/\w=wr)
   (fun i _=>l.length - (intOf i).toNat)
  case atStart=>exact ⟨1,rfl,Nat.le_refl _,Or.inr rfl,Y1 (fun j _ h1 hj=>absurd hj (by omega)),rfl⟩
  case round=>
   obtain ⟨n,rfl,h1,hn,HN,rfl⟩:=hrel;by_cases hlt:n < l.length
   {have hi1: (n:Int) < (l.length:Int):=by omega
    obtain ⟨c,hc⟩: ∃c,c=l[n]'hlt:=⟨_,rfl⟩;have hidx: ∀W,(Instr.index 9 (.string ⟨l.toArray⟩) (.int .i64 (n:Int))).run Tryz.prog W= .ok (.int .u8 c.toNat) W:=fun W=>by
     rw[hc]; exact Z4O ⟨l.toArray⟩ n (by omega) W
    have HC:=Y1 hc;clear hc;cases hb:Lex.nameB c
    {have HF:Hid (Lex.named l=false):=Y1 (by rw[HM.out,Lex.Zbr hlt h1 (by rw[<-HC.out]; exact hb)]; simp)
     go_wp2_with fail
     refine (Z4m c _).mono ?_;rintro e w2 ⟨rfl,rfl⟩;rw[hb];go_wp2;go_ret;exact ⟨by rw[HF.out]; rfl,rfl⟩}
    {have HN2:Hid (∀j (hj:j < l.length),1<=j->j < n+1->Lex.nameB (l[j]'hj)=true):=Y1 (fun j hj h1 hji=>by
      rcases Nat.lt_succ_iff_lt_or_eq.1 hji with h' | rfl
      {exact HN.out j hj h1 h'}
      · rw[<-HC.out]; exact hb)
     go_wp2_with fail
     refine (Z4m c _).mono ?_;rintro e w2 ⟨rfl,rfl⟩;rw[hb];go_wp2
     go_roundw
     case rel=>exact ⟨n+1,by go_num,by omega,Or.inl (by omega),HN2,trivial⟩
     case measure=>simp[intOf]; omega}}
   {have hi1: ¬(n:Int) < (l.length:Int):=by omega
    have HF:Hid (Lex.named l=true):=Y1 (by rw[HM.out,decide_eq_true h24,Lex.Zbb (fun j hj h1=>HN.out j hj h1 (by omega))]; rfl);go_wp2;go_ret;exact ⟨by rw[HF.out]; rfl,rfl⟩}}
 {have h24d: (24:Int) < (l.length:Int):=by omega
  have HF:Hid (Lex.named l=false):=Y1 (by rw[HM.out,decide_eq_false h24]; rfl);go_enter Tryz.func121,Tryz.ntmps121;go_wp2;go_ret;exact ⟨by rw[HF.out]; rfl,rfl⟩}
theorem Z2t:
 Calls Tryz.prog 104 #[.string ⟨l.toArray⟩] w fun e w'=>e= .returned (.bool (Lex.isName l))/\w=w':=by
 cases l with
 | nil=>
  have HM:Hid (Lex.isName []=false):=Y1 rfl;go_enter Tryz.func104,Tryz.ntmps104;go_wp2;go_ret;exact ⟨by rw[HM.out]; rfl,rfl⟩
 | cons c r=>
  have HM:=Y1 (Lex.Z95 c r);obtain ⟨l,hll⟩: ∃l:List UInt8,l=c::r:=⟨_,rfl⟩;rw[<-hll] at hl HM ⊢;have hz: (⟨l.toArray⟩:ByteArray).size=l.length:=Z11 _;have he:l.isEmpty=false:=by rw[hll]; rfl
  have he2: (l== [])=false:=by rw[hll]; rfl
  have he3: (l != [])=true:=by rw[hll]; rfl
  have hidx: ∀W,(Instr.index 9 (.string ⟨l.toArray⟩) (.int .i64 0)).run Tryz.prog W= .ok (.int .u8 c.toNat) W:=fun W=>by rw[hll]; rfl
  clear hll;cases h1:Lex.small c
  {have HF:Hid (Lex.isName l=false):=Y1 (by rw[HM.out,h1]; rfl);go_enter Tryz.func104,Tryz.ntmps104
   go_wp2_with fail
   refine (Z1I c _).mono ?_;rintro e w2 ⟨rfl,rfl⟩;rw[h1];go_wp2;go_ret;exact ⟨by rw[HF.out]; rfl,rfl⟩}
  {cases h2:Lex.named l
   {have HF:Hid (Lex.isName l=false):=Y1 (by rw[HM.out,h1,h2]; rfl);go_enter Tryz.func104,Tryz.ntmps104
    go_wp2_with fail
    refine (Z1I c _).mono ?_;rintro e w2 ⟨rfl,rfl⟩;rw[h1]
    go_wp2_with fail
    refine (Z37 l hl _).mono ?_;rintro e w2 ⟨rfl,rfl⟩;rw[h2];go_wp2;go_ret;exact ⟨by rw[HF.out]; rfl,rfl⟩}
   {have HF:Hid (Lex.isName l= !Lex.isWord l):=Y1 (by rw[HM.out,h1,h2]; rfl);go_enter Tryz.func104,Tryz.ntmps104
    go_wp2_with fail
    refine (Z1I c _).mono ?_;rintro e w2 ⟨rfl,rfl⟩;rw[h1]
    go_wp2_with fail
    refine (Z37 l hl _).mono ?_;rintro e w2 ⟨rfl,rfl⟩;rw[h2]
    go_wp2_with fail
    refine (Z94 l _).mono ?_;rintro e w2 ⟨rfl,rfl⟩;go_wp2;go_ret;exact ⟨by rw[HF.out]; rfl,rfl⟩}}
theorem Z4n:
 Calls Tryz.prog 105 #[.string ⟨l.toArray⟩] w fun e w'=>e= .returned (.bool (Lex.isUpper l))/\w=w':=by
 cases l with
 | nil=>
  have HM:Hid (Lex.isUpper []=false):=Y1 rfl;go_enter Tryz.func105,Tryz.ntmps105;go_wp2;go_ret;exact ⟨by rw[HM.out]; rfl,rfl⟩
 | cons c r=>
  have HM:=Y1 (Lex.Z7F c r);obtain ⟨l,hll⟩: ∃l:List UInt8,l=c::r:=⟨_,rfl⟩;rw[<-hll] at hl HM ⊢;have hz: (⟨l.toArray⟩:ByteArray).size=l.length:=Z11 _;have he:l.isEmpty=false:=by rw[hll]; rfl
  have he2: (l== [])=false:=by rw[hll]; rfl
  have he3: (l != [])=true:=by rw[hll]; rfl
  have hidx: ∀W,(Instr.index 9 (.string ⟨l.toArray⟩) (.int .i64 0)).run Tryz.prog W= .ok (.int .u8 c.toNat) W:=fun W=>by rw[hll]; rfl
  clear hll;cases h1:Lex.great c
  {have HF:Hid (Lex.isUpper l=false):=Y1 (by rw[HM.out,h1]; rfl);go_enter Tryz.func105,Tryz.ntmps105
   go_wp2_with fail
   refine (Z35 c _).mono ?_;rintro e w2 ⟨rfl,rfl⟩;rw[h1];go_wp2;go_ret;exact ⟨by rw[HF.out]; rfl,rfl⟩}
  {have HF:Hid (Lex.isUpper l=Lex.named l):=Y1 (by rw[HM.out,h1]; rfl);go_enter Tryz.func105,Tryz.ntmps105
   go_wp2_with fail
   refine (Z35 c _).mono ?_;rintro e w2 ⟨rfl,rfl⟩;rw[h1]
   go_wp2_with fail
   refine (Z37 l hl _).mono ?_;rintro e w2 ⟨rfl,rfl⟩;go_wp2;go_ret;exact ⟨by rw[HF.out]; rfl,rfl⟩}
end
end Go.Proofs.YtlomianlcnmfgaaGreatDoor
namespace Go.Proofs.YtlomianlcnmfgaaGreatDoor
section
open Go.RowKit Go.Maps Go.WideMaps Shp
theorem Z1t:Keyed Tryz.prog 9:=string_keyed Tryz.underlying9
theorem Z45 (w:World): (zeroValue 112).run Tryz.prog w= .ok (.agg #[]) w:=by kernel_rfl
def seenOf (l:List (List UInt8)) (k:Nat):DataW Unit:=setOf (.agg []) ((l.take k).map Lit.string)
theorem Zae (l:List (List UInt8)):seenOf l 0= .map []:=by simp[seenOf,setOf]
theorem Zaf (l:List (List UInt8)) (k:Nat) (hk:k < l.length):seenOf l (k+1)=(seenOf l k).put (.string (l[k]'hk)) (.agg []):=by
 unfold seenOf;rw[List.take_succ_eq_append_getElem hk,List.map_append,List.map_cons,List.map_nil,setOf_snoc]
theorem Z6y (x:List UInt8): ∀l:List (List UInt8),l.any ((fun y:Lit=>y.sameKey (.string x)) ∘ Lit.string)=l.contains x
 | []=>rfl
 | a::r=>by
  rw[List.any_cons,List.contains_cons,Z6y x r];congr 1;by_cases e:a=x
  {subst e; simp[Lit.sameKey]}
  {have e': ¬x=a:=fun h=>e h.symm;simp[Lit.sameKey];rw[show (a==x)=false from by simpa using e,show (x==a)=false from by simpa using e']}
theorem Zbc (l:List (List UInt8)) (k:Nat) (x:List UInt8):Maps.has (seenOf l k) (.string x)=(l.take k).contains x:=by
 unfold seenOf;rw[has_setOf _ _ _ (fun y hy=>by obtain ⟨_,_,rfl⟩:=List.mem_map.1 hy; trivial),List.any_map];exact Z6y x _
theorem Z7G (A:Option Addr) (c:Nat) (l:List (List UInt8)) (w:World) (hA:Strs w w.heap.size A (strs l)) (hl:l.length<=1000000) (hx: ∀x∈l,x.length<=9223372036854775807):
 Y9 102 #[.slice A l.length c] w (.bool (areNames l)):=by
 have hmm:= @run_makeMap Tryz.prog;have HA:=Y1 hA;have HX:=Y1 hx;clear hA hx;go_enter Tryz.func102,Tryz.ntmps102
 go_wp2_with fail
 go_loopw [11] (fun ii wr=> ∃k:Nat,k<=l.length/\ii= .int .i64 k/\wr.ownsMap Tryz.prog 9 unitElem w.heap.size k (seenOf l k)/\Below w.heap.size w wr/\Hid (∀j (hj:j < l.length),j < k->Lex.isName (l[j]'hj)=true/\ ∀m (hm:m < j),l[m]'(by omega)≠l[j]'hj))
  (fun i _=>l.length - (intOf i).toNat)
 case atStart=>exact ⟨0,Nat.zero_le _,rfl,by rw[Zae]; exact World.ownsMap_made _ _ _ _,Y2.alloc (Nat.le_refl _) _,Y1 (fun j _ hj=>absurd hj (by omega))⟩
 case round=>
  obtain ⟨k,hk,rfl,hown,hb,HN⟩:=hrel;by_cases hlt:k < l.length
  {have hi1: (k:Int) < (l.length:Int):=by omega
   rcases (HA.out.next hb).cell7 with h0 | ⟨g,off,rfl,hg,hc⟩
   {omega}
   {have hcell:=hc k hlt;obtain ⟨x,hx⟩: ∃x,x=l[k]'hlt:=⟨_,rfl⟩;rw[<-hx] at hcell;have hxl:x.length<=9223372036854775807:=by rw[hx]; exact HX.out _ (List.getElem_mem _)
    have HE:=Y1 hx;have hkey:keyOf Tryz.prog 9 (.string ⟨x.toArray⟩)=some (.string x):=keyOf_string_mk Tryz.underlying9 (by rw[Z11]; unfold maxLen; exact hxl);clear hx hc;have HHAS:=Y1 (Zbc l k x);have HOWN:=Y1 hown;have HBB:=Y1 hb;clear hb;cases hin: (l.take k).contains x with
    | true=>
     have HF:Hid (areNames l=false):=Y1 (by
      have hm:=List.contains_iff_mem.1 hin;obtain ⟨m,hm,he⟩:=List.getElem_of_mem hm;rw[List.length_take] at hm;rw[List.getElem_take] at he;exact Z3e (k:=m) hlt (by omega) (by rw[he,HE.out]))
     have hhas:=HHAS.out;rw[hin] at hhas;clear hin
     go_wp2_with (first
      | (at_lookup; refine wpList_lookup_own_unit _ rfl _ _ 111 rfl 9 112 Z1t Tryz.underlying111 (Z45 _) w.heap.size k _ rfl hown _ _ rfl hkey ?_)
      | fail)
     go_ret;exact ⟨by rw[HF.out]; rfl,HBB.out.alloc HBB.out.size _⟩
    | false=>
     have HNU:Hid (∀m (hm:m < k),l[m]'(by omega)≠l[k]'hlt):=Y1 (fun m hm he=>by
      rw[<-HE.out] at he;have:x∈l.take k:=by
       rw[<-he];have:=List.getElem_mem (l:=l.take k) (n:=m) (by rw[List.length_take]; omega)
       rwa [List.getElem_take] at this
      rw[List.contains_iff_mem.2 this] at hin;cases hin)
     have hhas:=HHAS.out;rw[hin] at hhas;clear hin;cases hn:Lex.isName x with
     | false=>
      have HF:Hid (areNames l=false):=Y1 (Z3U hlt (by rw[<-HE.out]; exact hn));have hw:=fun W=>Z2t x hxl W;simp only[hn] at hw;clear hn
      go_wp2_with (first
       | (at_lookup; refine wpList_lookup_own_unit _ rfl _ _ 111 rfl 9 112 Z1t Tryz.underlying111 (Z45 _) w.heap.size k _ rfl hown _ _ rfl hkey ?_)
       | (go_at_call 104; refine (hw _).mono ?_; rintro e w' ⟨rfl,rfl⟩))
      go_ret;exact ⟨by rw[HF.out]; rfl,HBB.out.alloc HBB.out.size _⟩
     | true=>
      have HNA:Hid (Lex.isName (l[k]'hlt)=true):=Y1 (by rw[<-HE.out]; exact hn);have hw:=fun W=>Z2t x hxl W;simp only[hn] at hw;clear hn
      go_wp2_with (first
       | (at_lookup; refine wpList_lookup_own_unit _ rfl _ _ 111 rfl 9 112 Z1t Tryz.underlying111 (Z45 _) w.heap.size k _ rfl hown _ _ rfl hkey ?_)
       | (go_at_call 104; refine (hw _).mono ?_; rintro e w' ⟨rfl,rfl⟩)
       | (at_mapUpdate; refine wpList_mapUpdate_own _ rfl _ _ _ 111 rfl 9 112 Z1t Tryz.underlying111 (unitElem (H:=Unit)) w.heap.size k _ rfl (hown.alloc _) (by unfold maxLen; omega) _ _ _ rfl rfl hkey _ [] unitElem_mk ?_; intro w1 hown1 hgrow1))
      go_roundw
      case rel=>
       refine ⟨k+1,by omega,by go_num, ?_, ?_,Y1 (fun j hj hji=>by
        rcases Nat.lt_succ_iff_lt_or_eq.1 hji with h | rfl
        {exact HN.out j hj h}
        · exact ⟨HNA.out,HNU.out⟩)⟩
       {rw[Zaf l k hlt, <-HE.out]; exact hown1}
       {exact (HBB.out.alloc HBB.out.size _).grown hgrow1 (by have:=HBB.out.size; simp; omega) (fun j hj=>by cases hj; exact Nat.le_refl _)}
      case measure=>simp[intOf]; omega}}
  {have hi1: ¬(k:Int) < (l.length:Int):=by omega
   have HM:Hid (areNames l=true):=Y1 (Z4h (fun j hj=>(HN.out j hj (by omega)).1) (fun j hj=>(HN.out j hj (by omega)).2));go_wp2;go_ret;exact ⟨by rw[HM.out]; rfl,hb⟩}
end
end Go.Proofs.YtlomianlcnmfgaaGreatDoor
namespace Go.Proofs.YtlomianlcnmfgaaGreatDoor
open Go.RowKit Go.Maps Go.WideMaps Shp
namespace SubM
abbrev Ky:=List UInt8
def Fine (k:Ky):Prop:=k.length<=9223372036854775807
def KL (k:Ky):Lit:= .string k
theorem Z2u {k:Ky} (h:Fine k):keyOf Tryz.prog 9 (.string ⟨k.toArray⟩)=some (KL k):=keyOf_string_mk Tryz.underlying9 (by rw[Z11]; unfold maxLen; exact h)
theorem Z52 {k k':Ky} (h:Fine k) (h':Fine k') (e:KL k=KL k'):k=k':=by cases e; rfl
theorem Zag (k:Ky):WideAt.IsKeyLit (KL k):=trivial
def slEl:Value->Option (DataW Unit×List MemPlace)
 | .pointer none=>some (.agg [],[])
 | .pointer (some ⟨g,o,none⟩)=>some (.agg [.lit (.int .i64 (g:Int)),.lit (.int .i64 (o:Int))],[])
 | _=>none
theorem Z6z {v v':Value} {d:DataW Unit} {p p':List MemPlace} (h:slEl v=some (d,p)) (h':slEl v'=some (d,p')):v=v':=by
 unfold slEl at h h';split at h <;> split at h' <;> simp only[Option.some.injEq,Prod.mk.injEq,reduceCtorEq] at h h'
 {rfl}
 {obtain ⟨rfl,_⟩:=h;simp at h'}
 {obtain ⟨rfl,_⟩:=h;simp at h'}
 {obtain ⟨rfl,_⟩:=h;simp at h';obtain ⟨⟨h1,h2⟩,_⟩:=h';have e1:_=_:=Int.ofNat_inj.1 h1;have e2:_=_:=Int.ofNat_inj.1 h2;rw[e1,e2]}
theorem Z8d (w:World): (zeroValue 49).run Tryz.prog w= .ok (.pointer none) w:=by kernel_rfl
def Mp (W:World) (b N:Nat) (S:List Ky) (m:Ky->Value):Prop:=
 ∃D:DataW Unit,W.ownsMap Tryz.prog 9 slEl b N D/\Maps.size D=S.length/\S.Nodup/\(∀k∈S,Fine k)/\(∀k,Fine k->(Maps.has D (KL k)=true ↔ k∈S))/\
  ∀k,Fine k-> ∃p,slEl (if k∈S then m k else .pointer none)=some (D.atKey (KL k) (.agg []),p)
theorem Mp.made (W:World) (m:Ky->Value):Mp (W.alloc (.map #[] 0)) W.heap.size 0 [] m:=by
 refine ⟨.map [],World.ownsMap_made _ _ _ _,rfl,List.nodup_nil,nofun,fun k _=>⟨fun h=>by simp[Maps.has] at h,nofun⟩,fun k _=>⟨[], ?_⟩⟩;rw[if_neg (by simp)];rfl
theorem Mp.lt {W:World} {b N:Nat} {S:List Ky} {m:Ky->Value} (h:Mp W b N S m):b < W.heap.size:=by obtain ⟨_,h,_⟩:=h; exact h.lt
theorem Mp.kept {W W':World} {b N:Nat} {S:List Ky} {m:Ky->Value} (h:Mp W b N S m) {row:Option Nat} (hg:W.grownBy W' row) (hne:some b≠row):Mp W' b N S m:=by
 obtain ⟨D,h1,h2⟩:=h; exact ⟨D,h1.kept hg hne,h2⟩
theorem Mp.same {W W':World} {b N:Nat} {S:List Ky} {m:Ky->Value} (h:Mp W b N S m) (hb:W'.heap[b]? =W.heap[b]?):Mp W' b N S m:=by
 obtain ⟨D,⟨es,clock,h0,h1⟩,h2⟩:=h; exact ⟨D,⟨es,clock,hb.trans h0,h1⟩,h2⟩
section
variable {W : World} {b N : Nat} {S : List Ky}
include W b N S
theorem Mp.like {m m':Ky->Value} (h:Mp W b N S m) (hm: ∀k∈S,m' k=m k):Mp W b N S m':=by
 obtain ⟨D,h1,h2,h3,h4,h5,h6⟩:=h;refine ⟨D,h1,h2,h3,h4,h5,fun k hk=> ?_⟩;obtain ⟨p,hp⟩:=h6 k hk;refine ⟨p, ?_⟩;rw[<-hp];by_cases e:k∈S
 {rw[if_pos e,if_pos e,hm k e]}
 {rw[if_neg e,if_neg e]}
theorem Mp.look {m:Ky->Value} (h:Mp W b N S m) {k:Ky} (hk:Fine k):
 (Instr.lookup 59 (.map (some b)) ((.string ⟨k.toArray⟩)) false).run Tryz.prog W= .ok (if k∈S then m k else .pointer none) W:=by
 obtain ⟨D,h1,_,_,_,_,h6⟩:=h;obtain ⟨v,ps,hr,hv⟩:=h1.lookup Z1t Tryz.underlying59 (Z8d W) (zd:= .agg []) (zp:= []) rfl (Z2u hk);obtain ⟨p,hp⟩:=h6 k hk;rw[hr,Z6z hv hp]
end
theorem Mp.len {W:World} {b N:Nat} {S:List Ky} {m:Ky->Value} (h:Mp W b N S m) (ty:TypeId):
 (Builtin.len_ #[59] ty #[.map (some b)]).run Tryz.prog W= .ok (.int .i64 S.length) W:=by
 obtain ⟨D,h1,h2,_⟩:=h;rw[h1.len Tryz.underlying59 ty,h2]
theorem Mp.put {W:World} {b N:Nat} {S:List Ky} {m:Ky->Value} (h:Mp W b N S m) {k:Ky} (hk:Fine k) (hN:N < maxLen) {v:Value} {z:DataW Unit×List MemPlace} (hv:slEl v=some z):
 ∃W',(Instr.mapUpdate 59 (.map (some b)) ((.string ⟨k.toArray⟩)) v).run Tryz.prog W= .ok () W'/\Mp W' b (N+1) (if k∈S then S else k::S) (fun x=>if x=k then v else m x)/\W.mapTurned W' b:=by
 obtain ⟨D,h1,h2,h3,h4,h5,h6⟩:=h;obtain ⟨W',hr,ho,hg⟩:=h1.store Z1t Tryz.underlying59 hN (Z2u hk) (ps:=z.2) (d:=z.1) (by rw[hv]);have hT:=h1.tidy Z1t;have hsz:=Maps.size_put (k:=KL k) hT z.1;have hmem: ∀x,x∈(if k∈S then S else k::S) ↔ x=k\/x∈S:=fun x=>by
  by_cases e:k∈S
  {rw[if_pos e]; exact ⟨Or.inr,fun h=>h.elim (fun h=>h▸e) id⟩}
  {rw[if_neg e]; exact List.mem_cons}
 refine ⟨W',hr,⟨D.put (KL k) z.1,ho, ?_, ?_, ?_, ?_, ?_⟩,hg⟩
 {rw[hsz,h2];by_cases e:k∈S
  {rw[if_pos ((h5 k hk).2 e),if_pos e]}
  {rw[if_neg (fun h=>e ((h5 k hk).1 h)),if_neg e]; rfl}}
 {by_cases e:k∈S
  {rw[if_pos e]; exact h3}
  {rw[if_neg e]; exact List.nodup_cons.2 ⟨e,h3⟩}}
 {intro x hx;rcases (hmem x).1 hx with rfl | hx
  {exact hk}
  {exact h4 x hx}}
 {intro x hx;rw[hmem];by_cases e:x=k
  {subst e;exact ⟨fun _=>Or.inl rfl,fun _=>Maps.has_put_same h1.isMap (Zag _) _⟩}
  {rw[Maps.has_put_other (fun h=>e (Z52 hx hk h)),h5 x hx];exact ⟨Or.inr,fun h=>h.resolve_left e⟩}}
 {intro x hx;by_cases e:x=k
  {subst e;refine ⟨z.2, ?_⟩;rw[if_pos ((hmem _).2 (Or.inl rfl))];simp only[if_true];rw[Maps.atKey_put_same h1.isMap (Zag _),hv]}
  {obtain ⟨p,hp⟩:=h6 x hx;refine ⟨p, ?_⟩;rw[Maps.atKey_put_other (fun h=>e (Z52 hx hk h)), <-hp];by_cases e2:x∈S
   {rw[if_pos ((hmem x).2 (Or.inr e2)),if_pos e2]; simp only[if_neg e]}
   {rw[if_neg (fun h=>e2 (((hmem x).1 h).resolve_left e)),if_neg e2]}}}
theorem Mp.del {W:World} {b N:Nat} {S:List Ky} {m:Ky->Value} (h:Mp W b N S m) {k:Ky} (hk:Fine k) (ty:TypeId):
 ∃W',(Builtin.delete_ #[59,9] ty #[.map (some b),(.string ⟨k.toArray⟩)]).run Tryz.prog W= .ok (.tuple #[]) W'/\Mp W' b N (S.filter (· ≠k)) m/\W.mapTurned W' b:=by
 obtain ⟨D,h1,h2,h3,h4,h5,h6⟩:=h;obtain ⟨W',hr,ho,hg⟩:=h1.drop Z1t Tryz.underlying59 (Z2u hk) ty;have hT:=h1.tidy Z1t;have hsz:=Maps.size_del (k:=KL k) hT;have hmem: ∀x,x∈S.filter (· ≠k) ↔ x∈S/\x≠k:=fun x=>by simp[List.mem_filter]
 have hlen: (S.filter (· ≠k)).length+(if k∈S then 1 else 0)=S.length:=by
  clear h2 h4 h5 h6 hsz hmem;induction S with
  | nil=>rfl
  | cons a S ih=>
   rw[List.nodup_cons] at h3;have:=ih h3.2;by_cases e:a=k
   {subst e;have hf:S.filter (· ≠a)=S:=List.filter_eq_self.2 (fun x hx=>by simp; rintro rfl; exact h3.1 hx)
    rw[List.filter_cons_of_neg (by simp),hf,if_pos (by simp)]; rfl}
   {rw[List.filter_cons_of_pos (by simp[e]),List.length_cons,List.length_cons];have: (k∈a::S) ↔ k∈S:=by simp[Ne.symm e]
    by_cases e2:k∈S
    {rw[if_pos (this.2 e2)]; rw[if_pos e2] at *; omega}
    {rw[if_neg (fun h=>e2 (this.1 h))]; rw[if_neg e2] at *; omega}}
 refine ⟨W',hr,⟨D.del (KL k),ho, ?_, ?_, ?_, ?_, ?_⟩,hg⟩
 {rw[h2] at hsz;by_cases e:k∈S
  {rw[if_pos ((h5 k hk).2 e)] at hsz; rw[if_pos e] at hlen; omega}
  {rw[if_neg (fun h=>e ((h5 k hk).1 h))] at hsz; rw[if_neg e] at hlen; omega}}
 {exact h3.filter _}
 {exact fun x hx=>h4 x ((hmem x).1 hx).1}
 {intro x hx;rw[hmem];by_cases e:x=k
  {subst e;rw[Maps.has_del_same];exact ⟨nofun,fun h=>absurd rfl h.2⟩}
  {rw[Maps.has_del_other (fun h=>e (Z52 hx hk h)),h5 x hx];exact ⟨fun h=>⟨h,e⟩,fun h=>h.1⟩}}
 {intro x hx;by_cases e:x=k
  {subst e;refine ⟨[], ?_⟩;rw[if_neg (fun h=>((hmem _).1 h).2 rfl),Maps.atKey_del_same]; rfl}
  {obtain ⟨p,hp⟩:=h6 x hx;refine ⟨p, ?_⟩;rw[Maps.atKey_del_other (fun h=>e (Z52 hx hk h)), <-hp];by_cases e2:x∈S
   {rw[if_pos ((hmem x).2 ⟨e2,e⟩),if_pos e2]}
   {rw[if_neg (fun h=>e2 ((hmem x).1 h).1),if_neg e2]}}}
theorem Mp.look2 {W:World} {b N:Nat} {S:List Ky} {m:Ky->Value} (h:Mp W b N S m) {k:Ky} (hk:Fine k):
 (Instr.lookup 59 (.map (some b)) (.string ⟨k.toArray⟩) true).run Tryz.prog W= .ok (.tuple #[if k∈S then m k else .pointer none,.bool (decide (k∈S))]) W:=by
 obtain ⟨D,h1,_,_,_,h5,h6⟩:=h;obtain ⟨v,ps,hr,hv⟩:=h1.look_ok Z1t Tryz.underlying59 (Z8d W) (zd:= .agg []) (zp:= []) rfl (Z2u hk);obtain ⟨p,hp⟩:=h6 k hk;rw[hr,Z6z hv hp];have:Maps.has D (KL k)=decide (k∈S):=by rw[Bool.eq_iff_iff,h5 k hk,decide_eq_true_eq]
 rw[this]
end SubM
end Go.Proofs.YtlomianlcnmfgaaGreatDoor
namespace Go.Proofs.YtlomianlcnmfgaaGreatDoor
open Go.RowKit Shp
namespace SubM
abbrev sv (s:Sh) (q:Ptr):Value:= .agg (Y8 s q)
structure Upd (S:Nat->Prop) (a b:World):Prop where
 os:b.os=a.os
 tape:b.tape=a.tape
 output:b.output=a.output
 size:a.heap.size<=b.heap.size
 block: ∀x,x < a.heap.size-> ¬S x->b.heap[x]? =a.heap[x]?
section
variable {S T : Nat -> Prop} {a b c : World} {B n0 : Nat}
theorem Upd.refl (S:Nat->Prop) (a:World):Upd S a a:=⟨rfl,rfl,rfl,Nat.le_refl _,fun _ _ _=>rfl⟩
theorem Upd.trans (h:Upd S a b) (k:Upd S b c):Upd S a c:=
 ⟨k.os.trans h.os,k.tape.trans h.tape,k.output.trans h.output,Nat.le_trans h.size k.size,fun x h1 h2=>(k.block x (Nat.lt_of_lt_of_le h1 h.size) h2).trans (h.block x h1 h2)⟩
theorem Upd.mono (h:Upd S a b) (hs: ∀x,x < a.heap.size->S x->T x):Upd T a b:=⟨h.os,h.tape,h.output,h.size,fun x h1 h2=>h.block x h1 (fun hx=>h2 (hs x h1 hx))⟩
theorem Upd.of_below (h:Below B a b) (hB: ∀x,x < a.heap.size->B<=x->S x):Upd S a b:=
 ⟨h.os,h.tape,h.output,h.size,fun x h1 h2=>h.block x (Nat.lt_of_not_le (fun hx=>h2 (hB x h1 hx)))⟩
theorem Upd.new (h:Below a.heap.size a b):Upd S a b:=Upd.of_below h (fun x h1 h2=>absurd h1 (by omega))
theorem Upd.below (h:Upd S a b) (hB:B<=a.heap.size) (hS: ∀x,S x->B<=x):Below B a b:=⟨h.os,h.tape,h.output,h.size,fun x h1=>h.block x (by omega) (fun hx=>by have:=hS x hx; omega)⟩
theorem Upd.drew (h:Upd S a b):Upd S a b.drew:=⟨h.os,h.tape,h.output,h.size,h.block⟩
theorem Upd.grown (h:Upd S a b) {row:Option Nat} (hg:b.grownBy c row) (hr: ∀k,row=some k->k < a.heap.size->S k):Upd S a c:=
 ⟨hg.os.trans h.os,hg.tape.trans h.tape,hg.output.trans h.output,Nat.le_trans h.size hg.size,fun x h1 h2=>(hg.block x (Nat.lt_of_lt_of_le h1 h.size) (fun e=>h2 (hr x e.symm h1))).trans (h.block x h1 h2)⟩
theorem Upd.set (h:Upd S a b) (p:Addr) (hp:p.block < a.heap.size->S p.block) (v:Value):Upd S a (b.setCell p v):=
 ⟨h.os,h.tape,h.output,by simpa[World.setCell] using h.size,fun x h1 h2=>(Below.heap_setCell _ _ _ _ (fun e=>h2 (by
  have e':x=p.block:=by first | exact e | exact e.symm
  rw[e']; exact hp (e'▸h1)))).trans (h.block x h1 h2)⟩
theorem Upd.cell (h:Upd S a b) {g k:Nat} (hg:g < a.heap.size) (hS: ¬S g):b.cell? ⟨g,k,none⟩=a.cell? ⟨g,k,none⟩:=World.cell?_of_block (w:=a) (h.block g hg hS)
theorem Upd.frozen (h:Upd S a b) {g k:Nat} (hg:g < a.heap.size) (hS: ¬S g):b.frozen? ⟨g,k,none⟩=a.frozen? ⟨g,k,none⟩:=World.frozen?_of_block (w:=a) (h.block g hg hS)
theorem Z0e {g:Nat} {t:Sh} {q:Ptr} (h:Box5 a g t q) (hu:Upd S a b) (hS: ¬S g):Box5 b g t q:=by
 obtain ⟨h0,h1,f0,f1,f2,f3,f4⟩:=h;exact ⟨Nat.lt_of_lt_of_le h0 hu.size,h1.of (fun k=>hu.cell h0 hS),(hu.frozen h0 hS).trans f0,(hu.frozen h0 hS).trans f1,(hu.frozen h0 hS).trans f2,(hu.frozen h0 hS).trans f3,(hu.frozen h0 hS).trans f4⟩
theorem Z0a {t:Sh} {q:Ptr} (h:ShAt a n0 q t) (hn:n0<=a.heap.size) (hu:Upd S a b) (hS: ∀x,x < n0-> ¬S x):ShAt b n0 q t:=
 h.of (Nat.le_refl _) (fun g k hg=>hu.cell (by omega) (hS g hg))
theorem ZbL {g N:Nat} {K:List Ky} {m:Ky->Value} (h:Mp a g N K m) (hu:Upd S a b) (hS: ¬S g):Mp b g N K m:=h.same (hu.block g h.lt hS)
end
def At (W:World) (n0:Nat) (o:Option Sh) (v:Value):Prop:=
 match o with
 | none=>v= .pointer none
 | some p=> ∃g off q,v= .pointer (some ⟨g,off,none⟩)/\g < n0/\Sh5 W g off p q/\ShAt W n0 q p
theorem At.upd {a b:World} {S:Nat->Prop} {n0:Nat} {o:Option Sh} {v:Value} (h:At a n0 o v) (hn:n0<=a.heap.size) (hu:Upd S a b) (hS: ∀x,x < n0-> ¬S x):At b n0 o v:=by
 cases o with
 | none=>exact h
 | some p=>
  obtain ⟨g,off,q,h1,h2,h3,h4⟩:=h;exact ⟨g,off,q,h1,h2,h3.of (fun k=>hu.cell (by omega) (hS g h2)),Z0a h4 hn hu hS⟩
end SubM
end Go.Proofs.YtlomianlcnmfgaaGreatDoor
