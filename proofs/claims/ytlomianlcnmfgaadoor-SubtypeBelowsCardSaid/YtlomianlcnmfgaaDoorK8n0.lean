/- What the proofs of SubtypeBelows want, part 0. -/
import Derived.Test.YtlomianlcnmfgaaDoorK3n0
import Derived.Test.YtlomianlcnmfgaaDoorK2n0
import Derived.Test.YtlomianlcnmfgaaDoorK0n12
set_option linter.unusedVariables false
set_option linter.unusedSimpArgs false
set_option linter.unusedSectionVars false
set_option maxRecDepth 100000
set_option maxHeartbeats 16000000
namespace Shp
section
theorem Zbc {t:Sh} (h: (t.of_== [])=false):bare t=false:=by simp[bare,h]
theorem Z9o {t:Sh} (h: (t.name== [])=false):bare t=false:=by simp[bare,h]
theorem Z9p {t p:Sh} (hp:p∈t.parts) (h:right p=false):right t=false:=by
 cases e:right t with
 | false=>rfl
 | true=>rw[Z05 e hp] at h; cases h
end
end Shp
namespace Lex
theorem Z8b {p:UInt8->Bool}: ∀ {s:List UInt8} {n:Nat},n<=s.length->(∀j (hj:j < s.length),j < n->p (s[j]'hj)=true)->(∀(h:n < s.length),p (s[n]'h)=false)->(s.takeWhile p).length=n
 | [],n,h,_,_=>by simp at h; simp[h]
 | x::r,0,_,_,h=>by
  have:=h (by simp);simp at this;rw[List.takeWhile_cons_of_neg (by simp[this])]; rfl
 | x::r,n+1,h1,h2,h3=>by
  have hx:=h2 0 (by simp) (by omega);simp at hx;rw[List.takeWhile_cons_of_pos hx,List.length_cons,Z8b (s:=r) (n:=n) (by simpa using h1) (fun j hj hn=>by
   have:=h2 (j+1) (by simpa using hj) (by omega);simpa using this) (fun h=>by
   have:=h3 (by simpa using h);simpa using this)]
def isIn (s:List UInt8) (l:List (List UInt8)):Bool:=l.contains s
theorem Z5Y {p:UInt8->Bool}: ∀ {s:List UInt8},(s.takeWhile p).length=s.length ↔ s.all p=true
 | []=>by simp
 | x::r=>by
  by_cases hx:p x=true
  {rw[List.takeWhile_cons_of_pos hx,List.length_cons,List.length_cons,List.all_cons,hx,Bool.true_and, <-Z5Y (s:=r)]; omega}
  {rw[List.takeWhile_cons_of_neg hx]; simp[hx]}
end Lex
namespace Go.Proofs.YtlomianlcnmfgaaDoor
open Go.RowKit
section
variable (c : UInt8) (w : World)
include c w
theorem Z16:
 Calls Tryd.prog 90 #[.int .u8 (c.toNat:Int)] w fun e w'=>e= .returned (.bool (Lex.small c))/\w=w':=by
 have hlt:=c.toNat_lt;have H:c.toNat<=96\/(97<=c.toNat/\c.toNat<=122)\/123<=c.toNat:=by omega
 have HB:Hid (Lex.small c=(decide (97<=c.toNat)&&decide (c.toNat<=122))):=Y1 rfl;obtain ⟨n,hn⟩: ∃n,n=c.toNat:=⟨_,rfl⟩;rw[<-hn] at H HB hlt ⊢;clear hn;rcases H with h1 | ⟨h1,h2⟩ | h1
 {have h3:decide ((97:Int)<=(n:Int))=false:=decide_eq_false (by omega);go_enter Tryd.func90,Tryd.ntmps90;go_wp2;go_ret;exact ⟨by rw[HB.out,decide_eq_false (by omega)]; rfl,rfl⟩}
 {have h3:decide ((n:Int)<=122)=true:=decide_eq_true (by omega);have h4:decide ((97:Int)<=(n:Int))=true:=decide_eq_true (by omega);go_enter Tryd.func90,Tryd.ntmps90;go_wp2;go_ret;exact ⟨by rw[HB.out,decide_eq_true h1,decide_eq_true h2]; rfl,rfl⟩}
 {have h3:decide ((n:Int)<=122)=false:=decide_eq_false (by omega);have h4:decide ((97:Int)<=(n:Int))=true:=decide_eq_true (by omega);go_enter Tryd.func90,Tryd.ntmps90;go_wp2;go_ret;exact ⟨by rw[HB.out,decide_eq_false (p:=n<=122) (by omega),Bool.and_false]; rfl,rfl⟩}
theorem Z1g:
 Calls Tryd.prog 93 #[.int .u8 (c.toNat:Int)] w fun e w'=>e= .returned (.bool (Lex.great c))/\w=w':=by
 have hlt:=c.toNat_lt;have H:c.toNat<=64\/(65<=c.toNat/\c.toNat<=90)\/91<=c.toNat:=by omega
 have HB:Hid (Lex.great c=(decide (65<=c.toNat)&&decide (c.toNat<=90))):=Y1 rfl;obtain ⟨n,hn⟩: ∃n,n=c.toNat:=⟨_,rfl⟩;rw[<-hn] at H HB hlt ⊢;clear hn;rcases H with h1 | ⟨h1,h2⟩ | h1
 {have h3:decide ((65:Int)<=(n:Int))=false:=decide_eq_false (by omega);go_enter Tryd.func93,Tryd.ntmps93;go_wp2;go_ret;exact ⟨by rw[HB.out,decide_eq_false (by omega)]; rfl,rfl⟩}
 {have h3:decide ((n:Int)<=90)=true:=decide_eq_true (by omega);have h4:decide ((65:Int)<=(n:Int))=true:=decide_eq_true (by omega);go_enter Tryd.func93,Tryd.ntmps93;go_wp2;go_ret;exact ⟨by rw[HB.out,decide_eq_true h1,decide_eq_true h2]; rfl,rfl⟩}
 {have h3:decide ((n:Int)<=90)=false:=decide_eq_false (by omega);have h4:decide ((65:Int)<=(n:Int))=true:=decide_eq_true (by omega);go_enter Tryd.func93,Tryd.ntmps93;go_wp2;go_ret;exact ⟨by rw[HB.out,decide_eq_false (p:=n<=90) (by omega),Bool.and_false]; rfl,rfl⟩}
theorem Z2O:
 Calls Tryd.prog 100 #[.int .u8 (c.toNat:Int)] w fun e w'=>e= .returned (.bool (Lex.digit c))/\w=w':=by
 have hlt:=c.toNat_lt;have H:c.toNat<=47\/(48<=c.toNat/\c.toNat<=57)\/58<=c.toNat:=by omega
 have HB:Hid (Lex.digit c=(decide (48<=c.toNat)&&decide (c.toNat<=57))):=Y1 rfl;obtain ⟨n,hn⟩: ∃n,n=c.toNat:=⟨_,rfl⟩;rw[<-hn] at H HB hlt ⊢;clear hn;rcases H with h1 | ⟨h1,h2⟩ | h1
 {have h3:decide ((48:Int)<=(n:Int))=false:=decide_eq_false (by omega);go_enter Tryd.func100,Tryd.ntmps100;go_wp2;go_ret;exact ⟨by rw[HB.out,decide_eq_false (by omega)]; rfl,rfl⟩}
 {have h3:decide ((n:Int)<=57)=true:=decide_eq_true (by omega);have h4:decide ((48:Int)<=(n:Int))=true:=decide_eq_true (by omega);go_enter Tryd.func100,Tryd.ntmps100;go_wp2;go_ret;exact ⟨by rw[HB.out,decide_eq_true h1,decide_eq_true h2]; rfl,rfl⟩}
 {have h3:decide ((n:Int)<=57)=false:=decide_eq_false (by omega);have h4:decide ((48:Int)<=(n:Int))=true:=decide_eq_true (by omega);go_enter Tryd.func100,Tryd.ntmps100;go_wp2;go_ret;exact ⟨by rw[HB.out,decide_eq_false (p:=n<=57) (by omega),Bool.and_false]; rfl,rfl⟩}
end
section
variable {s : List UInt8} {l : List (List UInt8)}
include s l
theorem ZaI {i:Nat} (hi:i < l.length) (h: (s==l[i]'hi)=true):Lex.isIn s l=true:=by
 unfold Lex.isIn;rw[List.contains_iff_mem,beq_iff_eq.1 h]; exact List.getElem_mem _
theorem ZaJ (h: ∀j (hj:j < l.length),(s==l[j]'hj)=false):Lex.isIn s l=false:=by
 unfold Lex.isIn;cases hq:l.contains s with
 | false=>rfl
 | true=>
  obtain ⟨j,hj,e⟩:=List.mem_iff_getElem.1 (List.contains_iff_mem.1 hq);have:=h j hj;rw[e] at this; simp at this
end
theorem Z8c (s:List UInt8) (A:Option Addr) (cap:Nat) (l:List (List UInt8)) (w:World) (hA:Strs w w.heap.size A (strs l)) (hl:l.length<=1000000):
 Calls Tryd.prog 101 #[.string ⟨s.toArray⟩,.slice A l.length cap] w fun e w'=>e= .returned (.bool (Lex.isIn s l))/\w=w':=by
 have HA:=Y1 hA;have hsl: (strs l).length=l.length:=by simp[strs]
 clear hA;go_enter Tryd.func101,Tryd.ntmps101
 go_wp2_with fail
 go_loopw [5] (fun ii wr=> ∃i:Nat,ii= .int .i64 i/\i<=l.length/\Hid (∀j (hj:j < l.length),j < i->(s==l[j]'hj)=false)/\w=wr)
  (fun i _=>l.length - (intOf i).toNat)
 case atStart=>exact ⟨0,rfl,Nat.zero_le _,Y1 (fun j _ hj=>absurd hj (by omega)),rfl⟩
 case round=>
  obtain ⟨i,rfl,hi,HN,rfl⟩:=hrel;by_cases hlt:i < l.length
  {have hi1: (i:Int) < (l.length:Int):=by omega
   rcases HA.out with h0 | ⟨g,off,rfl,hg,hc⟩
   {omega}
   {have hcell:=hc i (by omega);have e1: (strs l)[i]'(by omega)=⟨(l[i]'hlt).toArray⟩:=by simp[strs]
    rw[e1] at hcell;obtain ⟨p,hp⟩: ∃p,p=l[i]'hlt:=⟨_,rfl⟩;rw[<-hp] at hcell;have HP:=Y1 hp;clear hc e1 hp;cases hq: (s==p)
    {have HM:Hid ((s==l[i]'hlt)=false):=Y1 (by rw[<-HP.out]; exact hq);go_wp2
     go_roundw
     case rel=>exact ⟨i+1,by go_num,by omega,Y1 (fun j hj hji=>by
      rcases Nat.lt_succ_iff_lt_or_eq.1 hji with h | rfl
      {exact HN.out j hj h}
      · exact HM.out),trivial⟩
     case measure=>simp[intOf]; omega}
    {have HM:Hid (Lex.isIn s l=true):=Y1 (ZaI hlt (by rw[<-HP.out]; exact hq));go_wp2;go_ret;exact ⟨by rw[HM.out]; rfl,rfl⟩}}}
  {have hi1: ¬(i:Int) < (l.length:Int):=by omega
   have HM:Hid (Lex.isIn s l=false):=Y1 (ZaJ (fun j hj=>HN.out j hj (by omega)));go_wp2;go_ret;exact ⟨by rw[HM.out]; rfl,rfl⟩}
theorem Z9w (W:World) (l:List (List UInt8)) (g:Nat) (hg:g=W.heap.size):Strs (W.alloc (.cells ((strs l).map Value.string).toArray 9)) (W.alloc (.cells ((strs l).map Value.string).toArray 9)).heap.size (some ⟨g,0,none⟩) (strs l):=by
 subst hg;refine Or.inr ⟨W.heap.size,0,rfl,by simp,fun i hi=> ?_⟩;rw[Nat.zero_add];simp[go_sem,hi]
theorem Z8d (s:List UInt8) (w:World):
 Y9 92 #[.string ⟨s.toArray⟩] w (.bool (Lex.isWord s)):=by
 have HS:Hid (Strs (w.alloc (.cells #[.string ⟨#[109,111,100,117,108,101]⟩,.string ⟨#[105,109,112,111,114,116]⟩,.string ⟨#[112,105,110]⟩,.string ⟨#[114,97,110,103,101]⟩,.string ⟨#[116,121,112,101]⟩,.string ⟨#[111,112,97,113,117,101]⟩,.string ⟨#[108,101,116]⟩,.string ⟨#[105,110]⟩,.string ⟨#[101,120,112,111,114,116]⟩,.string ⟨#[102,117,110]⟩,.string ⟨#[105,102]⟩,.string ⟨#[116,104,101,110]⟩,.string ⟨#[101,108,115,101]⟩,.string ⟨#[99,97,115,101]⟩,.string ⟨#[111,102]⟩,.string ⟨#[97,115]⟩,.string ⟨#[110,101,119]⟩,.string ⟨#[114,97,119]⟩,.string ⟨#[116,114,117,101]⟩,.string ⟨#[102,97,108,115,101]⟩] 9)) (w.alloc (.cells #[.string ⟨#[109,111,100,117,108,101]⟩,.string ⟨#[105,109,112,111,114,116]⟩,.string ⟨#[112,105,110]⟩,.string ⟨#[114,97,110,103,101]⟩,.string ⟨#[116,121,112,101]⟩,.string ⟨#[111,112,97,113,117,101]⟩,.string ⟨#[108,101,116]⟩,.string ⟨#[105,110]⟩,.string ⟨#[101,120,112,111,114,116]⟩,.string ⟨#[102,117,110]⟩,.string ⟨#[105,102]⟩,.string ⟨#[116,104,101,110]⟩,.string ⟨#[101,108,115,101]⟩,.string ⟨#[99,97,115,101]⟩,.string ⟨#[111,102]⟩,.string ⟨#[97,115]⟩,.string ⟨#[110,101,119]⟩,.string ⟨#[114,97,119]⟩,.string ⟨#[116,114,117,101]⟩,.string ⟨#[102,97,108,115,101]⟩] 9)).heap.size (some ⟨w.heap.size,0,none⟩) (strs Lex.words)):=Y1 (Z9w w Lex.words _ rfl);have hb:=Z02 w (.cells #[.string ⟨#[109,111,100,117,108,101]⟩,.string ⟨#[105,109,112,111,114,116]⟩,.string ⟨#[112,105,110]⟩,.string ⟨#[114,97,110,103,101]⟩,.string ⟨#[116,121,112,101]⟩,.string ⟨#[111,112,97,113,117,101]⟩,.string ⟨#[108,101,116]⟩,.string ⟨#[105,110]⟩,.string ⟨#[101,120,112,111,114,116]⟩,.string ⟨#[102,117,110]⟩,.string ⟨#[105,102]⟩,.string ⟨#[116,104,101,110]⟩,.string ⟨#[101,108,115,101]⟩,.string ⟨#[99,97,115,101]⟩,.string ⟨#[111,102]⟩,.string ⟨#[97,115]⟩,.string ⟨#[110,101,119]⟩,.string ⟨#[114,97,119]⟩,.string ⟨#[116,114,117,101]⟩,.string ⟨#[102,97,108,115,101]⟩] 9)
 have ha:=fun W h=>Z8c s (some ⟨w.heap.size,0,none⟩) 20 Lex.words W h (by decide);have HI:Hid (Lex.isWord s=Lex.isIn s Lex.words):=Y1 rfl;rw[show Lex.words.length=20 from rfl] at ha;go_enter Tryd.func92,Tryd.ntmps92
 go_wp2_with fail
 refine (ha _ HS.out).mono ?_;rintro e w1 ⟨rfl,rfl⟩;go_wp2;go_ret;exact ⟨by rw[HI.out]; rfl,hb⟩
theorem Z9x {c:UInt8}:Lex.nameB c=(Lex.small c||Lex.great c||Lex.digit c||c==95):=rfl
theorem Z9y (s:ByteArray) (hs:s.size<=9223372036854775806) (w:World):
 Calls Tryd.prog 91 #[.string s] w fun e w'=>e= .returned (.int .i64 (s.data.toList.takeWhile Lex.nameB).length)/\w=w':=by
 have hsl:s.data.toList.length=s.size:=(Lib.size_eq s).symm;go_enter Tryd.func91,Tryd.ntmps91
 go_wp2_with fail
 go_loopw [3] (fun ii wr=> ∃n:Nat,ii= .int .i64 n/\n<=s.size/\Hid (∀j (hj:j < s.data.toList.length),j < n->Lex.nameB (s.data.toList[j]'hj)=true)/\w=wr)
  (fun i _=>s.size - (intOf i).toNat)
 case atStart=>exact ⟨0,rfl,Nat.zero_le _,Y1 (fun j _ hj=>absurd hj (by omega)),rfl⟩
 case round=>
  obtain ⟨n,rfl,hn,HN,rfl⟩:=hrel;by_cases hlt:n < s.size
  {have hi1: (n:Int) < (s.size:Int):=by omega
   obtain ⟨c,hc⟩: ∃c,c=s[n]'hlt:=⟨_,rfl⟩;have hcl:s.data.toList[n]'(by omega)=c:=hc.symm;have HCL:=Y1 hcl;have hidx: ∀W,(Instr.index 9 (.string s) (.int .i64 (n:Int))).run Tryd.prog W= .ok (.int .u8 c.toNat) W:=fun W=>by
    rw[hc]; exact Z4J s n hlt W
   have hcn:=c.toNat_lt;have h95:=Z7N c;have HB:=Y1 (@Z9x c);clear hcl hc;have yes:Lex.nameB c=true->Hid (∀j (hj:j < s.data.toList.length),j < n+1->Lex.nameB (s.data.toList[j]'hj)=true):=fun h=>Y1 (fun j hj hji=>by
    rcases Nat.lt_succ_iff_lt_or_eq.1 hji with h' | rfl
    {exact HN.out j hj h'}
    · rw[HCL.out]; exact h)
   have no:Lex.nameB c=false->Hid ((s.data.toList.takeWhile Lex.nameB).length=n):=fun h=>Y1 (Lex.Z8b (by omega) HN.out (fun h'=>by rw[HCL.out]; exact h));cases h1:Lex.small c
   {cases h2:Lex.great c
    {cases h3:Lex.digit c
     {cases h4: (c==95)
      {rw[h4] at h95;have HM:=no (by rw[HB.out,h1,h2,h3,h4]; rfl);clear yes no
       go_wp2_with fail
       refine (Z16 c _).mono ?_;rintro e w2 ⟨rfl,rfl⟩;rw[h1]
       go_wp2_with fail
       refine (Z1g c _).mono ?_;rintro e w2 ⟨rfl,rfl⟩;rw[h2]
       go_wp2_with fail
       refine (Z2O c _).mono ?_;rintro e w2 ⟨rfl,rfl⟩;rw[h3];go_wp2;go_ret;exact ⟨by rw[HM.out]; rfl,rfl⟩}
      {rw[h4] at h95;have HM:=yes (by rw[HB.out,h1,h2,h3,h4]; rfl);clear yes no
       go_wp2_with fail
       refine (Z16 c _).mono ?_;rintro e w2 ⟨rfl,rfl⟩;rw[h1]
       go_wp2_with fail
       refine (Z1g c _).mono ?_;rintro e w2 ⟨rfl,rfl⟩;rw[h2]
       go_wp2_with fail
       refine (Z2O c _).mono ?_;rintro e w2 ⟨rfl,rfl⟩;rw[h3];go_wp2
       go_roundw
       case rel=>exact ⟨n+1,by go_num,by omega,HM,trivial⟩
       case measure=>simp[intOf]; omega}}
     {have HM:=yes (by rw[HB.out,h1,h2,h3]; rfl);clear yes no
      go_wp2_with fail
      refine (Z16 c _).mono ?_;rintro e w2 ⟨rfl,rfl⟩;rw[h1]
      go_wp2_with fail
      refine (Z1g c _).mono ?_;rintro e w2 ⟨rfl,rfl⟩;rw[h2]
      go_wp2_with fail
      refine (Z2O c _).mono ?_;rintro e w2 ⟨rfl,rfl⟩;rw[h3];go_wp2
      go_roundw
      case rel=>exact ⟨n+1,by go_num,by omega,HM,trivial⟩
      case measure=>simp[intOf]; omega}}
    {have HM:=yes (by rw[HB.out,h1,h2]; rfl);clear yes no
     go_wp2_with fail
     refine (Z16 c _).mono ?_;rintro e w2 ⟨rfl,rfl⟩;rw[h1]
     go_wp2_with fail
     refine (Z1g c _).mono ?_;rintro e w2 ⟨rfl,rfl⟩;rw[h2];go_wp2
     go_roundw
     case rel=>exact ⟨n+1,by go_num,by omega,HM,trivial⟩
     case measure=>simp[intOf]; omega}}
   {have HM:=yes (by rw[HB.out,h1]; rfl);clear yes no
    go_wp2_with fail
    refine (Z16 c _).mono ?_;rintro e w2 ⟨rfl,rfl⟩;rw[h1];go_wp2
    go_roundw
    case rel=>exact ⟨n+1,by go_num,by omega,HM,trivial⟩
    case measure=>simp[intOf]; omega}}
  {have hi1: ¬(n:Int) < (s.size:Int):=by omega
   have HM:Hid ((s.data.toList.takeWhile Lex.nameB).length=n):=Y1 (Lex.Z8b (by omega) HN.out (fun h'=>absurd h' (by omega)));go_wp2;go_ret;exact ⟨by rw[HM.out]; rfl,rfl⟩}
end Go.Proofs.YtlomianlcnmfgaaDoor
namespace Go.Proofs.YtlomianlcnmfgaaDoor
section
open Go.RowKit
theorem Z4S (l:List UInt8) (hl:l.length<=1000000) (w:World):
 Calls Tryd.prog 91 #[.string ⟨l.toArray⟩] w fun e w'=>e= .returned (.int .i64 (l.takeWhile Lex.nameB).length)/\w=w':=
 Z9y ⟨l.toArray⟩ (by rw[Z0Y]; omega) w
theorem Z8G (c:UInt8) (r:List UInt8):Lex.isName (c::r)=(decide ((c::r).length<=24)&&Lex.small c&&(c::r).all Lex.nameB&& !Lex.isWord (c::r)):=rfl
theorem Z3r (l:List UInt8) (hl:l.length<=9223372036854775807) (w:World):
 Y9 71 #[.string ⟨l.toArray⟩] w (.bool (Lex.isName l)):=by
 cases l with
 | nil=>
  have HM:Hid (Lex.isName []=false):=Y1 rfl;go_enter Tryd.func71,Tryd.ntmps71;go_wp2;go_ret;exact ⟨by rw[HM.out]; rfl,Below.refl _ _⟩
 | cons c r=>
  have HM:=Y1 (Z8G c r);have HT:=Y1 (Lex.Z5Y (p:=Lex.nameB) (s:=c::r));obtain ⟨l,hll⟩: ∃l:List UInt8,l=c::r:=⟨_,rfl⟩;rw[<-hll] at hl HM HT ⊢;have hz: (⟨l.toArray⟩:ByteArray).size=l.length:=Z0Y _;have he:l.isEmpty=false:=by rw[hll]; rfl
  have hidx: ∀W,(Instr.index 9 (.string ⟨l.toArray⟩) (.int .i64 0)).run Tryd.prog W= .ok (.int .u8 c.toNat) W:=fun W=>by rw[hll]; rfl
  clear hll;by_cases h24:l.length<=24
  {have h24d:decide ((l.length:Int)<=24)=true:=decide_eq_true (by omega);cases h1:Lex.small c
   {have HF:Hid (Lex.isName l=false):=Y1 (by rw[HM.out,h1]; simp);go_enter Tryd.func71,Tryd.ntmps71
    go_wp2_with fail
    refine (Z16 c _).mono ?_;rintro e w2 ⟨rfl,rfl⟩;rw[h1];go_wp2;go_ret;exact ⟨by rw[HF.out]; rfl,Below.refl _ _⟩}
   {have H1:=Y1 h1;go_enter Tryd.func71,Tryd.ntmps71
    go_wp2_with fail
    refine (Z16 c _).mono ?_;rintro e w2 ⟨rfl,rfl⟩;rw[h1];clear h1
    go_wp2_with fail
    refine (Z4S l (by omega) _).mono ?_;rintro e w2 ⟨rfl,rfl⟩;obtain ⟨k,hk⟩: ∃k,k=(l.takeWhile Lex.nameB).length:=⟨_,rfl⟩;rw[<-hk] at HT ⊢;clear hk;by_cases hkl:k=l.length
    {have hkd: ((k:Int)==(l.length:Int))=true:=by rw[beq_iff_eq]; omega
     have HA:Hid (l.all Lex.nameB=true):=Y1 (HT.out.1 hkl);have HF:Hid (Lex.isName l= !Lex.isWord l):=Y1 (by rw[HM.out,H1.out,HA.out,decide_eq_true h24]; simp);clear hkl
     go_wp2_with fail
     refine (Z8d l _).mono ?_;rintro e w2 ⟨rfl,hb2⟩;go_wp2;go_ret;exact ⟨by rw[HF.out]; rfl,hb2⟩}
    {have hkd: ((k:Int)==(l.length:Int))=false:=by rw[beq_eq_false_iff_ne]; omega
     have HF:Hid (Lex.isName l=false):=Y1 (by
      have:l.all Lex.nameB=false:=by
       cases hq:l.all Lex.nameB with
       | false=>rfl
       | true=>exact absurd (HT.out.2 hq) hkl
      rw[HM.out,this]; simp)
     clear hkl;go_wp2;go_ret;exact ⟨by rw[HF.out]; rfl,Below.refl _ _⟩}}}
  {have h24d:decide ((l.length:Int)<=24)=false:=decide_eq_false (by omega);have HF:Hid (Lex.isName l=false):=Y1 (by rw[HM.out,decide_eq_false h24]; rfl);go_enter Tryd.func71,Tryd.ntmps71;go_wp2;go_ret;exact ⟨by rw[HF.out]; rfl,Below.refl _ _⟩}
theorem Z7e (c:UInt8) (r:List UInt8):Lex.isUpper (c::r)=(decide ((c::r).length<=24)&&Lex.great c&&(c::r).all Lex.nameB):=rfl
theorem Z7f (l:List UInt8) (hl:l.length<=9223372036854775807) (w:World):
 Y9 72 #[.string ⟨l.toArray⟩] w (.bool (Lex.isUpper l)):=by
 cases l with
 | nil=>
  have HM:Hid (Lex.isUpper []=false):=Y1 rfl;go_enter Tryd.func72,Tryd.ntmps72;go_wp2;go_ret;exact ⟨by rw[HM.out]; rfl,Below.refl _ _⟩
 | cons c r=>
  have HM:=Y1 (Z7e c r);have HT:=Y1 (Lex.Z5Y (p:=Lex.nameB) (s:=c::r));obtain ⟨l,hll⟩: ∃l:List UInt8,l=c::r:=⟨_,rfl⟩;rw[<-hll] at hl HM HT ⊢;have hz: (⟨l.toArray⟩:ByteArray).size=l.length:=Z0Y _;have he:l.isEmpty=false:=by rw[hll]; rfl
  have hidx: ∀W,(Instr.index 9 (.string ⟨l.toArray⟩) (.int .i64 0)).run Tryd.prog W= .ok (.int .u8 c.toNat) W:=fun W=>by rw[hll]; rfl
  clear hll;by_cases h24:l.length<=24
  {have h24d:decide ((l.length:Int)<=24)=true:=decide_eq_true (by omega);cases h1:Lex.great c
   {have HF:Hid (Lex.isUpper l=false):=Y1 (by rw[HM.out,h1]; simp);go_enter Tryd.func72,Tryd.ntmps72
    go_wp2_with fail
    refine (Z1g c _).mono ?_;rintro e w2 ⟨rfl,rfl⟩;rw[h1];go_wp2;go_ret;exact ⟨by rw[HF.out]; rfl,Below.refl _ _⟩}
   {have H1:=Y1 h1;go_enter Tryd.func72,Tryd.ntmps72
    go_wp2_with fail
    refine (Z1g c _).mono ?_;rintro e w2 ⟨rfl,rfl⟩;rw[h1];clear h1
    go_wp2_with fail
    refine (Z4S l (by omega) _).mono ?_;rintro e w2 ⟨rfl,rfl⟩;obtain ⟨k,hk⟩: ∃k,k=(l.takeWhile Lex.nameB).length:=⟨_,rfl⟩;rw[<-hk] at HT ⊢;clear hk;by_cases hkl:k=l.length
    {have hkd: ((k:Int)==(l.length:Int))=true:=by rw[beq_iff_eq]; omega
     have HA:Hid (l.all Lex.nameB=true):=Y1 (HT.out.1 hkl);have HF:Hid (Lex.isUpper l=true):=Y1 (by rw[HM.out,H1.out,HA.out,decide_eq_true h24]; rfl);clear hkl;go_wp2;go_ret;exact ⟨by rw[HF.out]; rfl,Below.refl _ _⟩}
    {have hkd: ((k:Int)==(l.length:Int))=false:=by rw[beq_eq_false_iff_ne]; omega
     have HF:Hid (Lex.isUpper l=false):=Y1 (by
      have:l.all Lex.nameB=false:=by
       cases hq:l.all Lex.nameB with
       | false=>rfl
       | true=>exact absurd (HT.out.2 hq) hkl
      rw[HM.out,this]; simp)
     clear hkl;go_wp2;go_ret;exact ⟨by rw[HF.out]; rfl,Below.refl _ _⟩}}}
  {have h24d:decide ((l.length:Int)<=24)=false:=decide_eq_false (by omega);have HF:Hid (Lex.isUpper l=false):=Y1 (by rw[HM.out,decide_eq_false h24]; rfl);go_enter Tryd.func72,Tryd.ntmps72;go_wp2;go_ret;exact ⟨by rw[HF.out]; rfl,Below.refl _ _⟩}
end
section
open Go.RowKit Shp
theorem Z7g (A:Option Addr) (c:Nat) (l:List (List UInt8)) (p:Nat) (w:World) (hA:Strs w w.heap.size A (strs l)) (hl:l.length<=9223372036854775807) (hx: ∀x∈l,x.length<=9223372036854775807):
 Y9 73 #[.slice A l.length c,.int .i64 (p:Int)] w (.bool (areNames l&&decide (l.length=p))):=by
 have HA:=Y1 hA;have HX:=Y1 hx;clear hA hx;go_enter Tryd.func73,Tryd.ntmps73
 go_wp2_with fail
 go_loopw [5] (fun ii wr=> ∃i:Nat,ii= .int .i64 i/\i<=l.length/\Hid (∀j (hj:j < l.length),j < i->Lex.isName (l[j]'hj)=true/\ ∀k (hk:k < j),l[k]'(by omega)≠l[j]'hj)/\Below w.heap.size w wr)
  (fun i _=>l.length - (intOf i).toNat)
 case atStart=>exact ⟨0,rfl,Nat.zero_le _,Y1 (fun j _ hj=>absurd hj (by omega)),Below.refl _ _⟩
 case round=>
  obtain ⟨i,rfl,hi,HN,hb⟩:=hrel;by_cases hlt:i < l.length
  {have hi1: (i:Int) < (l.length:Int):=by omega
   rcases (HA.out.next hb).cell7 with h0 | ⟨g,off,rfl,hg,hc⟩
   {omega}
   {have hcell:=hc i hlt;obtain ⟨x,hx⟩: ∃x,x=l[i]'hlt:=⟨_,rfl⟩;rw[<-hx] at hcell;have hxl:x.length<=9223372036854775807:=by rw[hx]; exact HX.out _ (List.getElem_mem _)
    have HE:=Y1 hx;have HC:=Y1 hc;clear hx hc;cases hn:Lex.isName x with
    | false=>
     have HF:Hid (areNames l=false):=Y1 (Z3Q hlt (by rw[<-HE.out]; exact hn));have hw:=Z3r x hxl wr;rw[hn] at hw;clear hn
     go_wp2_with (refine hw.mono ?_; rintro e w' ⟨rfl,hb'⟩)
     go_ret;exact ⟨by rw[HF.out]; rfl,Z00 hb hb'⟩
    | true=>
     have HT:Hid (Lex.isName (l[i]'hlt)=true):=Y1 (by rw[<-HE.out]; exact hn);have hw:=Z3r x hxl wr;rw[hn] at hw;clear hn
     go_wp2_with (refine hw.mono ?_; rintro e w' ⟨rfl,hb'⟩)
     have hbw:=Z00 hb hb';have HC2:Hid (∀j (hj:j < l.length),w'.cell? ⟨g,off+j,none⟩=some (.string ⟨(l[j]'hj).toArray⟩)):=Y1 (fun j hj=>((hb'.cell (p:=⟨g,off+j,none⟩) hg).trans (HC.out j hj)));have hcell2:=HC2.out i hlt;rw[<-HE.out] at hcell2;have HH2:=Y1 hcell2;have HBW:=Y1 hbw;clear hw hb hb' hbw hcell hcell2
     go_loopw [6] (fun kk wr2=> ∃k:Nat,kk= .int .i64 k/\k<=i/\Hid (∀j (hj:j < i),j < k->l[j]'(by omega)≠l[i]'hlt)/\Hid (Below w'.heap.size w' wr2))
      (fun k _=>i - (intOf k).toNat)
     case atStart=>exact ⟨0,rfl,Nat.zero_le _,Y1 (fun j _ hj=>absurd hj (by omega)),Y1 Y2⟩
     case round=>
      obtain ⟨k,rfl,hk,HK,HB2⟩:=hrel;have hgw:g < w'.heap.size:=Z2f HH2.out;by_cases hki:k < i
      {have hk1: (k:Int) < (i:Int):=by omega
       have hk2: (k:Int) < (l.length:Int):=by omega
       have hck:=(HB2.out.cell (p:=⟨g,off+k,none⟩) hgw).trans (HC2.out k (by omega));have hci:=(HB2.out.cell (p:=⟨g,off+i,none⟩) hgw).trans HH2.out;obtain ⟨y,hy⟩: ∃y,y=l[k]'(by omega):=⟨_,rfl⟩;rw[<-hy] at hck;have HY:=Y1 hy;clear hy;cases hq: (y==x)
       {have HM:Hid (l[k]'(by omega)≠l[i]'hlt):=Y1 (by rw[<-HY.out, <-HE.out]; intro h; rw[h] at hq; simp at hq)
        go_wp2_with fail
        go_quiet (fail)
        go_wp2
        go_roundw
        case rel=>exact ⟨k+1,by go_num,by omega,Y1 (fun j hj hji=>by
         rcases Nat.lt_succ_iff_lt_or_eq.1 hji with h | rfl
         {exact HK.out j hj h}
         · exact HM.out),Y1 (Z0l HB2.out _)⟩
        case measure=>simp[intOf]; omega}
       {have HF:Hid (areNames l=false):=Y1 (Z33 hlt hki (by rw[<-HY.out, <-HE.out]; simpa using hq))
        go_wp2_with fail
        go_quiet (fail)
        go_wp2;go_ret;exact ⟨by rw[HF.out]; rfl,Z0l (Z00 HBW.out HB2.out) _⟩}}
      {have hke:k=i:=by omega
       have HN2:Hid (∀j (hj:j < l.length),j < i+1->Lex.isName (l[j]'hj)=true/\ ∀k (hk:k < j),l[k]'(by omega)≠l[j]'hj):=Y1 (fun j hj hji=>by
        rcases Nat.lt_succ_iff_lt_or_eq.1 hji with h | rfl
        {exact HN.out j hj h}
        · exact ⟨HT.out,fun m hm=>HK.out m hm (by omega)⟩)
       have hk1: ¬(k:Int) < (i:Int):=by omega
       clear hke;go_wp2
       go_roundw
       case rel=>exact ⟨i+1,by go_num,by omega,HN2,Z00 HBW.out HB2.out⟩
       case measure=>simp[intOf]; omega}}}
  {have hi1: ¬(i:Int) < (l.length:Int):=by omega
   have HM:Hid (areNames l=true):=Y1 (Z4d (fun j hj=>(HN.out j hj (by omega)).1) (fun j hj=>(HN.out j hj (by omega)).2));go_wp2;go_ret;exact ⟨Z0o (by rw[HM.out,Bool.true_and,Bool.eq_iff_iff]; simp; omega),hb⟩}
theorem Z7s (t:Sh) (q:Ptr) (w:World) (hq:ShAt w w.heap.size q t) (hk:t.kind=9\/t.kind=10):
 Calls Tryd.prog 56 #[.agg (Y8 t q)] w
  fun e w'=>e= .returned (.bool (fits t))/\Below w.heap.size w w':=by
 have HS:=Y1 hq.small;have hB:=Z03 w t q;have HB:=Y1 hB;have hb0:=Z02 w (.cells (Y8 t q) 25);have HB0:=Y1 hb0;have HF:=Y1 (Z2F hk);have HO:Hid (ofOk t=(Lex.isName t.of_||(t.of_== []&&decide (t.kind=9)&& !plain t.name))):=Y1 rfl;have HPL:Hid (plain t.name=(t.name== [73,110,116]||t.name== [66,111,111,108]||t.name== [84,101,120,116]||t.name== [65,110,121])):=Y1 rfl;obtain ⟨h9,h10⟩: ((t.kind==9)=true\/(t.kind==9)=false/\(t.kind==10)=true)/\True:=⟨by rcases hk with h | h <;> simp[h],trivial⟩;have HD9:Hid (decide (t.kind=9)=(t.kind==9)):=Y1 (by rw[Bool.eq_iff_iff]; simp);clear hB hb0 hq h10 hk;rcases h9 with h9 | ⟨h9,h10⟩
 all_goals
  have H9:=Y1 h9;go_enter Tryd.func56,Tryd.ntmps56
  go_upto_region 1 with fail
  generalize hW0:w.alloc (.cells (Y8 t q) 25)=W0 at HB HB0 ⊢;clear hW0;obtain ⟨_,⟨c0,c1,c2,c3,c4⟩,_⟩:=HB.out
  go_upto_region 2 with fail
  go_cut [3] (fun p wx=>p= .bool (plain t.name)/\W0=wx)
  case first=>
   cases e1: (t.name== [73,110,116])
   {cases e2: (t.name== [66,111,111,108])
    {cases e3: (t.name== [84,101,120,116])
     {cases e4: (t.name== [65,110,121])
      all_goals
       have HE:Hid _:=Y1 (show plain t.name=_ from by rw[HPL.out,e1,e2,e3,e4])
       go_wp2_with fail
       go_meet
       exact ⟨by rw[HE.out]; rfl,rfl⟩}
     {have HE:Hid _:=Y1 (show plain t.name=_ from by rw[HPL.out,e1,e2,e3])
      go_wp2_with fail
      go_meet
      exact ⟨by rw[HE.out]; rfl,rfl⟩}}
    {have HE:Hid _:=Y1 (show plain t.name=_ from by rw[HPL.out,e1,e2])
     go_wp2_with fail
     go_meet
     exact ⟨by rw[HE.out]; rfl,rfl⟩}}
   {have HE:Hid _:=Y1 (show plain t.name=_ from by rw[HPL.out,e1])
    go_wp2_with fail
    go_meet
    exact ⟨by rw[HE.out]; rfl,rfl⟩}
  case rest=>
   obtain ⟨rfl,rfl⟩:=hcut;have hlo:=HS.out.o;have hln:=HS.out.n;generalize plain t.name=pl at HO ⊢
   go_upto_region 3 with fail
   go_cut [4] (fun o wx=>o= .bool (ofOk t)/\Below W0.heap.size W0 wx)
   case first=>
    have hw:=Z3r t.of_ hlo W0;have hblk:=HB.out.1;cases hn:Lex.isName t.of_
    {cases ho: (t.of_== [])
     {have HE:Hid (ofOk t=false):=Y1 (by rw[HO.out,hn,ho]; rfl);have hoe:=Z0G ho;rw[hn] at hw;clear hn ho
      go_wp2_with fail
      refine hw.mono ?_;rintro e w' ⟨rfl,hb'⟩;have c1':=(hb'.cell (p:=⟨w.heap.size,1,none⟩) hblk).trans c1
      go_wp2_with fail
      go_meet
      exact ⟨by (first | (rw[HE.out]; done) | (rw[HE.out]; rfl)),hb'⟩}
     {have HE:Hid (ofOk t=((t.kind==9)&& !pl)):=Y1 (by rw[HO.out,hn,ho,HD9.out]; rfl);rw[H9.out] at HE;have hoe:=Z0G ho;rw[hn] at hw;clear hn ho
      go_wp2_with fail
      refine hw.mono ?_;rintro e w' ⟨rfl,hb'⟩;have c1':=(hb'.cell (p:=⟨w.heap.size,1,none⟩) hblk).trans c1;have c0':=(hb'.cell (p:=⟨w.heap.size,0,none⟩) hblk).trans c0
      go_wp2_with fail
      go_meet
      exact ⟨by (first | (rw[HE.out]; done) | (rw[HE.out]; rfl)),hb'⟩}}
    {have HE:Hid (ofOk t=true):=Y1 (by rw[HO.out,hn]; rfl);rw[hn] at hw;clear hn
     go_wp2_with fail
     refine hw.mono ?_;rintro e w' ⟨rfl,hb'⟩
     go_wp2_with fail
     go_meet
     exact ⟨by (first | (rw[HE.out]; done) | (rw[HE.out]; rfl)),hb'⟩}
   case rest=>
    obtain ⟨rfl,hb'⟩:=hcut;have hbw:Below w.heap.size w _:=HB0.out.trans (hb'.mono HB0.out.size);obtain ⟨_,⟨d0,d1,d2,d3,d4⟩,_⟩:=HB.out.next hb';clear c0 c1 c2 c3 c4;have hw:=fun wx=>Z7f t.name hln wx;have hblk:=HB.out.1;generalize ofOk t=ok at HF ⊢;cases hn:Lex.isUpper t.name
    {rw[hn] at HF;simp only[hn] at hw;clear hn
     go_wp2_with fail
     refine (hw _).mono ?_;rintro e w' ⟨rfl,hb2⟩;go_wp2;go_ret;exact ⟨by rw[HF.out]; rfl,hbw.trans (hb2.mono hbw.size)⟩}
    {rw[hn] at HF;simp only[hn] at hw;clear hn;cases ok
     {go_wp2_with fail
      refine (hw _).mono ?_;rintro e w' ⟨rfl,hb2⟩;go_wp2;go_ret;exact ⟨by rw[HF.out]; rfl,hbw.trans (hb2.mono hbw.size)⟩}
     {have HX:=Y1 (HB.out.next hb');cases hz:decide (t.names.length=0)
      {have HF2:=HF;rw[hz] at HF2;have hz2: ((t.names.length:Int)==0)=false:=by rw[Z1o]; exact hz
       have HZ:=Y1 hz;clear hz
       go_wp2_with fail
       refine (hw _).mono ?_;rintro e w' ⟨rfl,hb2⟩;obtain ⟨_,⟨e0,e1,e2,e3,e4⟩,_⟩:=HX.out.next hb2;go_wp2;go_ret;exact ⟨by rw[HF2.out]; rfl,hbw.trans (hb2.mono hbw.size)⟩}
      {have HF2:=HF;rw[hz] at HF2;have hz2: ((t.names.length:Int)==0)=true:=by rw[Z1o]; exact hz
       clear hz
       go_wp2_with fail
       refine (hw _).mono ?_;rintro e w' ⟨rfl,hb2⟩;obtain ⟨_,⟨e0,e1,e2,e3,e4⟩,_⟩:=HX.out.next hb2;go_wp2;go_ret;exact ⟨Z0o (by rw[HF2.out,Bool.eq_iff_iff]; simp),hbw.trans (hb2.mono hbw.size)⟩}}}
theorem Z91 (t:Sh): ∀(q:Ptr) (w:World),ShAt w w.heap.size q t->deep t<=1000000->
 Calls Tryd.prog 39 #[.agg (Y8 t q)] w
  fun e w'=>e= .returned (.int .i64 (deep t:Int))/\Below w.heap.size w w':=by
 induction t using Sh.ind with
 | h t ih=>
 intro q w hq hd;have HM:=Y1 hq.small.m;have HP:=Y1 hq.part;have HD:Hid (deep t=deeps t.parts+1):=Y1 (Z0q t);have hd2:deeps t.parts<=1000000:=by have:=HD.out; omega
 have hB:=Z03 w t q;have HB:=Y1 hB;have hb0:=Z02 w (.cells (Y8 t q) 25);have HB0:=Y1 hb0;clear hB hb0 hq hd;go_enter Tryd.func39,Tryd.ntmps39
 go_wp2_with fail
 generalize hW0:w.alloc (.cells (Y8 t q) 25)=W0 at HB HB0 ⊢;clear hW0
 go_loopw [3,4] (fun nn ii wr=> ∃i:Nat,ii= .int .i64 i/\i<=t.parts.length/\nn= .int .i64 (deeps (t.parts.take i):Int)/\Below W0.heap.size W0 wr) (fun _ i _=>t.parts.length - (intOf i).toNat)
 case atStart=>exact ⟨0,rfl,Nat.zero_le _,rfl,Below.refl _ _⟩
 case round=>
  obtain ⟨i,rfl,hi,rfl,hb⟩:=hrel;have HBX:=Y1 (HB.out.next hb);have hm:=HM.out;obtain ⟨_,⟨_,_,_,_,c4⟩,_⟩:=HB.out.next hb;by_cases hlt:i < t.parts.length
  {rcases HP.out with h0 | ⟨g,off,qs,hqP,hg,hc,hr⟩
   {omega}
   {have hbw:Below w.heap.size w wr:=HB0.out.trans (hb.mono HB0.out.size);obtain ⟨x,hx⟩: ∃x,x=t.parts[i]:=⟨_,rfl⟩;obtain ⟨p0,p1,p2,p3,p4⟩:=(hc i hlt).keep hg hbw;have hat:ShAt wr wr.heap.size (qs i) x:=by rw[hx]; exact (hr i hlt).next hbw
    have ihx:=ih t.parts[i] (List.getElem_mem _) (qs i) wr;have hdx:deep x<=1000000:=by rw[hx]; exact Nat.le_trans (Z0P (List.getElem_mem _)) hd2
    have HN:Hid (deeps (t.parts.take (i+1))=max (deeps (t.parts.take i)) (deep x)):=Y1 (by rw[hx]; exact Z3e hlt);rw[<-hx] at p0 p1 p2 p3 p4 ihx;have IH:=ihx hat hdx;have htk:=Z3g t.parts i;rw[hqP] at c4;clear hx hc hr hat ihx hdx hd2 ih hqP;have hi1: (i:Int) < (t.parts.length:Int):=by omega
    generalize deeps (t.parts.take i)=a at HN htk ⊢;by_cases hgt: (a:Int) < (deep x:Int)
    all_goals
     go_wp2_with (refine IH.mono ?_; rintro e w' ⟨rfl,hb'⟩)
     go_wp2
     go_roundw
     case rel=>exact ⟨i+1,by go_num,by omega,by rw[HN.out]; go_num,hb.trans (hb'.mono hb.size)⟩
     case measure=>simp[intOf]; omega}}
  {have hie:i=t.parts.length:=by omega
   have HE:Hid (deeps (t.parts.take i)=deeps t.parts):=Y1 (by rw[hie,List.take_length]);have htk:=Z3g t.parts i;clear hie;go_wp2;go_ret;exact ⟨by rw[HE.out,HD.out]; go_num,HB0.out.trans (hb.mono HB0.out.size)⟩}
theorem Z7y {l:List Sh} {i m:Nat} (hi:i < l.length) (h:1+sizes (l.take i)<=m):min (1+sizes (l.take i)) (m+1)+sizeTo (m - min (1+sizes (l.take i)) (m+1)) (l[i]'hi)=min (1+sizes (l.take (i+1))) (m+1):=by
 rw[Z2c hi]; unfold sizeTo; omega
theorem Z92 (t:Sh): ∀(q:Ptr) (m:Nat) (w:World),ShAt w w.heap.size q t->m<=1000000->
 Calls Tryd.prog 38 #[.agg (Y8 t q),.int .i64 (m:Int)] w
  fun e w'=>e= .returned (.int .i64 (sizeTo m t:Int))/\Below w.heap.size w w':=by
 induction t using Sh.ind with
 | h t ih=>
 intro q m w hq hmm;have HM:=Y1 hq.small.m;have HP:=Y1 hq.part;have HZ:Hid (size t=1+sizes t.parts):=Y1 (size_eq t);have hB:=Z03 w t q;have HB:=Y1 hB;have hb0:=Z02 w (.cells (Y8 t q) 25);have HB0:=Y1 hb0;clear hB hb0 hq;go_enter Tryd.func38,Tryd.ntmps38
 go_wp2_with fail
 generalize hW0:w.alloc (.cells (Y8 t q) 25)=W0 at HB HB0 ⊢;clear hW0
 go_loopw [5,6] (fun nn ii wr=> ∃i:Nat,ii= .int .i64 i/\i<=t.parts.length/\nn= .int .i64 ((min (1+sizes (t.parts.take i)) (m+1):Nat):Int)/\Below W0.heap.size W0 wr) (fun _ i _=>t.parts.length - (intOf i).toNat)
 case atStart=>exact ⟨0,rfl,Nat.zero_le _,by rw[List.take_zero]; show Value.int .i64 1= .int .i64 ((min (1+0) (m+1):Nat):Int); rw[Nat.min_eq_left (by omega)]; rfl,Below.refl _ _⟩
 case round=>
  obtain ⟨i,rfl,hi,rfl,hb⟩:=hrel;have hm:=HM.out;obtain ⟨_,⟨_,_,_,_,c4⟩,_⟩:=HB.out.next hb;obtain ⟨n,hn⟩: ∃n,n=min (1+sizes (t.parts.take i)) (m+1):=⟨_,rfl⟩;rw[<-hn];have HE:=Y1 hn;have hn1:1<=n:=by omega
  have hn2:n<=m+1:=by omega
  by_cases hlt:i < t.parts.length
  {have hi1: (i:Int) < (t.parts.length:Int):=by omega
   by_cases hnm:n<=m
   {rcases HP.out with h0 | ⟨g,off,qs,hqP,hg,hc,hr⟩
    {omega}
    {have hbw:Below w.heap.size w wr:=HB0.out.trans (hb.mono HB0.out.size);obtain ⟨x,hx⟩: ∃x,x=t.parts[i]:=⟨_,rfl⟩;obtain ⟨p0,p1,p2,p3,p4⟩:=(hc i hlt).keep hg hbw;have hat:ShAt wr wr.heap.size (qs i) x:=by rw[hx]; exact (hr i hlt).next hbw
     have ihx:=ih t.parts[i] (List.getElem_mem _) (qs i) (m - n) wr;have HN:Hid (n+sizeTo (m - n) x=min (1+sizes (t.parts.take (i+1))) (m+1)):=Y1 (by rw[hx,hn]; exact Z7y hlt (by omega));rw[<-hx] at p0 p1 p2 p3 p4 ihx;have IH:=ihx hat (by omega);rw[show ((m - n:Nat):Int)=(m:Int) - (n:Int) from by omega] at IH;rw[hqP] at c4;have hsz:sizeTo (m - n) x<=m - n+1:=Nat.min_le_right _ _;have d2:decide (n<=m)=true:=decide_eq_true (by omega);have d3:decide (i < t.parts.length)=true:=decide_eq_true (by omega);have hnm2: (n:Int)<=(m:Int):=by omega
     have hmm2: (m:Int)<=1000000:=by omega
     generalize sizeTo (m - n) x=z at IH HN hsz;have hz2: (n:Int)+(z:Int)<=1000001:=by omega
     clear hx hc hr hat ihx ih hqP hn
     go_wp2_with (refine IH.mono ?_; rintro e w' ⟨rfl,hb'⟩)
     go_roundw
     case rel=>exact ⟨i+1,by go_num,by omega,by rw[<-HN.out]; go_num,hb.trans (hb'.mono hb.size)⟩
     case measure=>simp[intOf]; omega}}
   {have HF:Hid (n=sizeTo m t):=Y1 (by
     have:=Z3f t.parts i;unfold sizeTo; have:=HZ.out; omega)
    have d2:decide (n<=m)=false:=decide_eq_false (by omega);have d3:decide (i < t.parts.length)=true:=decide_eq_true (by omega);clear hn;go_wp2;go_ret;exact ⟨by rw[<-HF.out]; rfl,HB0.out.trans (hb.mono HB0.out.size)⟩}}
  {have HF:Hid (n=sizeTo m t):=Y1 (by
    rw[show i=t.parts.length from by omega,List.take_length] at hn;unfold sizeTo; have:=HZ.out; omega)
   have d3:decide (i < t.parts.length)=false:=decide_eq_false (by omega);clear hn;go_wp2;go_ret;exact ⟨by rw[<-HF.out]; rfl,HB0.out.trans (hb.mono HB0.out.size)⟩}
section
variable (t : Sh) (q : Ptr) (w : World) (hq : ShAt w w.heap.size q t)
include t q w hq
theorem Z7z (hk: ¬(t.kind=9\/t.kind=10)):
 Calls Tryd.prog 56 #[.agg (Y8 t q)] w
  fun e w'=>e= .returned (.bool (fits t))/\Below w.heap.size w w':=by
 have HS:=Y1 hq.small;have HA:=Y1 hq.strs;have hB:=Z03 w t q;have HB:=Y1 hB;have hb0:=Z02 w (.cells (Y8 t q) 25);have HB0:=Y1 hb0;have h9: (t.kind==9)=false:=by rw[beq_eq_false_iff_ne]; omega
 have h10: (t.kind==10)=false:=by rw[beq_eq_false_iff_ne]; omega
 have HK:=Y1 hk;clear hB hb0 hq hk;obtain ⟨_,⟨c0,c1,c2,c3,c4⟩,_⟩:=HB.out;cases ho: (t.of_== [])
 {have HF:=Y1 (Z13 HK.out (Zbc ho));have hoe:=Z0G ho;clear ho;go_enter Tryd.func56,Tryd.ntmps56;go_wp2;go_ret;exact ⟨by rw[HF.out]; rfl,HB0.out⟩}
 {have hoe:=Z0G ho;cases hn: (t.name== [])
  {have HF:=Y1 (Z13 HK.out (Z9o hn));have hne:=Z0G hn;clear ho hn;go_enter Tryd.func56,Tryd.ntmps56;go_wp2;go_ret;exact ⟨by rw[HF.out]; rfl,HB0.out⟩}
  {have hne:=Z0G hn;have HBA:Hid (bare t=true):=Y1 ((Z2v t).2 ⟨by simpa using ho,by simpa using hn⟩);clear ho hn;by_cases h67:t.kind=6\/t.kind=7
   {have HF:=Y1 (Z2u HBA.out h67);have h6: (t.kind==6)=true\/(t.kind==6)=false/\(t.kind==7)=true:=by rcases h67 with h | h <;> simp[h]
    have hA:=(HA.out.next HB0.out);have hr:=fun W h=>Z7g q.A q.c t.names t.parts.length W h HS.out.l HS.out.ns;have hw:=hr _ hA;clear h67 hA hr;rcases h6 with h6 | ⟨h6,h7⟩
    all_goals
     go_enter Tryd.func56,Tryd.ntmps56
     go_wp2_with fail
     refine hw.mono ?_;rintro e w' ⟨rfl,hb'⟩;go_wp2;go_ret;exact ⟨by rw[HF.out]; rfl,Z00 HB0.out hb'⟩}
   {have H67:=Y1 h67;have h6: (t.kind==6)=false:=by rw[beq_eq_false_iff_ne]; omega
    have h7: (t.kind==7)=false:=by rw[beq_eq_false_iff_ne]; omega
    clear h67;by_cases hz:0 < t.names.length
    {have HF:=Y1 (Z1H HK.out HBA.out H67.out hz);have hz2: (0:Int) < (t.names.length:Int):=by omega
     go_enter Tryd.func56,Tryd.ntmps56;go_wp2;go_ret;exact ⟨by rw[HF.out]; rfl,HB0.out⟩}
    {have HZ:=Y1 hz;have hz2: ¬(0:Int) < (t.names.length:Int):=by omega
     have hz3: ¬0 < t.names.length:=hz;by_cases hk8:t.kind=8
     {have HF:=Y1 (Z4r HBA.out hk8 HZ.out);have h8: (t.kind==8)=true:=by simp[hk8]
      clear hk8;go_enter Tryd.func56,Tryd.ntmps56;go_wp2;go_ret;exact ⟨Z0o (by rw[HF.out,Bool.eq_iff_iff]; simp; try omega),HB0.out⟩}
     {have h8: (t.kind==8)=false:=by rw[beq_eq_false_iff_ne]; omega
      by_cases hk5:t.kind=5
      {have HF:=Y1 (Z3R HBA.out hk5 HZ.out);have h5: (t.kind==5)=true:=by simp[hk5]
       clear hk8 hk5;go_enter Tryd.func56,Tryd.ntmps56;go_wp2;go_ret;exact ⟨Z0o (by rw[HF.out,Bool.eq_iff_iff]; simp; try omega),HB0.out⟩}
      {have h5: (t.kind==5)=false:=by rw[beq_eq_false_iff_ne]; omega
       have HF:=Y1 (Z2G HBA.out HK.out H67.out HZ.out hk8 hk5);clear hk8 hk5;cases e1:decide (1<=t.kind)
       {have HF2:Hid (fits t=false):=Y1 (by rw[HF.out,e1]; rfl);go_enter Tryd.func56,Tryd.ntmps56;go_wp2;go_ret;exact ⟨by rw[HF2.out]; rfl,HB0.out⟩}
       {cases e2:decide (t.kind<=4)
        {have HF2:Hid (fits t=false):=Y1 (by rw[HF.out,e1,e2]; rfl);go_enter Tryd.func56,Tryd.ntmps56;go_wp2;go_ret;exact ⟨by rw[HF2.out]; rfl,HB0.out⟩}
        {have HF2:Hid (fits t=decide (t.parts.length=0)):=Y1 (by rw[HF.out,e1,e2]; rfl);go_enter Tryd.func56,Tryd.ntmps56;go_wp2;go_ret;exact ⟨Z0o (by rw[HF2.out,Bool.eq_iff_iff]; simp),HB0.out⟩}}}}}}}}
theorem Z93:
 Calls Tryd.prog 56 #[.agg (Y8 t q)] w
  fun e w'=>e= .returned (.bool (fits t))/\Below w.heap.size w w':=by
 by_cases hk:t.kind=9\/t.kind=10
 {exact Z7s t q w hq hk}
 {exact Z7z t q w hq hk}
end
theorem Z7A (t:Sh): ∀(q:Ptr) (w:World),ShAt w w.heap.size q t->
 Calls Tryd.prog 40 #[.agg (Y8 t q)] w
  fun e w'=>e= .returned (.bool (right t))/\Below w.heap.size w w':=by
 induction t using Sh.ind with
 | h t ih=>
 intro q w hq;have HM:=Y1 hq.small.m;have HP:=Y1 hq.part;have HD:Hid (right t=(fits t&&rights t.parts)):=Y1 (Z2t t);have hB:=Z03 w t q;have HB:=Y1 hB;have hb0:=Z02 w (.cells (Y8 t q) 25);have HB0:=Y1 hb0;have hf:=Z93 t q _ (hq.next hb0);have HQ:=Y1 hq;clear hb0 hq;obtain ⟨_,⟨c0,c1,c2,c3,c4⟩,_⟩:=hB;have ih:=ih;cases hft:fits t with
 | false=>
  have HF:Hid (right t=false):=Y1 (by rw[HD.out,hft]; rfl);rw[hft] at hf;clear hft ih;go_enter Tryd.func40,Tryd.ntmps40
  go_wp2_with fail
  refine hf.mono ?_;rintro e w' ⟨rfl,hb'⟩;go_wp2;go_ret;exact ⟨by rw[HF.out]; rfl,Z00 HB0.out hb'⟩
 | true=>
  have HFT:=Y1 hft;rw[hft] at hf;clear hft;go_enter Tryd.func40,Tryd.ntmps40
  go_wp2_with fail
  refine hf.mono ?_;rintro e W0 ⟨rfl,hb'⟩;have HB1:=Y1 (HB.out.next hb');have HBW:Hid (Below w.heap.size w W0):=Y1 (Z00 HB0.out hb');clear hf hb' c0 c1 c2 c3 c4 HB HB0
  go_wp2_with fail
  go_loopw [3] (fun ii wr=> ∃i:Nat,ii= .int .i64 i/\i<=t.parts.length/\Hid (∀j (h:j < t.parts.length),j < i->right (t.parts[j]'h)=true)/\Below W0.heap.size W0 wr) (fun i _=>t.parts.length - (intOf i).toNat)
  case atStart=>exact ⟨0,rfl,Nat.zero_le _,Y1 (fun j _ hj=>absurd hj (by omega)),Below.refl _ _⟩
  case round=>
   obtain ⟨i,rfl,hi,HN,hb⟩:=hrel;have hm:=HM.out;obtain ⟨_,⟨c0,_,_,_,c4⟩,_⟩:=HB1.out.next hb;by_cases hlt:i < t.parts.length
   {rcases HP.out with h0 | ⟨g,off,qs,hqP,hg,hc,hr⟩
    {omega}
    {have hbw:Below w.heap.size w wr:=HBW.out.trans (hb.mono HBW.out.size);obtain ⟨x,hx⟩: ∃x,x=t.parts[i]:=⟨_,rfl⟩;obtain ⟨p0,p1,p2,p3,p4⟩:=(hc i hlt).keep hg hbw;have hat:ShAt wr wr.heap.size (qs i) x:=by rw[hx]; exact (hr i hlt).next hbw
     have ihx:=ih t.parts[i] (List.getElem_mem _) (qs i) wr;rw[<-hx] at p0 p1 p2 p3 p4 ihx;have IH:=ihx hat;rw[hqP] at c4;have HX:=Y1 hx;clear hx hc hr hat ihx ih hqP;have hi1: (i:Int) < (t.parts.length:Int):=by omega
     cases hox:right x with
     | false=>
      rw[hox] at IH;have HF:Hid (right t=false):=Y1 (Z9p (p:=x) (by rw[HX.out]; exact List.getElem_mem _) hox);clear hox
      go_wp2_with (refine IH.mono ?_; rintro e w' ⟨rfl,hb'⟩)
      go_ret;exact ⟨by rw[HF.out]; rfl,hbw.trans (hb'.mono hbw.size)⟩
     | true=>
      rw[hox] at IH;have HO:=Y1 hox;clear hox
      go_wp2_with (refine IH.mono ?_; rintro e w' ⟨rfl,hb'⟩)
      go_roundw
      case rel=>exact ⟨i+1,by go_num,by omega,Y1 (fun j hj hji=>by
       rcases Nat.lt_succ_iff_lt_or_eq.1 hji with h | rfl
       {exact HN.out j hj h}
       · rw[<-HX.out]; exact HO.out),hb.trans (hb'.mono hb.size)⟩
      case measure=>simp[intOf]; omega}}
   {have HF:Hid (right t=true):=Y1 (Z2w HFT.out (fun p hp=>by
     obtain ⟨j,hj,rfl⟩:=List.getElem_of_mem hp;exact HN.out j hj (by omega)))
    go_wp2;go_ret;exact ⟨by rw[HF.out]; rfl,HBW.out.trans (hb.mono HBW.out.size)⟩}
theorem Z94 {t:Sh} (h:400 < size t):sizeTo 400 t=401:=by unfold sizeTo; omega
theorem Zad {t:Sh} (h: ¬400 < size t):sizeTo 400 t=size t:=by unfold sizeTo; omega
theorem Z42 (t:Sh) (q:Ptr) (w:World) (hq:ShAt w w.heap.size q t):
 Calls Tryd.prog 20 #[.agg (Y8 t q)] w
  fun e w'=>e= .returned (.int .i64 (check t))/\Below w.heap.size w w':=by
 have hB:=Z03 w t q;have HB:=Y1 hB;have hb0:=Z02 w (.cells (Y8 t q) 25);have HB0:=Y1 hb0;have hs:=Z92 t q 400 _ (hq.next hb0) (by omega);rw[show (((400:Nat):Int))=(400:Int) from rfl] at hs;have HQ:=Y1 hq;have HC:Hid (check t=if 400 < size t then 3 else if 40 < deep t then 91 else if right t=false then 70 else 0):=Y1 rfl;clear hb0 hq;obtain ⟨_,⟨c0,c1,c2,c3,c4⟩,_⟩:=hB;by_cases h4:400 < size t
 {rw[Z94 h4] at hs;have HF:Hid (check t=3):=Y1 (by rw[HC.out,if_pos h4]);clear h4;go_enter Tryd.func20,Tryd.ntmps20
  go_wp2_with fail
  refine hs.mono ?_;rintro e w' ⟨rfl,hb'⟩;go_wp2;go_ret;exact ⟨Z17 HF.out.symm,Z00 HB0.out hb'⟩}
 {rw[Zad h4] at hs;have h4': ¬(400:Int) < (size t:Int):=by omega
  have hdd:=Z1G t;go_enter Tryd.func20,Tryd.ntmps20
  go_wp2_with fail
  refine hs.mono ?_;rintro e w1 ⟨rfl,hb1⟩;have hbw:=Z00 HB0.out hb1;have HBW:=Y1 hbw;have HB1:=Y1 (HB.out.next hb1);have hd:=Z91 t q w1 (HQ.out.next hbw) (by omega);clear hs hb1 hbw c0 c1 c2 c3 c4;obtain ⟨_,⟨c0,c1,c2,c3,c4⟩,_⟩:=HB1.out;by_cases h40:40 < deep t
  {have HF:Hid (check t=91):=Y1 (by rw[HC.out,if_neg h4,if_pos h40]);have h40': (40:Int) < (deep t:Int):=by omega
   clear h4 h40 hdd
   go_wp2_with fail
   refine hd.mono ?_;rintro e w' ⟨rfl,hb'⟩;go_wp2;go_ret;exact ⟨Z17 HF.out.symm,Z00 HBW.out hb'⟩}
  {have h40': ¬(40:Int) < (deep t:Int):=by omega
   have HF:Hid (check t=if right t=false then 70 else 0):=Y1 (by rw[HC.out,if_neg h4,if_neg h40]);clear h4 h40 hdd
   go_wp2_with fail
   refine hd.mono ?_;rintro e w2 ⟨rfl,hb2⟩;have hbw:=Z00 HBW.out hb2;have HBW2:=Y1 hbw;have HB2:=Y1 (HB1.out.next hb2);have hr:=Z7A t q w2 (HQ.out.next hbw);clear hd hb2 hbw c0 c1 c2 c3 c4;obtain ⟨_,⟨c0,c1,c2,c3,c4⟩,_⟩:=HB2.out;cases hrt:right t
   all_goals
    rw[hrt] at hr HF;clear hrt
    go_wp2_with fail
    refine hr.mono ?_;rintro e w' ⟨rfl,hb'⟩;go_wp2;go_ret;exact ⟨Z17 (by rw[HF.out]; rfl),Z00 HBW2.out hb'⟩}}
end
end Go.Proofs.YtlomianlcnmfgaaDoor
namespace Go.Proofs.YtlomianlcnmfgaaDoor
open Go.RowKit
section
variable {P : Program} {ops : Array Oper} {Q : Exit -> Act -> World -> Prop}
theorem Z0O {d:Nat->Bool} {i j:Nat} (h:j≠i):also d i j=d j:=by
 unfold also;have:Nat.beq j i=false:=by cases hb:Nat.beq j i <;> first | rfl | exact absurd (Nat.eq_of_beq_eq_true hb) h
 rw[this]; rfl
theorem Z54 {d:Nat->Bool} {i:Nat}:also d i i=true:=by
 unfold also;simp
end
end Go.Proofs.YtlomianlcnmfgaaDoor
namespace Go.Proofs.YtlomianlcnmfgaaDoor
open Go.RowKit Shp Sub
namespace SubM
structure TakeI (W0:World) (tk:Nat->Value->Prop) (p:Sh) (d:Nat->Bool) (u:Nat->Value) (W:World):Prop where
 up:Below W0.heap.size W0 W
 vals: ∀j,d j=true->tk j (u j)
 al:d 10=true->d 11=false-> ∃b,u 10= .pointer (some ⟨b,0,none⟩)/\W0.heap.size<=b/\Rc b W
 st:d 11=true->d 10=true/\ ∃(b:Nat) (q:Ptr),u 10= .pointer (some ⟨b,0,none⟩)/\W0.heap.size<=b/\ShAt W0 W0.heap.size q p/\Box5 W b p q
variable {W0 W W' : World} {tk : Nat -> Value -> Prop} {p : Sh} {d : Nat -> Bool} {u : Nat -> Value}
theorem TakeI.vals' (h:TakeI W0 tk p d u W) {i:Nat} {v:Value} (hv:tk i v): ∀j,also d i j=true->tk j (upd u i v j):=fun j hj=>by
 by_cases e:j=i
 {subst e; rw[Z0h]; exact hv}
 {rw[Z0c u v e]; rw[Z0O e] at hj; exact h.vals j hj}
theorem TakeI.start:TakeI W0 tk p (fun _=>false) u W0.drew:=⟨Y2.drew,nofun,nofun,nofun⟩
theorem TakeI.step (h:TakeI W0 tk p d u W) {i:Nat} {v:Value} (hi:i≠10) (hj:i≠11) (hv:tk i v) (hb:Below W.heap.size W W'):TakeI W0 tk p (also d i) (upd u i v) W':=by
 refine ⟨Z00 h.up hb,h.vals' hv, ?_, ?_⟩
 {rw[Z0O (Ne.symm hi),Z0O (Ne.symm hj),Z0c u v (Ne.symm hi)];intro h1 h2;obtain ⟨b,e,hb1,hr⟩:=h.al h1 h2;exact ⟨b,e,hb1,hr.upd (T:=fun _=>False) (Upd.new hb) (fun h=>h)⟩}
 {rw[Z0O (Ne.symm hi),Z0O (Ne.symm hj),Z0c u v (Ne.symm hi)];intro h1;obtain ⟨h2,b,q,e,hb1,hs,hx⟩:=h.st h1;exact ⟨h2,b,q,e,hb1,hs,hx.next hb⟩}
theorem TakeI.alloc (h:TakeI W0 tk p d u W) (hd:d 10=false) (ht: ∀v,tk 10 v):
 TakeI W0 tk p (also d 10) (upd u 10 (.pointer (some ⟨W.heap.size,0,none⟩))) (W.alloc (.cells Yb 25)):=by
 refine ⟨Z00 h.up (Z02 _ _),h.vals' (ht _),fun _ _=>⟨W.heap.size,Z0h _ _ _,h.up.size,Z1y rfl⟩,fun h1=> ?_⟩;rw[Z0O (by decide)] at h1;rw[(h.st h1).1] at hd; cases hd
theorem TakeI.store (h:TakeI W0 tk p d u W) (h10:d 10=true) (h11:d 11=false) (ht: ∀v,tk 11 v) {b:Nat} {q:Ptr} (hb:u 10= .pointer (some ⟨b,0,none⟩)) (hs:ShAt W0 W0.heap.size q p):
 TakeI W0 tk p (also d 11) (upd u 11 undef) (RX.lay W b p q):=by
 obtain ⟨b',e,hb1,hr⟩:=h.al h10 h11;obtain rfl:b'=b:=by rw[hb] at e; simp at e; exact e.symm
 have hu:=RX.lay_upd W b' p q;refine ⟨h.up.trans (hu.below h.up.size (fun x hx=>by omega)),h.vals' (ht _),fun _ h2=> ?_,fun _=>⟨by rw[Z0O (by decide)]; exact h10,b',q,by rw[Z0c u undef (by decide)]; exact hb,hb1,hs, ?_⟩⟩
 {rw[Z54] at h2; cases h2}
 {have hf:=fun j=>(RX.lay_fz W b' p q j).trans (hr.fz j);exact ⟨by rw[RX.lay_size]; exact hr.lt,RX.lay_at p q hr.ex,hf 0,hf 1,hf 2,hf 3,hf 4⟩}
end SubM
end Go.Proofs.YtlomianlcnmfgaaDoor
namespace Go.Proofs.YtlomianlcnmfgaaDoor
open Go.RowKit Shp Sub
namespace SubM
theorem Zb3 {t:Sh} (h:Rec t) {i:Nat} (h1:i < t.names.length) (h2:i < t.parts.length) {n:List UInt8} (hn:t.names[i]'h1=n):get t n=some (t.parts[i]'h2):=by
 rw[<-hn]; exact Z5a h.nodup h1 h2
theorem Zbq {t:Sh} (h:Rec t) {n:List UInt8} (hn: ∀i (h1:i < t.names.length),t.names[i]'h1≠n):get t n=none:=by
 rw[h.get_none];intro hm;obtain ⟨i,hi,e⟩:=List.mem_iff_getElem.1 hm;exact hn i hi e
theorem ZbO (W:World) (B:Nat):ShAt W B noneQ12 Z0d:=
 .mk _ _ 0 0 (fun _=>noneQ12) ⟨by simp[Z0d],by simp[Z0d],by simp[Z0d],by simp[Z0d],by simp[Z0d],by simp[Z0d],by simp[Z0d],fun _=>rfl,fun _=>rfl⟩ (Or.inl rfl) (Or.inl rfl) (fun i hi=>by simp[Z0d] at hi) (fun i hi=>by simp[Z0d] at hi)
def PartIs (n0:Nat) (w:World) (r:Option Sh) (e:Ending) (w':World):Prop:=
 ∃q:Ptr,e= .returned (.tuple #[.agg (Y8 ((r.getD Z0d)) q),.bool r.isSome])/\ShAt w n0 q (r.getD Z0d)/\Below w.heap.size w w'
theorem Z7K (t:Sh) (q:Ptr) (nm:List UInt8) (n0:Nat) (w:World) (hn:n0<=w.heap.size) (hq0:ShAt w n0 q t) (hR:Rec t):
 Calls Tryd.prog 41 #[.agg (Y8 t q),.string ⟨nm.toArray⟩] w (PartIs n0 w (get t nm)):=by
 have hq:=hq0.more hn;have hb1:=Z02 w (.cells (Y8 t q) 25);obtain ⟨u1,hu1⟩: ∃u1,w.alloc (.cells (Y8 t q) 25)=u1:=⟨_,rfl⟩;have hs1:u1.heap.size=w.heap.size+1:=by rw[<-hu1]; simp
 have hx:=Z03 w t q;rw[hu1] at hb1 hx;have hb2:=Z02 u1 (.cells Yb 25);obtain ⟨W1,hW1⟩: ∃W,u1.alloc (.cells Yb 25)=W:=⟨_,rfl⟩;have hz: (W1.cell? ⟨w.heap.size+1,0,none⟩=some (.int .i64 0)/\W1.cell? ⟨w.heap.size+1,1,none⟩=some (.string ⟨#[]⟩)/\W1.cell? ⟨w.heap.size+1,2,none⟩=some (.string ⟨#[]⟩)/\W1.cell? ⟨w.heap.size+1,3,none⟩=some (.slice none 0 0)/\W1.cell? ⟨w.heap.size+1,4,none⟩=some (.slice none 0 0))/\ ∀k,W1.frozen? ⟨w.heap.size+1,k,none⟩=false:=by
  rw[<-hW1, <-hs1];refine ⟨⟨by simp[go_sem],by simp[go_sem],by simp[go_sem],by simp[go_sem],by simp[go_sem]⟩,fun k=> ?_⟩;rw[frozen?_alloc_cells];simp[World.frozen?]
 rw[hW1] at hb2;have HX:=Y1 (hx.next hb2);have HB1:=Y1 (Z00 hb1 hb2);have HQ:=Y1 (hq.next (Z00 hb1 hb2));have HS:=Y1 hq.strs;have HP:=Y1 hq0.part;have HN0:=Y1 hn;have HL:=Y1 hq.small.l;have HM:=Y1 hq.small.m;have HR:=Y1 hR;have HZ:=Y1 hz;clear hb1 hb2 hx hq hq0 hn hz hR;go_enter Tryd.func41,Tryd.ntmps41
 go_wp2_with fail
 clear hs1 hu1;clear hW1
 go_loopw [6] (fun i wr=>wr=W1/\ ∃k:Nat,k<=t.names.length/\i= .int .i64 (k:Int)/\Hid (∀j (h:j < t.names.length),j < k->t.names[j]'h≠nm)) (fun i _=>t.names.length - (intOf i).toNat)
 case atStart=>exact ⟨rfl,0,Nat.zero_le _,rfl,Y1 (fun j _ hj=>absurd hj (by omega))⟩
 case round=>
  obtain ⟨rfl,k,hk,rfl,hN⟩:=hrel;have hl:=HL.out;have hm:=HM.out;obtain ⟨⟨r0,r1,r2,r3,r4⟩,rf⟩:=HZ.out;have y0:=rf 0;have y1:=rf 1;have y2:=rf 2;have y3:=rf 3;have y4:=rf 4;clear rf;obtain ⟨_,⟨c0,c1,c2,c3,c4⟩,_⟩:=HX.out;simp only[Nat.zero_add] at c0 c1 c2 c3 c4;by_cases hlt:k < t.names.length
  {have hi1: (k:Int) < (t.names.length:Int):=by omega
   have hlp:t.names.length=t.parts.length:=HR.out.l;have hkp:k < t.parts.length:=by omega
   have hi2: (k:Int) < (t.parts.length:Int):=by omega
   rcases (HS.out.next HB1.out).cell7 with h0 | ⟨g,off,hqA,hg,hc⟩
   {omega}
   rcases HP.out with h0 | ⟨g',off',qs,hqP,hg',hc',hra⟩
   {omega}
   have p:=hc k hlt;obtain ⟨x,hx⟩: ∃x,x=t.names[k]'hlt:=⟨_,rfl⟩;rw[<-hx] at p;have HXN:=Y1 hx;rw[hqA] at c3;rw[hqP] at c4;have hg':g' < w.heap.size:=by have:=HN0.out; omega
   obtain ⟨z0,z1,z2,z3,z4⟩:=(hc' k hkp).keep hg' HB1.out;have hat:=hra k hkp;obtain ⟨y,hy⟩: ∃y,y=t.parts[k]'hkp:=⟨_,rfl⟩;rw[<-hy] at z0 z1 z2 z3 z4 hat;have HY:=Y1 hy;have HAT:=Y1 hat;have HNE:Hid (g' < w.heap.size):=Y1 hg';have hne:g'≠w.heap.size+1:=by omega
   clear hc hc' hra hx hy hat hqA hqP hg;cases hxy: (x==nm) with
   | false=>
    have HE:Hid (t.names[k]'hlt≠nm):=Y1 (fun h=>by rw[HXN.out,h] at hxy; simp at hxy);go_wp2
    go_roundw
    case rel=>exact ⟨trivial,k+1,by omega,by go_num,Y1 (fun j hj hji=>by
     rcases Nat.lt_succ_iff_lt_or_eq.1 hji with h | rfl
     {exact hN.out j hj h}
     · exact HE.out)⟩
    case measure=>simp[intOf]; omega
   | true=>
    have HF:=Y1 (Zb3 HR.out hlt hkp (n:=nm) (by rw[<-HXN.out]; simpa using hxy));rw[<-HY.out] at HF;go_wp2;refine bodyPost_ret (v:= .tuple #[.agg (Y8 y ((qs k))),.bool true]) (by simp[results,Tryd.results41,go_sem,r0,r1,r2,r3,r4]) rfl ?_;rw[HF.out];exact ⟨qs k,rfl,HAT.out,Z2h HB1.out (by omega) _ _ _ _ _⟩}
  {have hi1: ¬(k:Int) < (t.names.length:Int):=by omega
   have HF:=Y1 (Zbq HR.out (n:=nm) (fun i hi=>hN.out i hi (by omega)));go_wp2;refine bodyPost_ret (v:= .tuple #[.agg #[.int .i64 0,.string ⟨#[]⟩,.string ⟨#[]⟩,.slice none 0 0,.slice none 0 0],.bool false]) (by simp[results,Tryd.results41,go_sem,r0,r1,r2,r3,r4]) rfl ?_;rw[HF.out];exact ⟨noneQ12,rfl,ZbO w n0,Z2h HB1.out (by omega) _ _ _ _ _⟩}
end SubM
end Go.Proofs.YtlomianlcnmfgaaDoor
