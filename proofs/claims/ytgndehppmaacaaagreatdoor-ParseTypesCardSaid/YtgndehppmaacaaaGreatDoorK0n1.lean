/- What the proofs of ParseTypes want, part 1. -/
import Derived.Deep.Fields
import Derived.WalkLawsBesides
import Derived.Test.YtgndehppmaacaaaGreatDoorK0n0
set_option linter.unusedVariables false
set_option linter.unusedSimpArgs false
set_option linter.unusedSectionVars false
set_option maxRecDepth 100000
set_option maxHeartbeats 16000000
namespace Lex
theorem Z8F {p:UInt8->Bool}: ∀ {s:List UInt8} {n:Nat},n<=s.length->(∀j (hj:j < s.length),j < n->p (s[j]'hj)=true)->(∀(h:n < s.length),p (s[n]'h)=false)->(s.takeWhile p).length=n
 | [],n,h,_,_=>by simp at h; simp[h]
 | x::r,0,_,_,h=>by
  have:=h (by simp);simp at this;rw[List.takeWhile_cons_of_neg (by simp[this])]; rfl
 | x::r,n+1,h1,h2,h3=>by
  have a:=h2 0 (by simp) (by omega);simp at a;rw[List.takeWhile_cons_of_pos a,List.length_cons,Z8F (s:=r) (n:=n) (by simpa using h1) (fun j hj hn=>by
   have:=h2 (j+1) (by simpa using hj) (by omega);simpa using this) (fun h=>by
   have:=h3 (by simpa using h);simpa using this)]
def isIn (s:List UInt8) (l:List (List UInt8)):Bool:=l.contains s
theorem Z6e {p:UInt8->Bool}: ∀ {s:List UInt8},(s.takeWhile p).length=s.length ↔ s.all p=true
 | []=>by simp
 | x::r=>by
  by_cases hx:p x=true
  {rw[List.takeWhile_cons_of_pos hx,List.length_cons,List.length_cons,List.all_cons,hx,Bool.true_and, <-Z6e (s:=r)]; omega}
  {rw[List.takeWhile_cons_of_neg hx]; simp[hx]}
end Lex
namespace Go.Proofs.YtgndehppmaacaaaGreatDoor
open Go.RowKit
section
variable (c : UInt8) (w : World)
include c w
theorem Z12:
 Calls Tryz.prog 64 #[.int .u8 (c.toNat:Int)] w fun e w'=>e= .returned (.bool (Lex.small c))/\w=w':=by
 have d:=c.toNat_lt;have H:c.toNat<=96\/(97<=c.toNat/\c.toNat<=122)\/123<=c.toNat:=by omega
 have a:Hid (Lex.small c=(decide (97<=c.toNat)&&decide (c.toNat<=122))):=Y1 rfl;obtain ⟨n,g⟩: ∃n,n=c.toNat:=⟨_,rfl⟩;rw[<-g] at H a d ⊢;clear g;rcases H with b | ⟨b,h⟩ | b
 {have f:decide ((97:Int)<=(n:Int))=false:=decide_eq_false (by omega);go_enter Tryz.func64,Tryz.ntmps64;go_wp2;go_ret;exact ⟨by rw[a.out,decide_eq_false (by omega)]; rfl,rfl⟩}
 {have f:decide ((n:Int)<=122)=true:=decide_eq_true (by omega);have i:decide ((97:Int)<=(n:Int))=true:=decide_eq_true (by omega);go_enter Tryz.func64,Tryz.ntmps64;go_wp2;go_ret;exact ⟨by rw[a.out,decide_eq_true b,decide_eq_true h]; rfl,rfl⟩}
 {have f:decide ((n:Int)<=122)=false:=decide_eq_false (by omega);have i:decide ((97:Int)<=(n:Int))=true:=decide_eq_true (by omega);go_enter Tryz.func64,Tryz.ntmps64;go_wp2;go_ret;exact ⟨by rw[a.out,decide_eq_false (p:=n<=122) (by omega),Bool.and_false]; rfl,rfl⟩}
theorem Z1c:
 Calls Tryz.prog 65 #[.int .u8 (c.toNat:Int)] w fun e w'=>e= .returned (.bool (Lex.great c))/\w=w':=by
 have d:=c.toNat_lt;have H:c.toNat<=64\/(65<=c.toNat/\c.toNat<=90)\/91<=c.toNat:=by omega
 have a:Hid (Lex.great c=(decide (65<=c.toNat)&&decide (c.toNat<=90))):=Y1 rfl;obtain ⟨n,g⟩: ∃n,n=c.toNat:=⟨_,rfl⟩;rw[<-g] at H a d ⊢;clear g;rcases H with b | ⟨b,h⟩ | b
 {have f:decide ((65:Int)<=(n:Int))=false:=decide_eq_false (by omega);go_enter Tryz.func65,Tryz.ntmps65;go_wp2;go_ret;exact ⟨by rw[a.out,decide_eq_false (by omega)]; rfl,rfl⟩}
 {have f:decide ((n:Int)<=90)=true:=decide_eq_true (by omega);have i:decide ((65:Int)<=(n:Int))=true:=decide_eq_true (by omega);go_enter Tryz.func65,Tryz.ntmps65;go_wp2;go_ret;exact ⟨by rw[a.out,decide_eq_true b,decide_eq_true h]; rfl,rfl⟩}
 {have f:decide ((n:Int)<=90)=false:=decide_eq_false (by omega);have i:decide ((65:Int)<=(n:Int))=true:=decide_eq_true (by omega);go_enter Tryz.func65,Tryz.ntmps65;go_wp2;go_ret;exact ⟨by rw[a.out,decide_eq_false (p:=n<=90) (by omega),Bool.and_false]; rfl,rfl⟩}
theorem Z2K:
 Calls Tryz.prog 70 #[.int .u8 (c.toNat:Int)] w fun e w'=>e= .returned (.bool (Lex.digit c))/\w=w':=by
 have d:=c.toNat_lt;have H:c.toNat<=47\/(48<=c.toNat/\c.toNat<=57)\/58<=c.toNat:=by omega
 have a:Hid (Lex.digit c=(decide (48<=c.toNat)&&decide (c.toNat<=57))):=Y1 rfl;obtain ⟨n,g⟩: ∃n,n=c.toNat:=⟨_,rfl⟩;rw[<-g] at H a d ⊢;clear g;rcases H with b | ⟨b,h⟩ | b
 {have f:decide ((48:Int)<=(n:Int))=false:=decide_eq_false (by omega);go_enter Tryz.func70,Tryz.ntmps70;go_wp2;go_ret;exact ⟨by rw[a.out,decide_eq_false (by omega)]; rfl,rfl⟩}
 {have f:decide ((n:Int)<=57)=true:=decide_eq_true (by omega);have i:decide ((48:Int)<=(n:Int))=true:=decide_eq_true (by omega);go_enter Tryz.func70,Tryz.ntmps70;go_wp2;go_ret;exact ⟨by rw[a.out,decide_eq_true b,decide_eq_true h]; rfl,rfl⟩}
 {have f:decide ((n:Int)<=57)=false:=decide_eq_false (by omega);have i:decide ((48:Int)<=(n:Int))=true:=decide_eq_true (by omega);go_enter Tryz.func70,Tryz.ntmps70;go_wp2;go_ret;exact ⟨by rw[a.out,decide_eq_false (p:=n<=57) (by omega),Bool.and_false]; rfl,rfl⟩}
end
section
variable {s : List UInt8} {l : List (List UInt8)}
include s l
theorem Zbm {i:Nat} (a:i < l.length) (h: (s==l[i]'a)=true):Lex.isIn s l=true:=by
 unfold Lex.isIn;rw[List.contains_iff_mem,beq_iff_eq.1 h]; exact List.getElem_mem _
theorem Zbn (h: ∀j (a:j < l.length),(s==l[j]'a)=false):Lex.isIn s l=false:=by
 unfold Lex.isIn;cases b:l.contains s with
 | false=>rfl
 | true=>
  obtain ⟨j,a,e⟩:=List.mem_iff_getElem.1 (List.contains_iff_mem.1 b);have:=h j a;rw[e] at this; simp at this
end
theorem Z8G (s:List UInt8) (A:Option Addr) (cap:Nat) (l:List (List UInt8)) (w:World) (o:Strs w w.heap.size A (strs l)) (B:l.length<=1000000):
 Calls Tryz.prog 107 #[.string ⟨s.toArray⟩,.slice A l.length cap] w fun e w'=>e= .returned (.bool (Lex.isIn s l))/\w=w':=by
 have t:=Y1 o;have u: (strs l).length=l.length:=by simp[strs]
 clear o;go_enter Tryz.func107,Tryz.ntmps107
 go_wp2_with fail
 go_loopw [5] (fun ii wr=> ∃i:Nat,ii= .int .i64 i/\i<=l.length/\Hid (∀j (hj:j < l.length),j < i->(s==l[j]'hj)=false)/\w=wr)
  (fun i _=>l.length - (intOf i).toNat)
 case atStart=>exact ⟨0,rfl,Nat.zero_le _,Y1 (fun j _ hj=>absurd hj (by omega)),rfl⟩
 case round=>
  obtain ⟨i,rfl,z,k,rfl⟩:=hrel;by_cases b:i < l.length
  {have d: (i:Int) < (l.length:Int):=by omega
   rcases t.out with v | ⟨g,off,rfl,y,q⟩
   {omega}
   {have a:=q i (by omega);have n: (strs l)[i]'(by omega)=⟨(l[i]'b).toArray⟩:=by simp[strs]
    rw[n] at a;obtain ⟨p,f⟩: ∃p,p=l[i]'b:=⟨_,rfl⟩;rw[<-f] at a;have m:=Y1 f;clear q n f;cases r: (s==p)
    {have c:Hid ((s==l[i]'b)=false):=Y1 (by rw[<-m.out]; exact r);go_wp2
     go_roundw
     case rel=>exact ⟨i+1,by go_num,by omega,Y1 (fun j hj hji=>by
      rcases Nat.lt_succ_iff_lt_or_eq.1 hji with h | rfl
      {exact k.out j hj h}
      · exact c.out),trivial⟩
     case measure=>simp[intOf]; omega}
    {have c:Hid (Lex.isIn s l=true):=Y1 (Zbm b (by rw[<-m.out]; exact r));go_wp2;go_ret;exact ⟨by rw[c.out]; rfl,rfl⟩}}}
  {have d: ¬(i:Int) < (l.length:Int):=by omega
   have c:Hid (Lex.isIn s l=false):=Y1 (Zbn (fun j hj=>k.out j hj (by omega)));go_wp2;go_ret;exact ⟨by rw[c.out]; rfl,rfl⟩}
theorem Z9V (W:World) (l:List (List UInt8)) (g:Nat) (a:g=W.heap.size):Strs (W.alloc (.cells ((strs l).map Value.string).toArray 9)) (W.alloc (.cells ((strs l).map Value.string).toArray 9)).heap.size (some ⟨g,0,none⟩) (strs l):=by
 subst a;refine Or.inr ⟨W.heap.size,0,rfl,by simp,fun i hi=> ?_⟩;rw[Nat.zero_add];simp[go_sem,hi]
theorem Z8H (s:List UInt8) (w:World):
 Y9 67 #[.string ⟨s.toArray⟩] w (.bool (Lex.isWord s)):=by
 have c:Hid (Strs (w.alloc (.cells #[.string ⟨#[109,111,100,117,108,101]⟩,.string ⟨#[105,109,112,111,114,116]⟩,.string ⟨#[112,105,110]⟩,.string ⟨#[114,97,110,103,101]⟩,.string ⟨#[116,121,112,101]⟩,.string ⟨#[111,112,97,113,117,101]⟩,.string ⟨#[108,101,116]⟩,.string ⟨#[105,110]⟩,.string ⟨#[101,120,112,111,114,116]⟩,.string ⟨#[102,117,110]⟩,.string ⟨#[105,102]⟩,.string ⟨#[116,104,101,110]⟩,.string ⟨#[101,108,115,101]⟩,.string ⟨#[99,97,115,101]⟩,.string ⟨#[111,102]⟩,.string ⟨#[97,115]⟩,.string ⟨#[110,101,119]⟩,.string ⟨#[114,97,119]⟩,.string ⟨#[116,114,117,101]⟩,.string ⟨#[102,97,108,115,101]⟩] 9)) (w.alloc (.cells #[.string ⟨#[109,111,100,117,108,101]⟩,.string ⟨#[105,109,112,111,114,116]⟩,.string ⟨#[112,105,110]⟩,.string ⟨#[114,97,110,103,101]⟩,.string ⟨#[116,121,112,101]⟩,.string ⟨#[111,112,97,113,117,101]⟩,.string ⟨#[108,101,116]⟩,.string ⟨#[105,110]⟩,.string ⟨#[101,120,112,111,114,116]⟩,.string ⟨#[102,117,110]⟩,.string ⟨#[105,102]⟩,.string ⟨#[116,104,101,110]⟩,.string ⟨#[101,108,115,101]⟩,.string ⟨#[99,97,115,101]⟩,.string ⟨#[111,102]⟩,.string ⟨#[97,115]⟩,.string ⟨#[110,101,119]⟩,.string ⟨#[114,97,119]⟩,.string ⟨#[116,114,117,101]⟩,.string ⟨#[102,97,108,115,101]⟩] 9)).heap.size (some ⟨w.heap.size,0,none⟩) (strs Lex.words)):=Y1 (Z9V w Lex.words _ rfl);have d:=Z01 w (.cells #[.string ⟨#[109,111,100,117,108,101]⟩,.string ⟨#[105,109,112,111,114,116]⟩,.string ⟨#[112,105,110]⟩,.string ⟨#[114,97,110,103,101]⟩,.string ⟨#[116,121,112,101]⟩,.string ⟨#[111,112,97,113,117,101]⟩,.string ⟨#[108,101,116]⟩,.string ⟨#[105,110]⟩,.string ⟨#[101,120,112,111,114,116]⟩,.string ⟨#[102,117,110]⟩,.string ⟨#[105,102]⟩,.string ⟨#[116,104,101,110]⟩,.string ⟨#[101,108,115,101]⟩,.string ⟨#[99,97,115,101]⟩,.string ⟨#[111,102]⟩,.string ⟨#[97,115]⟩,.string ⟨#[110,101,119]⟩,.string ⟨#[114,97,119]⟩,.string ⟨#[116,114,117,101]⟩,.string ⟨#[102,97,108,115,101]⟩] 9)
 have a:=fun W h=>Z8G s (some ⟨w.heap.size,0,none⟩) 20 Lex.words W h (by decide);have b:Hid (Lex.isWord s=Lex.isIn s Lex.words):=Y1 rfl;rw[show Lex.words.length=20 from rfl] at a;go_enter Tryz.func67,Tryz.ntmps67
 go_wp2_with fail
 refine (a _ c.out).mono ?_;rintro e f ⟨rfl,rfl⟩;go_wp2;go_ret;exact ⟨by rw[b.out]; rfl,d⟩
theorem ZdI (s:List UInt8) (w:World):
 Y9 74 #[.string ⟨s.toArray⟩] w (.bool (Lex.isSign s)):=by
 have c:Hid (Strs (w.alloc (.cells #[.string ⟨#[40]⟩,.string ⟨#[41]⟩,.string ⟨#[123]⟩,.string ⟨#[125]⟩,.string ⟨#[91]⟩,.string ⟨#[93]⟩,.string ⟨#[60]⟩,.string ⟨#[62]⟩,.string ⟨#[60,61]⟩,.string ⟨#[62,61]⟩,.string ⟨#[61]⟩,.string ⟨#[94]⟩,.string ⟨#[42]⟩,.string ⟨#[44]⟩,.string ⟨#[58]⟩,.string ⟨#[46]⟩,.string ⟨#[47]⟩,.string ⟨#[64]⟩,.string ⟨#[124]⟩,.string ⟨#[45,62]⟩] 9)) (w.alloc (.cells #[.string ⟨#[40]⟩,.string ⟨#[41]⟩,.string ⟨#[123]⟩,.string ⟨#[125]⟩,.string ⟨#[91]⟩,.string ⟨#[93]⟩,.string ⟨#[60]⟩,.string ⟨#[62]⟩,.string ⟨#[60,61]⟩,.string ⟨#[62,61]⟩,.string ⟨#[61]⟩,.string ⟨#[94]⟩,.string ⟨#[42]⟩,.string ⟨#[44]⟩,.string ⟨#[58]⟩,.string ⟨#[46]⟩,.string ⟨#[47]⟩,.string ⟨#[64]⟩,.string ⟨#[124]⟩,.string ⟨#[45,62]⟩] 9)).heap.size (some ⟨w.heap.size,0,none⟩) (strs Lex.signs)):=Y1 (Z9V w Lex.signs _ rfl);have d:=Z01 w (.cells #[.string ⟨#[40]⟩,.string ⟨#[41]⟩,.string ⟨#[123]⟩,.string ⟨#[125]⟩,.string ⟨#[91]⟩,.string ⟨#[93]⟩,.string ⟨#[60]⟩,.string ⟨#[62]⟩,.string ⟨#[60,61]⟩,.string ⟨#[62,61]⟩,.string ⟨#[61]⟩,.string ⟨#[94]⟩,.string ⟨#[42]⟩,.string ⟨#[44]⟩,.string ⟨#[58]⟩,.string ⟨#[46]⟩,.string ⟨#[47]⟩,.string ⟨#[64]⟩,.string ⟨#[124]⟩,.string ⟨#[45,62]⟩] 9);have a:=fun W h=>Z8G s (some ⟨w.heap.size,0,none⟩) 20 Lex.signs W h (by decide);have b:Hid (Lex.isSign s=Lex.isIn s Lex.signs):=Y1 rfl;rw[show Lex.signs.length=20 from rfl] at a;go_enter Tryz.func74,Tryz.ntmps74
 go_wp2_with fail
 refine (a _ c.out).mono ?_;rintro e f ⟨rfl,rfl⟩;go_wp2;go_ret;exact ⟨by rw[b.out]; rfl,d⟩
theorem Z9W {c:UInt8}:Lex.nameB c=(Lex.small c||Lex.great c||Lex.digit c||c==95):=rfl
theorem Z4P (s:ByteArray) (n:Nat) (h:n < s.size) (W:World): (Instr.index 9 (.string s) (.int .i64 (n:Int))).run Tryz.prog W= .ok (.int .u8 (s[n]'h).toNat) W:=by
 rw[run_index_string (P:=Tryz.prog) _ _ _ _ _ Tryz.underlying9,dif_pos ⟨by omega,by omega⟩];simp
theorem Z8i (c:UInt8): ((c.toNat:Int)==95)=(c==95):=by
 rw[Bool.eq_iff_iff,beq_iff_eq,beq_iff_eq];constructor
 {intro h; apply UInt8.toNat_inj.1; show c.toNat=95; omega}
 {rintro rfl; rfl}
theorem Z9X (s:ByteArray) (z:s.size<=9223372036854775806) (w:World):
 Calls Tryz.prog 66 #[.string s] w fun e w'=>e= .returned (.int .i64 (s.data.toList.takeWhile Lex.nameB).length)/\w=w':=by
 have v:s.data.toList.length=s.size:=(Lib.size_eq s).symm;go_enter Tryz.func66,Tryz.ntmps66
 go_wp2_with fail
 go_loopw [3] (fun ii wr=> ∃n:Nat,ii= .int .i64 n/\n<=s.size/\Hid (∀j (hj:j < s.data.toList.length),j < n->Lex.nameB (s.data.toList[j]'hj)=true)/\w=wr)
  (fun i _=>s.size - (intOf i).toNat)
 case atStart=>exact ⟨0,rfl,Nat.zero_le _,Y1 (fun j _ hj=>absurd hj (by omega)),rfl⟩
 case round=>
  obtain ⟨n,rfl,y,p,rfl⟩:=hrel;by_cases l:n < s.size
  {have r: (n:Int) < (s.size:Int):=by omega
   obtain ⟨c,q⟩: ∃c,c=s[n]'l:=⟨_,rfl⟩;have k:s.data.toList[n]'(by omega)=c:=q.symm;have f:=Y1 k;have t: ∀W,(Instr.index 9 (.string s) (.int .i64 (n:Int))).run Tryz.prog W= .ok (.int .u8 c.toNat) W:=fun W=>by
    rw[q]; exact Z4P s n l W
   have u:=c.toNat_lt;have g:=Z8i c;have d:=Y1 (@Z9W c);clear k q;have a:Lex.nameB c=true->Hid (∀j (hj:j < s.data.toList.length),j < n+1->Lex.nameB (s.data.toList[j]'hj)=true):=fun h=>Y1 (fun j hj hji=>by
    rcases Nat.lt_succ_iff_lt_or_eq.1 hji with m | rfl
    {exact p.out j hj m}
    · rw[f.out]; exact h)
   have no:Lex.nameB c=false->Hid ((s.data.toList.takeWhile Lex.nameB).length=n):=fun h=>Y1 (Lex.Z8F (by omega) p.out (fun m=>by rw[f.out]; exact h));cases h1:Lex.small c
   {cases h2:Lex.great c
    {cases h3:Lex.digit c
     {cases o: (c==95)
      {rw[o] at g;have HM:=no (by rw[d.out,h1,h2,h3,o]; rfl);clear a no
       go_wp2_with fail
       refine (Z12 c _).mono ?_;rintro e b ⟨rfl,rfl⟩;rw[h1]
       go_wp2_with fail
       refine (Z1c c _).mono ?_;rintro e b ⟨rfl,rfl⟩;rw[h2]
       go_wp2_with fail
       refine (Z2K c _).mono ?_;rintro e b ⟨rfl,rfl⟩;rw[h3];go_wp2;go_ret;exact ⟨by rw[HM.out]; rfl,rfl⟩}
      {rw[o] at g;have HM:=a (by rw[d.out,h1,h2,h3,o]; rfl);clear a no
       go_wp2_with fail
       refine (Z12 c _).mono ?_;rintro e b ⟨rfl,rfl⟩;rw[h1]
       go_wp2_with fail
       refine (Z1c c _).mono ?_;rintro e b ⟨rfl,rfl⟩;rw[h2]
       go_wp2_with fail
       refine (Z2K c _).mono ?_;rintro e b ⟨rfl,rfl⟩;rw[h3];go_wp2
       go_roundw
       case rel=>exact ⟨n+1,by go_num,by omega,HM,trivial⟩
       case measure=>simp[intOf]; omega}}
     {have HM:=a (by rw[d.out,h1,h2,h3]; rfl);clear a no
      go_wp2_with fail
      refine (Z12 c _).mono ?_;rintro e b ⟨rfl,rfl⟩;rw[h1]
      go_wp2_with fail
      refine (Z1c c _).mono ?_;rintro e b ⟨rfl,rfl⟩;rw[h2]
      go_wp2_with fail
      refine (Z2K c _).mono ?_;rintro e b ⟨rfl,rfl⟩;rw[h3];go_wp2
      go_roundw
      case rel=>exact ⟨n+1,by go_num,by omega,HM,trivial⟩
      case measure=>simp[intOf]; omega}}
    {have HM:=a (by rw[d.out,h1,h2]; rfl);clear a no
     go_wp2_with fail
     refine (Z12 c _).mono ?_;rintro e b ⟨rfl,rfl⟩;rw[h1]
     go_wp2_with fail
     refine (Z1c c _).mono ?_;rintro e b ⟨rfl,rfl⟩;rw[h2];go_wp2
     go_roundw
     case rel=>exact ⟨n+1,by go_num,by omega,HM,trivial⟩
     case measure=>simp[intOf]; omega}}
   {have HM:=a (by rw[d.out,h1]; rfl);clear a no
    go_wp2_with fail
    refine (Z12 c _).mono ?_;rintro e b ⟨rfl,rfl⟩;rw[h1];go_wp2
    go_roundw
    case rel=>exact ⟨n+1,by go_num,by omega,HM,trivial⟩
    case measure=>simp[intOf]; omega}}
  {have r: ¬(n:Int) < (s.size:Int):=by omega
   have HM:Hid ((s.data.toList.takeWhile Lex.nameB).length=n):=Y1 (Lex.Z8F (by omega) p.out (fun m=>absurd m (by omega)));go_wp2;go_ret;exact ⟨by rw[HM.out]; rfl,rfl⟩}
end Go.Proofs.YtgndehppmaacaaaGreatDoor
namespace Go.Proofs.YtgndehppmaacaaaGreatDoor
section
open Go.RowKit Shp
theorem Z17 {k:IntKind} {a b:Int} (h:a=b):Ending.returned (.int k a)= .returned (.int k b):=by rw[h]
theorem Z0p {a b:Bool} (h:a=b):Ending.returned (.bool a)= .returned (.bool b):=by rw[h]
structure Ptr where
 A:Option Addr
 c:Nat
 P:Option Addr
 d:Nat
abbrev Y8 (t:Shp.Sh) (q:Ptr):Array Value:=#[.int .i64 t.kind,.string ⟨t.of_.toArray⟩,.string ⟨t.name.toArray⟩,.slice q.A t.names.length q.c,.slice q.P t.parts.length q.d]
def Sh5 (w:World) (g o:Nat) (t:Sh) (q:Ptr):Prop:=
 w.cell? ⟨g,o,none⟩=some (.int .i64 t.kind)/\w.cell? ⟨g,o+1,none⟩=some (.string ⟨t.of_.toArray⟩)/\w.cell? ⟨g,o+2,none⟩=some (.string ⟨t.name.toArray⟩)/\
 w.cell? ⟨g,o+3,none⟩=some (.slice q.A t.names.length q.c)/\w.cell? ⟨g,o+4,none⟩=some (.slice q.P t.parts.length q.d)
theorem Sh5.of {w w':World} {g o:Nat} {t:Sh} {q:Ptr} (h:Sh5 w g o t q) (a: ∀k,w'.cell? ⟨g,k,none⟩=w.cell? ⟨g,k,none⟩):Sh5 w' g o t q:=by
 obtain ⟨b,c,d,e,f⟩:=h;exact ⟨(a _).trans b,(a _).trans c,(a _).trans d,(a _).trans e,(a _).trans f⟩
theorem Sh5.keep {w w':World} {g o B:Nat} {t:Sh} {q:Ptr} (h:Sh5 w g o t q) (b:g < B) (a:Below B w w'):Sh5 w' g o t q:=
 h.of (fun k=>a.cell (p:=⟨g,k,none⟩) b)
structure Small (t:Sh) (q:Ptr):Prop where
 o:t.of_.length<=9223372036854775807
 n:t.name.length<=9223372036854775807
 ns: ∀x∈t.names,x.length<=9223372036854775807
 l:t.names.length<=9223372036854775807
 m:t.parts.length<=9223372036854775807
 c:t.names.length<=q.c
 d:t.parts.length<=q.d
 A0:q.A=none->q.c=0
 P0:q.P=none->q.d=0
inductive ShAt (w:World) (B:Nat):Ptr->Sh->Prop
 | mk (q:Ptr) (t:Sh) (g off:Nat) (qs:Nat->Ptr) (hs:Small t q) (hn:Strs w B q.A (strs t.names)) (hp:t.parts.length=0\/q.P=some ⟨g,off,none⟩/\g < B)
  (hc: ∀i (h:i < t.parts.length),Sh5 w g (off+i * 5) (t.parts[i]'h) (qs i)) (hr: ∀i (h:i < t.parts.length),ShAt w B (qs i) (t.parts[i]'h)):ShAt w B q t
theorem ShAt.small {w:World} {B:Nat} {q:Ptr} {t:Sh} (h:ShAt w B q t):Small t q:=by cases h; assumption
theorem ShAt.strs {w:World} {B:Nat} {q:Ptr} {t:Sh} (h:ShAt w B q t):Strs w B q.A (strs t.names):=by cases h; assumption
theorem ShAt.part {w:World} {B:Nat} {q:Ptr} {t:Sh} (h:ShAt w B q t):t.parts.length=0\/ ∃(g off:Nat) (qs:Nat->Ptr),q.P=some ⟨g,off,none⟩/\g < B/\(∀i (h:i < t.parts.length),Sh5 w g (off+i * 5) (t.parts[i]'h) (qs i))/\ ∀i (h:i < t.parts.length),ShAt w B (qs i) (t.parts[i]'h):=by
 cases h with
 | mk _ _ g off qs hs hn a hc hr=>
  rcases a with a | ⟨a,b⟩
  {exact Or.inl a}
  {exact Or.inr ⟨g,off,qs,a,b,hc,hr⟩}
theorem ShAt.of {w w':World} {B B':Nat} {q:Ptr} {t:Sh} (h:ShAt w B q t) (f:B<=B') (j: ∀g k,g < B->w'.cell? ⟨g,k,none⟩=w.cell? ⟨g,k,none⟩):ShAt w' B' q t:=by
 induction h with
 | mk q t g off qs hs hn hp hc' hr ih=>
  refine .mk q t g off qs hs ?_ ?_ ?_ ih
  {rcases hn with h | ⟨b,o,l,a,c⟩
   {exact Or.inl h}
   {exact Or.inr ⟨b,o,l,Nat.lt_of_lt_of_le a f,fun i e=>(j b _ a).trans (c i e)⟩}}
  {rcases hp with h | ⟨h,d⟩
   {exact Or.inl h}
   {exact Or.inr ⟨h,Nat.lt_of_lt_of_le d f⟩}}
  {intro i e;rcases hp with h | ⟨h,d⟩
   {omega}
   {exact (hc' i e).of (fun k=>j g k d)}}
theorem ShAt.keep {w w':World} {B B':Nat} {q:Ptr} {t:Sh} (h:ShAt w B q t) (b:Below B' w w') (a:B<=B'):ShAt w' B q t:=
 h.of (Nat.le_refl _) (fun g k hg=>b.cell (p:=⟨g,k,none⟩) (Nat.lt_of_lt_of_le hg a))
theorem ShAt.more {w:World} {B B':Nat} {q:Ptr} {t:Sh} (h:ShAt w B q t) (a:B<=B'):ShAt w B' q t:=h.of a (fun _ _ _=>rfl)
theorem ShAt.next {w w':World} {q:Ptr} {t:Sh} (h:ShAt w w.heap.size q t) (a:Below w.heap.size w w'):ShAt w' w'.heap.size q t:=(h.keep a (Nat.le_refl _)).more a.size
def Box5 (w:World) (g:Nat) (t:Sh) (q:Ptr):Prop:=
 g < w.heap.size/\Sh5 w g 0 t q/\w.frozen? ⟨g,0,none⟩=false/\w.frozen? ⟨g,1,none⟩=false/\w.frozen? ⟨g,2,none⟩=false/\w.frozen? ⟨g,3,none⟩=false/\w.frozen? ⟨g,4,none⟩=false
theorem Box5.keep {W W':World} {g B:Nat} {t:Sh} {q:Ptr} (h:Box5 W g t q) (b:g < B) (a:Below B W W'):Box5 W' g t q:=by
 obtain ⟨j,k,c,d,e,f,i⟩:=h;exact ⟨Nat.lt_of_lt_of_le j a.size,k.keep b a,(a.frozen (p:=⟨g,0,none⟩) b).trans c,(a.frozen (p:=⟨g,1,none⟩) b).trans d,(a.frozen (p:=⟨g,2,none⟩) b).trans e,(a.frozen (p:=⟨g,3,none⟩) b).trans f,(a.frozen (p:=⟨g,4,none⟩) b).trans i⟩
theorem Box5.next {W W':World} {g:Nat} {t:Sh} {q:Ptr} (h:Box5 W g t q) (a:Below W.heap.size W W'):Box5 W' g t q:=h.keep h.1 a
theorem Z07 (w:World) (t:Sh) (q:Ptr):Box5 (w.alloc (.cells (Y8 t q) 28)) w.heap.size t q:=
 ⟨by simp,⟨by simp[go_sem],by simp[go_sem],by simp[go_sem],by simp[go_sem],by simp[go_sem]⟩,by simp[go_sem],by simp[go_sem],by simp[go_sem],by simp[go_sem],by simp[go_sem]⟩
theorem Z0d (b off k:Nat): (⟨b,off,none⟩:Addr).add k=⟨b,off+k,none⟩:=by unfold Addr.add; split <;> simp_all
end
section
open Go.RowKit Tms
open Shp (Sh)
structure TP where
 A:Option Addr
 c:Nat
 V:Option Addr
 e:Nat
 S:Option Addr
 s:Nat
 P:Option Addr
 d:Nat
abbrev Y7 (t:Tms.Tm) (q:TP):Array Value:=#[.int .i64 t.kind,.string ⟨t.of_.toArray⟩,.string ⟨t.name.toArray⟩,.int .i64 t.n,.slice q.A t.names.length q.c,.slice q.V t.vars.length q.e,.slice q.S t.shapes.length q.s,.slice q.P t.parts.length q.d,.int .i64 t.at_]
def Tm9 (w:World) (g o:Nat) (t:Tm) (q:TP):Prop:=
 w.cell? ⟨g,o,none⟩=some (.int .i64 t.kind)/\w.cell? ⟨g,o+1,none⟩=some (.string ⟨t.of_.toArray⟩)/\w.cell? ⟨g,o+2,none⟩=some (.string ⟨t.name.toArray⟩)/\w.cell? ⟨g,o+3,none⟩=some (.int .i64 t.n)/\
 w.cell? ⟨g,o+4,none⟩=some (.slice q.A t.names.length q.c)/\w.cell? ⟨g,o+5,none⟩=some (.slice q.V t.vars.length q.e)/\w.cell? ⟨g,o+6,none⟩=some (.slice q.S t.shapes.length q.s)/\w.cell? ⟨g,o+7,none⟩=some (.slice q.P t.parts.length q.d)/\w.cell? ⟨g,o+8,none⟩=some (.int .i64 t.at_)
theorem Tm9.of {w w':World} {g o:Nat} {t:Tm} {q:TP} (h:Tm9 w g o t q) (a: ∀k,w'.cell? ⟨g,k,none⟩=w.cell? ⟨g,k,none⟩):Tm9 w' g o t q:=by
 obtain ⟨b,c,d,e,f,i,j,l,m⟩:=h;exact ⟨(a _).trans b,(a _).trans c,(a _).trans d,(a _).trans e,(a _).trans f,(a _).trans i,(a _).trans j,(a _).trans l,(a _).trans m⟩
theorem Tm9.keep {w w':World} {g o B:Nat} {t:Tm} {q:TP} (h:Tm9 w g o t q) (b:g < B) (a:Below B w w'):Tm9 w' g o t q:=h.of (fun k=>a.cell (p:=⟨g,k,none⟩) b)
structure TSmall (t:Tm) (q:TP):Prop where
 o:t.of_.length<=9223372036854775807
 n:t.name.length<=9223372036854775807
 ns: ∀x∈t.names,x.length<=9223372036854775807
 vs: ∀x∈t.vars,x.length<=9223372036854775807
 l:t.names.length<=9223372036854775807
 v:t.vars.length<=9223372036854775807
 sh:t.shapes.length<=9223372036854775807
 m:t.parts.length<=9223372036854775807
 c:t.names.length<=q.c
 e:t.vars.length<=q.e
 s:t.shapes.length<=q.s
 d:t.parts.length<=q.d
 A0:q.A=none->q.c=0
 V0:q.V=none->q.e=0
 S0:q.S=none->q.s=0
 P0:q.P=none->q.d=0
 i3: -9223372036854775808<=t.n/\t.n<=9223372036854775807
 i8: -9223372036854775808<=t.at_/\t.at_<=9223372036854775807
 i0: -9223372036854775808<=t.kind/\t.kind<=9223372036854775807
def ShsAt (w:World) (B:Nat) (S:Option Addr) (l:List Sh):Prop:=
 l.length=0\/ ∃(g off:Nat) (rs:Nat->Ptr),S=some ⟨g,off,none⟩/\g < B/\(∀i (h:i < l.length),Sh5 w g (off+i * 5) (l[i]'h) (rs i))/\ ∀i (h:i < l.length),ShAt w B (rs i) (l[i]'h)
theorem ShsAt.of {w w':World} {B B':Nat} {S:Option Addr} {l:List Sh} (h:ShsAt w B S l) (b:B<=B') (c: ∀g k,g < B->w'.cell? ⟨g,k,none⟩=w.cell? ⟨g,k,none⟩):ShsAt w' B' S l:=by
 rcases h with h | ⟨g,off,rs,d,a,e,f⟩
 {exact Or.inl h}
 {exact Or.inr ⟨g,off,rs,d,Nat.lt_of_lt_of_le a b,fun i hi=>(e i hi).of (fun k=>c g k a),fun i hi=>(f i hi).of b c⟩}
inductive TmAt (w:World) (B:Nat):TP->Tm->Prop
 | mk (q:TP) (t:Tm) (g off:Nat) (qs:Nat->TP) (hs:TSmall t q) (hn:Strs w B q.A (strs t.names)) (hv:Strs w B q.V (strs t.vars)) (hS:ShsAt w B q.S t.shapes) (hp:t.parts.length=0\/q.P=some ⟨g,off,none⟩/\g < B)
  (hc: ∀i (h:i < t.parts.length),Tm9 w g (off+i * 9) (t.parts[i]'h) (qs i)) (hr: ∀i (h:i < t.parts.length),TmAt w B (qs i) (t.parts[i]'h)):TmAt w B q t
theorem TmAt.small {w:World} {B:Nat} {q:TP} {t:Tm} (h:TmAt w B q t):TSmall t q:=by cases h; assumption
theorem TmAt.vars {w:World} {B:Nat} {q:TP} {t:Tm} (h:TmAt w B q t):Strs w B q.V (strs t.vars):=by cases h; assumption
theorem TmAt.shapes {w:World} {B:Nat} {q:TP} {t:Tm} (h:TmAt w B q t):ShsAt w B q.S t.shapes:=by cases h; assumption
theorem TmAt.strs {w:World} {B:Nat} {q:TP} {t:Tm} (h:TmAt w B q t):Strs w B q.A (strs t.names):=by cases h; assumption
theorem TmAt.part {w:World} {B:Nat} {q:TP} {t:Tm} (h:TmAt w B q t):t.parts.length=0\/ ∃(g off:Nat) (qs:Nat->TP),q.P=some ⟨g,off,none⟩/\g < B/\(∀i (h:i < t.parts.length),Tm9 w g (off+i * 9) (t.parts[i]'h) (qs i))/\ ∀i (h:i < t.parts.length),TmAt w B (qs i) (t.parts[i]'h):=by
 cases h with
 | mk _ _ g off qs hs hn hv hS a hc hr=>
  rcases a with a | ⟨a,b⟩
  {exact Or.inl a}
  {exact Or.inr ⟨g,off,qs,a,b,hc,hr⟩}
theorem Zdz {w w':World} {B B':Nat} {A:Option Addr} {l:List ByteArray} (h:Strs w B A l) (e:B<=B') (f: ∀g k,g < B->w'.cell? ⟨g,k,none⟩=w.cell? ⟨g,k,none⟩):Strs w' B' A l:=by
 rcases h with h | ⟨b,o,d,a,c⟩
 {exact Or.inl h}
 {exact Or.inr ⟨b,o,d,Nat.lt_of_lt_of_le a e,fun i hi=>(f b _ a).trans (c i hi)⟩}
theorem TmAt.of {w w':World} {B B':Nat} {q:TP} {t:Tm} (h:TmAt w B q t) (a:B<=B') (b: ∀g k,g < B->w'.cell? ⟨g,k,none⟩=w.cell? ⟨g,k,none⟩):TmAt w' B' q t:=by
 induction h with
 | mk q t g off qs hs hn hv hS hp hc' hr ih=>
  refine .mk q t g off qs hs (Zdz hn a b) (Zdz hv a b) (hS.of a b) ?_ ?_ ih
  {rcases hp with h | ⟨h,c⟩
   {exact Or.inl h}
   {exact Or.inr ⟨h,Nat.lt_of_lt_of_le c a⟩}}
  {intro i d;rcases hp with h | ⟨h,c⟩
   {omega}
   {exact (hc' i d).of (fun k=>b g k c)}}
theorem TmAt.keep {w w':World} {B B':Nat} {q:TP} {t:Tm} (h:TmAt w B q t) (b:Below B' w w') (a:B<=B'):TmAt w' B q t:=
 h.of (Nat.le_refl _) (fun g k hg=>b.cell (p:=⟨g,k,none⟩) (Nat.lt_of_lt_of_le hg a))
theorem TmAt.more {w:World} {B B':Nat} {q:TP} {t:Tm} (h:TmAt w B q t) (a:B<=B'):TmAt w B' q t:=h.of a (fun _ _ _=>rfl)
theorem TmAt.next {w w':World} {q:TP} {t:Tm} (h:TmAt w w.heap.size q t) (a:Below w.heap.size w w'):TmAt w' w'.heap.size q t:=(h.keep a (Nat.le_refl _)).more a.size
theorem ShsAt.next {w w':World} {S:Option Addr} {l:List Sh} (h:ShsAt w w.heap.size S l) (a:Below w.heap.size w w'):ShsAt w' w'.heap.size S l:=h.of a.size (fun g k hg=>a.cell (p:=⟨g,k,none⟩) hg)
def Box9 (w:World) (g:Nat) (t:Tm) (q:TP):Prop:=g < w.heap.size/\Tm9 w g 0 t q/\ ∀k,w.frozen? ⟨g,k,none⟩=false
theorem Box9.keep {W W':World} {g B:Nat} {t:Tm} {q:TP} (h:Box9 W g t q) (b:g < B) (a:Below B W W'):Box9 W' g t q:=
 ⟨Nat.lt_of_lt_of_le h.1 a.size,h.2.1.keep b a,fun k=>(a.frozen (p:=⟨g,k,none⟩) b).trans (h.2.2 k)⟩
theorem Box9.next {W W':World} {g:Nat} {t:Tm} {q:TP} (h:Box9 W g t q) (a:Below W.heap.size W W'):Box9 W' g t q:=h.keep h.1 a
theorem ZdA (w:World) (t:Tm) (q:TP):Box9 (w.alloc (.cells (Y7 t q) 40)) w.heap.size t q:=
 ⟨by simp,⟨by simp[go_sem],by simp[go_sem],by simp[go_sem],by simp[go_sem],by simp[go_sem],by simp[go_sem],by simp[go_sem],by simp[go_sem],by simp[go_sem]⟩,fun k=>by simp[go_sem]⟩
end
section
open Go.RowKit Shp
structure UpC (cb B:Nat) (w w':World):Prop where
 os:w'.os=w.os
 tape:w'.tape=w.tape
 output:w'.output=w.output
 size:w.heap.size<=w'.heap.size
 block: ∀k,k < B->k≠cb->w'.heap[k]? =w.heap[k]?
 c1:w'.cell? ⟨cb,1,none⟩=w.cell? ⟨cb,1,none⟩
 f0:w'.frozen? ⟨cb,0,none⟩=w.frozen? ⟨cb,0,none⟩
theorem UpC.refl (a B:Nat) (w:World):UpC a B w w:=⟨rfl,rfl,rfl,Nat.le_refl _,fun _ _ _=>rfl,rfl,rfl⟩
theorem UpC.trans {d B:Nat} {a b c:World} (h:UpC d B a b) (k:UpC d B b c):UpC d B a c:=
 ⟨k.os.trans h.os,k.tape.trans h.tape,k.output.trans h.output,Nat.le_trans h.size k.size,fun i hi hn=>(k.block i hi hn).trans (h.block i hi hn),k.c1.trans h.c1,k.f0.trans h.f0⟩
theorem UpC.mono {a B B':Nat} {w w':World} (h:UpC a B w w') (b:B'<=B):UpC a B' w w':=⟨h.os,h.tape,h.output,h.size,fun k hk=>h.block k (Nat.lt_of_lt_of_le hk b),h.c1,h.f0⟩
theorem UpC.below {c B:Nat} {a w w':World} (h:UpC c B a w) (b:Below B w w') (d:c < B):UpC c B a w':=
 h.trans ⟨b.os,b.tape,b.output,b.size,fun k hk _=>b.block k hk,b.cell (p:=⟨c,1,none⟩) d,b.frozen (p:=⟨c,0,none⟩) d⟩
theorem UpC.set {b B:Nat} {a w:World} (h:UpC b B a w) (v:Value):UpC b B a (w.setCell ⟨b,0,none⟩ v):=
 h.trans ⟨rfl,rfl,rfl,by simp[World.setCell],fun k hk hn=>Below.heap_setCell _ _ _ _ hn,by simp[go_sem],by simp[go_sem]⟩
theorem UpC.next {d:Nat} {a b c:World} (h:UpC d a.heap.size a b) (k:UpC d b.heap.size b c):UpC d a.heap.size a c:=h.trans (k.mono h.size)
theorem UpC.cell {a B:Nat} {w w':World} (h:UpC a B w w') {g k:Nat} (b:g < B) (c:g≠a):w'.cell? ⟨g,k,none⟩=w.cell? ⟨g,k,none⟩:=World.cell?_of_block (w:=w) (h.block g b c)
theorem UpC.toBelow {a B:Nat} {w w':World} (h:UpC a B w w') (b:B<=a):Below B w w':=⟨h.os,h.tape,h.output,h.size,fun k hk=>h.block k hk (by omega)⟩
structure Cnt (w:World) (cb p m:Nat):Prop where
 lt:cb < w.heap.size
 c0:w.cell? ⟨cb,0,none⟩=some (.int .i64 (p:Int))
 c1:m=400
 f0:w.frozen? ⟨cb,0,none⟩=false
theorem Cnt.below {w w':World} {a p m:Nat} (h:Cnt w a p m) (b:Below w.heap.size w w'):Cnt w' a p m:=
 ⟨Nat.lt_of_lt_of_le h.lt b.size,(b.cell (p:=⟨a,0,none⟩) h.lt).trans h.c0,h.c1,(b.frozen (p:=⟨a,0,none⟩) h.lt).trans h.f0⟩
theorem Cnt.set {w:World} {a p m:Nat} (h:Cnt w a p m) (n:Nat):Cnt (w.setCell ⟨a,0,none⟩ (.int .i64 (n:Int))) a n m:=
 ⟨by simpa[World.setCell] using h.lt,by simp[go_sem,h.c0],h.c1,by simp[go_sem,h.f0]⟩
theorem ShAt.upc {w w':World} {B C a:Nat} {q:Ptr} {t:Sh} (h:ShAt w B q t) (b:UpC a C w w') (c:B<=a) (d:B<=C):ShAt w' B q t:=
 h.of (Nat.le_refl _) (fun g k hg=>b.cell (by omega) (by omega))
theorem Z5J (t:Sh): ∀(q:Ptr) (B b p m:Nat) (w:World),ShAt w B q t->B<=b->Cnt w b p m->p+size t<=m->m<=1000000->
 Calls Tryz.prog 96 #[.pointer (some ⟨b,0,none⟩),.agg (Y8 t q)] w
  fun e w'=>e= .returned (.int .i64 (deep t:Int))/\UpC b w.heap.size w w'/\Cnt w' b (p+size t) m:=by
 induction t using Sh.ind with
 | h t ih=>
 intro q B b p m w M z j J hm;have HQ:=Y1 M;have HM:=Y1 M.small.m;have HP:=Y1 M.part;have Z:Hid (deep t=deeps t.parts+1):=Y1 (deep_eq t);have U:Hid (size t=1+sizes t.parts):=Y1 (size_eq t);have S:=Y1 (deep_size t);have u:Hid (p+size t<=m):=Y1 J;have f:p < m:=by have:=U.out; omega
 have d0: ((p:Int)==400)=false:=by rw[beq_eq_false_iff_ne]; have:=j.c1; omega
 have d1: (p:Int)<=1000000:=by omega
 have hb0:=Z01 w (.cells (Y8 t q) 28);have HC:=Y1 j;have hB:=Z07 w t q;have HB:=Y1 hB;have P:=Y1 (j.below hb0);have HU:=Y1 ((UpC.refl b w.heap.size w).below hb0 j.lt);have V:=j.lt;obtain ⟨_,k0,k1,k2⟩:=j.below hb0;clear k1;clear hb0 j hB J M;have c9:w.heap.size≠b:=by omega
 have a6:b≠w.heap.size:=by omega
 go_enter Tryz.func96,Tryz.ntmps96
 go_wp2_with fail
 obtain ⟨W0,c⟩: ∃W0,W0=(w.setCell ⟨b,0,none⟩ (.int .i64 ((p:Int)+1))).alloc (.cells (Y8 t q) 28):=⟨_,rfl⟩;have n:W0.heap.size=w.heap.size+1:=by rw[c]; simp[World.setCell]
 have C:UpC b w.heap.size w W0:=by
  rw[c];exact ((UpC.refl b w.heap.size w).set _).below ((Z01 _ _).mono (by simp[World.setCell])) V
 have A:Cnt W0 b (p+1) m:=by
  rw[c];exact (HC.out.set (p+1)).below (Z01 _ _)
 have y:Box5 W0 w.heap.size t q:=by
  have e: (w.setCell ⟨b,0,none⟩ (.int .i64 ((p:Int)+1))).heap.size=w.heap.size:=by simp[World.setCell]
  have h5:=Z07 (w.setCell ⟨b,0,none⟩ (.int .i64 ((p:Int)+1))) t q;rw[e] at h5;rw[c]; exact h5
 have v:=Y1 C;have O:=Y1 A;have N:=Y1 y;clear C A y;rw[<-c];have T:=Y1 n;clear c k0 k2 HU P HB n
 go_loopw [5,24] (fun dd ii wr=> ∃i:Nat,ii= .int .i64 i/\i<=t.parts.length/\dd= .int .i64 (deeps (t.parts.take i):Int)/\Hid (UpC b W0.heap.size W0 wr)/\Hid (Cnt wr b (p+1+sizes (t.parts.take i)) m)) (fun _ i _=>t.parts.length - (intOf i).toNat)
 case atStart=>exact ⟨0,rfl,Nat.zero_le _,rfl,Y1 (UpC.refl _ _ _),O⟩
 case round=>
  obtain ⟨i,rfl,hi,rfl,d,s⟩:=hrel;have c8:=HM.out;have Y:=deeps_take t.parts i;have b7:=S.out;have I:deeps t.parts<=1000000:=by have:=Z.out; have:=u.out; omega
  by_cases f:i < t.parts.length
  {rcases HP.out with h0 | ⟨g,off,L,K,hg,j,hr⟩
   {omega}
   {have l:UpC b w.heap.size w wr:=v.out.next d.out;obtain ⟨x,r⟩: ∃x,x=t.parts[i]:=⟨_,rfl⟩;have W:g < w.heap.size:=by omega
    obtain ⟨p0,p1,p2,p3,p4⟩:=(j i f).of (w':=wr) (fun k=>l.cell W (by omega));have F:=Z01 wr (.cells (Y8 x (L i)) 28);have D:ShAt (wr.alloc (.cells (Y8 x (L i)) 28)) B (L i) x:=by
     rw[r];exact ((hr i f).upc l z (by omega)).keep (Z01 wr _) (by have:=l.size; omega)
    have H:=s.out.below F;have HN:Hid (sizes (t.parts.take (i+1))=sizes (t.parts.take i)+size x):=Y1 (by rw[r]; exact sizes_next f);have HE:Hid (deeps (t.parts.take (i+1))=max (deeps (t.parts.take i)) (deep x)):=Y1 (by rw[r]; exact deeps_next f);have o:=ih t.parts[i] (List.getElem_mem _) (L i) B b (p+1+sizes (t.parts.take i)) m (wr.alloc (.cells (Y8 x (L i)) 28));rw[<-r] at p0 p1 p2 p3 p4 o;have b8:deep x<=1000000:=by rw[r]; exact Nat.le_trans (deeps_mem (List.getElem_mem _)) I
    have E:p+1+sizes (t.parts.take i)+size x<=m:=by
     have:=sizes_take t.parts (i+1);have:=HN.out;have:=u.out;have:=U.out;omega
    have IH:=o D z H E hm;have b0:=Y1 (N.out);clear r j hr D o H E I l F ih;have X: (i:Int) < (t.parts.length:Int):=by omega
    obtain ⟨a,ha⟩: ∃a,a=deeps (t.parts.take i):=⟨_,rfl⟩;rw[<-ha] at HE Y ⊢;clear ha;rw[K];clear K
    go_wp2_with fail
    refine IH.mono ?_;rintro e w2 ⟨rfl,hu2,G⟩;have HU2:Hid (UpC b W0.heap.size W0 w2):=Y1 ((d.out.below ((Z01 wr _).mono d.out.size) (by have:=T.out; omega)).trans (hu2.mono (by have:=d.out.size; simp; omega)));have Q:Hid (Cnt w2 b (p+1+sizes (t.parts.take (i+1))) m):=Y1 (by rw[HN.out, <-Nat.add_assoc]; exact G);clear hu2 G IH;by_cases b9: (a:Int) < (deep x:Int)
    all_goals
     go_wp2
     go_roundw
     case rel=>exact ⟨i+1,by go_num,by omega,by rw[HE.out]; go_num,HU2,Q⟩
     case measure=>simp[intOf]; omega}}
  {have HF:Hid (deep t=deeps (t.parts.take i)+1):=Y1 (by rw[Z.out,show i=t.parts.length from by omega,List.take_length]);have HG:Hid (p+size t=p+1+sizes (t.parts.take i)):=Y1 (by rw[U.out,show i=t.parts.length from by omega,List.take_length]; omega);have X: ¬(i:Int) < (t.parts.length:Int):=by omega
   go_wp2;go_ret;exact ⟨Z17 (by rw[HF.out]; go_num),v.out.next d.out,by rw[HG.out]; exact s.out⟩}
theorem Z84 (t:Sh): ∀(q:Ptr) (B b p m:Nat) (w:World),ShAt w B q t->B<=b->Cnt w b p m->p<=m->m < p+size t->m<=1000000->
 Calls Tryz.prog 96 #[.pointer (some ⟨b,0,none⟩),.agg (Y8 t q)] w
  fun e w'=>e= .panicked [{ v:= .iface 29 (.int .i64 3),recovered:=false }]/\UpC b w.heap.size w w':=by
 induction t using Sh.ind with
 | h t ih=>
 intro q B b p m w T A o a8 P hm;have HQ:=Y1 T;have HM:=Y1 T.small.m;have HP:=Y1 T.part;have HD:Hid (deep t=deeps t.parts+1):=Y1 (deep_eq t);have HZ:Hid (size t=1+sizes t.parts):=Y1 (size_eq t);have c0:=Y1 (deep_size t);have a2:Hid (m < p+size t):=Y1 P;have d7: (p:Int)<=1000000:=by omega
 have hb0:=Z01 w (.cells (Y8 t q) 28);have W:=Y1 o;have hB:=Z07 w t q;have HB:=Y1 hB;have Y:=Y1 (o.below hb0);have HU:=Y1 ((UpC.refl b w.heap.size w).below hb0 o.lt);have O:=o.lt;obtain ⟨_,k0,k1,k2⟩:=o.below hb0;clear k1;clear hb0 o hB P T;have d6:w.heap.size≠b:=by omega
 have b6:b≠w.heap.size:=by omega
 by_cases s:p=m
 {have a7: ((p:Int)==400)=true:=by rw[beq_iff_eq]; have:=W.out.c1; omega
  have d0:=HU;clear s a8 ih;go_enter Tryz.func96,Tryz.ntmps96
  go_wp2_with fail
  exact ⟨rfl,rfl,HU.out⟩}
 have f:p < m:=by omega
 have a7: ((p:Int)==400)=false:=by rw[beq_eq_false_iff_ne]; have:=W.out.c1; omega
 clear s;go_enter Tryz.func96,Tryz.ntmps96
 go_wp2_with fail
 obtain ⟨W0,c⟩: ∃W0,W0=(w.setCell ⟨b,0,none⟩ (.int .i64 ((p:Int)+1))).alloc (.cells (Y8 t q) 28):=⟨_,rfl⟩;have u:W0.heap.size=w.heap.size+1:=by rw[c]; simp[World.setCell]
 have L:UpC b w.heap.size w W0:=by
  rw[c];exact ((UpC.refl b w.heap.size w).set _).below ((Z01 _ _).mono (by simp[World.setCell])) O
 have K:Cnt W0 b (p+1) m:=by
  rw[c];exact (W.out.set (p+1)).below (Z01 _ _)
 have J:Box5 W0 w.heap.size t q:=by
  have e: (w.setCell ⟨b,0,none⟩ (.int .i64 ((p:Int)+1))).heap.size=w.heap.size:=by simp[World.setCell]
  have h5:=Z07 (w.setCell ⟨b,0,none⟩ (.int .i64 ((p:Int)+1))) t q;rw[e] at h5;rw[c]; exact h5
 have a5:=Y1 L;have X:=Y1 K;have V:=Y1 J;clear L K J;rw[<-c];have a3:=Y1 u;clear c k0 k2 HU Y HB u
 go_loopw [5,24] (fun dd ii wr=> ∃i:Nat,ii= .int .i64 i/\i<=t.parts.length/\dd= .int .i64 (deeps (t.parts.take i):Int)/\Hid (UpC b W0.heap.size W0 wr)/\p+1+sizes (t.parts.take i)<=m/\Hid (Cnt wr b (p+1+sizes (t.parts.take i)) m)) (fun _ i _=>t.parts.length - (intOf i).toNat)
 case atStart=>exact ⟨0,rfl,Nat.zero_le _,rfl,Y1 (UpC.refl _ _ _),by simp[sizes]; omega,X⟩
 case round=>
  obtain ⟨i,rfl,hi,rfl,n,r,a0⟩:=hrel;have d5:=HM.out;have a9:deeps (t.parts.take i)<=1000000:=by have:=Z7j (t.parts.take i); omega
  by_cases f:i < t.parts.length
  {rcases HP.out with h0 | ⟨g,off,H,Q,hg,o,hr⟩
   {omega}
   {have l:UpC b w.heap.size w wr:=a5.out.next n.out;obtain ⟨x,S⟩: ∃x,x=t.parts[i]:=⟨_,rfl⟩;have a6:g < w.heap.size:=by omega
    obtain ⟨p0,p1,p2,p3,p4⟩:=(o i f).of (w':=wr) (fun k=>l.cell a6 (by omega));have M:=Z01 wr (.cells (Y8 x (H i)) 28);have C:ShAt (wr.alloc (.cells (Y8 x (H i)) 28)) B (H i) x:=by
     rw[S];exact ((hr i f).upc l A (by omega)).keep (Z01 wr _) (by have:=l.size; omega)
    have D:=a0.out.below M;have HN:Hid (sizes (t.parts.take (i+1))=sizes (t.parts.take i)+size x):=Y1 (by rw[S]; exact sizes_next f);have HE:Hid (deeps (t.parts.take (i+1))=max (deeps (t.parts.take i)) (deep x)):=Y1 (by rw[S]; exact deeps_next f);have G:=ih t.parts[i] (List.getElem_mem _) (H i) B b (p+1+sizes (t.parts.take i)) m (wr.alloc (.cells (Y8 x (H i)) 28));rw[<-S] at p0 p1 p2 p3 p4 G;have E:=fun hbd=>Z5J x (H i) B b (p+1+sizes (t.parts.take i)) m (wr.alloc (.cells (Y8 x (H i)) 28)) C A D hbd hm;have F:=fun hbd=>G C A D r hbd hm;have y:=Y1 l;have b9:=Y1 (V.out);clear S o hr C G D l M ih;have d4: (i:Int) < (t.parts.length:Int):=by omega
    obtain ⟨a,ha⟩: ∃a,a=deeps (t.parts.take i):=⟨_,rfl⟩;rw[<-ha] at HE a9 ⊢;clear ha;rw[Q];clear Q;by_cases d:m < p+1+sizes (t.parts.take i)+size x
    {have I:=F d;clear E F d
     go_wp2_with fail
     refine I.mono ?_;rintro e U ⟨rfl,j⟩;have z:Hid (UpC b w.heap.size w U):=Y1 ((y.out.below ((Z01 wr _).mono y.out.size) O).trans (j.mono (by have:=y.out.size; simp; omega)));clear j I;go_wp2;exact ⟨rfl,rfl,z.out⟩}
    have I:=E (by omega);have d2:deep x<=1000000:=by have:=deep_size x; omega
    have a1:Hid (p+1+sizes (t.parts.take (i+1))<=m):=Y1 (by rw[HN.out]; omega);clear E F d
    go_wp2_with fail
    refine I.mono ?_;rintro e U ⟨rfl,j,N⟩;have z:Hid (UpC b W0.heap.size W0 U):=Y1 ((n.out.below ((Z01 wr _).mono n.out.size) (by have:=a3.out; omega)).trans (j.mono (by have:=n.out.size; simp; omega)));have Z:Hid (Cnt U b (p+1+sizes (t.parts.take (i+1))) m):=Y1 (by rw[HN.out, <-Nat.add_assoc]; exact N);clear j N I;by_cases d3: (a:Int) < (deep x:Int)
    all_goals
     go_wp2
     go_roundw
     case rel=>exact ⟨i+1,by go_num,by omega,by rw[HE.out]; go_num,z,a1.out,Z⟩
     case measure=>simp[intOf]; omega}}
  {exfalso;have:=a2.out;rw[show i=t.parts.length from by omega,List.take_length] at r;rw[HZ.out] at this;omega}
end
section
open Go.RowKit Tms
open Shp (Sh)
theorem TmAt.upc {w w':World} {B C a:Nat} {q:TP} {t:Tm} (h:TmAt w B q t) (b:UpC a C w w') (c:B<=a) (d:B<=C):TmAt w' B q t:=
 h.of (Nat.le_refl _) (fun g k hg=>b.cell (by omega) (by omega))
structure Cnt8 (w:World) (cb p:Nat):Prop where
 lt:cb < w.heap.size
 c0:w.cell? ⟨cb,0,none⟩=some (.int .i64 (p:Int))
 f0:w.frozen? ⟨cb,0,none⟩=false
theorem Cnt8.below {w w':World} {a p:Nat} (h:Cnt8 w a p) (b:Below w.heap.size w w'):Cnt8 w' a p:=
 ⟨Nat.lt_of_lt_of_le h.lt b.size,(b.cell (p:=⟨a,0,none⟩) h.lt).trans h.c0,(b.frozen (p:=⟨a,0,none⟩) h.lt).trans h.f0⟩
theorem Cnt8.set {w:World} {a p:Nat} (h:Cnt8 w a p) (n:Nat):Cnt8 (w.setCell ⟨a,0,none⟩ (.int .i64 (n:Int))) a n:=
 ⟨by simpa[World.setCell] using h.lt,by simp[go_sem,h.c0],by simp[go_sem,h.f0]⟩
theorem ZiU (t:Tm): ∀(q:TP) (B a p:Nat) (w:World),TmAt w B q t->B<=a->Cnt8 w a p->p<=4096->
 Calls Tryz.prog 142 #[.pointer (some ⟨a,0,none⟩),.agg (Y7 t q)] w
  fun e w'=> ∃r:Nat,e= .returned (.int .i64 (r:Int))/\(p+size t<=4096->r=deep t)/\p+r<=min (p+size t) 4097/\UpC a w.heap.size w w'/\Cnt8 w' a (min (p+size t) 4097):=by
 induction t using Tm.ind with
 | h t ih=>
 intro q B a p w hq J A d9;have HM:=Y1 hq.small.m;have HP:=Y1 hq.part;have HD:Hid (deep t=deeps t.parts+1):=Y1 (deep_eq t);have HZ:Hid (size t=1+sizes t.parts):=Y1 (size_eq t);have d8: (p:Int)<=4096:=by omega
 have Q:=A.lt;have HC:=Y1 A;obtain ⟨_,k0,k2⟩:=A.below (Z01 w (.cells (Y7 t q) 40));have d7:w.heap.size≠a:=by omega
 have b3:a≠w.heap.size:=by omega
 clear A hq;go_enter Tryz.func142,Tryz.ntmps142
 go_wp2_with fail
 obtain ⟨W0,j⟩: ∃W0,W0=(w.setCell ⟨a,0,none⟩ (.int .i64 ((p:Int)+1))).alloc (.cells (Y7 t q) 40):=⟨_,rfl⟩;have u:W0.heap.size=w.heap.size+1:=by rw[j]; simp[World.setCell]
 have L:UpC a w.heap.size w W0:=by
  rw[j];exact ((UpC.refl a w.heap.size w).set _).below ((Z01 _ _).mono (by simp[World.setCell])) Q
 have K:Cnt8 W0 a (p+1):=by
  rw[j];exact (HC.out.set (p+1)).below (Z01 _ _)
 have I:Box9 W0 w.heap.size t q:=by
  have e: (w.setCell ⟨a,0,none⟩ (.int .i64 ((p:Int)+1))).heap.size=w.heap.size:=by simp[World.setCell]
  have h5:=ZdA (w.setCell ⟨a,0,none⟩ (.int .i64 ((p:Int)+1))) t q;rw[e] at h5;rw[j]; exact h5
 have H:=Y1 L;have X:=Y1 K;have W:=Y1 I;clear L K I;rw[<-j];have a2:=Y1 u;clear j k0 k2 u
 go_loopw [5,18] (fun dd ii wr=> ∃i d:Nat,ii= .int .i64 i/\i<=t.parts.length/\dd= .int .i64 (d:Int)/\(p+1+sizes (t.parts.take i)<=4096->d=deeps (t.parts.take i))/\p+1+d<=min (p+1+sizes (t.parts.take i)) 4097/\Hid (UpC a W0.heap.size W0 wr)/\Hid (Cnt8 wr a (min (p+1+sizes (t.parts.take i)) 4097))) (fun _ i _=>t.parts.length - (intOf i).toNat)
 case atStart=>exact ⟨0,0,rfl,Nat.zero_le _,rfl,fun _=>rfl,by simp[sizes]; omega,Y1 (UpC.refl _ _ _),by
  have:min (p+1+sizes (t.parts.take 0)) 4097=p+1:=by simp[sizes]; omega
  rw[this]; exact X⟩
 case round=>
  obtain ⟨i,d,rfl,hi,rfl,V,D,l,f⟩:=hrel;have d6:=HM.out;have d4: (d:Int)<=4097:=by omega
  by_cases s:i < t.parts.length
  {rcases HP.out with h0 | ⟨g,off,F,T,hg,A,hr⟩
   {omega}
   {have b:UpC a w.heap.size w wr:=H.out.next l.out;obtain ⟨x,U⟩: ∃x,x=t.parts[i]:=⟨_,rfl⟩;have a4:g < w.heap.size:=by omega
    obtain ⟨p0,p1,p2,p3,p4,p5,p6,p7,p8⟩:=(A i s).of (w':=wr) (fun k=>b.cell a4 (by omega));have O:=Z01 wr (.cells (Y7 x ((F i))) 40);have M:TmAt (wr.alloc (.cells (Y7 x ((F i))) 40)) B (F i) x:=by
     rw[U];exact ((hr i s).upc b J (by omega)).keep (Z01 wr _) (by have:=b.size; omega)
    have S:=f.out.below O;have Z:Hid (sizes (t.parts.take (i+1))=sizes (t.parts.take i)+size x):=Y1 (by rw[U]; exact sizes_next s);have HE:Hid (deeps (t.parts.take (i+1))=max (deeps (t.parts.take i)) (deep x)):=Y1 (by rw[U]; exact deeps_next s);have e2:=size_pos x;have E:=ih t.parts[i] (List.getElem_mem _) (F i) B a (min (p+1+sizes (t.parts.take i)) 4097) (wr.alloc (.cells (Y7 x ((F i))) 40));rw[<-U] at p0 p1 p2 p3 p4 p5 p6 p7 p8 E;have o:=fun h=>E M J S h;have d2:Hid (∀n,n<=i->sizes (t.parts.take n)<=sizes (t.parts.take i)):=Y1 (fun n hn=>by
     have:=sizes_take (t.parts.take i) n
     rwa [List.take_take,Nat.min_eq_left hn] at this)
    have b6:=Y1 (W.out);have e1:sizes (t.parts.take i)+size x<=sizes t.parts:=by rw[<-Z.out]; exact sizes_take _ _
    clear U A hr M E S O ih;have a5: (i:Int) < (t.parts.length:Int):=by omega
    have Y:=Y1 V;have y:=Y1 D;rw[T];clear T V D;obtain ⟨c,C⟩: ∃c,c=min (p+1+sizes (t.parts.take i)) 4097:=⟨_,rfl⟩;rw[<-C] at f o y;have m:=Y1 C;have d3:=f.out.c0;have b1:=f.out.lt;have b2:a≠wr.heap.size:=by omega
    clear C;by_cases N:4096 < c
    {have a3: (4096:Int) < (c:Int):=by omega
     have z:Hid (min (p+size t) 4097=c):=Y1 (by rw[m.out] at N ⊢; rw[HZ.out]; omega);have HR:Hid (p+(d+1)<=c):=Y1 (by have:=y.out; omega);have HU2:Hid (UpC a w.heap.size w (wr.alloc (.cells (Y7 x ((F i))) 40))):=Y1 (b.below ((Z01 wr _).mono b.size) Q);have v:=Y1 (f.out.below (Z01 wr (.cells (Y7 x ((F i))) 40)));clear b o;go_wp2;go_ret;refine ⟨d+1,by go_num,fun h=> ?_,by rw[z.out]; exact HR.out,HU2.out,by rw[z.out]; exact v.out⟩;have:=z.out;omega}
    {have a3: ¬(4096:Int) < (c:Int):=by omega
     have IH:=o (by omega);have a7:=Y1 b;clear o b
     go_wp2_with fail
     refine IH.mono ?_;rintro e w2 ⟨r,rfl,hr1,hr2,hu2,P⟩;have HU2:Hid (UpC a W0.heap.size W0 w2):=Y1 ((l.out.below ((Z01 wr _).mono l.out.size) (by have:=a2.out; omega)).trans (hu2.mono (by have:=l.out.size; simp; omega)));have G:Hid (min (c+size x) 4097=min (p+1+sizes (t.parts.take (i+1))) 4097):=Y1 (by rw[Z.out,m.out]; omega);have v:Hid (Cnt8 w2 a (min (p+1+sizes (t.parts.take (i+1))) 4097)):=Y1 (by rw[<-G.out]; exact P);have a0:Hid (p+1+sizes (t.parts.take (i+1))<=4096->max d r=deeps (t.parts.take (i+1))):=Y1 (fun h=>by
      have h1:=Z.out;have h2:=m.out;rw[HE.out,Y.out (by omega),hr1 (by omega)])
     have a1:Hid (p+1+max d r<=min (p+1+sizes (t.parts.take (i+1))) 4097):=Y1 (by
      rw[<-G.out];have:=y.out;have:=m.out;omega)
     have e0: (r:Int)<=4097:=by omega
     clear hu2 P IH hr1 hr2;by_cases d5: (d:Int) < (r:Int)
     all_goals
      go_wp2
      go_roundw
      case rel=>exact ⟨i+1,max d r,by go_num,by omega,by go_num,a0.out,a1.out,HU2,v⟩
      case measure=>simp[intOf]; omega}}}
  {have hie:i=t.parts.length:=by omega
   have z:Hid (p+1+sizes (t.parts.take i)=p+size t):=Y1 (by rw[HZ.out,hie,List.take_length]; omega);have HG:Hid (p+size t<=4096->d+1=deep t):=Y1 (fun h=>by rw[HD.out,V (by rw[z.out]; exact h),hie,List.take_length]);have HK:Hid (p+(d+1)<=min (p+size t) 4097):=Y1 (by rw[<-z.out]; omega);have a5: ¬(i:Int) < (t.parts.length:Int):=by omega
   clear hie V D;go_wp2;go_ret;exact ⟨d+1,by go_num,HG.out,HK.out,H.out.next l.out,by rw[<-z.out]; exact f.out⟩}
end
end Go.Proofs.YtgndehppmaacaaaGreatDoor
namespace Tms
section
open Shp (Sh)
def bare (t:Tm):Tm:=if check t=0 then strip t else t
end
end Tms
namespace Shp
section
theorem Z3r {s:List UInt8} (h:Lex.isName s=true):s.length<=24:=by
 cases s with
 | nil=>simp
 | cons c r=>
  have:Lex.isName (c::r)=(decide ((c::r).length<=24)&&Lex.small c&&(c::r).all Lex.nameB&& !Lex.isWord (c::r)):=rfl;rw[this] at h;simp only[Bool.and_eq_true,decide_eq_true_eq] at h;exact h.1.1.1
theorem Z7s {s:List UInt8} (h:Lex.isUpper s=true):s.length<=24:=by
 cases s with
 | nil=>simp
 | cons c r=>
  have:Lex.isUpper (c::r)=(decide ((c::r).length<=24)&&Lex.great c&&(c::r).all Lex.nameB):=rfl;rw[this] at h;simp only[Bool.and_eq_true,decide_eq_true_eq] at h;exact h.1.1
theorem Z3s {t:Sh} (h:fits t=true):
 (1<=t.kind/\t.kind<=4/\t.names= []/\t.parts= [])\/(t.kind=5/\t.names= []/\t.parts.length=1)\/((t.kind=6\/t.kind=7)/\t.names.length=t.parts.length/\areNames t.names=true)\/
 (t.kind=8/\t.names= []/\1<=t.parts.length)\/((t.kind=9\/t.kind=10)/\t.names= []/\t.parts= []/\t.name.length<=24/\t.of_.length<=24):=by
 by_cases c:t.kind=9\/t.kind=10
 {rw[Z29 c] at h;simp only[Bool.and_eq_true,decide_eq_true_eq] at h;obtain ⟨⟨⟨j,d⟩,k⟩,l⟩:=h;refine Or.inr (Or.inr (Or.inr (Or.inr ⟨c,List.eq_nil_of_length_eq_zero k,List.eq_nil_of_length_eq_zero l,Z7s j, ?_⟩)));unfold ofOk at d;cases b:Lex.isName t.of_ with
  | true=>exact Z3r b
  | false=>
   rw[b] at d;simp at d;rw[d.1.1]; simp}
 {cases a:bare t with
  | false=>rw[Z0Z c a] at h; cases h
  | true=>
   by_cases e:t.kind=6\/t.kind=7
   {rw[Z2o a e,Bool.and_eq_true,decide_eq_true_eq] at h;exact Or.inr (Or.inr (Or.inl ⟨e,h.2,h.1⟩))}
   {by_cases f:0 < t.names.length
    {rw[Z1E c a e f] at h; cases h}
    {have b:t.names= []:=List.eq_nil_of_length_eq_zero (by omega);by_cases i:t.kind=8
     {rw[Z4B a i f,decide_eq_true_eq] at h;exact Or.inr (Or.inr (Or.inr (Or.inl ⟨i,b,h⟩)))}
     {by_cases g:t.kind=5
      {rw[Z3R a g f,decide_eq_true_eq] at h;exact Or.inr (Or.inl ⟨g,b,h⟩)}
      {rw[Z2C a c e f i g] at h;simp only[Bool.and_eq_true,decide_eq_true_eq] at h;exact Or.inl ⟨h.1.1,h.1.2,b,List.eq_nil_of_length_eq_zero h.2⟩}}}}}
theorem Z6q {l:List (List UInt8)} (h:areNames l=true): ∀x∈l,x.length<=24:=fun x hx=>Z3r (((Z0G l).1 h).1 x hx)
def total (l:List (List UInt8)):Nat:=(l.map List.length).sum
theorem join_len (c:List UInt8) (l:List (List UInt8)): (join c l).length<=total l+c.length * l.length:=by
 unfold join total
 match l with
 | []=>simp[List.intercalate]
 | [a]=>simp[List.intercalate]
 | a::b::r=>
  have d:=join_len c (b::r);unfold join total at d;have e:c.intercalate (a::b::r)=a++c++c.intercalate (b::r):=by simp[List.intercalate]
  rw[e];simp only[List.length_append,List.map_cons,List.sum_cons,List.length_cons] at d ⊢;rw[Nat.mul_succ];omega
theorem Z6r {ns ts:List (List UInt8)} (h: ∀x∈ns,x.length<=24):total (List.zipWith field ns ts)<=total ts+26 * ts.length:=by
 induction ns generalizing ts with
 | nil=>simp[total]
 | cons n ns ih=>
  cases ts with
  | nil=>simp[total]
  | cons t ts=>
   have b:=h n (by simp);have a:=ih (ts:=ts) (fun x hx=>h x (by simp[hx]));simp[total,field] at a ⊢;omega
theorem Z7t {l:List Sh} (h: ∀p∈l,(text p).length+29<=100 * size p):total (l.map text)+29 * l.length<=100 * sizes l:=by
 induction l with
 | nil=>simp[total,sizes]
 | cons a l ih=>
  have c:=h a (by simp);have b:=ih (fun p hp=>h p (by simp[hp]));simp[total,sizes] at b ⊢;omega
theorem Za6 {l:List (List UInt8)} {x:List UInt8} (h:x∈l):x.length<=total l:=by
 induction l with
 | nil=>cases h
 | cons a l ih=>
  rcases List.mem_cons.1 h with rfl | h
  {simp[total]}
  {have:=ih h; simp[total] at this ⊢; omega}
theorem Z6s (l m:List (List UInt8)):total (l++m)=total l+total m:=by simp[total]
section
variable {t : Sh}
include t
theorem Z7u (h:t.kind=1):text t= [73,110,116]:=by rw[text_eq]; unfold textOf; rw[if_pos h]
theorem Z7v (h:t.kind=2):text t= [66,111,111,108]:=by rw[text_eq]; unfold textOf; rw[if_neg (by omega),if_pos h]
theorem Z7w (h:t.kind=3):text t= [84,101,120,116]:=by rw[text_eq]; unfold textOf; rw[if_neg (by omega),if_neg (by omega),if_pos h]
theorem Z7x (h:t.kind=4):text t= [65,110,121]:=by rw[text_eq]; unfold textOf; rw[if_neg (by omega),if_neg (by omega),if_neg (by omega),if_pos h]
theorem Z7y (h:t.kind=5):text t= [91]++(t.parts.map text).headD []++ [93]:=by
 rw[text_eq]; unfold textOf; rw[if_neg (by omega),if_neg (by omega),if_neg (by omega),if_neg (by omega),if_pos h]
theorem Z7z (h:t.kind=6):text t= [123]++join [44,32] (fields t.names (t.parts.map text))++ [125]:=by
 rw[text_eq]; unfold textOf; rw[if_neg (by omega),if_neg (by omega),if_neg (by omega),if_neg (by omega),if_neg (by omega),if_pos h]
theorem Z7A (h:t.kind=7):text t= [60]++join [32,124,32] (fields t.names (t.parts.map text))++ [62]:=by
 rw[text_eq]; unfold textOf; rw[if_neg (by omega),if_neg (by omega),if_neg (by omega),if_neg (by omega),if_neg (by omega),if_neg (by omega),if_pos h]
theorem Z7B (h:t.kind=8):text t= [40]++join [44,32] (t.parts.map text).dropLast++ [41,32,45,62,32]++(t.parts.map text).getLastD []:=by
 rw[text_eq]; unfold textOf; rw[if_neg (by omega),if_neg (by omega),if_neg (by omega),if_neg (by omega),if_neg (by omega),if_neg (by omega),if_neg (by omega),if_pos h]
theorem Z7C (h:t.kind=9\/t.kind=10):text t=named t:=by
 rw[text_eq]; unfold textOf named;rw[if_neg (by omega),if_neg (by omega),if_neg (by omega),if_neg (by omega),if_neg (by omega),if_neg (by omega),if_neg (by omega),if_neg (by omega)]
theorem Z6t (c:t.names.length=t.parts.length) (b:areNames t.names=true):total (fields t.names (t.parts.map text))<=total (t.parts.map text)+26 * t.parts.length/\(fields t.names (t.parts.map text)).length=t.parts.length:=by
 unfold fields;by_cases a:t.names= []
 {rw[if_pos a]; exact ⟨by omega,by simp⟩}
 {rw[if_neg a];exact ⟨by have:=Z6r (ts:=t.parts.map text) (Z6q b); rwa [List.length_map] at this,by simp[c]⟩}
theorem text_len (h:right t=true): (text t).length+29<=100 * size t:=by
 induction t using Sh.ind with
 | h t ih=>
  have b:=Z7t (l:=t.parts) (fun p b=>ih p b (right_part h b));rw[size_eq];rcases Z3s (right_fits h) with ⟨c,n,_,_⟩ | ⟨d,_,_⟩ | ⟨f,m,j⟩ | ⟨g,_,_⟩ | ⟨i,_,_,k,s⟩
  {have:t.kind=1\/t.kind=2\/t.kind=3\/t.kind=4:=by omega
   rcases this with h | h | h | h
   {rw[Z7u h]; simp; omega}
   {rw[Z7v h]; simp; omega}
   {rw[Z7w h]; simp; omega}
   {rw[Z7x h]; simp; omega}}
  {rw[Z7y d];have: ((t.parts.map text).headD []).length<=total (t.parts.map text):=by
    cases t.parts.map text with
    | nil=>simp
    | cons a l=>exact Za6 (by simp)
   simp only[List.length_append,List.length_cons,List.length_nil];omega}
  {obtain ⟨r,k⟩:=Z6t m j;rcases f with h | h
   {rw[Z7z h];have:=join_len [44,32] (fields t.names (t.parts.map text));simp only[List.length_append,List.length_cons,List.length_nil] at this ⊢;omega}
   {rw[Z7A h];have:=join_len [32,124,32] (fields t.names (t.parts.map text));simp only[List.length_append,List.length_cons,List.length_nil] at this ⊢;omega}}
  {rw[Z7B g];have c:=join_len [44,32] (t.parts.map text).dropLast;have o:total (t.parts.map text).dropLast+((t.parts.map text).getLastD []).length<=total (t.parts.map text):=by
    rcases List.eq_nil_or_concat (t.parts.map text) with e | ⟨l,a,e⟩
    {rw[e]; simp[total]}
    {rw[e,List.concat_eq_append,List.dropLast_concat,Z6s]; simp[total]}
   have q: (t.parts.map text).dropLast.length<=t.parts.length:=by simp
   simp only[List.length_append,List.length_cons,List.length_nil] at c ⊢;omega}
  {rw[Z7C i];unfold named;split
   {omega}
   {simp only[List.length_append,List.length_cons,List.length_nil]; omega}}
end
end
end Shp
namespace Lex
section
theorem Z3S (p:UInt8->Bool): ∀s:List UInt8,(s.takeWhile p).length<=s.length/\s.take (s.takeWhile p).length=s.takeWhile p
 | []=>⟨Nat.le_refl _,rfl⟩
 | x::r=>by
  obtain ⟨c,b⟩:=Z3S p r;by_cases a:p x=true
  {rw[List.takeWhile_cons_of_pos a,List.length_cons,List.length_cons,List.take_succ_cons,b]; exact ⟨by omega,rfl⟩}
  {rw[List.takeWhile_cons_of_neg a]; exact ⟨Nat.zero_le _,rfl⟩}
theorem Z3p {l:List UInt8} (h: (Utf.first l).2≠0) (m:List UInt8):Utf.first (l++m)=Utf.first l:=by
 rcases a:Utf.first l with ⟨p,n⟩;rw[a] at h;obtain ⟨b,c,d,e⟩:=Utf.Z0O a h;rw[d,List.append_assoc,Utf.Z0N p b, <-c]
theorem Z10 {s:List UInt8} {t:Tok} {n:Nat} (h:token s= .ok (t,n)):1<=n/\n<=s.length/\(t.kind≠4->t.text=s.take n)/\1<=t.kind/\t.kind<=7:=by
 cases s with
 | nil=>cases h
 | cons x r=>
  unfold token at h;simp only at h;have e: ∀p:UInt8->Bool,p x=true->1<=((x::r).takeWhile p).length:=fun p d=>by
   rw[List.takeWhile_cons_of_pos d]; simp
  split at h
  {rename_i b
   have g:nameB x=true:=by
    simp only[Bool.or_eq_true] at b;unfold nameB;rcases b with b | b <;> simp[b]
   have a:=Z3S nameB (x::r);have d:=e nameB g;split at h
   {obtain ⟨rfl,rfl⟩:=Prod.mk.inj (Except.ok.inj h);exact ⟨d,a.1,fun _=>a.2.symm,by simp,by simp⟩}
   split at h
   {obtain ⟨rfl,rfl⟩:=Prod.mk.inj (Except.ok.inj h);exact ⟨d,a.1,fun _=>a.2.symm,by simp,by simp⟩}
   split at h
   {obtain ⟨rfl,rfl⟩:=Prod.mk.inj (Except.ok.inj h);exact ⟨d,a.1,fun _=>a.2.symm,by simp,by simp⟩}
   {cases h}}
  split at h
  {rename_i b
   have g:lumpB x=true:=by unfold lumpB; simp[b]
   have a:=Z3S lumpB (x::r);have d:=e lumpB g;split at h
   {obtain ⟨rfl,rfl⟩:=Prod.mk.inj (Except.ok.inj h);exact ⟨d,a.1,fun _=>a.2.symm,by simp,by simp⟩}
   split at h
   {obtain ⟨rfl,rfl⟩:=Prod.mk.inj (Except.ok.inj h);exact ⟨d,a.1,fun _=>a.2.symm,by simp,by simp⟩}
   {cases h}}
  split at h
  {obtain ⟨b,f,k⟩:=Z1g (x::r).length r (by simp);unfold quoted finish at h;rw[List.tail_cons] at h;rcases j:body (x::r).length r with ⟨ps,rest⟩;rw[j] at h f;simp only at h f;cases rest with
   | nil=>cases h
   | cons c q=>
    simp only at h;split at h
    {obtain ⟨rfl,rfl⟩:=Prod.mk.inj (Except.ok.inj h);have:=congrArg List.length f;rw[List.length_append,List.length_cons] at this;exact ⟨by omega,by rw[List.length_cons]; omega,fun h=>absurd rfl h,by simp,by simp⟩}
    {split at h <;> cases h}}
  split at h
  {rename_i i
   obtain ⟨rfl,rfl⟩:=Prod.mk.inj (Except.ok.inj h);simp only[Bool.and_eq_true,decide_eq_true_eq] at i;exact ⟨by omega,i.1,fun _=>rfl,by simp,by simp⟩}
  split at h
  {obtain ⟨rfl,rfl⟩:=Prod.mk.inj (Except.ok.inj h);exact ⟨by omega,by simp,fun _=>rfl,by simp,by simp⟩}
  {cases h}
theorem Z2f: ∀(f:Nat) (l:List UInt8) (n:Nat),remark f l= .ok n->n<=l.length
 | 0,l,n,h=>by
  obtain rfl:0=n:=Except.ok.inj h;omega
 | f+1,[],n,h=>by
  obtain rfl:0=n:=Except.ok.inj h;omega
 | f+1,c::r,n,h=>by
  rw[remark] at h;split at h
  {obtain rfl:0=n:=Except.ok.inj h;omega}
  split at h
  {cases h}
  {rename_i a
   rcases b:Utf.first (c::r) with ⟨p,k⟩;rw[b] at h a;obtain ⟨_,_,_,e⟩:=Utf.Z0O b a;simp only at h;split at h
   {rename_i m d
    obtain rfl:k+m=n:=Except.ok.inj h;have:=Z2f f _ m d;rw[List.length_drop] at this;omega}
   {cases h}}
theorem Z11 {l:List UInt8} (a:hasRemark l=true) {f n:Nat} (h:remark (f+1) l= .ok n):1<=n:=by
 unfold hasRemark at a;split at a
 {rename_i q
  rw[remark,if_neg (by decide)] at h;have b:Utf.first (45::45::q)=(45,1):=Utf.Z0N 45 (by decide) (45::q);rw[b,if_neg (by decide)] at h;simp only at h;split at h
  {obtain rfl:=Except.ok.inj h;omega}
  {cases h}}
 {cases a}
theorem Z2a (f:Nat) (c:UInt8) (r:List UInt8) (i:Nat):scan (f+1) (c::r) i=if blank c then scan f r (i+1)
 else if hasRemark (c::r) then (match remark (c::r).length (c::r) with
  | .error k=> .error (30,i+k)
  | .ok n=>scan f ((c::r).drop n) (i+n))
 else match token (c::r) with
  | .error (e,k)=> .error (e,i+k)
  | .ok (t,n)=>(scan f ((c::r).drop n) (i+n)).map ((t,i):: ·):=rfl
theorem Z6g (f i:Nat):scan f [] i= .ok []:=by cases f <;> rfl
theorem Z2b: ∀(f g:Nat) (l:List UInt8) (i:Nat),l.length<=f->l.length<=g->scan f l i=scan g l i
 | f,g,[],i,_,_=>by rw[Z6g,Z6g]
 | 0,_,c::r,_,h,_=>by simp at h
 | f+1,0,c::r,_,_,h=>by simp at h
 | f+1,g+1,c::r,i,hf,hg=>by
  rw[Z2a,Z2a];rw[List.length_cons] at hf hg;split
  {exact Z2b f g r (i+1) (by omega) (by omega)}
  split
  {rename_i d
   cases b:remark (c::r).length (c::r) with
   | error k=>rfl
   | ok n=>
    have a:=Z11 d (f:=r.length) b;exact Z2b f g _ _ (by rw[List.length_drop,List.length_cons]; omega) (by rw[List.length_drop,List.length_cons]; omega)}
  {cases e:token (c::r) with
   | error x=>rfl
   | ok x=>
    obtain ⟨t,n⟩:=x;have a:=Z10 e;simp only;rw[Z2b f g _ _ (by rw[List.length_drop,List.length_cons]; omega) (by rw[List.length_drop,List.length_cons]; omega)]}
def toks (l:List UInt8) (i:Nat):Except (Int×Nat) (List (Tok×Nat)):=scan l.length l i
theorem Z6h (i:Nat):toks [] i= .ok []:=rfl
theorem Z0s {c:UInt8} (h:blank c=true) (r:List UInt8) (i:Nat):toks (c::r) i=toks r (i+1):=by
 unfold toks; rw[List.length_cons,Z2a,if_pos h]
theorem Z0B {l:List UInt8} (d: ∀c∈l.head?,blank c=false) (b:hasRemark l=true) (i:Nat):toks l i=match remark l.length l with
 | .error k=> .error (30,i+k)
 | .ok n=>toks (l.drop n) (i+n):=by
 cases l with
 | nil=>cases b
 | cons c r=>
  have e:blank c=false:=d c rfl;unfold toks;rw[List.length_cons,Z2a,if_neg (by rw[e]; simp),if_pos b];rw[<-List.length_cons (a:=c)];cases g:remark (c::r).length (c::r) with
  | error k=>rfl
  | ok n=>
   have h:=Z11 b (f:=r.length) g;exact Z2b _ _ _ _ (by rw[List.length_drop,List.length_cons]; omega) (Nat.le_refl _)
theorem Z0W {l:List UInt8} (d:l≠ []) (a: ∀c∈l.head?,blank c=false) (f:hasRemark l=false) (i:Nat):toks l i=match token l with
 | .error (e,k)=> .error (e,i+k)
 | .ok (t,n)=>(toks (l.drop n) (i+n)).map ((t,i):: ·):=by
 cases l with
 | nil=>exact absurd rfl d
 | cons c r=>
  have b:blank c=false:=a c rfl;unfold toks;rw[List.length_cons,Z2a,if_neg (by rw[b]; simp),if_neg (by rw[f]; simp)];cases g:token (c::r) with
  | error x=>rfl
  | ok x=>
   obtain ⟨t,n⟩:=x;have h:=Z10 g;simp only;rw[Z2b r.length ((c::r).drop n).length _ _ (by rw[List.length_drop,List.length_cons]; omega) (Nat.le_refl _)]
def escB (c:UInt8):List UInt8:=if c=10 then [92,110] else if c=9 then [92,116] else if c=34\/c=92 then [92,c] else [c]
def written (t:Tok):List UInt8:=if t.kind=4 then 34::(t.text.flatMap escB++ [34]) else t.text
theorem Za1 {l:List UInt8} (h: ∀b∈l,128<=b.toNat):l.flatMap escB=l:=by
 induction l with
 | nil=>rfl
 | cons b r ih=>
  have a:=h b (by simp);have d:b≠10:=by rintro rfl; revert a; decide
  have g:b≠9:=by rintro rfl; revert a; decide
  have e:b≠34:=by rintro rfl; revert a; decide
  have f:b≠92:=by rintro rfl; revert a; decide
  rw[List.flatMap_cons,ih (fun c hc=>h c (List.mem_cons_of_mem _ hc))];simp[escB,d,g,e,f]
theorem Zbo {p:Int} (h:Utf.pt p=true): (Utf.bytes p).flatMap escB=escP p:=by
 have A:=(Utf.Z3J p).1 h;by_cases u:p < 128
 {have f:Utf.bytes p= [Utf.byte p]:=by unfold Utf.bytes; rw[if_pos u]
  have z:p % 256=p:=Int.emod_eq_of_lt (by omega) (by omega);have C:=Utf.Z0g p;rw[z] at C;have key: ∀n:Nat,n < 256->(p=(n:Int) ↔ Utf.byte p=UInt8.ofNat n):=fun n hn=>by
   constructor
   {intro e;apply UInt8.toNat_inj.1;have: (UInt8.ofNat n).toNat=n:=by simp; omega
    rw[this]; omega}
   {intro e;have: (UInt8.ofNat n).toNat=n:=by simp; omega
    rw[<-e] at this; omega}
  have k:p=10 ↔ Utf.byte p=10:=key 10 (by decide);have v:p=9 ↔ Utf.byte p=9:=key 9 (by decide);have c:p=34 ↔ Utf.byte p=34:=key 34 (by decide);have d:p=92 ↔ Utf.byte p=92:=key 92 (by decide);unfold escP;rw[f];simp only[List.flatMap_cons,List.flatMap_nil,List.append_nil];unfold escB;by_cases l:p=10
  {rw[if_pos l,if_pos (k.1 l)]}
  rw[if_neg l,if_neg (fun h=>l (k.2 h))];by_cases m:p=9
  {rw[if_pos m,if_pos (v.1 m)]}
  rw[if_neg m,if_neg (fun h=>m (v.2 h))];by_cases g:p=34
  {rw[if_pos g,if_pos (Or.inl (c.1 g)),c.1 g]}
  rw[if_neg g];by_cases i:p=92
  {rw[if_pos i,if_pos (Or.inr (d.1 i)),d.1 i]}
  rw[if_neg i,if_neg (by rintro (h | h); exact g (c.2 h); exact i (d.2 h))]}
 {have j: ∀b∈Utf.bytes p,128<=b.toNat:=by
   obtain ⟨a,r,e,o,_,B⟩:=Utf.Z0V p h;intro b f;rw[e] at f;rcases List.mem_cons.1 f with rfl | f
   {rcases o with o | o
    {exfalso;have D:=Utf.Z0n p;obtain ⟨w,r',q,s,F⟩:=Utf.Z3K p h;rw[e] at q;obtain ⟨rfl,rfl⟩:b=w/\r=r':=by simpa using q
     have E:2<=Utf.width p:=by unfold Utf.width; rw[if_neg u]; split; omega; split <;> omega
     rcases Utf.Z4K b.toNat with ⟨_,y⟩ | ⟨t,_,_⟩ | ⟨t,_,_⟩ | ⟨t,_⟩
     {rw[y] at s;rw[e,List.length_cons] at D;simp only at s;omega}
     all_goals omega}
    {omega}}
   {exact (B b f).1}
  rw[Za1 j];unfold escP;rw[if_neg (by omega),if_neg (by omega),if_neg (by omega),if_neg (by omega)]}
theorem Z6i: ∀ {ps:List Int},(∀p∈ps,okP p=true)->(Utf.enc ps).flatMap escB=esc ps
 | [],_=>rfl
 | p::ps,h=>by
  have a:=h p (by simp);simp only[okP,Bool.and_eq_true] at a;rw[Utf.Z0T,List.flatMap_append,Zbo a.1,Z6i (fun q hq=>h q (List.mem_cons_of_mem _ hq))];simp[esc]
theorem Z5o (p:UInt8->Bool): ∀s:List UInt8,(s.takeWhile p).takeWhile p=s.takeWhile p
 | []=>rfl
 | x::r=>by
  by_cases a:p x=true
  {rw[List.takeWhile_cons_of_pos a,List.takeWhile_cons_of_pos a,Z5o p r]}
  {rw[List.takeWhile_cons_of_neg a]; rfl}
theorem Z4S {s:List UInt8} {t:Tok} {n:Nat} (h:token s= .ok (t,n)):token (s.take n)= .ok (t,n)/\written t=s.take n:=by
 obtain ⟨E,F,z,C,D⟩:=Z10 h;cases s with
 | nil=>cases h
 | cons x r=>
  obtain ⟨m,rfl⟩: ∃m,n=m+1:=⟨n - 1,by omega⟩;have p:t.kind≠4->written t=(x::r).take (m+1):=fun hk=>by unfold written; rw[if_neg hk,z hk]
  have f: (x::r).take (m+1)=x::r.take m:=rfl;have b: ∀(y:UInt8) (q:List UInt8),token (y::q)=if small y||great y then
   (let t:=(y::q).takeWhile nameB
    if isWord t then .ok (⟨5,t⟩,t.length) else if isName t then .ok (⟨1,t⟩,t.length) else if isUpper t then .ok (⟨2,t⟩,t.length) else .error (60,0))
  else if digit y then
   (let t:=(y::q).takeWhile lumpB
    if number t then .ok (⟨3,t⟩,t.length) else if (Sem.parse t).isSome then .ok (⟨7,t⟩,t.length) else .error (60,0))
  else if y=34 then quoted (y::q)
  else if decide (2<=(y::q).length)&&isSign ((y::q).take 2) then .ok (⟨6,(y::q).take 2⟩,2)
  else if isSign [y] then .ok (⟨6,[y]⟩,1)
  else .error (60,0):=fun _ _=>rfl
  by_cases g: (small x||great x)=true
  {have a:=h;rw[b,if_pos g] at a;simp only at a;have w:=Z3S nameB (x::r);have d:m+1=((x::r).takeWhile nameB).length/\t.kind≠4:=by
    split at a
    {obtain ⟨rfl,e⟩:=Prod.mk.inj (Except.ok.inj a); exact ⟨e.symm,by simp⟩}
    split at a
    {obtain ⟨rfl,e⟩:=Prod.mk.inj (Except.ok.inj a); exact ⟨e.symm,by simp⟩}
    split at a
    {obtain ⟨rfl,e⟩:=Prod.mk.inj (Except.ok.inj a); exact ⟨e.symm,by simp⟩}
    {cases a}
   refine ⟨?_,p d.2⟩;have e: (x::r).take (m+1)=(x::r).takeWhile nameB:=by rw[d.1]; exact w.2
   have j: ((x::r).take (m+1)).takeWhile nameB=(x::r).takeWhile nameB:=by rw[e,Z5o]
   rw[f] at j ⊢;rw[b,if_pos g,j];exact a}
  {by_cases i:digit x=true
   {have a:=h;rw[b,if_neg g,if_pos i] at a;simp only at a;have w:=Z3S lumpB (x::r);have d:m+1=((x::r).takeWhile lumpB).length/\t.kind≠4:=by
     split at a
     {obtain ⟨rfl,e⟩:=Prod.mk.inj (Except.ok.inj a); exact ⟨e.symm,by simp⟩}
     split at a
     {obtain ⟨rfl,e⟩:=Prod.mk.inj (Except.ok.inj a); exact ⟨e.symm,by simp⟩}
     {cases a}
    refine ⟨?_,p d.2⟩;have e: (x::r).take (m+1)=(x::r).takeWhile lumpB:=by rw[d.1]; exact w.2
    have j: ((x::r).take (m+1)).takeWhile lumpB=(x::r).takeWhile lumpB:=by rw[e,Z5o]
    rw[f] at j ⊢;rw[b,if_neg g,if_pos i,j];exact a}
   {by_cases l:x=34
    {subst l;have a:=h;rw[b,if_neg g,if_neg i,if_pos rfl] at a;obtain ⟨k,u,H⟩:=Z1g ((34:UInt8)::r).length r (by simp);unfold quoted finish at a;rw[List.tail_cons] at a;rcases G:body ((34:UInt8)::r).length r with ⟨ps,rest⟩;rw[G] at a k u;simp only at a k u;cases rest with
     | nil=>cases a
     | cons c q=>
      simp only at a;split at a
      {rename_i B
       subst B;obtain ⟨rfl,e⟩:=Prod.mk.inj (Except.ok.inj a);have A: (34::r).take (m+1)=34::(esc ps++ [34]):=by
        rw[List.take_succ_cons,u];have:m=(esc ps).length+1:=by omega
        rw[this,List.take_append,List.take_of_length_le (by omega)];simp
       constructor
       {rw[A,b,if_neg g,if_neg i,if_pos rfl];unfold quoted;rw[List.tail_cons,Z4b ((34:UInt8)::(esc ps++ [34])).length k (by rw[Z1U,if_pos (Or.inl rfl)]) (by simp)];unfold finish;simp only[if_true];rw[e]}
       {rw[A];unfold written;rw[if_pos rfl];simp only;rw[Z6i k]}}
      {split at a <;> cases a}}
    {have a:=h;rw[b,if_neg g,if_neg i,if_neg l] at a;split at a
     {rename_i o
      obtain ⟨rfl,e⟩:=Prod.mk.inj (Except.ok.inj a);obtain rfl:m=1:=by omega
      simp only[Bool.and_eq_true,decide_eq_true_eq] at o;refine ⟨?_,p (by simp)⟩;cases r with
      | nil=>simp at o
      | cons y q=>
       have v:isSign [x,y]=true:=o.2;show token [x,y]=_;rw[b,if_neg g,if_neg i,if_neg l,if_pos (by simp[v])];rfl}
     split at a
     {rename_i o v
      obtain ⟨rfl,e⟩:=Prod.mk.inj (Except.ok.inj a);obtain rfl:m=0:=by omega
      refine ⟨?_,p (by simp)⟩;show token [x]=_;rw[b,if_neg g,if_neg i,if_neg l,if_neg (by simp),if_pos v]}
     {cases a}}}}
def good (t:Tok):Prop:= ∃c r,written t=c::r/\(c::r).length<=4096/\blank c=false/\token (c::r)= .ok (t,(c::r).length)
theorem Z5w {s:List UInt8} {t:Tok} {n:Nat} (h:token s= .ok (t,n)):hasRemark s=false:=by
 cases a:hasRemark s with
 | false=>rfl
 | true=>
  exfalso;unfold hasRemark at a;split at a
  {rename_i q
   unfold token at h;simp[small,great,digit,isSign,signs] at h}
  {cases a}
def join:List (List UInt8)->List UInt8
 | []=> []
 | [p]=>p
 | p::q::ps=>p++32::join (q::ps)
theorem Z3T: ∀(k:Nat) (a:List UInt8) (i:Nat) (l:List (Tok×Nat)),a.length<=k->a.length<=4096->toks a i= .ok l-> ∀x∈l,good x.1/\1<=x.1.kind
 | _,[],i,l,_,_,h=>by
  obtain rfl: []=l:=Except.ok.inj h;intro x d; cases d
 | 0,c::r,_,_,h,_,_=>by simp at h
 | k+1,c::r,i,l,hk,h4,h=>by
  rw[List.length_cons] at hk h4;by_cases w:blank c=true
  {rw[Z0s w] at h;exact Z3T k r (i+1) l (by omega) (by omega) h}
  {have g:blank c=false:=by simpa using w
   have o: ∀x∈(c::r).head?,blank x=false:=fun x d=>by
    obtain rfl:c=x:=by simpa using d
    exact g
   cases u:hasRemark (c::r) with
   | true=>
    rw[Z0B o u] at h;cases q:remark (c::r).length (c::r) with
    | error j=>rw[q] at h; cases h
    | ok n=>
     rw[q] at h;have A:=Z11 u (f:=r.length) q;exact Z3T k _ _ l (by rw[List.length_drop,List.length_cons]; omega) (by rw[List.length_drop,List.length_cons]; omega) h
   | false=>
    rw[Z0W (by simp) o u] at h;cases p:token (c::r) with
    | error x=>rw[p] at h; cases h
    | ok x=>
     obtain ⟨t,n⟩:=x;rw[p] at h;simp only at h;obtain ⟨A,v,_,B,_⟩:=Z10 p;cases s:toks ((c::r).drop n) (i+n) with
     | error e=>rw[s] at h; cases h
     | ok m=>
      rw[s] at h;obtain rfl: (t,i)::m=l:=Except.ok.inj h;intro x d;rcases List.mem_cons.1 d with rfl | d
      {obtain ⟨y,z⟩:=Z4S p;obtain ⟨j,rfl⟩: ∃j,n=j+1:=⟨n - 1,by omega⟩;rw[List.take_succ_cons] at y z;have b: (c::r.take j).length=j+1:=by
        rw[List.length_cons,List.length_take]; rw[List.length_cons] at v; omega
       refine ⟨⟨c,r.take j,z, ?_,g, ?_⟩,B⟩
       {rw[b]; rw[List.length_cons] at v; omega}
       {rw[b]; exact y}}
      {exact Z3T k _ _ m (by rw[List.length_drop,List.length_cons]; omega) (by rw[List.length_drop,List.length_cons]; omega) s x d}}
end
end Lex
namespace Tms
section
open Shp (Sh join field total)
def quoteT (s:List UInt8):List UInt8:= [34]++s.flatMap Lex.escB++ [34]
def oper (k:Int) (x:List UInt8):List UInt8:=if k=1\/k=6\/k=11\/k=12\/k=13\/k=14 then [40]++x++ [41] else x
def ZeZ:List Tm->Int
 | []=>0
 | p::_=>p.kind
def rfield (n x:List UInt8):List UInt8:=n++ [32,61,32]++x
def way (n v s x:List UInt8):List UInt8:=n++ [40]++field v s++ [41,32,45,62,32]++x
def binds (ns ss:List (List UInt8)):List (List UInt8):=(List.range ns.length).map fun i=>field (ns.getD i []) (ss.getD i [])
def recs (ns xs:List (List UInt8)):List (List UInt8):=(List.range ns.length).map fun i=>rfield (ns.getD i []) (xs.getD i [])
def ways (ns vs ss xs:List (List UInt8)):List (List UInt8):=(List.range ns.length).map fun i=>way (ns.getD i []) (vs.getD i []) (ss.getD i []) (xs.getD (i+1) [])
def textOf (t:Tm) (k0:Int) (ss xs:List (List UInt8)):List UInt8:=
 if t.kind=1 then Sem.dec t.n.toNat
 else if t.kind=2 then quoteT t.name
 else if t.kind=3 then [116,114,117,101]
 else if t.kind=4 then [102,97,108,115,101]
 else if t.kind=5 then (if t.of_= [] then t.name else t.of_++ [47]++t.name)
 else if t.kind=6 then [102,117,110,32,40]++join [44,32] (binds t.names ss)++ [41,32,45,62,32]++xs.getD 0 []
 else if t.kind=7 then oper k0 (xs.getD 0 [])++ [40]++join [44,32] xs.tail++ [41]
 else if t.kind=8 then [123]++join [44,32] (recs t.names xs)++ [125]
 else if t.kind=9 then oper k0 (xs.getD 0 [])++ [46]++t.name
 else if t.kind=10 then [64]++t.name++ [40]++xs.getD 0 []++ [41]
 else if t.kind=11 then [91]++join [44,32] xs++ [93,32,111,102,32]++ss.getD 0 []
 else if t.kind=12 then [105,102,32]++xs.getD 0 []++ [32,116,104,101,110,32]++xs.getD 1 []++ [32,101,108,115,101,32]++xs.getD 2 []++ [32,97,115,32]++ss.getD 0 []
 else if t.kind=13 then [99,97,115,101,32]++xs.getD 0 []++ [32,111,102,32,123]++join [32,124,32] (ways t.names t.vars ss xs)++ [125,32,97,115,32]++ss.getD t.names.length []
 else if t.kind=14 then [108,101,116,32]++t.name++ [32,61,32]++xs.getD 0 []++ [32,105,110,32]++xs.getD 1 []
 else if t.kind=15 then [40]++xs.getD 0 []++ [32,97,115,32]++ss.getD 0 []++ [41]
 else if t.kind=16 then [110,101,119,32]++t.name++ [40]++xs.getD 0 []++ [41]
 else [114,97,119,32]++t.name++ [40]++xs.getD 0 []++ [41]
mutual
def text:Tm->List UInt8
 | ⟨k,o,na,n,ns,vs,ss,ps,a⟩=>textOf ⟨k,o,na,n,ns,vs,ss,ps,a⟩ (ZeZ ps) (ss.map Shp.text) (texts ps)
def texts:List Tm->List (List UInt8)
 | []=> []
 | p::ps=>text p::texts ps
end
theorem texts_map (l:List Tm):texts l=l.map text:=by
 induction l with
 | nil=>rfl
 | cons a l ih=>simp[texts,ih]
theorem text_eq (t:Tm):text t=textOf t (ZeZ t.parts) (t.shapes.map Shp.text) (t.parts.map text):=by
 cases t; rw[<-texts_map]; rfl
end
section
open Shp (Sh)
def numB (t:Tm):Bool:=t.n==0||(t.kind==1&&decide (0 < t.n)&&decide (t.n<=999999999999999))
def ofB (t:Tm):Bool:=t.of_== []||(t.kind==5&&Lex.isName t.of_)
def nameB (t:Tm):Bool:=
 if t.kind=2 then textOk t.name else if t.kind=5\/t.kind=9\/t.kind=10\/t.kind=14 then Lex.isName t.name else if t.kind=16\/t.kind=17 then Lex.isUpper t.name else t.name== []
def cntN (k:Int) (n v s p:Nat):Bool:=
 if k=1\/k=2\/k=3\/k=4\/k=5 then decide (n=0/\v=0/\s=0/\p=0)
 else if k=6 then decide (v=0/\s=n/\p=1)
 else if k=7 then decide (n=0/\v=0/\s=0/\1<=p)
 else if k=8 then decide (v=0/\s=0/\p=n)
 else if k=9\/k=10\/k=16\/k=17 then decide (n=0/\v=0/\s=0/\p=1)
 else if k=11 then decide (n=0/\v=0/\s=1)
 else if k=12 then decide (n=0/\v=0/\s=1/\p=3)
 else if k=13 then decide (v=n/\s=n+1/\p=n+1)
 else if k=14 then decide (n=0/\v=0/\s=0/\p=2)
 else if k=15 then decide (n=0/\v=0/\s=1/\p=1)
 else false
def cntB (t:Tm):Bool:=cntN t.kind t.names.length t.vars.length t.shapes.length t.parts.length
def fitsP (t:Tm):Bool:=decide (0<=t.at_)&&numB t&&ofB t&&nameB t&&cntB t&&t.names.all Lex.isName&&Shp.noDup t.names&&t.vars.all Lex.isName&&shapesOk t.shapes
theorem Zmh (t:Tm): ((decide (t.kind=1)||decide (t.n=0))&&(decide (t.kind=5)||t.of_== [])&&fitsK t)=(numB t&&ofB t&&nameB t&&cntB t):=by
 unfold numB ofB nameB cntB cntN fitsK lists;generalize t.names.length=n;generalize t.vars.length=v;generalize t.shapes.length=s;generalize t.parts.length=p;generalize hN:Lex.isName t.name=bn;generalize hU:Lex.isUpper t.name=bu;generalize hO:Lex.isName t.of_=bo;generalize hT:textOk t.name=bt;generalize (t.name== [])=be;generalize (t.of_== [])=bf;generalize t.n=N;generalize t.kind=k;clear hN hU hO hT;by_cases h:k < 1\/17 < k
 {rw[if_neg (by omega),if_neg (by omega),if_neg (by omega),if_neg (by omega),if_neg (by omega),if_neg (by omega),if_neg (by omega),if_neg (by omega),if_neg (by omega),if_neg (by omega),if_neg (by omega),if_neg (by omega),if_neg (by omega),if_neg (by omega)];rw[if_neg (by omega),if_neg (by omega),if_neg (by omega)];rw[if_neg (by omega),if_neg (by omega),if_neg (by omega),if_neg (by omega),if_neg (by omega),if_neg (by omega),if_neg (by omega),if_neg (by omega),if_neg (by omega),if_neg (by omega)];simp}
 {have:k=1\/k=2\/k=3\/k=4\/k=5\/k=6\/k=7\/k=8\/k=9\/k=10\/k=11\/k=12\/k=13\/k=14\/k=15\/k=16\/k=17:=by omega
  clear h;rcases this with h | h | h | h | h | h | h | h | h | h | h | h | h | h | h | h | h
  all_goals
   subst h;rw[Bool.eq_iff_iff];simp;cases bn <;> cases bu <;> cases bo <;> cases bt <;> cases be <;> cases bf <;> simp <;> omega}
theorem ZnL (t:Tm):fitsP t=fits t:=by
 have h:=Zmh t;unfold fitsP fits names;rw[Bool.eq_iff_iff];have k:=Bool.eq_iff_iff.1 h;simp only[Bool.and_eq_true,Bool.or_eq_true,Bool.not_true,Bool.not_false,decide_eq_true_eq] at k ⊢;constructor
 {rintro ⟨⟨⟨⟨⟨⟨⟨⟨a,b⟩,c⟩,d⟩,e⟩,f⟩,g⟩,i⟩,j⟩;obtain ⟨⟨x,y⟩,z⟩:=k.2 ⟨⟨⟨b,c⟩,d⟩,e⟩;exact ⟨⟨⟨⟨⟨⟨a,f,Or.inr g⟩,i,Or.inl trivial⟩,j⟩,x⟩,y⟩,z⟩}
 {rintro ⟨⟨⟨⟨⟨⟨a,f,g⟩,i,_⟩,j⟩,x⟩,y⟩,z⟩;obtain ⟨⟨⟨b,c⟩,d⟩,e⟩:=k.1 ⟨⟨x,y⟩,z⟩;refine ⟨⟨⟨⟨⟨⟨⟨⟨a,b⟩,c⟩,d⟩,e⟩,f⟩, ?_⟩,i⟩,j⟩;rcases g with g | g
  {cases g}
  {exact g}}
mutual
def few:Tm->Bool
 | ⟨_,_,_,_,ns,_,_,ps,_⟩=>decide (ns.length<=9223372036854775806)&&fews ps
def fews:List Tm->Bool
 | []=>true
 | p::ps=>few p&&fews ps
end
theorem Zfk (t:Tm):few t=(decide (t.names.length<=9223372036854775806)&&fews t.parts):=by cases t; rfl
theorem ZfB (l:List Tm):fews l=l.all few:=by
 induction l with
 | nil=>rfl
 | cons a l ih=>simp[fews,ih]
theorem Zp2 {t:Tm} (h:few t=true):t.names.length<=9223372036854775806:=by
 rw[Zfk,Bool.and_eq_true,decide_eq_true_eq] at h; exact h.1
theorem ZnM {t p:Tm} (h:few t=true) (a:p∈t.parts):few p=true:=by
 rw[Zfk,ZfB,Bool.and_eq_true,List.all_eq_true] at h; exact h.2 p a
end
end Tms
