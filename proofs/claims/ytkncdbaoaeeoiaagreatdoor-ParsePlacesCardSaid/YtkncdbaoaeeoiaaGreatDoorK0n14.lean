/- What the proofs of ParsePlaces want, part 14. -/
import Derived.Lib.AppendIntMem
import Derived.Test.YtkncdbaoaeeoiaaGreatDoorK0n13
set_option linter.unusedVariables false
set_option linter.unusedSimpArgs false
set_option linter.unusedSectionVars false
set_option maxRecDepth 100000
set_option maxHeartbeats 16000000
namespace Go.Proofs.YtkncdbaoaeeoiaaGreatDoor
section
open Go.RowKit
def isLet (n:Nat):Bool:=(decide (97<=n)&&decide (n<=122))||(decide (65<=n)&&decide (n<=90))
def isDig (n:Nat):Bool:=decide (48<=n)&&decide (n<=57)
section
variable (n : Nat) (h : n < 256) (w : World)
include n h w
theorem Z3b:
 Calls Tryz.prog 225 #[.int .u8 n] w fun e w'=>e= .returned (.bool (isDig n))/\w=w':=by
 have H:n<=47\/(48<=n/\n<=57)\/58<=n:=by omega
 rcases H with h1 | ⟨h1,h2⟩ | h1
 {have HB:Hid (isDig n=false):=Y1 (by simp[isDig]; omega);go_enter Tryz.func225,Tryz.ntmps225;go_wp2;go_ret;exact ⟨by rw[HB.out]; rfl,rfl⟩}
 {have HB:Hid (isDig n=true):=Y1 (by simp[isDig]; omega);have h3:decide ((n:Int)<=57)=true:=decide_eq_true (by omega);go_enter Tryz.func225,Tryz.ntmps225;go_wp2;go_ret;exact ⟨by rw[HB.out]; rfl,rfl⟩}
 {have HB:Hid (isDig n=false):=Y1 (by simp[isDig]; omega);have h3:decide ((n:Int)<=57)=false:=decide_eq_false (by omega);go_enter Tryz.func225,Tryz.ntmps225;go_wp2;go_ret;exact ⟨by rw[HB.out]; rfl,rfl⟩}
theorem Z7w:
 Calls Tryz.prog 226 #[.int .u8 n] w fun e w'=>e= .returned (.bool (isLet n))/\w=w':=by
 have H:n<=64\/(65<=n/\n<=90)\/(91<=n/\n<=96)\/(97<=n/\n<=122)\/123<=n:=by omega
 rcases H with h1 | ⟨h1,h2⟩ | ⟨h1,h2⟩ | ⟨h1,h2⟩ | h1
 {have HB:Hid (isLet n=false):=Y1 (by simp[isLet]; omega);go_enter Tryz.func226,Tryz.ntmps226;go_wp2;go_ret;exact ⟨by rw[HB.out]; rfl,rfl⟩}
 {have HB:Hid (isLet n=true):=Y1 (by simp[isLet]; omega);have h3:decide ((n:Int)<=90)=true:=decide_eq_true (by omega);go_enter Tryz.func226,Tryz.ntmps226;go_wp2;go_ret;exact ⟨by rw[HB.out]; rfl,rfl⟩}
 {have HB:Hid (isLet n=false):=Y1 (by simp[isLet]; omega);have h3:decide ((n:Int)<=90)=false:=decide_eq_false (by omega);go_enter Tryz.func226,Tryz.ntmps226;go_wp2;go_ret;exact ⟨by rw[HB.out]; rfl,rfl⟩}
 {have HB:Hid (isLet n=true):=Y1 (by simp[isLet]; omega);have h3:decide ((n:Int)<=122)=true:=decide_eq_true (by omega);go_enter Tryz.func226,Tryz.ntmps226;go_wp2;go_ret;exact ⟨by rw[HB.out]; rfl,rfl⟩}
 {have HB:Hid (isLet n=false):=Y1 (by simp[isLet]; omega);have h3:decide ((n:Int)<=122)=false:=decide_eq_false (by omega);have h4:decide ((n:Int)<=90)=false:=decide_eq_false (by omega);go_enter Tryz.func226,Tryz.ntmps226;go_wp2;go_ret;exact ⟨by rw[HB.out]; rfl,rfl⟩}
end
section
variable (s : ByteArray) (hs : s.size <= 9223372036854775807) (w : World)
include s hs w
theorem Z2K:
 Calls Tryz.prog 227 #[.string s] w fun e w'=>e= .returned (.bool (Sem.digits s.data.toList))/\w=w':=by
 go_enter Tryz.func227,Tryz.ntmps227
 go_wp2_with fail
 go_loop [6] (fun i=> ∃k:Nat,i= .int .i64 k/\k<=s.size/\Hid ((s.data.toList.take k).all Sem.dig=true)) (fun i=>s.size - (intOf i).toNat)
 case atStart=>exact ⟨0,rfl,Nat.zero_le _,Y1 rfl⟩
 case round=>
  obtain ⟨k,rfl,hk,HP⟩:=hrel;by_cases hlt:k < s.size
  {have hb:=(s[k]'hlt).toNat_lt;cases hd:isDig (s[k]'hlt).toNat
   {have HN:Hid (Sem.digits s.data.toList=false):=Y1 (by
     unfold Sem.digits;rw[Bool.and_eq_false_iff]; right;rw[List.all_eq_false];exact ⟨s[k]'hlt,by rw[show s[k]'hlt=s.data.toList[k]'(by rw[<-Lib.size_eq]; exact hlt) from rfl]; exact List.getElem_mem _,by rw[show Sem.dig (s[k]'hlt)=false from hd]; simp⟩)
    have hcon: ∀w,Calls Tryz.prog 225 #[.int .u8 (s[k]'hlt).toNat] w fun e w'=>e= .returned (.bool false)/\w=w':=fun w=>by rw[<-hd]; exact Z3b _ hb w
    clear hd
    go_wp2_with (go_at_call 225; refine (hcon _).mono ?_; rintro e w' ⟨rfl,rfl⟩)
    go_ret;exact ⟨by rw[HN.out]; rfl,rfl⟩}
   {have HN:Hid ((s.data.toList.take (k+1)).all Sem.dig=true):=Y1 (by rw[Z4x hlt,HP.out,show Sem.dig (s[k]'hlt)=true from hd]; rfl);have hcon: ∀w,Calls Tryz.prog 225 #[.int .u8 (s[k]'hlt).toNat] w fun e w'=>e= .returned (.bool true)/\w=w':=fun w=>by rw[<-hd]; exact Z3b _ hb w
    clear hd
    go_wp2_with (go_at_call 225; refine (hcon _).mono ?_; rintro e w' ⟨rfl,rfl⟩)
    go_round
    case rel=>exact ⟨k+1,by go_num,by omega,HN⟩
    case measure=>simp[intOf]; omega}}
  {have hall:s.data.toList.all Sem.dig=true:=by have:=HP.out; rwa [List.take_of_length_le (by rw[<-Lib.size_eq]; omega)] at this
   have HN:Hid (Sem.digits s.data.toList= !s.toList.isEmpty):=Y1 (by unfold Sem.digits; rw[hall,Bool.and_true,Z16]);clear hall;go_wp2;go_ret;exact ⟨by rw[HN.out]; rfl,rfl⟩}
theorem Z6D:
 Calls Tryz.prog 216 #[.string s] w fun e w'=>e= .returned (.bool (Sem.part s.data.toList))/\w=w':=by
 have he0:s.toList.isEmpty=s.data.toList.isEmpty:=by rw[Z16]
 by_cases hz:s.data.toList= []
 {have he:s.toList.isEmpty=true:=by rw[he0,hz]; rfl
  have HN:Hid (Sem.part s.data.toList=false):=Y1 (by rw[hz]; rfl);clear he0 hz;go_enter Tryz.func216,Tryz.ntmps216;go_wp2;go_ret;exact ⟨by rw[HN.out]; rfl,rfl⟩}
 {have he:s.toList.isEmpty=false:=by rw[he0]; simpa using hz
  have hpos:0 < s.size:=by rw[Lib.size_eq]; exact List.length_pos_iff.2 hz
  have hhead:s.data.toList.head? =some (s[0]'hpos):=by
   rw[List.head?_eq_getElem?,List.getElem?_eq_getElem (by rw[<-Lib.size_eq]; exact hpos)]; rfl
  have HHEAD:=Y1 hhead;have HZ:=Y1 hz;clear he0 hz hhead;go_enter Tryz.func216,Tryz.ntmps216
  go_wp2_with fail
  go_loop [8] (fun i=> ∃k:Nat,i= .int .i64 k/\k<=s.size/\Hid ((s.data.toList.take k).all Sem.okc=true)) (fun i=>s.size - (intOf i).toNat)
  case atStart=>exact ⟨0,rfl,Nat.zero_le _,Y1 rfl⟩
  case round=>
   obtain ⟨k,rfl,hk,HP⟩:=hrel;by_cases hlt:k < s.size
   {have hb:=(s[k]'hlt).toNat_lt;obtain ⟨n,hn⟩: ∃n,n=(s[k]'hlt).toNat:=⟨_,rfl⟩;have ho:Sem.okc (s[k]'hlt)=(isLet n||decide (n=45)||isDig n):=by rw[Zd4,hn]; rfl
    have hcd: ∀w,Calls Tryz.prog 225 #[.int .u8 (s[k]'hlt).toNat] w fun e w'=>e= .returned (.bool (isDig n))/\w=w':=fun w=>by rw[hn]; exact Z3b _ hb w
    have hcl: ∀w,Calls Tryz.prog 226 #[.int .u8 (s[k]'hlt).toNat] w fun e w'=>e= .returned (.bool (isLet n))/\w=w':=fun w=>by rw[hn]; exact Z7w _ hb w
    have HN:Hid (isDig n=true\/isLet n=true\/n=45->(s.data.toList.take (k+1)).all Sem.okc=true):=Y1 (by
     intro h;rw[Z1B hlt,HP.out,ho];rcases h with h | h | h <;> rw[h] <;> simp)
    have HF:Hid (isDig n=false/\isLet n=false/\n≠45->Sem.part s.data.toList=false):=Y1 (by
     rintro ⟨h1,h2,h3⟩;exact Z2l hlt (by rw[ho,h1,h2]; simp[h3]))
    clear ho;cases hd:isDig n
    {rw[hd] at hcd;cases hl:isLet n
     {rw[hl] at hcl;by_cases h45:n=45
      {have HM:=Y1 (HN.out (Or.inr (Or.inr h45)));have h3: (((s[k]'hlt).toNat:Int) !=45)=false:=by rw[bne_eq_false_iff_eq]; omega
       clear hn hd hl
       go_wp2_with (first | (go_at_call 225; refine (hcd _).mono ?_; rintro e w' ⟨rfl,rfl⟩) | (go_at_call 226; refine (hcl _).mono ?_; rintro e w' ⟨rfl,rfl⟩))
       go_round
       case rel=>exact ⟨k+1,by go_num,by omega,HM⟩
       case measure=>simp[intOf]; omega}
      {have HM:=Y1 (HF.out ⟨hd,hl,h45⟩);have h3: (((s[k]'hlt).toNat:Int) !=45)=true:=by rw[bne_iff_ne]; omega
       clear hn hd hl
       go_wp2_with (first | (go_at_call 225; refine (hcd _).mono ?_; rintro e w' ⟨rfl,rfl⟩) | (go_at_call 226; refine (hcl _).mono ?_; rintro e w' ⟨rfl,rfl⟩))
       go_ret;exact ⟨by rw[HM.out]; rfl,rfl⟩}}
     {rw[hl] at hcl;have HM:=Y1 (HN.out (Or.inr (Or.inl hl)));clear hn hd hl
      go_wp2_with (first | (go_at_call 225; refine (hcd _).mono ?_; rintro e w' ⟨rfl,rfl⟩) | (go_at_call 226; refine (hcl _).mono ?_; rintro e w' ⟨rfl,rfl⟩))
      go_round
      case rel=>exact ⟨k+1,by go_num,by omega,HM⟩
      case measure=>simp[intOf]; omega}}
    {rw[hd] at hcd;have HM:=Y1 (HN.out (Or.inl hd));clear hn hd hcl
     go_wp2_with (first | (go_at_call 225; refine (hcd _).mono ?_; rintro e w' ⟨rfl,rfl⟩))
     go_round
     case rel=>exact ⟨k+1,by go_num,by omega,HM⟩
     case measure=>simp[intOf]; omega}}
   {have hall:s.data.toList.all Sem.okc=true:=by have:=HP.out; rwa [List.take_of_length_le (by rw[<-Lib.size_eq]; omega)] at this
    have HS:Hid (Sem.part s.data.toList=(!Sem.digits s.data.toList||s.data.toList== [48]||s.data.toList.head? !=some 48)):=Y1 (by
     have:s.data.toList.isEmpty=false:=by simpa using HZ.out
     unfold Sem.part; rw[hall,this]; rfl)
    rw[HHEAD.out] at HS;clear hall;cases h48: (s.toList== [48])
    {have h49: (s.data.toList== [48])=false:=by rw[<-Z16]; exact h48
     by_cases hh: (s[0]'hpos).toNat=48
     {have HN:Hid (Sem.part s.data.toList= !Sem.digits s.data.toList):=Y1 (by
       have:s[0]'hpos=48:=UInt8.toNat_inj.1 hh;rw[HS.out,h49,this]; simp)
      have h50: (((s[0]'hpos).toNat:Int) !=48)=false:=by rw[bne_eq_false_iff_eq]; omega
      clear h49 hh
      go_wp2_with (go_at_call 227; refine (Z2K s hs _).mono ?_; rintro e w' ⟨rfl,rfl⟩)
      go_ret;exact ⟨by rw[HN.out]; rfl,rfl⟩}
     {have HN:Hid (Sem.part s.data.toList=true):=Y1 (by
       have:s[0]'hpos≠48:=fun h=>hh (by rw[h]; rfl);rw[HS.out,h49]; simp[this])
      have h50: (((s[0]'hpos).toNat:Int) !=48)=true:=by rw[bne_iff_ne]; omega
      clear h49 hh
      go_wp2_with (go_at_call 227; refine (Z2K s hs _).mono ?_; rintro e w' ⟨rfl,rfl⟩)
      go_ret;exact ⟨by rw[HN.out]; rfl,rfl⟩}}
    {have HN:Hid (Sem.part s.data.toList=true):=Y1 (by
      have h49: (s.data.toList== [48])=true:=by rw[<-Z16]; exact h48
      rw[HS.out,h49]; simp)
     go_wp2_with (go_at_call 227; refine (Z2K s hs _).mono ?_; rintro e w' ⟨rfl,rfl⟩)
     go_ret;exact ⟨by rw[HN.out]; rfl,rfl⟩}}}
end
def verV (v:Sem.Ver):Value:= .agg #[.int .i64 v.maj,.int .i64 v.min,.int .i64 v.pat,.string ⟨v.pre.toArray⟩]
def VerAt (w:World) (g:Nat) (v:Sem.Ver):Prop:=g < w.heap.size/\w.cell? ⟨g,0,none⟩=some (.int .i64 v.maj)/\w.cell? ⟨g,1,none⟩=some (.int .i64 v.min)/\w.cell? ⟨g,2,none⟩=some (.int .i64 v.pat)/\w.cell? ⟨g,3,none⟩=some (.string ⟨v.pre.toArray⟩)
theorem VerAt.next {w w':World} {g:Nat} {v:Sem.Ver} (h:VerAt w g v) (hb:Below w.heap.size w w'):VerAt w' g v:=
 ⟨Nat.lt_of_lt_of_le h.1 hb.size,((Z04 (o:=0) hb h.1).1).trans h.2.1,((Z04 (o:=1) hb h.1).1).trans h.2.2.1,((Z04 (o:=2) hb h.1).1).trans h.2.2.2.1,((Z04 (o:=3) hb h.1).1).trans h.2.2.2.2⟩
theorem Z2m (w:World) (v:Sem.Ver):VerAt (w.alloc (.cells #[.int .i64 v.maj,.int .i64 v.min,.int .i64 v.pat,.string ⟨v.pre.toArray⟩] 105)) w.heap.size v:=
 ⟨by simp,by simp[go_sem],by simp[go_sem],by simp[go_sem],by simp[go_sem]⟩
def chk (v:Sem.Ver):Int:=if Sem.may v=true then 0 else 40
theorem Z7x {ps:List (List UInt8)} {k:Nat} (h:k < ps.length): (ps.take (k+1)).all Sem.part=((ps.take k).all Sem.part&&Sem.part ps[k]):=by
 rw[List.take_succ_eq_append_getElem h,List.all_append]; simp
theorem Z3t (v:Sem.Ver) (hs:v.pre.length<=9223372036854775807) (w:World):
 Y9 115 #[verV v] w (.int .i64 (chk v)):=by
 obtain ⟨a,b,c,p⟩:=v;have hm:=Sem.Z12 ⟨a,b,c,p⟩;simp only at hm hs;unfold verV;by_cases hn: (0<=a/\a<=999999)/\(0<=b/\b<=999999)/\(0<=c/\c<=999999)/\p.length<=24
 {obtain ⟨⟨a1,a2⟩,⟨b1,b2⟩,⟨c1,c2⟩,hp⟩:=hn;by_cases hz:p= []
  {have HM:Hid (Sem.may ⟨a,b,c,p⟩=true):=Y1 (hm.2 ⟨⟨a1,a2⟩,⟨b1,b2⟩,⟨c1,c2⟩,hp,by rw[hz]; rfl⟩);subst hz;clear hm;go_enter Tryz.func115,Tryz.ntmps115;go_wp2;go_ret;exact ⟨by rw[chk,if_pos HM.out]; rfl,Y2.alloc (Nat.le_refl _) _⟩}
  {have he:p.isEmpty=false:=by simpa using hz
   have HM:Hid (Sem.may ⟨a,b,c,p⟩=(Sem.parts p).all Sem.part):=Y1 (by
    rw[Bool.eq_iff_iff,hm];have:Sem.preOk p=(Sem.parts p).all Sem.part:=by unfold Sem.preOk; rw[he,Bool.false_or]
    rw[this];exact ⟨fun h=>h.2.2.2.2,fun h=>⟨⟨a1,a2⟩,⟨b1,b2⟩,⟨c1,c2⟩,hp,h⟩⟩)
   clear hm hz;go_enter Tryz.func115,Tryz.ntmps115
   go_wp2_with fail
   refine (ZaP ⟨p.toArray⟩ (by rw[Z07]; omega) _).mono ?_;rintro e w1 ⟨A,cap,rfl,hS,hb⟩;have hb1:=Z00 (Z01 _ _) hb
   go_wp2_with fail
   obtain ⟨ps,hps⟩: ∃ps,ps=Sem.parts p:=⟨_,rfl⟩;have hpl: ∀q∈ps,q.length<=24:=by
    intro q hq;have:=Sem.Z4q p q (by rw[<-hps]; exact hq);omega
   have HPL:=Y1 hpl;have hcount:ps.length<=p.length+1:=by rw[hps]; exact Sem.Z5e p
   have hsl: (strs ps).length=ps.length:=by simp[strs]
   rw[<-hps] at HM hS ⊢;rw[hsl];clear hpl hps
   go_loop [4] (fun i=> ∃k:Nat,i= .int .i64 k/\k<=ps.length/\Hid ((ps.take k).all Sem.part=true)) (fun i=>ps.length - (intOf i).toNat)
   case atStart=>exact ⟨0,rfl,Nat.zero_le _,Y1 rfl⟩
   case round=>
    obtain ⟨k,rfl,hk,HP⟩:=hrel;by_cases hlt:k < ps.length
    {rcases hS with hS | ⟨g,off,rfl,_,hc⟩
     {omega}
     {obtain ⟨q,hq⟩: ∃q,q=ps[k]:=⟨_,rfl⟩;have hcell:w1.cell? ⟨g,off+k,none⟩=some (.string ⟨q.toArray⟩):=by
       rw[hc k (by rw[hsl]; exact hlt),hq]; simp[strs]
      have hq24:=HPL.out q (by rw[hq]; exact List.getElem_mem _);have HQ:=Y1 hq;clear hc hq hsl;cases hqp:Sem.part q
      {have HN:Hid (ps.all Sem.part=false):=Y1 (by
        rw[List.all_eq_false];exact ⟨q,by rw[HQ.out]; exact List.getElem_mem _,by rw[hqp]; simp⟩)
       have hcon:=Z79 ⟨q.toArray⟩ (by rw[Z07]; omega) w1;have hcon2:Calls Tryz.prog 148 #[.string ⟨q.toArray⟩] w1 fun e w'=>e= .returned (.bool false)/\w1=w':=by rw[<-hqp]; exact hcon
       clear hcon
       go_wp2_with (go_at_call 148; refine hcon2.mono ?_; rintro e w' ⟨rfl,rfl⟩)
       go_ret;exact ⟨by rw[chk,HM.out,if_neg (by rw[HN.out]; simp)]; rfl,hb1⟩}
      {have HN:Hid ((ps.take (k+1)).all Sem.part=true):=Y1 (by rw[Z7x hlt,HP.out, <-HQ.out,hqp]; rfl);have hcon:=Z79 ⟨q.toArray⟩ (by rw[Z07]; omega) w1;have hcon2:Calls Tryz.prog 148 #[.string ⟨q.toArray⟩] w1 fun e w'=>e= .returned (.bool true)/\w1=w':=by rw[<-hqp]; exact hcon
       clear hcon
       go_wp2_with (go_at_call 148; refine hcon2.mono ?_; rintro e w' ⟨rfl,rfl⟩)
       go_round
       case rel=>exact ⟨k+1,by go_num,by omega,HN⟩
       case measure=>simp[intOf]; omega}}}
    {have HN:Hid (ps.all Sem.part=true):=Y1 (by have:=HP.out; rwa [List.take_of_length_le (by omega)] at this);clear hsl;go_wp2;go_ret;exact ⟨by rw[chk,HM.out,if_pos HN.out]; rfl,hb1⟩}}}
 {have HM:Hid (Sem.may ⟨a,b,c,p⟩=false):=Y1 (Bool.eq_false_iff.2 fun h=>hn ⟨(hm.1 h).1,(hm.1 h).2.1,(hm.1 h).2.2.1,(hm.1 h).2.2.2.1⟩);clear hm;go_enter Tryz.func115,Tryz.ntmps115;go_wp2
  all_goals
   first
   | (exfalso; omega)
   | (
    go_ret;exact ⟨by rw[chk,if_neg (by rw[HM.out]; simp)]; rfl,Z01 _ _⟩)}
attribute [local go_sem] Oper.semAt_some
section
variable (a b c : Int) (W : World)
include a b c W
theorem Z6a: (Instr.index 208 (.agg #[.int .i64 a,.int .i64 b,.int .i64 c]) (.int .i64 0)).run Tryz.prog W= .ok (.int .i64 a) W:=by
 simp[Instr.index,run_underlying Tryz.underlying208,asIntOf,go_sem,Tryz.sizeOf3,Tryz.isAgg3]
theorem Z6b: (Instr.index 208 (.agg #[.int .i64 a,.int .i64 b,.int .i64 c]) (.int .i64 1)).run Tryz.prog W= .ok (.int .i64 b) W:=by
 simp[Instr.index,run_underlying Tryz.underlying208,asIntOf,go_sem,Tryz.sizeOf3,Tryz.isAgg3]
theorem Z6c: (Instr.index 208 (.agg #[.int .i64 a,.int .i64 b,.int .i64 c]) (.int .i64 2)).run Tryz.prog W= .ok (.int .i64 c) W:=by
 simp[Instr.index,run_underlying Tryz.underlying208,asIntOf,go_sem,Tryz.sizeOf3,Tryz.isAgg3]
end
def Far (a b c:Int) (i:Value):Prop:=i= .int .i64 0\/(i= .int .i64 1/\0<=a/\a<=999999)\/(i= .int .i64 2/\0<=a/\a<=999999/\0<=b/\b<=999999)\/(i= .int .i64 3/\0<=a/\a<=999999/\0<=b/\b<=999999/\0<=c/\c<=999999)
theorem Z7y {a b c:Int} {p:List UInt8} (h: ¬((0<=a/\a<=999999)/\(0<=b/\b<=999999)/\(0<=c/\c<=999999))):chk ⟨a,b,c,p⟩=40:=by
 rw[chk,if_neg];rw[Sem.Z12];rintro ⟨h1,h2,h3,_⟩;exact h ⟨h1,h2,h3⟩
theorem Zd5 (a b c:Int) (p:List UInt8) (hn: ¬((0<=a/\a<=999999)/\(0<=b/\b<=999999)/\(0<=c/\c<=999999))) (w:World):
 Y9 206 #[.agg #[.int .i64 a,.int .i64 b,.int .i64 c,.string ⟨p.toArray⟩]] w (.int .i64 (chk ⟨a,b,c,p⟩)):=by
 have HE:Hid (chk ⟨a,b,c,p⟩=40):=Y1 (Z7y hn);go_enter Tryz.func206,Tryz.ntmps206
 go_wp2_with fail
 have hx0:=Z6a a b c;have hx1:=Z6b a b c;have hx2:=Z6c a b c
 go_loop [13] (fun i=>Far a b c i) (fun i=>3 - (intOf i).toNat)
 case atStart=>exact Or.inl rfl
 case round=>
  rcases hrel with rfl | ⟨rfl,a1,a2⟩ | ⟨rfl,a1,a2,b1,b2⟩ | ⟨rfl,a1,a2,b1,b2,c1,c2⟩
  {rcases (show a < 0\/999999 < a\/(0<=a/\a<=999999) from by omega) with h | h | ⟨h1,h2⟩
   {go_wp2;refine bodyPost_ret (v:= .int .i64 40) (by simp[results,Tryz.results206,go_sem]) rfl ?_;exact ⟨by rw[HE.out],Z03 (Z01 _ _) _⟩}
   {have hd:decide (a < 0)=false:=decide_eq_false (by omega);have hd2:decide (999999 < a)=true:=decide_eq_true h;go_wp2;refine bodyPost_ret (v:= .int .i64 40) (by simp[results,Tryz.results206,go_sem]) rfl ?_;exact ⟨by rw[HE.out],Z03 (Z01 _ _) _⟩}
   {have hd:decide (a < 0)=false:=decide_eq_false (by omega);have hd2:decide (999999 < a)=false:=decide_eq_false (by omega);go_wp2
    go_round
    case rel=>exact Or.inr (Or.inl ⟨rfl,by omega,by omega⟩)
    case measure=>simp[intOf]}}
  {rcases (show b < 0\/999999 < b\/(0<=b/\b<=999999) from by omega) with h | h | ⟨h1,h2⟩
   {go_wp2;refine bodyPost_ret (v:= .int .i64 40) (by simp[results,Tryz.results206,go_sem]) rfl ?_;exact ⟨by rw[HE.out],Z03 (Z01 _ _) _⟩}
   {have hd:decide (b < 0)=false:=decide_eq_false (by omega);have hd2:decide (999999 < b)=true:=decide_eq_true h;go_wp2;refine bodyPost_ret (v:= .int .i64 40) (by simp[results,Tryz.results206,go_sem]) rfl ?_;exact ⟨by rw[HE.out],Z03 (Z01 _ _) _⟩}
   {have hd:decide (b < 0)=false:=decide_eq_false (by omega);have hd2:decide (999999 < b)=false:=decide_eq_false (by omega);go_wp2
    go_round
    case rel=>exact Or.inr (Or.inr (Or.inl ⟨rfl,a1,a2,by omega,by omega⟩))
    case measure=>simp[intOf]}}
  {rcases (show c < 0\/999999 < c\/(0<=c/\c<=999999) from by omega) with h | h | ⟨h1,h2⟩
   {go_wp2;refine bodyPost_ret (v:= .int .i64 40) (by simp[results,Tryz.results206,go_sem]) rfl ?_;exact ⟨by rw[HE.out],Z03 (Z01 _ _) _⟩}
   {have hd:decide (c < 0)=false:=decide_eq_false (by omega);have hd2:decide (999999 < c)=true:=decide_eq_true h;go_wp2;refine bodyPost_ret (v:= .int .i64 40) (by simp[results,Tryz.results206,go_sem]) rfl ?_;exact ⟨by rw[HE.out],Z03 (Z01 _ _) _⟩}
   {have hd:decide (c < 0)=false:=decide_eq_false (by omega);have hd2:decide (999999 < c)=false:=decide_eq_false (by omega);go_wp2
    go_round
    case rel=>exact Or.inr (Or.inr (Or.inr ⟨rfl,a1,a2,b1,b2,by omega,by omega⟩))
    case measure=>simp[intOf]}}
  {exact absurd ⟨⟨a1,a2⟩,⟨b1,b2⟩,⟨c1,c2⟩⟩ hn}
theorem Zbv (a b c:Int) (a1:0<=a) (a2:a<=999999) (b1:0<=b) (b2:b<=999999) (c1:0<=c) (c2:c<=999999) (w:World):
 Y9 206 #[.agg #[.int .i64 a,.int .i64 b,.int .i64 c,.string ⟨(([]:List UInt8)).toArray⟩]] w (.int .i64 (chk ⟨a,b,c,[]⟩)):=by
 have HE:Hid (chk ⟨a,b,c,[]⟩=0):=Y1 (by rw[chk,if_pos]; exact (Sem.Z12 _).2 ⟨⟨a1,a2⟩,⟨b1,b2⟩,⟨c1,c2⟩,by simp,rfl⟩);have da:decide (a < 0)=false:=decide_eq_false (by omega);have db:decide (b < 0)=false:=decide_eq_false (by omega);have dc:decide (c < 0)=false:=decide_eq_false (by omega);have da2:decide (999999 < a)=false:=decide_eq_false (by omega);have db2:decide (999999 < b)=false:=decide_eq_false (by omega);have dc2:decide (999999 < c)=false:=decide_eq_false (by omega);go_enter Tryz.func206,Tryz.ntmps206
 go_wp2_with fail
 have hx0:=Z6a a b c;have hx1:=Z6b a b c;have hx2:=Z6c a b c
 go_loop [13] (fun i=>Far a b c i) (fun i=>3 - (intOf i).toNat)
 case atStart=>exact Or.inl rfl
 case round=>
  rcases hrel with rfl | ⟨rfl,_,_⟩ | ⟨rfl,_,_,_,_⟩ | ⟨rfl,_,_,_,_,_,_⟩
  {go_wp2
   go_round
   case rel=>exact Or.inr (Or.inl ⟨rfl,a1,a2⟩)
   case measure=>simp[intOf]}
  {go_wp2
   go_round
   case rel=>exact Or.inr (Or.inr (Or.inl ⟨rfl,a1,a2,b1,b2⟩))
   case measure=>simp[intOf]}
  {go_wp2
   go_round
   case rel=>exact Or.inr (Or.inr (Or.inr ⟨rfl,a1,a2,b1,b2,c1,c2⟩))
   case measure=>simp[intOf]}
  {go_wp2;refine bodyPost_ret (v:= .int .i64 0) (by simp[results,Tryz.results206,go_sem]) rfl ?_;exact ⟨by rw[HE.out],Z03 (Z01 _ _) _⟩}
theorem Zbw (a b c:Int) (p:List UInt8) (hp:24 < p.length) (hs:p.length<=9223372036854775807) (a1:0<=a) (a2:a<=999999) (b1:0<=b) (b2:b<=999999) (c1:0<=c) (c2:c<=999999) (w:World):
 Y9 206 #[.agg #[.int .i64 a,.int .i64 b,.int .i64 c,.string ⟨p.toArray⟩]] w (.int .i64 (chk ⟨a,b,c,p⟩)):=by
 have HE:Hid (chk ⟨a,b,c,p⟩=40):=Y1 (by rw[chk,if_neg]; rw[Sem.Z12]; rintro ⟨_,_,_,h,_⟩; simp only at h; omega);have he:p.isEmpty=false:=by
  cases p with
  | nil=>simp at hp
  | cons _ _=>rfl
 have hsz: (⟨p.toArray⟩:ByteArray).size=p.length:=Z07 _;have da:decide (a < 0)=false:=decide_eq_false (by omega);have db:decide (b < 0)=false:=decide_eq_false (by omega);have dc:decide (c < 0)=false:=decide_eq_false (by omega);have da2:decide (999999 < a)=false:=decide_eq_false (by omega);have db2:decide (999999 < b)=false:=decide_eq_false (by omega);have dc2:decide (999999 < c)=false:=decide_eq_false (by omega);go_enter Tryz.func206,Tryz.ntmps206
 go_wp2_with fail
 have hx0:=Z6a a b c;have hx1:=Z6b a b c;have hx2:=Z6c a b c
 go_loop [13] (fun i=>Far a b c i) (fun i=>3 - (intOf i).toNat)
 case atStart=>exact Or.inl rfl
 case round=>
  rcases hrel with rfl | ⟨rfl,_,_⟩ | ⟨rfl,_,_,_,_⟩ | ⟨rfl,_,_,_,_,_,_⟩
  {go_wp2
   go_round
   case rel=>exact Or.inr (Or.inl ⟨rfl,a1,a2⟩)
   case measure=>simp[intOf]}
  {go_wp2
   go_round
   case rel=>exact Or.inr (Or.inr (Or.inl ⟨rfl,a1,a2,b1,b2⟩))
   case measure=>simp[intOf]}
  {go_wp2
   go_round
   case rel=>exact Or.inr (Or.inr (Or.inr ⟨rfl,a1,a2,b1,b2,c1,c2⟩))
   case measure=>simp[intOf]}
  {go_wp2;refine bodyPost_ret (v:= .int .i64 40) (by simp[results,Tryz.results206,go_sem]) rfl ?_;exact ⟨by rw[HE.out],Z03 (Z01 _ _) _⟩}
attribute [local go_sem] Oper.semAt_some
theorem Z9P (a b c:Int) (p:List UInt8) (hp:p.length<=24) (hz:p≠ []) (a1:0<=a) (a2:a<=999999) (b1:0<=b) (b2:b<=999999) (c1:0<=c) (c2:c<=999999) (w:World):
 Y9 206 #[.agg #[.int .i64 a,.int .i64 b,.int .i64 c,.string ⟨p.toArray⟩]] w (.int .i64 (chk ⟨a,b,c,p⟩)):=by
 have HE:Hid (chk ⟨a,b,c,p⟩=if (Sem.parts p).all Sem.part=true then 0 else 40):=Y1 (by
  rw[chk];have e:Sem.may ⟨a,b,c,p⟩=(Sem.parts p).all Sem.part:=by
   rw[Bool.eq_iff_iff,Sem.Z12];have e2:Sem.preOk p=(Sem.parts p).all Sem.part:=by
    unfold Sem.preOk;rw[show p.isEmpty=false from by simpa using hz,Bool.false_or]
   rw[e2];exact ⟨fun h=>h.2.2.2.2,fun h=>⟨⟨a1,a2⟩,⟨b1,b2⟩,⟨c1,c2⟩,hp,h⟩⟩
  rw[e])
 have he:p.isEmpty=false:=by simpa using hz
 have hsz: (⟨p.toArray⟩:ByteArray).size=p.length:=Z07 _;clear hz;have da:decide (a < 0)=false:=decide_eq_false (by omega);have db:decide (b < 0)=false:=decide_eq_false (by omega);have dc:decide (c < 0)=false:=decide_eq_false (by omega);have da2:decide (999999 < a)=false:=decide_eq_false (by omega);have db2:decide (999999 < b)=false:=decide_eq_false (by omega);have dc2:decide (999999 < c)=false:=decide_eq_false (by omega);have hx0:=Z6a a b c;have hx1:=Z6b a b c;have hx2:=Z6c a b c;refine (callsIn_wide (n:=6)).1 ?_;refine callsIn_of_wp_marks Tryz.func206 rfl trivial ?_ rfl;simp only[Tryz.ntmps206,List.size_toArray,List.length_cons,List.length_nil,Nat.reduceAdd,Nat.reduceSub,Array.replicate_succ,Array.replicate_zero,List.push_toArray,List.append_toArray,List.nil_append,List.cons_append]
 gi_wp2_with fail
 gi_loopw [13] (fun i wr=>Far a b c i/\wr=(w.alloc (Obj.cells #[Value.int IntKind.i64 a,Value.int IntKind.i64 b,Value.int IntKind.i64 c,Value.string ⟨p.toArray⟩] 105)).alloc (Obj.cells #[Value.int IntKind.i64 0] 27)) (fun i _=>3 - (intOf i).toNat)
 case atStart=>exact ⟨Or.inl rfl,rfl⟩
 case round=>
  obtain ⟨hfar,rfl⟩:=hrel;rcases hfar with rfl | ⟨rfl,_,_⟩ | ⟨rfl,_,_,_,_⟩ | ⟨rfl,_,_,_,_,_,_⟩
  {gi_wp2
   go_roundw
   case rel=>exact ⟨Or.inr (Or.inl ⟨rfl,a1,a2⟩),trivial⟩
   case measure=>simp[intOf]}
  {gi_wp2
   go_roundw
   case rel=>exact ⟨Or.inr (Or.inr (Or.inl ⟨rfl,a1,a2,b1,b2⟩)),trivial⟩
   case measure=>simp[intOf]}
  {gi_wp2
   go_roundw
   case rel=>exact ⟨Or.inr (Or.inr (Or.inr ⟨rfl,a1,a2,b1,b2,c1,c2⟩)),trivial⟩
   case measure=>simp[intOf]}
  {gi_wp2_with (refine ⟨trivial, ?_⟩; gi_at_call 215; refine (callsIn_wide.2 (Zei p _)).mono ?_; rintro e w' ⟨rfl,hS,hb⟩)
   simp only[World.size_alloc] at hS hb;have hb0:Below w.heap.size w w':=(Z03 (Z01 _ _) _).trans (hb.mono (by omega));have hc0:w'.cell? ⟨w.heap.size+1,0,none⟩=some (.int .i64 0):=(hb.cell (p:=⟨w.heap.size+1,0,none⟩) (by show w.heap.size+1 < w.heap.size+1+1; omega)).trans (by simp[go_sem]);have hf0:w'.frozen? ⟨w.heap.size+1,0,none⟩=false:=(hb.frozen (p:=⟨w.heap.size+1,0,none⟩) (by show w.heap.size+1 < w.heap.size+1+1; omega)).trans (by simp[go_sem]);clear hb;refine Zd3 6 (by omega) (w.heap.size+1+1) p rfl hS hp rfl
    (fun pre W=>Below w.heap.size w W/\W.cell? ⟨w.heap.size+1,0,none⟩=some (.int .i64 0)/\W.frozen? ⟨w.heap.size+1,0,none⟩=false/\pre.all Sem.part=true)
    (fun pre W=>Below w.heap.size w W/\W.cell? ⟨w.heap.size+1,0,none⟩=some (.int .i64 40)/\pre.all Sem.part=false)
    ?hI ?hIx ⟨hb0,hc0,hf0,rfl⟩
    (fun x=> { tmps:=#[.agg #[.int .i64 a,.int .i64 b,.int .i64 c,.string ⟨p.toArray⟩],.pointer (some ⟨w.heap.size,0,none⟩),.pointer (some ⟨w.heap.size+1,0,none⟩),undef,u4,.string ⟨x.toArray⟩,.pointer (some ⟨w.heap.size,0,none⟩),.int .i64 a,
     .pointer (some ⟨w.heap.size,1,none⟩),.int .i64 b,.pointer (some ⟨w.heap.size,2,none⟩),.int .i64 c,.agg #[.int .i64 a,.int .i64 b,.int .i64 c],.int .i64 3,.bool false,u15,u16,u17,u18,u19,u20,u21,u22,.pointer (some ⟨w.heap.size,3,none⟩),.string ⟨p.toArray⟩,.bool false,
     .pointer (some ⟨w.heap.size,3,none⟩),.string ⟨p.toArray⟩,.int .i64 p.length,.bool (decide ((24:Int) < p.length)),.pointer (some ⟨w.heap.size,3,none⟩),.string ⟨p.toArray⟩,
     .func (.func 230) #[] #[.pointer (some ⟨w.heap.size+1+1+1,0,none⟩),.pointer (some ⟨w.heap.size+1+1,0,none⟩),.pointer (some ⟨w.heap.size+1+1+2,0,none⟩)],.string ⟨x.toArray⟩,undef,undef,undef],defers:= [] }) ?hassign ?hbody ?hdone ?hstop
   case hI=>
    rintro pre A B ⟨h1,h2,h3,h4⟩ hb;exact ⟨h1.trans (hb.mono (by omega)),(hb.cell (p:=⟨w.heap.size+1,0,none⟩) (by show w.heap.size+1 < w.heap.size+1+1; omega)).trans h2,(hb.frozen (p:=⟨w.heap.size+1,0,none⟩) (by show w.heap.size+1 < w.heap.size+1+1; omega)).trans h3,h4⟩
   case hIx=>
    rintro pre A B ⟨h1,h2,h4⟩ hb;exact ⟨h1.trans (hb.mono (by omega)),(hb.cell (p:=⟨w.heap.size+1,0,none⟩) (by show w.heap.size+1 < w.heap.size+1+1; omega)).trans h2,h4⟩
   case hassign=>
    intro l x W K hK
    gi_wp2
    exact hK
   case hbody=>
    rintro l pre x W ⟨h1,h2,h3,h4⟩ hx;have hcon:=fun W=>CallsIn.inRound l (callsIn_wide (n:=6 - 1 - 1 - 1).2 (Z6D ⟨x.toArray⟩ (by rw[Z07]; omega) W));have hq0:Sem.part (⟨x.toArray⟩:ByteArray).data.toList=Sem.part x:=rfl;rw[hq0] at hcon;cases hq:Sem.part x
    {have H4:Hid ((pre++ [x]).all Sem.part=false):=Y1 (by rw[List.all_append,h4]; simp[hq]);rw[hq] at hcon;clear hq hq0 h4
     gi_wp2_with (refine ⟨trivial, ?_⟩; gi_at_call 216; refine (hcon _).mono ?_; rintro e w' ⟨rfl,rfl⟩)
     exact ⟨KeepsOthers.setCell _ _ _,h1.setCell (p:=⟨w.heap.size+1,0,none⟩) (by show w.heap.size<=w.heap.size+1; omega) _,World.cell?_setCell_same _ _ _ h2,H4.out⟩}
    {have H4:Hid ((pre++ [x]).all Sem.part=true):=Y1 (by rw[List.all_append,h4]; simp[hq]);rw[hq] at hcon;clear hq hq0 h4
     gi_wp2_with (refine ⟨trivial, ?_⟩; gi_at_call 216; refine (hcon _).mono ?_; rintro e w' ⟨rfl,rfl⟩)
     exact ⟨KeepsOthers.refl _,Below.refl _ _,h1,h2,h3,H4.out⟩}
   case hdone=>
    rintro D W ⟨h1,h2,h3,h4⟩ hK hD;have HF:Hid (chk ⟨a,b,c,p⟩=0):=Y1 (by rw[HE.out,if_pos h4]);clear h4 hc0 hf0
    gi_wp2
    have hDR:w.heap.size+1+1+2 < D:=Nat.lt_of_lt_of_le hS.1 hD;have hK2: (W.setCell ⟨w.heap.size+1,0,none⟩ (.int .i64 0)).heap[D]? =some (.deferred (some [])):=(Below.heap_setCell W ⟨w.heap.size+1,0,none⟩ _ D (by show D≠w.heap.size+1; omega)).trans hK;have hP:=Z1j (B:=w.heap.size+2) (W:=W.setCell ⟨w.heap.size+1,0,none⟩ (.int .i64 0)) (l:=D) (.deferred none) (by omega);have hc5:=(hP.cell (p:=⟨w.heap.size+1,0,none⟩) (by show w.heap.size+1 < w.heap.size+2; omega)).trans (World.cell?_setCell_same _ _ (.int .i64 0) h2);have hB5:Below w.heap.size w ((W.setCell ⟨w.heap.size+1,0,none⟩ (.int .i64 0)).putObj D (.deferred none)):=(h1.setCell (p:=⟨w.heap.size+1,0,none⟩) (by show w.heap.size<=w.heap.size+1; omega) _).trans (hP.mono (by omega));refine ⟨by simp,.inl ⟨_,_,rfl,run_takeDeferred hK2, ?_⟩⟩;generalize (W.setCell ⟨w.heap.size+1,0,none⟩ (.int .i64 0)).putObj D (.deferred none)=W5 at hc5 hB5 ⊢;refine ⟨.int .i64 0,by simp[results,Tryz.results206,go_sem,hc5], ?_⟩;exact ⟨by rw[HF.out],hB5⟩
   case hstop=>
    rintro D pre suf W hps ⟨h1,h2,h4⟩ hK hD;have HF:Hid (chk ⟨a,b,c,p⟩=40):=Y1 (by
     rw[HE.out,if_neg];rw[<-hps,List.all_append,h4]; simp)
    clear h4 hc0 hf0 hps
    gi_wp2
    have hDR:w.heap.size+1+1+2 < D:=Nat.lt_of_lt_of_le hS.1 hD;have hP:=Z1j (B:=w.heap.size+2) (W:=W) (l:=D) (.deferred none) (by omega);have hc5:=(hP.cell (p:=⟨w.heap.size+1,0,none⟩) (by show w.heap.size+1 < w.heap.size+2; omega)).trans h2;have hB5:Below w.heap.size w (W.putObj D (.deferred none)):=h1.trans (hP.mono (by omega));refine ⟨by simp,.inl ⟨_,_,rfl,run_takeDeferred hK, ?_⟩⟩;generalize W.putObj D (.deferred none)=W5 at hc5 hB5 ⊢;refine ⟨.int .i64 40,by simp[results,Tryz.results206,go_sem,hc5], ?_⟩;exact ⟨by rw[HF.out],hB5⟩}
theorem Z6d (v:Sem.Ver) (hs:v.pre.length<=9223372036854775807) (w:World):
 Y9 206 #[verV v] w (.int .i64 (chk v)):=by
 obtain ⟨a,b,c,p⟩:=v;unfold verV;simp only at hs;by_cases hn: (0<=a/\a<=999999)/\(0<=b/\b<=999999)/\(0<=c/\c<=999999)
 {obtain ⟨⟨a1,a2⟩,⟨b1,b2⟩,⟨c1,c2⟩⟩:=hn;by_cases hz:p= []
  {subst hz; exact Zbv a b c a1 a2 b1 b2 c1 c2 w}
  {by_cases hp:p.length<=24
   {exact Z9P a b c p hp hz a1 a2 b1 b2 c1 c2 w}
   {exact Zbw a b c p (by omega) (by omega) a1 a2 b1 b2 c1 c2 w}}}
 {exact Zd5 a b c p hn w}
def digB (d:Nat):UInt8:=UInt8.ofNat (48+d)
theorem Z7a (d:Nat) (h:d < 10) (W:World):
 (Instr.slice 9 (.string ⟨#[48,49,50,51,52,53,54,55,56,57]⟩) (some (.int .i64 d)) (some (.int .i64 (d+1))) none).run Tryz.prog W= .ok (.string ⟨[digB d].toArray⟩) W:=by
 have hz: (⟨#[48,49,50,51,52,53,54,55,56,57]⟩:ByteArray).size=10:=by decide
 have:=Z1i ⟨#[48,49,50,51,52,53,54,55,56,57]⟩ d (d+1) (by omega) (by rw[hz]; omega) W;rw[this,show ((d:Int)+1).toNat - d=1 from by omega];have e: (([48,49,50,51,52,53,54,55,56,57]:List UInt8).drop d).take 1= [digB d]:=by
  match d,h with
  | 0,_=>rfl
  | 1,_=>rfl
  | 2,_=>rfl
  | 3,_=>rfl
  | 4,_=>rfl
  | 5,_=>rfl
  | 6,_=>rfl
  | 7,_=>rfl
  | 8,_=>rfl
  | 9,_=>rfl
 exact congrArg (fun l:List UInt8=>Result.ok (Value.string ⟨l.toArray⟩) W) e
theorem Z8C (N:Nat) (h:N<=999999) (w:World):
 Calls Tryz.prog 116 #[.int .i64 N] w fun e w'=>e= .returned (.string ⟨(Sem.dec N).toArray⟩)/\w=w':=by
 obtain ⟨d,hd⟩: ∃d:Nat,(N:Int) % 10=d:=⟨N % 10,by omega⟩;have hd9:d < 10:=by omega
 have hsl:=Z7a d hd9;have HD:Hid (Sem.dec N=Sem.ahead N++ [digB d]):=Y1 (by rw[Sem.Z7Q,show N % 10=d from by omega]; rfl);go_enter Tryz.func116,Tryz.ntmps116
 go_wp2_with fail
 clear hsl
 go_loop [0,3,4] (fun n d o=> ∃(m:Nat) (x:Int) (out:List UInt8),n= .int .i64 m/\d= .int .i64 x/\o= .string ⟨out.toArray⟩/\out.length+m<=N+1/\Hid (Sem.dec N=Sem.ahead m++out))
  (fun n _ _=>(intOf n).toNat)
 case atStart=>exact ⟨N,_,_,rfl,rfl,rfl,by simp; omega,HD⟩
 case round=>
  clear hd HD hd9;obtain ⟨m,x,out,rfl,rfl,rfl,hm,HM⟩:=hrel;by_cases hlt:10<=m
  {obtain ⟨c,hc⟩: ∃c:Nat,(m:Int) / 10 % 10=c:=⟨m / 10 % 10,by omega⟩;have hc9:c < 10:=by omega
   have hsl:=Z7a c hc9;have HN:Hid (Sem.dec N=Sem.ahead (m / 10)++(digB c::out)):=Y1 (by
    rw[HM.out];have e:Sem.ahead m=Sem.dec (m / 10):=by unfold Sem.ahead; rw[if_neg (by omega)]
    rw[e,Sem.Z7Q,show m / 10 % 10=c from by omega,List.append_assoc]; rfl)
   have hol:out.length<=1000000:=by omega
   go_wp2
   go_round
   case rel=>exact ⟨m / 10,_,digB c::out,by go_num,rfl,congrArg Value.string (Z6Q [digB c] out),by simp; omega,HN⟩
   case measure=>simp[intOf]; omega}
  {have HN:Hid (Sem.dec N=out):=Y1 (by
    rw[HM.out];have e:Sem.ahead m= []:=by unfold Sem.ahead; rw[if_pos (by omega)]
    rw[e,List.nil_append])
   go_wp2;go_ret;exact ⟨by rw[HN.out]; rfl,rfl⟩}
def showR (v:Sem.Ver):Value:=if Sem.may v=true then .tuple #[.string ⟨(Sem.text v).toArray⟩,.int .i64 0] else .tuple #[.string ByteArray.empty,.int .i64 40]
theorem Z22 {n:Nat} (h:n<=999999): (Sem.dec n).length<=6:=Sem.Z30 6 n (by have: (10:Nat) ^ 6=1000000:=rfl; omega) (by omega)
theorem Zd6 (x y z:List UInt8): (⟨x.toArray⟩:ByteArray)++⟨#[46]⟩++⟨y.toArray⟩++⟨#[46]⟩++⟨z.toArray⟩=⟨(x++46::(y++46::(z++if ([]:List UInt8)= [] then [] else 45:: []))).toArray⟩:=by
 apply ByteArray.ext;simp[ByteArray.data_append]
theorem Zd7 (x y z p:List UInt8) (h:p≠ []): (⟨x.toArray⟩:ByteArray)++⟨#[46]⟩++⟨y.toArray⟩++⟨#[46]⟩++⟨z.toArray⟩++⟨#[45]⟩++⟨p.toArray⟩=⟨(x++46::(y++46::(z++if p= [] then [] else 45::p))).toArray⟩:=by
 rw[if_neg h];apply ByteArray.ext;simp[ByteArray.data_append]
theorem Zd8 {s t:ByteArray} (e:Int) (h:s=t):Ending.returned (.tuple #[.string s,.int .i64 e])= .returned (.tuple #[.string t,.int .i64 e]):=by rw[h]
theorem Z1I (v:Sem.Ver) (hs:v.pre.length<=9223372036854775807) (w:World):
 Y9 83 #[verV v] w (showR v):=by
 cases hm:Sem.may v
 {have HM:=Y1 hm;have hc:chk v=40:=by rw[chk,hm]; rfl
  have HC:=Y1 hc;obtain ⟨a,b,c,p⟩:=v;clear hm hc;have hv:verV ⟨a,b,c,p⟩= .agg #[.int .i64 a,.int .i64 b,.int .i64 c,.string ⟨p.toArray⟩]:=rfl;have HV:=Y1 hv;rw[hv];clear hv;go_enter Tryz.func83,Tryz.ntmps83
  go_wp2_with fail
  refine (Z3t ⟨a,b,c,p⟩ hs _).mono ?_;rintro e w1 ⟨he,hb⟩;rw[HC.out] at he;subst he;go_wp2
  go_ret2
  exact ⟨by rw[showR,HM.out,if_neg (by simp)]; rfl,Z00 (Z01 _ _) hb⟩}
 {have HM:=Y1 hm;have hc:chk v=0:=by rw[chk,hm]; rfl
  have HC:=Y1 hc;have hmi:=(Sem.Z12 v).1 hm;obtain ⟨a,b,c,p⟩:=v;simp only at hmi hs;obtain ⟨⟨a1,a2⟩,⟨b1,b2⟩,⟨c1,c2⟩,hp,_⟩:=hmi;obtain ⟨a,rfl⟩:=Int.eq_ofNat_of_zero_le a1;obtain ⟨b,rfl⟩:=Int.eq_ofNat_of_zero_le b1;obtain ⟨c,rfl⟩:=Int.eq_ofNat_of_zero_le c1;clear hm hc;have HS:Hid (showR ⟨a,b,c,p⟩= .tuple #[.string ⟨(Sem.dec a++46::(Sem.dec b++46::(Sem.dec c++if p= [] then [] else 45::p))).toArray⟩,.int .i64 0]):=Y1 (by
   rw[showR,HM.out,if_pos rfl]; rfl)
  have la:=Z22 (n:=a) (by omega);have lb:=Z22 (n:=b) (by omega);have lc:=Z22 (n:=c) (by omega);unfold verV;by_cases hz:p= []
  {subst hz;go_enter Tryz.func83,Tryz.ntmps83
   go_wp2_with fail
   refine (Z3t ⟨a,b,c,[]⟩ hs _).mono ?_;rintro e w1 ⟨he,hb⟩;rw[HC.out] at he;subst he;obtain ⟨_,g0,g1,g2,g3⟩:=(Z2m w ⟨a,b,c,[]⟩).next hb
   go_wp2_with fail
   go_quiet ((go_at_call 116; exact Calls.quiet_of_same (flip (Z8C _ (by omega) _))))
   go_wp2
   go_ret2
   refine ⟨?_,Z0b (Z00 (Z01 _ _) hb) _⟩;rw[HS.out];exact Zd8 0 (Zd6 _ _ _)}
  {have hpe:p.isEmpty=false:=by simpa using hz
   go_enter Tryz.func83,Tryz.ntmps83
   go_wp2_with fail
   refine (Z3t ⟨a,b,c,p⟩ hs _).mono ?_;rintro e w1 ⟨he,hb⟩;rw[HC.out] at he;subst he;obtain ⟨_,g0,g1,g2,g3⟩:=(Z2m w ⟨a,b,c,p⟩).next hb
   go_wp2_with fail
   go_quiet ((go_at_call 116; exact Calls.quiet_of_same (flip (Z8C _ (by omega) _))))
   go_wp2
   go_ret2
   refine ⟨?_,Z0b (Z00 (Z01 _ _) hb) _⟩;rw[HS.out];exact Zd8 0 (Zd7 _ _ _ _ hz)}}
theorem Zg4 (n:Nat):Lib.decDigits n=Sem.dec n:=by
 induction n using Nat.strongRecOn with
 | ind n ih=>
  rw[Lib.decDigits,Sem.dec];by_cases h:n < 10
  {rw[dif_pos h,dif_pos h]}
  {rw[dif_neg h,dif_neg h,ih _ (by omega)]}
theorem Zd9 (n:Nat) (h:n<=999999) (w:World) (hg:Globs w):
 Y9 207 #[.int .i64 n] w (.string ⟨(Sem.dec n).toArray⟩):=by
 have hi:=Any.strconv_Itoa Tryz.laysM171 n (by omega) (by omega) w hg.tab;rw[Lib.itoa_nonneg,Zg4] at hi;refine Calls.mono hi ?_;rintro e w' ⟨rfl,k,os,rfl⟩;exact ⟨rfl,Lib.below_grow _ _ (Nat.le_refl _) _ _⟩
theorem Zbx (z:Int) (h0:0<=z) (h:z<=999999) (w:World) (hg:Globs w):
 Y9 207 #[.int .i64 z] w (.string ⟨(Sem.dec z.toNat).toArray⟩):=by
 obtain ⟨n,rfl⟩:=Int.eq_ofNat_of_zero_le h0;exact Zd9 n (by omega) w hg
theorem Zby {w W w':World} {g:Nat} {a b c:Int} {x:ByteArray} (h:g < W.heap.size/\W.cell? ⟨g,0,none⟩=some (.int .i64 a)/\W.cell? ⟨g,1,none⟩=some (.int .i64 b)/\W.cell? ⟨g,2,none⟩=some (.int .i64 c)/\W.cell? ⟨g,3,none⟩=some (.string x)/\Globs W/\Below w.heap.size w W) (hb:Below W.heap.size W w'):
 g < w'.heap.size/\w'.cell? ⟨g,0,none⟩=some (.int .i64 a)/\w'.cell? ⟨g,1,none⟩=some (.int .i64 b)/\w'.cell? ⟨g,2,none⟩=some (.int .i64 c)/\w'.cell? ⟨g,3,none⟩=some (.string x)/\Globs w'/\Below w.heap.size w w':=by
 obtain ⟨h0,h1,h2,h3,h4,h5,h6⟩:=h;exact ⟨Nat.lt_of_lt_of_le h0 hb.size,((Z04 (o:=0) hb h0).1).trans h1,((Z04 (o:=1) hb h0).1).trans h2,((Z04 (o:=2) hb h0).1).trans h3,((Z04 (o:=3) hb h0).1).trans h4,h5.next hb,Z00 h6 hb⟩
theorem Z4b (z:Int) (z0:0<=z) (z1:z<=999999) {w W:World} {g:Nat} {a b c:Int} {x:ByteArray} (h:g < W.heap.size/\W.cell? ⟨g,0,none⟩=some (.int .i64 a)/\W.cell? ⟨g,1,none⟩=some (.int .i64 b)/\W.cell? ⟨g,2,none⟩=some (.int .i64 c)/\W.cell? ⟨g,3,none⟩=some (.string x)/\Globs W/\Below w.heap.size w W):
 Y9 207 #[.int .i64 z] W (.string ⟨(Sem.dec z.toNat).toArray⟩):=
 Zbx z z0 z1 W h.2.2.2.2.2.1
theorem Globs.drew {w:World} (h:Globs w):Globs w.drew:=⟨h.syn,h.rng,h.tab⟩
theorem Z2X {w W:World} {g:Nat} {a b c:Int} {x:ByteArray} (h:g < W.heap.size/\W.cell? ⟨g,0,none⟩=some (.int .i64 a)/\W.cell? ⟨g,1,none⟩=some (.int .i64 b)/\W.cell? ⟨g,2,none⟩=some (.int .i64 c)/\W.cell? ⟨g,3,none⟩=some (.string x)/\Globs W/\Below w.heap.size w W):
 g < W.drew.heap.size/\W.drew.cell? ⟨g,0,none⟩=some (.int .i64 a)/\W.drew.cell? ⟨g,1,none⟩=some (.int .i64 b)/\W.drew.cell? ⟨g,2,none⟩=some (.int .i64 c)/\W.drew.cell? ⟨g,3,none⟩=some (.string x)/\Globs W.drew/\Below w.heap.size w W.drew:=
 ⟨h.1,h.2.1,h.2.2.1,h.2.2.2.1,h.2.2.2.2.1,h.2.2.2.2.2.1.drew,h.2.2.2.2.2.2.drew⟩
theorem Zeq (x y z:List UInt8): (⟨x.toArray⟩:ByteArray)++⟨#[46]⟩++⟨y.toArray⟩++⟨#[46]⟩++⟨z.toArray⟩=⟨(x++46::(y++46::z)).toArray⟩:=by
 apply ByteArray.ext;simp[ByteArray.data_append]
theorem Zer (x y z p:List UInt8): (⟨(x++46::(y++46::z)).toArray⟩:ByteArray)++(⟨#[45]⟩++⟨p.toArray⟩)=⟨(x++46::(y++46::(z++45::p))).toArray⟩:=by
 apply ByteArray.ext;simp[ByteArray.data_append]
theorem Zda (v:Sem.Ver) (hs:v.pre.length<=140737488351232) (w:World) (hg:Globs w):
 Y9 192 #[verV v] w (showR v):=by
 cases hm:Sem.may v
 {have HM:=Y1 hm;have hc:chk v=40:=by rw[chk,hm]; rfl
  have HC:=Y1 hc;obtain ⟨a,b,c,p⟩:=v;clear hm hc;have hv:verV ⟨a,b,c,p⟩= .agg #[.int .i64 a,.int .i64 b,.int .i64 c,.string ⟨p.toArray⟩]:=rfl;rw[hv];clear hv;go_enter Tryz.func192,Tryz.ntmps192
  go_wp2_with fail
  refine (Z6d ⟨a,b,c,p⟩ (Nat.le_trans hs (by decide)) _).mono ?_;rintro e w1 ⟨he,hb⟩;rw[HC.out] at he;subst he;go_wp2
  go_ret2
  exact ⟨by rw[showR,HM.out,if_neg (by simp)]; rfl,Z00 (Z01 _ _) hb⟩}
 {have HM:=Y1 hm;have hc:chk v=0:=by rw[chk,hm]; rfl
  have HC:=Y1 hc;have hmi:=(Sem.Z12 v).1 hm;obtain ⟨a,b,c,p⟩:=v;simp only at hmi hs;obtain ⟨⟨a1,a2⟩,⟨b1,b2⟩,⟨c1,c2⟩,hp,_⟩:=hmi;clear hm hc;have HS:Hid (showR ⟨a,b,c,p⟩= .tuple #[.string ⟨(Sem.dec a.toNat++46::(Sem.dec b.toNat++46::(Sem.dec c.toNat++if p= [] then [] else 45::p))).toArray⟩,.int .i64 0]):=Y1 (by
   rw[showR,HM.out,if_pos rfl]; rfl)
  have la:=Z22 (n:=a.toNat) (by omega);have lb:=Z22 (n:=b.toNat) (by omega);have lc:=Z22 (n:=c.toNat) (by omega);have lp: (⟨p.toArray⟩:ByteArray).size=p.length:=Z07 _;have sa: (⟨(Sem.dec a.toNat).toArray⟩:ByteArray).size=(Sem.dec a.toNat).length:=Z07 _;have sb: (⟨(Sem.dec b.toNat).toArray⟩:ByteArray).size=(Sem.dec b.toNat).length:=Z07 _;have sc: (⟨(Sem.dec c.toNat).toArray⟩:ByteArray).size=(Sem.dec c.toNat).length:=Z07 _;have sd: (⟨#[46]⟩:ByteArray).size=1:=rfl;have n1: ((⟨(Sem.dec a.toNat).toArray⟩:ByteArray)++⟨#[46]⟩).size=(Sem.dec a.toNat).length+1:=by rw[ByteArray.size_append,sa,sd]
  have n2: ((⟨(Sem.dec a.toNat).toArray⟩:ByteArray)++⟨#[46]⟩++⟨(Sem.dec b.toNat).toArray⟩).size=(Sem.dec a.toNat).length+1+(Sem.dec b.toNat).length:=by rw[ByteArray.size_append,n1,sb]
  have n3: ((⟨(Sem.dec a.toNat).toArray⟩:ByteArray)++⟨#[46]⟩++⟨(Sem.dec b.toNat).toArray⟩++⟨#[46]⟩).size=(Sem.dec a.toNat).length+1+(Sem.dec b.toNat).length+1:=by rw[ByteArray.size_append,n2,sd]
  have k1: ∀W:World,(Op.stringOp .add (⟨(Sem.dec a.toNat).toArray⟩:ByteArray) ⟨#[46]⟩).run Tryz.prog W= .ok (.string ((⟨(Sem.dec a.toNat).toArray⟩:ByteArray)++⟨#[46]⟩)) W:=fun W=>run_string_add_sum _ _ _ (by omega);have k2: ∀W:World,(Op.stringOp .add ((⟨(Sem.dec a.toNat).toArray⟩:ByteArray)++⟨#[46]⟩) ⟨(Sem.dec b.toNat).toArray⟩).run Tryz.prog W= .ok (.string ((⟨(Sem.dec a.toNat).toArray⟩:ByteArray)++⟨#[46]⟩++⟨(Sem.dec b.toNat).toArray⟩)) W:=fun W=>run_string_add_sum _ _ _ (by omega);have k3: ∀W:World,(Op.stringOp .add ((⟨(Sem.dec a.toNat).toArray⟩:ByteArray)++⟨#[46]⟩++⟨(Sem.dec b.toNat).toArray⟩) ⟨#[46]⟩).run Tryz.prog W= .ok (.string ((⟨(Sem.dec a.toNat).toArray⟩:ByteArray)++⟨#[46]⟩++⟨(Sem.dec b.toNat).toArray⟩++⟨#[46]⟩)) W:=fun W=>run_string_add_sum _ _ _ (by omega);have k4: ∀W:World,(Op.stringOp .add ((⟨(Sem.dec a.toNat).toArray⟩:ByteArray)++⟨#[46]⟩++⟨(Sem.dec b.toNat).toArray⟩++⟨#[46]⟩) ⟨(Sem.dec c.toNat).toArray⟩).run Tryz.prog W= .ok (.string ((⟨(Sem.dec a.toNat).toArray⟩:ByteArray)++⟨#[46]⟩++⟨(Sem.dec b.toNat).toArray⟩++⟨#[46]⟩++⟨(Sem.dec c.toNat).toArray⟩)) W:=fun W=>run_string_add_sum _ _ _ (by omega);clear n1 n2 n3 sd;unfold verV;go_enter Tryz.func192,Tryz.ntmps192
  go_wp2_with fail
  refine (Z6d ⟨a,b,c,p⟩ (Nat.le_trans hs (by decide)) _).mono ?_;rintro e w1 ⟨he,hb⟩;rw[HC.out] at he;subst he;obtain ⟨h0,g0,g1,g2,g3⟩:=(Z2m w ⟨a,b,c,p⟩).next hb;have hb1:=Z00 (Z01 w (Obj.cells #[Value.int IntKind.i64 a,Value.int IntKind.i64 b,Value.int IntKind.i64 c,Value.string ⟨p.toArray⟩] 105)) hb;have hS0:w.heap.size < w1.heap.size/\w1.cell? ⟨w.heap.size,0,none⟩=some (.int .i64 a)/\w1.cell? ⟨w.heap.size,1,none⟩=some (.int .i64 b)/\w1.cell? ⟨w.heap.size,2,none⟩=some (.int .i64 c)/\w1.cell? ⟨w.heap.size,3,none⟩=some (.string ⟨p.toArray⟩)/\Globs w1/\Below w.heap.size w w1:=⟨h0,g0,g1,g2,g3,hg.next hb1,hb1⟩;simp only at g0 g1 g2 g3;have hG1:=hS0.2.2.2.2.2.1;clear hb hb1
  go_wp2_with fail
  go_region_held3 (fun w'=>w.heap.size < w'.heap.size/\w'.cell? ⟨w.heap.size,0,none⟩=some (.int .i64 a)/\w'.cell? ⟨w.heap.size,1,none⟩=some (.int .i64 b)/\w'.cell? ⟨w.heap.size,2,none⟩=some (.int .i64 c)/\w'.cell? ⟨w.heap.size,3,none⟩=some (.string ⟨p.toArray⟩)/\Globs w'/\Below w.heap.size w w')
   (first | exact Z2X hS0 | exact Zby (by assumption) (by assumption) | assumption)
   (first | (go_at_call 207; refine Calls.mono (Z4b (w:=w) (g:=w.heap.size) (a:=a) (b:=b) (c:=c) (x:=⟨p.toArray⟩) a a1 a2 ?_) ?_; (first | exact Z2X hS0 | exact hS0 | assumption); rintro e w4 ⟨rfl,hb4⟩) | (go_at_call 207; refine Calls.mono (Z4b (w:=w) (g:=w.heap.size) (a:=a) (b:=b) (c:=c) (x:=⟨p.toArray⟩) b b1 b2 ?_) ?_; (first | exact Z2X hS0 | exact hS0 | assumption); rintro e w5 ⟨rfl,hb5⟩) | (go_at_call 207; refine Calls.mono (Z4b (w:=w) (g:=w.heap.size) (a:=a) (b:=b) (c:=c) (x:=⟨p.toArray⟩) c c1 c2 ?_) ?_; (first | exact Z2X hS0 | exact hS0 | assumption); rintro e w6 ⟨rfl,hb6⟩))
  all_goals (
   have hH:w.heap.size < w6.heap.size/\w6.cell? ⟨w.heap.size,0,none⟩=some (.int .i64 a)/\w6.cell? ⟨w.heap.size,1,none⟩=some (.int .i64 b)/\w6.cell? ⟨w.heap.size,2,none⟩=some (.int .i64 c)/\w6.cell? ⟨w.heap.size,3,none⟩=some (.string ⟨p.toArray⟩)/\Globs w6/\Below w.heap.size w w6:=by assumption
   obtain ⟨_,j0,j1,j2,j3,_,kb⟩:=hH;clear k1 k2 k3 k4;rw[Zeq];obtain ⟨t,ht⟩: ∃t,t=Sem.dec a.toNat++46::(Sem.dec b.toNat++46::Sem.dec c.toNat):=⟨_,rfl⟩;have htl:t.length<=20:=by rw[ht]; simp; omega
   have hts: (⟨t.toArray⟩:ByteArray).size=t.length:=Z07 _;rw[<-ht];by_cases hz:p= []
   {have he:p.isEmpty=true:=by rw[hz]; rfl
    have HF:Hid (showR ⟨a,b,c,p⟩= .tuple #[.string ⟨t.toArray⟩,.int .i64 0]):=Y1 (by rw[HS.out,if_pos hz,List.append_nil,ht]);clear ht hz;go_wp2
    go_ret2
    exact ⟨by rw[HF.out]; rfl,kb⟩}
   · have he:p.isEmpty=false:=by simpa using hz
     have HF:Hid (showR ⟨a,b,c,p⟩= .tuple #[.string (⟨t.toArray⟩++(⟨#[45]⟩++⟨p.toArray⟩)),.int .i64 0]):=Y1 (by
      rw[HS.out,if_neg hz,ht,Zer])
     clear ht hz;go_wp2
     go_ret2
     exact ⟨by rw[HF.out]; rfl,kb⟩)}
def Box4 (W:World) (g:Nat) (v:Sem.Ver):Prop:=VerAt W g v/\W.frozen? ⟨g,0,none⟩=false/\W.frozen? ⟨g,1,none⟩=false/\W.frozen? ⟨g,2,none⟩=false/\W.frozen? ⟨g,3,none⟩=false
theorem Box4.keep {W W':World} {g B:Nat} {v:Sem.Ver} (h:Box4 W g v) (hg:g < B) (hb:Below B W W'):Box4 W' g v:=by
 obtain ⟨⟨h0,h1,h2,h3,h4⟩,f0,f1,f2,f3⟩:=h;exact ⟨⟨Nat.lt_of_lt_of_le h0 hb.size,(hb.cell (p:=⟨g,0,none⟩) hg).trans h1,(hb.cell (p:=⟨g,1,none⟩) hg).trans h2,(hb.cell (p:=⟨g,2,none⟩) hg).trans h3,(hb.cell (p:=⟨g,3,none⟩) hg).trans h4⟩,
  (hb.frozen (p:=⟨g,0,none⟩) hg).trans f0,(hb.frozen (p:=⟨g,1,none⟩) hg).trans f1,(hb.frozen (p:=⟨g,2,none⟩) hg).trans f2,(hb.frozen (p:=⟨g,3,none⟩) hg).trans f3⟩
theorem Box4.set {W:World} {g:Nat} {v:Sem.Ver} (h:Box4 W g v) (u:Sem.Ver):Box4 ((((W.setCell ⟨g,0,none⟩ (.int .i64 u.maj)).setCell ⟨g,1,none⟩ (.int .i64 u.min)).setCell ⟨g,2,none⟩ (.int .i64 u.pat)).setCell ⟨g,3,none⟩ (.string ⟨u.pre.toArray⟩)) g u:=by
 obtain ⟨⟨h0,h1,h2,h3,h4⟩,f0,f1,f2,f3⟩:=h;exact ⟨⟨by simpa using h0,by simp[go_sem,h1],by simp[go_sem,h2],by simp[go_sem,h3],by simp[go_sem,h4]⟩,by simp[go_sem,f0],by simp[go_sem,f1],by simp[go_sem,f2],by simp[go_sem,f3]⟩
theorem ZaC (w:World) (v:Sem.Ver):Box4 (w.alloc (.cells #[.int .i64 v.maj,.int .i64 v.min,.int .i64 v.pat,.string ⟨v.pre.toArray⟩] 105)) w.heap.size v:=
 ⟨Z2m w v,by simp[go_sem],by simp[go_sem],by simp[go_sem],by simp[go_sem]⟩
theorem VerAt.put {W:World} {g x:Nat} {v:Sem.Ver} (h:VerAt W g v) (hne:x≠g) (p q r s:Value):
 VerAt ((((W.setCell ⟨x,0,none⟩ p).setCell ⟨x,1,none⟩ q).setCell ⟨x,2,none⟩ r).setCell ⟨x,3,none⟩ s) g v:=by
 obtain ⟨h0,h1,h2,h3,h4⟩:=h;have k: ∀(V:World) (i j:Nat) (z:Value),(V.setCell ⟨x,i,none⟩ z).cell? ⟨g,j,none⟩=V.cell? ⟨g,j,none⟩:=fun V i j z=>World.cell?_setCell_other _ _ _ _ (fun e=>hne (congrArg Addr.block e));refine ⟨by simpa using h0, ?_, ?_, ?_, ?_⟩ <;> rw[k,k,k,k] <;> assumption
theorem Box4.put {W:World} {g x:Nat} {v:Sem.Ver} (h:Box4 W g v) (hne:x≠g) (p q r s:Value):
 Box4 ((((W.setCell ⟨x,0,none⟩ p).setCell ⟨x,1,none⟩ q).setCell ⟨x,2,none⟩ r).setCell ⟨x,3,none⟩ s) g v:=by
 obtain ⟨h1,f0,f1,f2,f3⟩:=h;exact ⟨h1.put hne p q r s,by simp[go_sem,f0],by simp[go_sem,f1],by simp[go_sem,f2],by simp[go_sem,f3]⟩
end
end Go.Proofs.YtkncdbaoaeeoiaaGreatDoor
