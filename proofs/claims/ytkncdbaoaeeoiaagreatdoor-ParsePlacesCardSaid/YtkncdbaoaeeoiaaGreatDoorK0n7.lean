/- What the proofs of ParsePlaces want, part 7. -/
import Derived.Deep.RegionHeld3
import Derived.Lib.CutLaws
import Derived.Test.YtkncdbaoaeeoiaaGreatDoorK0n6
import Derived.Test.YtkncdbaoaeeoiaaGreatDoorK0n3
set_option linter.unusedVariables false
set_option linter.unusedSimpArgs false
set_option linter.unusedSectionVars false
set_option maxRecDepth 100000
set_option maxHeartbeats 16000000
namespace Go.Proofs.YtkncdbaoaeeoiaaGreatDoor
section
open Go.RowKit
def duo (x:Int×Nat):Value:= .tuple #[.int .i64 x.1,.int .i64 x.2]
theorem Z4E (a:UInt8) (w:World):
 Calls Tryz.prog 188 #[.int .u8 a.toNat] w fun e w'=>e= .returned (duo (Utf.plead a.toNat))/\w=w':=by
 have ha:=a.toNat_lt;rcases Utf.Z1L a.toNat with ⟨h1,e⟩ | ⟨h1,h2,e⟩ | ⟨h1,h2,e⟩ | ⟨h1,h2,e⟩ | ⟨h1,e⟩ <;> rw[e] <;> clear e
 {go_enter Tryz.func188,Tryz.ntmps188;go_wp2
  go_ret2
  exact ⟨rfl,rfl⟩}
 {go_enter Tryz.func188,Tryz.ntmps188;go_wp2
  go_ret2
  exact ⟨rfl,rfl⟩}
 {go_enter Tryz.func188,Tryz.ntmps188;go_wp2
  go_ret2
  exact ⟨rfl,rfl⟩}
 {go_enter Tryz.func188,Tryz.ntmps188;go_wp2
  go_ret2
  exact ⟨rfl,rfl⟩}
 {rcases h1 with ⟨h1,h2⟩ | h1
  {go_enter Tryz.func188,Tryz.ntmps188;go_wp2
   go_ret2
   exact ⟨rfl,rfl⟩}
  {go_enter Tryz.func188,Tryz.ntmps188;go_wp2
   go_ret2
   exact ⟨rfl,rfl⟩}}
section
variable (s : ByteArray)
include s
theorem Z3F (h:0 < s.size): ∃r,s.data.toList=s[0]::r/\r.length+1=s.size/\ ∀(i:Nat) (hi:i < r.length) (h':i+1 < s.size),r[i]=s[i+1]:=by
 have hz:=Lib.size_eq s;obtain ⟨a,r,e⟩: ∃a r,s.data.toList=a::r:=by
  rcases hl:s.data.toList with _ | ⟨a,r⟩
  {rw[hl,List.length_nil] at hz; omega}
  {exact ⟨a,r,rfl⟩}
 have h0:s[0]=s.data.toList[0]'(by rw[e]; simp):=rfl;refine ⟨r, ?_,by rw[hz,e]; rfl, ?_⟩
 {rw[e,h0]; simp[e]}
 {intro i hi h';have:s[i+1]=s.data.toList[i+1]'(by rw[<-hz]; exact h'):=rfl;rw[this]; simp[e]}
theorem Z46 (r:List UInt8) (hl:r.length+1=s.size) (hi: ∀(i:Nat) (hi:i < r.length) (h':i+1 < s.size),r[i]=s[i+1]) {x v:Int} (k:Nat) (hk:1<=k) (hks:k < s.size)
 (hx:x=Utf.val v (r.take (k - 1))):x * 64+(s[k]'hks).toNat - 128=Utf.val v (r.take k):=by
 obtain ⟨j,rfl⟩: ∃j,k=j+1:=⟨k - 1,by omega⟩;rw[List.take_succ_eq_append_getElem (by omega),Utf.ZdI,hi j (by omega) hks,hx];rfl
theorem Z1z (n:Nat): (s.extract 0 n).toList=s.data.toList.take n:=by
 have:=ByteArray.extract_mk s.data.toList 0 n;have e:s.extract 0 n=⟨(s.data.toList.take n).toArray⟩:=this;rw[e,ByteArray.toList_mk]
end
theorem Z9E (w:World):
 Y9 47 #[.string ByteArray.empty] w (duo (0,0)):=by
 go_enter Tryz.func47,Tryz.ntmps47;go_wp2
 go_ret2
 exact ⟨rfl,Below.refl _ _⟩
section
variable (s : ByteArray) (h : 0 < s.size) (hs : s.size <= 9223372036854775807) (w : World)
include s h hs w
theorem Zec (h1: (s[0]).toNat < 192) (e:Utf.lead (s[0]).toNat=(1,((s[0]).toNat:Int))):
 Y9 47 #[.string s] w (duo (Utf.first s.data.toList)):=by
 obtain ⟨r,hr,hl,hi⟩:=Z3F s h;have ha:=(s[0]).toNat_lt;have he:s.toList.isEmpty=false:=by
  rw[ByteArray.toList_mk,hr]; rfl
 have HR:=Y1 hr;have HL:=Y1 hl;have HI:=Y1 hi;have HE:=Y1 e;clear hr hl hi e;by_cases hn:s.size < 1
 {omega}
 {go_enter Tryz.func47,Tryz.ntmps47;go_wp2
  go_quiet (fail)
  go_wp2
  go_loopw [5,6] (fun p i wr=> ∃(k:Nat) (x:Int),i= .int .i64 k/\1<=k/\k<=1/\p= .int .i64 x/\Hid (x=Utf.val (((s[0]).toNat:Int)) (r.take (k - 1)))/\Below w.heap.size w wr)
   (fun _ i _=>4 - (intOf i).toNat)
  case atStart=>exact ⟨1,_,rfl,by omega,by omega,rfl,Y1 rfl,by first | exact Below.refl _ _ | exact Z0b Y2 _⟩
  case round=>
   obtain ⟨k,x,rfl,hk1,hk,rfl,HX,hbel⟩:=hrel;by_cases hlt:k < 1
   {omega}
   {have hkn:k=1:=by omega
    subst hkn;rw[show 1 - 1=0 from rfl] at HX;cases hp:Utf.pt x
    {go_wp2_with fail
     go_quiet ((go_at_call 80; exact Calls.quiet_of_same (flip (Z11 _ _))))
     go_wp2
     go_ret2
     refine ⟨?_,Z0b hbel _⟩;rw[HR.out,Utf.first,HE.out];simp only;rw[<-HX.out,hp,if_neg (by simp)];rfl}
    {go_wp2_with fail
     go_region_held3 (fun w'=>Below w.heap.size w w') (first | exact hbel.drew | assumption | exact Z00 (by assumption) (by assumption) | exact Below.drew (by assumption))
      (first | (go_at_call 80; refine (Z11 _ _).mono ?_; rintro e w' ⟨rfl,rfl⟩) | (go_at_call 81; refine (Z2y _ _ hp).mono ?_; rintro e w' ⟨rfl,hb1⟩))
     go_wp2
     {have ht: (!Utf.bytes x==(s.extract 0 1).toList)=true:=by assumption
      rw[Z1z,HR.out] at ht
      go_ret2
      refine ⟨?_,by assumption⟩;rw[HR.out,Utf.first,HE.out];simp only;rw[<-HX.out,if_neg (by rintro ⟨_,_,h3⟩; rw[h3] at ht; simp at ht)];rfl}
     {have ht: (!Utf.bytes x==(s.extract 0 1).toList)=false:=by assumption
      rw[Z1z,HR.out] at ht
      go_ret2
      refine ⟨?_,by assumption⟩;rw[HR.out,Utf.first,HE.out];simp only;rw[<-HX.out,if_pos ⟨by have:=HL.out; omega,hp,by simpa using ht⟩];rfl}}}}
theorem Zed (h1:192<=(s[0]).toNat) (h2: (s[0]).toNat < 224) (e:Utf.lead (s[0]).toNat=(2,((s[0]).toNat:Int) - 192)):
 Y9 47 #[.string s] w (duo (Utf.first s.data.toList)):=by
 obtain ⟨r,hr,hl,hi⟩:=Z3F s h;have ha:=(s[0]).toNat_lt;have he:s.toList.isEmpty=false:=by
  rw[ByteArray.toList_mk,hr]; rfl
 have HR:=Y1 hr;have HL:=Y1 hl;have HI:=Y1 hi;have HE:=Y1 e;clear hr hl hi e;by_cases hn:s.size < 2
 {go_enter Tryz.func47,Tryz.ntmps47;go_wp2
  go_quiet (fail)
  go_wp2
  go_ret2
  refine ⟨?_,by first | exact Below.refl _ _ | exact Z0b Y2 _⟩;rw[HR.out,Utf.first,HE.out,if_neg (by have:=HL.out; simp only; omega)];rfl}
 {go_enter Tryz.func47,Tryz.ntmps47;go_wp2
  go_quiet (fail)
  go_wp2
  go_loopw [5,6] (fun p i wr=> ∃(k:Nat) (x:Int),i= .int .i64 k/\1<=k/\k<=2/\p= .int .i64 x/\Hid (x=Utf.val (((s[0]).toNat:Int) - 192) (r.take (k - 1)))/\Below w.heap.size w wr)
   (fun _ i _=>4 - (intOf i).toNat)
  case atStart=>exact ⟨1,_,rfl,by omega,by omega,rfl,Y1 rfl,by first | exact Below.refl _ _ | exact Z0b Y2 _⟩
  case round=>
   obtain ⟨k,x,rfl,hk1,hk,rfl,HX,hbel⟩:=hrel;by_cases hlt:k < 2
   {have hks:k < s.size:=by omega
    have hb8:=(s[k]'hks).toNat_lt;have hx: -100000000<=x/\x<=100000000:=by
     rw[HX.out];exact Utf.Z4o (by omega) (by omega) (by rw[List.length_take]; omega)
    have HN:Hid (x * 64+(s[k]'hks).toNat - 128=Utf.val (((s[0]).toNat:Int) - 192) (r.take k)):=Y1 (Z46 s r HL.out HI.out k hk1 hks HX.out);obtain ⟨hx1,hx2⟩:=hx
    go_wp2_with fail
    go_roundw
    case rel=>exact ⟨k+1,_,by go_num,by omega,by omega,rfl,HN,hbel⟩
    case measure=>simp[intOf]; omega}
   {have hkn:k=2:=by omega
    subst hkn;rw[show 2 - 1=1 from rfl] at HX;cases hp:Utf.pt x
    {go_wp2_with fail
     go_quiet ((go_at_call 80; exact Calls.quiet_of_same (flip (Z11 _ _))))
     go_wp2
     go_ret2
     refine ⟨?_,Z0b hbel _⟩;rw[HR.out,Utf.first,HE.out];simp only;rw[<-HX.out,hp,if_neg (by simp)];rfl}
    {go_wp2_with fail
     go_region_held3 (fun w'=>Below w.heap.size w w') (first | exact hbel.drew | assumption | exact Z00 (by assumption) (by assumption) | exact Below.drew (by assumption))
      (first | (go_at_call 80; refine (Z11 _ _).mono ?_; rintro e w' ⟨rfl,rfl⟩) | (go_at_call 81; refine (Z2y _ _ hp).mono ?_; rintro e w' ⟨rfl,hb1⟩))
     go_wp2
     {have ht: (!Utf.bytes x==(s.extract 0 2).toList)=true:=by assumption
      rw[Z1z,HR.out] at ht
      go_ret2
      refine ⟨?_,by assumption⟩;rw[HR.out,Utf.first,HE.out];simp only;rw[<-HX.out,if_neg (by rintro ⟨_,_,h3⟩; rw[h3] at ht; simp at ht)];rfl}
     {have ht: (!Utf.bytes x==(s.extract 0 2).toList)=false:=by assumption
      rw[Z1z,HR.out] at ht
      go_ret2
      refine ⟨?_,by assumption⟩;rw[HR.out,Utf.first,HE.out];simp only;rw[<-HX.out,if_pos ⟨by have:=HL.out; omega,hp,by simpa using ht⟩];rfl}}}}
theorem Zee (h1:224<=(s[0]).toNat) (h2: (s[0]).toNat < 240) (e:Utf.lead (s[0]).toNat=(3,((s[0]).toNat:Int) - 224)):
 Y9 47 #[.string s] w (duo (Utf.first s.data.toList)):=by
 obtain ⟨r,hr,hl,hi⟩:=Z3F s h;have ha:=(s[0]).toNat_lt;have he:s.toList.isEmpty=false:=by
  rw[ByteArray.toList_mk,hr]; rfl
 have HR:=Y1 hr;have HL:=Y1 hl;have HI:=Y1 hi;have HE:=Y1 e;clear hr hl hi e;by_cases hn:s.size < 3
 {go_enter Tryz.func47,Tryz.ntmps47;go_wp2
  go_quiet (fail)
  go_wp2
  go_ret2
  refine ⟨?_,by first | exact Below.refl _ _ | exact Z0b Y2 _⟩;rw[HR.out,Utf.first,HE.out,if_neg (by have:=HL.out; simp only; omega)];rfl}
 {go_enter Tryz.func47,Tryz.ntmps47;go_wp2
  go_quiet (fail)
  go_wp2
  go_loopw [5,6] (fun p i wr=> ∃(k:Nat) (x:Int),i= .int .i64 k/\1<=k/\k<=3/\p= .int .i64 x/\Hid (x=Utf.val (((s[0]).toNat:Int) - 224) (r.take (k - 1)))/\Below w.heap.size w wr)
   (fun _ i _=>4 - (intOf i).toNat)
  case atStart=>exact ⟨1,_,rfl,by omega,by omega,rfl,Y1 rfl,by first | exact Below.refl _ _ | exact Z0b Y2 _⟩
  case round=>
   obtain ⟨k,x,rfl,hk1,hk,rfl,HX,hbel⟩:=hrel;by_cases hlt:k < 3
   {have hks:k < s.size:=by omega
    have hb8:=(s[k]'hks).toNat_lt;have hx: -100000000<=x/\x<=100000000:=by
     rw[HX.out];exact Utf.Z4o (by omega) (by omega) (by rw[List.length_take]; omega)
    have HN:Hid (x * 64+(s[k]'hks).toNat - 128=Utf.val (((s[0]).toNat:Int) - 224) (r.take k)):=Y1 (Z46 s r HL.out HI.out k hk1 hks HX.out);obtain ⟨hx1,hx2⟩:=hx
    go_wp2_with fail
    go_roundw
    case rel=>exact ⟨k+1,_,by go_num,by omega,by omega,rfl,HN,hbel⟩
    case measure=>simp[intOf]; omega}
   {have hkn:k=3:=by omega
    subst hkn;rw[show 3 - 1=2 from rfl] at HX;cases hp:Utf.pt x
    {go_wp2_with fail
     go_quiet ((go_at_call 80; exact Calls.quiet_of_same (flip (Z11 _ _))))
     go_wp2
     go_ret2
     refine ⟨?_,Z0b hbel _⟩;rw[HR.out,Utf.first,HE.out];simp only;rw[<-HX.out,hp,if_neg (by simp)];rfl}
    {go_wp2_with fail
     go_region_held3 (fun w'=>Below w.heap.size w w') (first | exact hbel.drew | assumption | exact Z00 (by assumption) (by assumption) | exact Below.drew (by assumption))
      (first | (go_at_call 80; refine (Z11 _ _).mono ?_; rintro e w' ⟨rfl,rfl⟩) | (go_at_call 81; refine (Z2y _ _ hp).mono ?_; rintro e w' ⟨rfl,hb1⟩))
     go_wp2
     {have ht: (!Utf.bytes x==(s.extract 0 3).toList)=true:=by assumption
      rw[Z1z,HR.out] at ht
      go_ret2
      refine ⟨?_,by assumption⟩;rw[HR.out,Utf.first,HE.out];simp only;rw[<-HX.out,if_neg (by rintro ⟨_,_,h3⟩; rw[h3] at ht; simp at ht)];rfl}
     {have ht: (!Utf.bytes x==(s.extract 0 3).toList)=false:=by assumption
      rw[Z1z,HR.out] at ht
      go_ret2
      refine ⟨?_,by assumption⟩;rw[HR.out,Utf.first,HE.out];simp only;rw[<-HX.out,if_pos ⟨by have:=HL.out; omega,hp,by simpa using ht⟩];rfl}}}}
theorem Zef (h1:240<=(s[0]).toNat) (e:Utf.lead (s[0]).toNat=(4,((s[0]).toNat:Int) - 240)):
 Y9 47 #[.string s] w (duo (Utf.first s.data.toList)):=by
 obtain ⟨r,hr,hl,hi⟩:=Z3F s h;have ha:=(s[0]).toNat_lt;have he:s.toList.isEmpty=false:=by
  rw[ByteArray.toList_mk,hr]; rfl
 have HR:=Y1 hr;have HL:=Y1 hl;have HI:=Y1 hi;have HE:=Y1 e;clear hr hl hi e;by_cases hn:s.size < 4
 {go_enter Tryz.func47,Tryz.ntmps47;go_wp2
  go_quiet (fail)
  go_wp2
  go_ret2
  refine ⟨?_,by first | exact Below.refl _ _ | exact Z0b Y2 _⟩;rw[HR.out,Utf.first,HE.out,if_neg (by have:=HL.out; simp only; omega)];rfl}
 {go_enter Tryz.func47,Tryz.ntmps47;go_wp2
  go_quiet (fail)
  go_wp2
  go_loopw [5,6] (fun p i wr=> ∃(k:Nat) (x:Int),i= .int .i64 k/\1<=k/\k<=4/\p= .int .i64 x/\Hid (x=Utf.val (((s[0]).toNat:Int) - 240) (r.take (k - 1)))/\Below w.heap.size w wr)
   (fun _ i _=>4 - (intOf i).toNat)
  case atStart=>exact ⟨1,_,rfl,by omega,by omega,rfl,Y1 rfl,by first | exact Below.refl _ _ | exact Z0b Y2 _⟩
  case round=>
   obtain ⟨k,x,rfl,hk1,hk,rfl,HX,hbel⟩:=hrel;by_cases hlt:k < 4
   {have hks:k < s.size:=by omega
    have hb8:=(s[k]'hks).toNat_lt;have hx: -100000000<=x/\x<=100000000:=by
     rw[HX.out];exact Utf.Z4o (by omega) (by omega) (by rw[List.length_take]; omega)
    have HN:Hid (x * 64+(s[k]'hks).toNat - 128=Utf.val (((s[0]).toNat:Int) - 240) (r.take k)):=Y1 (Z46 s r HL.out HI.out k hk1 hks HX.out);obtain ⟨hx1,hx2⟩:=hx
    go_wp2_with fail
    go_roundw
    case rel=>exact ⟨k+1,_,by go_num,by omega,by omega,rfl,HN,hbel⟩
    case measure=>simp[intOf]; omega}
   {have hkn:k=4:=by omega
    subst hkn;rw[show 4 - 1=3 from rfl] at HX;cases hp:Utf.pt x
    {go_wp2_with fail
     go_quiet ((go_at_call 80; exact Calls.quiet_of_same (flip (Z11 _ _))))
     go_wp2
     go_ret2
     refine ⟨?_,Z0b hbel _⟩;rw[HR.out,Utf.first,HE.out];simp only;rw[<-HX.out,hp,if_neg (by simp)];rfl}
    {go_wp2_with fail
     go_region_held3 (fun w'=>Below w.heap.size w w') (first | exact hbel.drew | assumption | exact Z00 (by assumption) (by assumption) | exact Below.drew (by assumption))
      (first | (go_at_call 80; refine (Z11 _ _).mono ?_; rintro e w' ⟨rfl,rfl⟩) | (go_at_call 81; refine (Z2y _ _ hp).mono ?_; rintro e w' ⟨rfl,hb1⟩))
     go_wp2
     {have ht: (!Utf.bytes x==(s.extract 0 4).toList)=true:=by assumption
      rw[Z1z,HR.out] at ht
      go_ret2
      refine ⟨?_,by assumption⟩;rw[HR.out,Utf.first,HE.out];simp only;rw[<-HX.out,if_neg (by rintro ⟨_,_,h3⟩; rw[h3] at ht; simp at ht)];rfl}
     {have ht: (!Utf.bytes x==(s.extract 0 4).toList)=false:=by assumption
      rw[Z1z,HR.out] at ht
      go_ret2
      refine ⟨?_,by assumption⟩;rw[HR.out,Utf.first,HE.out];simp only;rw[<-HX.out,if_pos ⟨by have:=HL.out; omega,hp,by simpa using ht⟩];rfl}}}}
end
theorem Z3r (s:ByteArray) (hs:s.size<=9223372036854775807) (w:World):
 Y9 47 #[.string s] w (duo (Utf.first s.data.toList)):=by
 by_cases h:0 < s.size
 {rcases Utf.Z3S (s[0]).toNat with ⟨h1,e⟩ | ⟨h1,h2,e⟩ | ⟨h1,h2,e⟩ | ⟨h1,e⟩
  {exact Zec s h hs w h1 e}
  {exact Zed s h hs w h1 h2 e}
  {exact Zee s h hs w h1 h2 e}
  {exact Zef s h hs w h1 e}}
 {obtain rfl:s=ByteArray.empty:=by
   rcases s with ⟨⟨l⟩⟩
   match l with
   | []=>rfl
   | a::r=>exact absurd (show 0 < (a::r).length from Nat.succ_pos _) h
  exact Z9E w}
def passedR:Except Nat Nat->Value
 | .ok n=> .tuple #[.int .i64 n,.agg #[.int .i64 0,.int .i64 0]]
 | .error j=> .tuple #[.int .i64 0,.agg #[.int .i64 30,.int .i64 j]]
def Box2 (W:World) (g:Nat) (a b:Int):Prop:=g < W.heap.size/\W.cell? ⟨g,0,none⟩=some (.int .i64 a)/\W.cell? ⟨g,1,none⟩=some (.int .i64 b)/\W.frozen? ⟨g,0,none⟩=false/\W.frozen? ⟨g,1,none⟩=false
theorem Box2.keep {W W':World} {g B:Nat} {a b:Int} (h:Box2 W g a b) (hg:g < B) (hb:Below B W W'):Box2 W' g a b:=
 ⟨Nat.lt_of_lt_of_le h.1 hb.size,(hb.cell (p:=⟨g,0,none⟩) hg).trans h.2.1,(hb.cell (p:=⟨g,1,none⟩) hg).trans h.2.2.1,(hb.frozen (p:=⟨g,0,none⟩) hg).trans h.2.2.2.1,(hb.frozen (p:=⟨g,1,none⟩) hg).trans h.2.2.2.2⟩
theorem Z0L (w:World) (a b:Int):Box2 (w.alloc (.cells #[.int .i64 a,.int .i64 b] 29)) w.heap.size a b:=
 ⟨by simp,by simp[go_sem],by simp[go_sem],by simp[go_sem],by simp[go_sem]⟩
theorem Z0o (c:UInt8) (k:Nat) (hk:k < 256): ((c.toNat:Int)==(k:Int))=(c==UInt8.ofNat k):=by
 have hm: (UInt8.ofNat k).toNat=k:=by simp; omega
 rw[Bool.eq_iff_iff,beq_iff_eq,beq_iff_eq];constructor
 {intro h; apply UInt8.toNat_inj.1; rw[hm]; omega}
 {intro h; rw[h,hm]}
theorem Z9F (l:List UInt8) (hl:l.length<=1000000) (w:World):
 Y9 32 #[.string ⟨l.toArray⟩] w (passedR (Lex.passed l)):=by
 have hz: (⟨l.toArray⟩:ByteArray).size=l.length:=Z07 _;have hb0:=Z01 w (.cells Yc 29);have HX:=Y1 (Z0L w 0 0);have HB0:=Y1 hb0;clear hb0;go_enter Tryz.func32,Tryz.ntmps32
 go_wp2_with fail
 generalize hW:w.alloc (.cells Yc 29)=W0 at HX HB0 ⊢;clear hW
 go_loopw [4] (fun ii wr=> ∃n:Nat,ii= .int .i64 n/\n<=l.length/\Hid (∀j (hj:j < l.length),j < n->Lex.blank (l[j]'hj)=true)/\W0=wr)
  (fun i _=>l.length - (intOf i).toNat)
 case atStart=>exact ⟨0,rfl,Nat.zero_le _,Y1 (fun j _ hj=>absurd hj (by omega)),rfl⟩
 case round=>
  obtain ⟨n,rfl,hn,HN,rfl⟩:=hrel;have after: (∀h:n < l.length,Lex.blank (l[n]'h)=false)->Hid ((l.takeWhile Lex.blank).length=n):=fun h=>Y1 (Lex.Z52 hn HN.out h);by_cases hlt:n < l.length
  {have hi1: (n:Int) < (l.length:Int):=by omega
   obtain ⟨c,hc⟩: ∃c,c=l[n]'hlt:=⟨_,rfl⟩;have hidx: ∀W,(Instr.index 9 (.string ⟨l.toArray⟩) (.int .i64 (n:Int))).run Tryz.prog W= .ok (.int .u8 c.toNat) W:=fun W=>by
    rw[hc]; exact Z0i ⟨l.toArray⟩ n (by omega) W
   have HC:=Y1 hc;clear hc;have more:Lex.blank c=true->Hid (∀j (hj:j < l.length),j < n+1->Lex.blank (l[j]'hj)=true):=fun h=>Y1 (fun j hj hji=>by
    rcases Nat.lt_succ_iff_lt_or_eq.1 hji with h' | rfl
    {exact HN.out j hj h'}
    · rw[<-HC.out]; exact h)
   have k9: ((c.toNat:Int)==9)=(c==9):=Z0o c 9 (by decide);have k10: ((c.toNat:Int)==10)=(c==10):=Z0o c 10 (by decide);have k13: ((c.toNat:Int)==13)=(c==13):=Z0o c 13 (by decide);have k32: ((c.toNat:Int)==32)=(c==32):=Z0o c 32 (by decide);have kb:Lex.blank c=(c==9||c==10||c==13||c==32):=rfl;cases e9: (c==9)
   {rw[e9] at k9 kb;cases e10: (c==10)
    {rw[e10] at k10 kb;cases e13: (c==13)
     {rw[e13] at k13 kb;cases e32: (c==32)
      {rw[e32] at k32 kb;have HT:=after (fun h=>by rw[<-HC.out]; exact kb);have HNE:Hid (c≠10):=Y1 (beq_eq_false_iff_ne.1 e10);clear after more kb e9 e10 e13 e32
       -- what stands behind the blanks
       by_cases h2:n+1 < l.length
       {obtain ⟨d,hd⟩: ∃d,d=l[n+1]'h2:=⟨_,rfl⟩;have hidx2: ∀W,(Instr.index 9 (.string ⟨l.toArray⟩) (.int .i64 ((n:Int)+1))).run Tryz.prog W= .ok (.int .u8 d.toNat) W:=fun W=>by
         rw[hd]; exact Z0i ⟨l.toArray⟩ (n+1) (by omega) W
        have HD:=Y1 hd;have h2i: ¬((l.length:Int)<=(n:Int)+1):=by omega
        have hdr:l.drop n=c::d::l.drop (n+2):=by
         rw[List.drop_eq_getElem_cons hlt, <-HC.out,List.drop_eq_getElem_cons h2, <-HD.out]
        have HR:Hid (Lex.hasRemark (l.drop n)=(c==45&&d==45)):=Y1 (by rw[hdr,Lex.Z4j]);have HP:Hid (Lex.passed l=if Lex.hasRemark (l.drop n) then Lex.up n (Lex.remarkOf (l.drop n)) else .ok n):=Y1 (by unfold Lex.passed; rw[HT.out]);have k45: ((c.toNat:Int)==45)=(c==45):=Z0o c 45 (by decide);have j45: ((d.toNat:Int)==45)=(d==45):=Z0o d 45 (by decide);clear hd hdr;cases e45: (c==45)
        {rw[e45] at k45;have k45n: ((c.toNat:Int) !=45)=true:=by rw[bne,k45]; rfl
         have HF:Hid (Lex.passed l= .ok n):=Y1 (by rw[HP.out,HR.out,e45]; rfl);obtain ⟨_,x0,x1,f0,f1⟩:=HX.out;clear e45;go_wp2;refine bodyPost_ret (v:= .tuple #[.int .i64 n,.agg #[.int .i64 0,.int .i64 0]]) (by simp[results,Tryz.results32,go_sem,x0,x1]) rfl ?_;exact ⟨by rw[HF.out]; rfl,(HB0.out.setCell (p:=⟨w.heap.size,0,none⟩) (Nat.le_refl _) _).setCell (p:=⟨w.heap.size,1,none⟩) (Nat.le_refl _) _⟩}
        {rw[e45] at k45;have k45n: ((c.toNat:Int) !=45)=false:=by rw[bne,k45]; rfl
         cases f45: (d==45)
         {rw[f45] at j45;have j45n: ((d.toNat:Int) !=45)=true:=by rw[bne,j45]; rfl
          have HF:Hid (Lex.passed l= .ok n):=Y1 (by rw[HP.out,HR.out,e45,f45]; rfl);obtain ⟨_,x0,x1,f0,f1⟩:=HX.out;clear e45 f45;go_wp2;refine bodyPost_ret (v:= .tuple #[.int .i64 n,.agg #[.int .i64 0,.int .i64 0]]) (by simp[results,Tryz.results32,go_sem,x0,x1]) rfl ?_;exact ⟨by rw[HF.out]; rfl,(HB0.out.setCell (p:=⟨w.heap.size,0,none⟩) (Nat.le_refl _) _).setCell (p:=⟨w.heap.size,1,none⟩) (Nat.le_refl _) _⟩}
         {rw[f45] at j45;have j45n: ((d.toNat:Int) !=45)=false:=by rw[bne,j45]; rfl
          have HF:Hid (Lex.passed l=Lex.up n (Lex.remarkOf (l.drop n))):=Y1 (by rw[HP.out,HR.out,e45,f45]; rfl);clear e45 f45
          go_wp2_with fail
          go_loopw [4] (fun ii wr=> ∃m:Nat,ii= .int .i64 m/\m<=l.length/\Hid (Lex.passed l=Lex.up m (Lex.remarkOf (l.drop m)))/\Hid (Box2 wr w.heap.size 0 0)/\Below w.heap.size w wr)
           (fun i _=>l.length - (intOf i).toNat)
          case atStart=>exact ⟨n,rfl,hn,HF,HX,HB0.out⟩
          case round=>
           obtain ⟨m,rfl,hm,HFm,HXm,hbm⟩:=hrel;clear hidx hidx2 hi1;by_cases hml:m < l.length
           {have hm1: (m:Int) < (l.length:Int):=by omega
            obtain ⟨x,hx⟩: ∃x,x=l[m]'hml:=⟨_,rfl⟩;have hidx: ∀W,(Instr.index 9 (.string ⟨l.toArray⟩) (.int .i64 (m:Int))).run Tryz.prog W= .ok (.int .u8 x.toNat) W:=fun W=>by
             rw[hx]; exact Z0i ⟨l.toArray⟩ m (by omega) W
            have hdm:l.drop m=x::l.drop (m+1):=by rw[List.drop_eq_getElem_cons hml, <-hx]
            have HDM:=Y1 hdm;have x10: ((x.toNat:Int)==10)=(x==10):=Z0o x 10 (by decide);clear hx hdm;cases e10: (x==10)
            {rw[e10] at x10;have x10n: ((x.toNat:Int) !=10)=true:=by rw[bne,x10]; rfl
             have hx10:x≠10:=beq_eq_false_iff_ne.1 e10;have hsl: ∀W,(Instr.slice 9 (.string ⟨l.toArray⟩) (some (.int .i64 (m:Int))) none none).run Tryz.prog W= .ok (.string ⟨(l.drop m).toArray⟩) W:=fun W=>Z0Z (W:=W) ⟨l.toArray⟩ m (by omega);have HX10:=Y1 hx10;clear e10 hx10
             go_wp2_with fail
             refine (Z3r ⟨(l.drop m).toArray⟩ (by rw[Z07,List.length_drop]; omega) _).mono ?_;rintro e w5 ⟨rfl,hb5⟩;have hd5: (⟨(l.drop m).toArray⟩:ByteArray).data.toList=l.drop m:=rfl;rw[hd5];have HB5:=Y1 (Z00 hbm hb5);have HX5:=Y1 (HXm.out.keep (B:=wr.heap.size) HXm.out.1 hb5);rcases hq:Utf.first (l.drop m) with ⟨p,k⟩;have hdu:duo (p,k)= .tuple #[.int .i64 p,.int .i64 k]:=rfl;rw[hdu];clear hd5 hb5 hdu;by_cases hk0:k=0
             {have HE:Hid (Lex.passed l= .error m):=Y1 (by
               rw[HFm.out,HDM.out,Lex.Z8c HX10.out (by rw[<-HDM.out,hq]; exact hk0)];simp[Lex.up])
              have hkd: ((k:Int)==0)=true:=by rw[beq_iff_eq]; omega
              obtain ⟨_,x0,x1,f0,f1⟩:=HX5.out;clear hq hk0;go_wp2;refine bodyPost_ret (v:= .tuple #[.int .i64 0,.agg #[.int .i64 30,.int .i64 m]]) (by simp[results,Tryz.results32,go_sem,x0,x1]) rfl ?_;exact ⟨by rw[HE.out]; rfl,(HB5.out.setCell (p:=⟨w.heap.size,0,none⟩) (Nat.le_refl _) _).setCell (p:=⟨w.heap.size,1,none⟩) (Nat.le_refl _) _⟩}
             {have hkd: ((k:Int)==0)=false:=by rw[beq_eq_false_iff_ne]; omega
              have hkl:m+k<=l.length:=by
               have:=(Utf.Z0E hq hk0).2.2.2;rw[List.length_drop] at this; omega
              have HE:Hid (Lex.passed l=Lex.up (m+k) (Lex.remarkOf (l.drop (m+k)))):=Y1 (by
               have h1:=Lex.Z7m (c:=x) (r:=l.drop (m+1)) HX10.out (by rw[<-HDM.out]; exact hq) hk0;rw[<-HDM.out,List.drop_drop] at h1;rw[HFm.out,h1,Lex.Zgf])
              have hkp:1<=k:=by omega
              clear hq hk0;go_wp2
              go_roundw
              case rel=>exact ⟨m+k,by go_num,hkl,HE,HX5,HB5.out⟩
              case measure=>simp[intOf]; omega}}
            {rw[e10] at x10;have x10n: ((x.toNat:Int) !=10)=false:=by rw[bne,x10]; rfl
             have HE:Hid (Lex.passed l= .ok m):=Y1 (by
              rw[HFm.out,HDM.out,beq_iff_eq.1 e10,Lex.Z7l]; simp[Lex.up])
             obtain ⟨_,x0,x1,f0,f1⟩:=HXm.out;clear e10;go_wp2;refine bodyPost_ret (v:= .tuple #[.int .i64 m,.agg #[.int .i64 0,.int .i64 0]]) (by simp[results,Tryz.results32,go_sem,x0,x1]) rfl ?_;exact ⟨by rw[HE.out]; rfl,(hbm.setCell (p:=⟨w.heap.size,0,none⟩) (Nat.le_refl _) _).setCell (p:=⟨w.heap.size,1,none⟩) (Nat.le_refl _) _⟩}}
           {have hm1: ¬(m:Int) < (l.length:Int):=by omega
            have HE:Hid (Lex.passed l= .ok m):=Y1 (by
             rw[HFm.out,List.drop_eq_nil_of_le (by omega),Lex.Z8b]; simp[Lex.up])
            obtain ⟨_,x0,x1,f0,f1⟩:=HXm.out;go_wp2;refine bodyPost_ret (v:= .tuple #[.int .i64 m,.agg #[.int .i64 0,.int .i64 0]]) (by simp[results,Tryz.results32,go_sem,x0,x1]) rfl ?_;exact ⟨by rw[HE.out]; rfl,(hbm.setCell (p:=⟨w.heap.size,0,none⟩) (Nat.le_refl _) _).setCell (p:=⟨w.heap.size,1,none⟩) (Nat.le_refl _) _⟩}}}}
       {have h2i: (l.length:Int)<=(n:Int)+1:=by omega
        have HF:Hid (Lex.passed l= .ok n):=Y1 (by
         unfold Lex.passed; rw[HT.out,Lex.Z3h (by rw[List.length_drop]; omega)]; rfl)
        obtain ⟨_,x0,x1,f0,f1⟩:=HX.out;go_wp2;refine bodyPost_ret (v:= .tuple #[.int .i64 n,.agg #[.int .i64 0,.int .i64 0]]) (by simp[results,Tryz.results32,go_sem,x0,x1]) rfl ?_;exact ⟨by rw[HF.out]; rfl,(HB0.out.setCell (p:=⟨w.heap.size,0,none⟩) (Nat.le_refl _) _).setCell (p:=⟨w.heap.size,1,none⟩) (Nat.le_refl _) _⟩}}
      {rw[e32] at k32 kb;have HM:=more kb;clear after more kb e9 e10 e13 e32;go_wp2
       go_roundw
       case rel=>exact ⟨n+1,by go_num,by omega,HM,trivial⟩
       case measure=>simp[intOf]; omega}}
     {rw[e13] at k13 kb;have HM:=more (by rw[kb]; rfl);clear after more kb e9 e10 e13;go_wp2
      go_roundw
      case rel=>exact ⟨n+1,by go_num,by omega,HM,trivial⟩
      case measure=>simp[intOf]; omega}}
    {rw[e10] at k10 kb;have HM:=more (by rw[kb]; rfl);clear after more kb e9 e10;go_wp2
     go_roundw
     case rel=>exact ⟨n+1,by go_num,by omega,HM,trivial⟩
     case measure=>simp[intOf]; omega}}
   {rw[e9] at k9 kb;have HM:=more (by rw[kb]; rfl);clear after more kb e9;go_wp2
    go_roundw
    case rel=>exact ⟨n+1,by go_num,by omega,HM,trivial⟩
    case measure=>simp[intOf]; omega}}
  {have hi1: ¬(n:Int) < (l.length:Int):=by omega
   have h2i: (l.length:Int)<=(n:Int)+1:=by omega
   have HT:=after (fun h=>absurd h hlt);have HF:Hid (Lex.passed l= .ok n):=Y1 (by
    unfold Lex.passed; rw[HT.out,Lex.Z3h (by rw[List.length_drop]; omega)]; rfl)
   obtain ⟨_,x0,x1,f0,f1⟩:=HX.out;clear after;go_wp2;refine bodyPost_ret (v:= .tuple #[.int .i64 n,.agg #[.int .i64 0,.int .i64 0]]) (by simp[results,Tryz.results32,go_sem,x0,x1]) rfl ?_;exact ⟨by rw[HF.out]; rfl,(HB0.out.setCell (p:=⟨w.heap.size,0,none⟩) (Nat.le_refl _) _).setCell (p:=⟨w.heap.size,1,none⟩) (Nat.le_refl _) _⟩}
end
end Go.Proofs.YtkncdbaoaeeoiaaGreatDoor
namespace Prs
open Go.Proofs.YtkncdbaoaeeoiaaGreatDoor (Tk)
theorem look_in {l:List Tk} {i:Nat} (h:i < l.length):look l i=l[i]:=by unfold look; rw[List.getElem?_eq_getElem h]
theorem look_out {l:List Tk} {i:Nat} (h: ¬i < l.length) (h0:0 < l.length):look l i=⟨⟨0,[]⟩,(l[l.length - 1]'(by omega)).at_⟩:=by
 unfold look;rw[List.getElem?_eq_none (by omega),List.getLast?_eq_getElem?,List.getElem?_eq_getElem (by omega)]
theorem look_nil {l:List Tk} (i:Nat) (h:l.length=0):look l i=⟨⟨0,[]⟩,0⟩:=by
 unfold look;rw[List.getElem?_eq_none (by omega),List.getLast?_eq_getElem?,List.getElem?_eq_none (by omega)]
end Prs
namespace Go.Proofs.YtkncdbaoaeeoiaaGreatDoor
open Go.RowKit Prs
theorem Box2.next {W W':World} {g:Nat} {a b:Int} (h:Box2 W g a b) (hb:Below W.heap.size W W'):Box2 W' g a b:=h.keep h.1 hb
theorem Tks.on {w w':World} {A:Option Addr} {l:List Tk} (h:Tks w w.heap.size A l) (hb:Below w.heap.size w w'):Tks w' w'.heap.size A l:=(h.keep hb (Nat.le_refl _)).more hb.size
theorem Z47 (a:Int) (s:ByteArray) (b:Int) (W:World): (Instr.field 54 (.agg #[.int .i64 a,.string s,.int .i64 b]) 2).run Tryz.prog W= .ok (.int .i64 b) W:=by
 simp[go_sem,Instr.field,asAgg]
end Go.Proofs.YtkncdbaoaeeoiaaGreatDoor
namespace Go.Proofs.YtkncdbaoaeeoiaaGreatDoor
section
open Go.RowKit
def placeG {α:Type} (p:α->Bool) (l:List α):Int:=match l.findIdx? p with
 | some i=>(i:Int)
 | none=> -1
section
variable {α : Type}
include α
theorem Z2J {p:α->Bool} {l:List α} {i:Nat} (hi:i < l.length) (h:p (l[i]'hi)=true) (hn: ∀j (hj:j < l.length),j < i->p (l[j]'hj)=false):placeG p l=(i:Int):=by
 have:l.findIdx? p=some i:=List.findIdx?_eq_some_iff_getElem.2 ⟨hi,h,fun j hj=>by rw[hn j (by omega) hj]; simp⟩;unfold placeG; rw[this]
theorem Z1O {p:α->Bool} {l:List α} (hn: ∀j (hj:j < l.length),p (l[j]'hj)=false):placeG p l= -1:=by
 have:l.findIdx? p=none:=List.findIdx?_eq_none_iff.2 (fun x hx=>by
  obtain ⟨j,hj,rfl⟩:=List.getElem_of_mem hx;exact hn j hj)
 unfold placeG; rw[this]
theorem Z2a (p:α->Bool) (l:List α):decide (0<=placeG p l)=l.any p:=by
 unfold placeG;cases h:l.findIdx? p with
 | some i=>
  obtain ⟨hi,hp,_⟩:=List.findIdx?_eq_some_iff_getElem.1 h;show decide ((0:Int)<=(i:Int))=_;rw[decide_eq_true (by omega)];exact (List.any_eq_true.2 ⟨_,List.getElem_mem hi,hp⟩).symm
 | none=>
  have:=List.findIdx?_eq_none_iff.1 h;show false=_;symm;rw[List.any_eq_false];intro x hx; rw[this x hx]; simp
theorem Z3i (p:α->Bool) (l:List α): -1<=placeG p l:=by
 unfold placeG;cases l.findIdx? p with
 | some i=>show (-1:Int)<=(i:Int); omega
 | none=>show (-1:Int)<= -1; omega
theorem Z6w (p:α->Bool) (l:List α):l.any (fun x=> !p x)= !l.all p:=by
 induction l with
 | nil=>rfl
 | cons a l ih=>simp[ih]
end
end
section
open Go.RowKit Tms
open Shp (Sh)
open Pso (St)
open Prs (sign)
theorem Row.names {W:World} {B:Nat} {A:Option Addr} {c:Nat} {l:List (List UInt8)} (h:Row W B 9 1 cN A c l):l.length=0\/ ∃g,A=some ⟨g,0,none⟩/\B<=g/\g < W.heap.size/\ ∀i (hi:i < l.length),W.cell? ⟨g,i,none⟩=some (.string ⟨(l[i]'hi).toArray⟩):=by
 rcases h.form with ⟨_,h0,_⟩ | ⟨g,rfl,_⟩
 {exact Or.inl h0}
 {refine Or.inr ⟨g,rfl,(h.lt g rfl).1,(h.lt g rfl).2,fun i hi=> ?_⟩;rw[World.ownsRow.cellAt h i (by omega)];have:=Zav Zg1 hi (show 0 < 1 by omega);rw[Nat.mul_one,Nat.add_zero] at this;rw[this]; rfl}
theorem Z9G (B:Nat) (A:Option Addr) (c:Nat) (l:List (List UInt8)) (s:List UInt8) (w:World) (hl:l.length<=1000000) (h:Row w B 9 1 cN A c l):
 Y9 128 #[.slice A l.length c,.string ⟨s.toArray⟩] w (.int .i64 (placeG (fun x=>s==x) l)):=by
 have HP:=Y1 h.names;clear h;go_enter Tryz.func128,Tryz.ntmps128
 go_wp2_with fail
 go_loopw [8] (fun ii wr=> ∃i:Nat,ii= .int .i64 i/\i<=l.length/\Hid (∀j (h:j < l.length),j < i->(s==(l[j]'h))=false)/\Below w.heap.size w wr) (fun i _=>l.length - (intOf i).toNat)
 case atStart=>exact ⟨0,rfl,Nat.zero_le _,Y1 (fun j _ hj=>absurd hj (by omega)),Below.refl _ _⟩
 case round=>
  obtain ⟨i,rfl,hi,HN,hb⟩:=hrel;by_cases hlt:i < l.length
  {rcases HP.out with h0 | ⟨g,rfl,_,hg,hc⟩
   {omega}
   {obtain ⟨x,hx⟩: ∃x,x=l[i]'hlt:=⟨_,rfl⟩;have p0:=(hb.cell (p:=⟨g,i,none⟩) hg).trans (hc i hlt);have hgr:g < wr.heap.size:=Nat.lt_of_lt_of_le hg hb.size;rw[<-hx] at p0;have HX:=Y1 hx;clear hx hc;have hi1: (i:Int) < (l.length:Int):=by omega
    cases hox: (s==x) with
    | true=>
     have HV:Hid (placeG (fun x=>s==x) l=(i:Int)):=Y1 (Z2J hlt (by show (s==_)=true; rw[<-HX.out]; exact hox) (fun j hj hji=>HN.out j hj hji));go_wp2;go_ret;exact ⟨Z0p HV.out.symm,hb⟩
    | false=>
     have HO:=Y1 hox;go_wp2
     go_roundw
     case rel=>exact ⟨i+1,by go_num,by omega,Y1 (fun j hj hji=>by
      rcases Nat.lt_succ_iff_lt_or_eq.1 hji with h | rfl
      {exact HN.out j hj h}
      · rw[<-HX.out]; exact HO.out),hb⟩
     case measure=>simp[intOf]; omega}}
  {have hi1: ¬(i:Int) < (l.length:Int):=by omega
   have HV:Hid (placeG (fun x=>s==x) l= -1):=Y1 (Z1O (fun j hj=>HN.out j hj (by omega)));go_wp2;go_ret;exact ⟨Z0p HV.out.symm,hb⟩}
theorem Z8n (l:List (List UInt8)) (s:List UInt8):l.any (fun x=>s==x)=l.contains s:=by
 induction l with
 | nil=>rfl
 | cons a l ih=>rw[List.any_cons,List.contains_cons,ih]
theorem Z3G (B:Nat) (A:Option Addr) (c:Nat) (l:List (List UInt8)) (s:List UInt8) (w:World) (hl:l.length<=1000000) (h:Row w B 9 1 cN A c l):
 Y9 95 #[.slice A l.length c,.string ⟨s.toArray⟩] w (.bool (l.contains s)):=by
 have HV:=Y1 ((Z2a (fun x=>s==x) l).trans (Z8n l s));have HS:=Z9G B A c l s w hl h;generalize placeG (fun x=>s==x) l=k at HV HS;clear h;go_enter Tryz.func95,Tryz.ntmps95
 go_wp2_with fail
 refine HS.mono ?_;rintro e w' ⟨rfl,hb⟩;go_wp2;go_ret;exact ⟨Z08 HV.out,hb⟩
theorem Z5q: (Tryz.prog.info? 9).map (fun i=>(i.zero,i.size,i.bytes))=some (some (.string ByteArray.empty),1,16):=by kernel_rfl
theorem Z1e {P:Program} {e:TypeId} {z:Value} {size bytes:Nat} (h: (P.info? e).map (fun i=>(i.zero,i.size,i.bytes))=some (some z,size,bytes)): ∃i,P.info? e=some i/\i.zero=some z/\i.size=size/\i.bytes=bytes:=by
 cases hi:P.info? e with
 | none=>rw[hi] at h; cases h
 | some i=>
  rw[hi] at h;simp only[Option.map_some,Option.some.injEq,Prod.mk.injEq] at h;exact ⟨i,rfl,h.1,h.2.1,h.2.2⟩
theorem Z5K (W:World) (s:List UInt8):Row (W.alloc (.cells #[.string ⟨s.toArray⟩] 9)) W.heap.size 9 1 cN (some ⟨W.heap.size,0,none⟩) 1 [s]:=by
 have:=World.ownsRow_lit (base:=W.heap.size) (e:=9) (size:=1) W #[.string ⟨s.toArray⟩] 1 (Nat.le_refl _) (by decide) rfl;exact this
theorem Z4F {B:Nat} {a W:World} (h:Below B a W) {b:Nat} (hb:B<=b) (x y z:Value):Below B a (((W.setCell ⟨b,0,none⟩ x).setCell ⟨b,1,none⟩ y).setCell ⟨b,2,none⟩ z):=
 ((h.setCell (p:=⟨b,0,none⟩) hb _).setCell (p:=⟨b,1,none⟩) hb _).setCell (p:=⟨b,2,none⟩) hb _
theorem Z1o (bp:Nat) (A:Option Addr) (c:Nat) (l:List Tk) (σ:St) (hl:l.length<=1000000) (hi:σ.1<=l.length) (w:World) (h:PAt w bp A c l σ):
 Y9 35 #[.pointer (some ⟨bp,0,none⟩)] w (.agg #[.int .i64 (Prs.look l σ.1).t.kind,.string ⟨(Prs.look l σ.1).t.text.toArray⟩,.int .i64 (Prs.look l σ.1).at_]):=by
 obtain ⟨i,e,a⟩:=σ;simp only at hi ⊢;obtain ⟨hlt,c0,c1,c2,c3,fz,tk,gs,_⟩:=h;simp only at c1;have f0:=fz 0;have f1:=fz 1;clear c2 c3 fz gs;have HB:=Y1 (Z01 w (.cells Yd 54));by_cases hil:i < l.length
 {have hil1: (i:Int) < (l.length:Int):=by omega
  rcases tk with h | ⟨g,off,rfl,hg,hc⟩
  {omega}
  {obtain ⟨x,hx⟩: ∃x,x=l[i]'hil:=⟨_,rfl⟩;obtain ⟨t0,t1,t2⟩:=hc i hil;rw[Prs.look_in hil, <-hx];rw[<-hx] at t0 t1 t2;have hgw:g < w.heap.size:=by omega
   clear hc hx;go_enter Tryz.func35,Tryz.ntmps35
   go_wp2_with fail
   go_quiet (fail)
   go_wp2_with fail
   go_region
   go_wp2;refine bodyPost_ret (v:= .agg #[.int .i64 x.t.kind,.string ⟨x.t.text.toArray⟩,.int .i64 x.at_]) (by simp[results,Tryz.results35,go_sem]) rfl ?_;exact ⟨rfl,Z4F (Z0b HB.out _) (Nat.le_refl _) _ _ _⟩}}
 {have hil1: ¬(i:Int) < (l.length:Int):=by omega
  by_cases h0:l.length=0
  {have h1: ¬(0:Int) < (l.length:Int):=by omega
   rw[Prs.look_nil i h0];clear h0;go_enter Tryz.func35,Tryz.ntmps35
   go_wp2_with fail
   go_quiet (fail)
   go_wp2;refine bodyPost_ret (v:= .agg #[.int .i64 0,.string ⟨#[]⟩,.int .i64 0]) (by simp[results,Tryz.results35,go_sem]) rfl ?_;exact ⟨rfl,Z03 (Z4F (Z0b HB.out _) (Nat.le_refl _) _ _ _) _⟩}
  {have h1: (0:Int) < (l.length:Int):=by omega
   rcases tk with h | ⟨g,off,rfl,hg,hc⟩
   {omega}
   {obtain ⟨x,hx⟩: ∃x,x=l[l.length - 1]'(by omega):=⟨_,rfl⟩;obtain ⟨t0,t1,t2⟩:=hc (l.length - 1) (by omega);rw[Prs.look_out hil (by omega), <-hx];rw[<-hx] at t0 t1 t2;obtain ⟨m,hm⟩: ∃m,m+1=l.length:=⟨l.length - 1,by omega⟩;rw[show l.length - 1=m from by omega] at t0 t1 t2;have e1: (l.length:Int) - 1=(m:Int):=by omega
    have hgw:g < w.heap.size:=by omega
    clear hc hx h0;go_enter Tryz.func35,Tryz.ntmps35
    go_wp2_with fail
    go_quiet (fail)
    go_wp2;refine bodyPost_ret (v:= .agg #[.int .i64 0,.string ⟨#[]⟩,.int .i64 x.at_]) (by simp[results,Tryz.results35,go_sem]) rfl ?_;exact ⟨rfl,Z03 (Z4F (Z0b HB.out _) (Nat.le_refl _) _ _ _) _⟩}}}
section
variable (a : Int) (s : ByteArray) (b : Int) (W : World)
include a s b W
theorem Z6x: (Instr.field 54 (.agg #[.int .i64 a,.string s,.int .i64 b]) 0).run Tryz.prog W= .ok (.int .i64 a) W:=by
 simp[go_sem,Instr.field,asAgg]
theorem Zfn: (Instr.field 54 (.agg #[.int .i64 a,.string s,.int .i64 b]) 1).run Tryz.prog W= .ok (.string s) W:=by
 simp[go_sem,Instr.field,asAgg]
end
def signs (l:List Tk) (i:Nat) (ws:List (List UInt8)):Bool:=(decide ((Prs.look l i).t.kind=6)||decide ((Prs.look l i).t.kind=5))&&ws.contains (Prs.look l i).t.text
theorem Z4G (l:List Tk) (i:Nat) (s:List UInt8):signs l i [s]=sign l i s:=by
 unfold signs sign;rw[Bool.and_comm,List.contains_cons,List.contains_nil,Bool.or_false]
section
variable (bp : Nat) (A : Option Addr) (c : Nat) (l : List Tk) (σ : St)
include bp A c l σ
theorem Z4H (B:Nat) (AW:Option Addr) (cw:Nat) (ws:List (List UInt8)) (hl:l.length<=1000000) (hi:σ.1<=l.length) (hws:ws.length<=1000000) (w:World) (h:PAt w bp A c l σ) (hr:Row w B 9 1 cN AW cw ws):
 Y9 69 #[.pointer (some ⟨bp,0,none⟩),.slice AW ws.length cw] w (.bool (signs l σ.1 ws)):=by
 have HL:=Y1 (Z1o bp A c l σ hl hi w h);have HN:Hid (signs l σ.1 ws=((decide ((Prs.look l σ.1).t.kind=6)||decide ((Prs.look l σ.1).t.kind=5))&&ws.contains (Prs.look l σ.1).t.text)):=Y1 rfl;have HR:=Y1 hr;have HC:=Y1 (fun (w:World) (h:Row w B 9 1 cN AW cw ws)=>Z3G B AW cw ws (Prs.look l σ.1).t.text w hws h);clear h hr;obtain ⟨x,hx⟩: ∃x,x=Prs.look l σ.1:=⟨_,rfl⟩;rw[<-hx] at HL HN HC;rw[HN.out];obtain ⟨b,hb⟩: ∃b,b=ws.contains x.t.text:=⟨_,rfl⟩;rw[<-hb] at HC ⊢;clear hx HN hb;by_cases h6:x.t.kind=6
 {have e6: (x.t.kind==6)=true:=by simpa using h6
  have d6:decide (x.t.kind=6)=true:=decide_eq_true h6;rw[d6,Bool.true_or,Bool.true_and];clear h6 d6;go_enter Tryz.func69,Tryz.ntmps69
  go_wp2_with fail
  refine HL.out.mono ?_;rintro e w1 ⟨rfl,hb1⟩;have HB1:=Y1 (Z03 hb1 (.cells #[.int .i64 x.t.kind,.string ⟨x.t.text.toArray⟩,.int .i64 x.at_] 54));clear hb1 HL
  go_wp2_with fail
  refine (HC.out _ (HR.out.below HB1.out)).mono ?_;rintro e w2 ⟨rfl,hb2⟩;have HB2:=Y1 (Z00 HB1.out hb2);clear hb2 HB1;go_wp2;go_ret;exact ⟨rfl,HB2.out⟩}
 {have e6: (x.t.kind==6)=false:=by simpa using h6
  have d6:decide (x.t.kind=6)=false:=decide_eq_false h6;rw[d6,Bool.false_or];clear h6 d6;by_cases h5:x.t.kind=5
  {have e5: (x.t.kind==5)=true:=by simpa using h5
   have d5:decide (x.t.kind=5)=true:=decide_eq_true h5;rw[d5,Bool.true_and];clear h5 d5;go_enter Tryz.func69,Tryz.ntmps69
   go_wp2_with fail
   refine HL.out.mono ?_;rintro e w1 ⟨rfl,hb1⟩;have HB1:=Y1 (Z03 hb1 (.cells #[.int .i64 x.t.kind,.string ⟨x.t.text.toArray⟩,.int .i64 x.at_] 54));clear hb1 HL
   go_wp2_with fail
   refine (HC.out _ (HR.out.below HB1.out)).mono ?_;rintro e w2 ⟨rfl,hb2⟩;have HB2:=Y1 (Z00 HB1.out hb2);clear hb2 HB1;go_wp2;go_ret;exact ⟨rfl,HB2.out⟩}
  {have e5: (x.t.kind==5)=false:=by simpa using h5
   have d5:decide (x.t.kind=5)=false:=decide_eq_false h5;rw[d5,Bool.false_and];clear h5 d5;go_enter Tryz.func69,Tryz.ntmps69
   go_wp2_with fail
   refine HL.out.mono ?_;rintro e w1 ⟨rfl,hb1⟩;have HB1:=Y1 (Z03 hb1 (.cells #[.int .i64 x.t.kind,.string ⟨x.t.text.toArray⟩,.int .i64 x.at_] 54));clear hb1 HL;go_wp2;go_ret;exact ⟨rfl,HB1.out⟩}}
theorem Zbe (s:List UInt8) (hl:l.length<=1000000) (hi:σ.1<=l.length) (w:World) (h:PAt w bp A c l σ) {b:Nat} (hb:b=w.heap.size:=by first | rfl | simp | omega):
 Calls Tryz.prog 69 #[.pointer (some ⟨bp,0,none⟩),.slice (some ⟨b,0,none⟩) 1 1] (w.alloc (.cells #[.string ⟨s.toArray⟩] 9)) fun e w'=>e= .returned (.bool (Prs.sign l σ.1 s))/\Below w.heap.size w w':=by
 subst hb;have h1:=Z4H bp A c l σ w.heap.size (some ⟨w.heap.size,0,none⟩) 1 [s] hl hi (by simp) _ (h.alloc (.cells #[.string ⟨s.toArray⟩] 9)) (Z5K w s);rw[Z4G] at h1;refine h1.mono ?_;rintro e w' ⟨rfl,hb⟩;exact ⟨rfl,Z00 (Z01 w _) hb⟩
theorem ZcJ (B:Nat) (AW:Option Addr) (cw:Nat) (ws:List (List UInt8)) (hl:l.length<=1000000) (hi:σ.1<=l.length) (hws:ws.length<=1000000) (w:World) (h:PAt w bp A c l σ) (hr:Row w B 9 1 cN AW cw ws):
 Calls Tryz.prog 64 #[.pointer (some ⟨bp,0,none⟩),.slice AW ws.length cw] w fun e w'=>e= .returned (.bool (signs l σ.1 ws))/\PAt w' bp A c l (if signs l σ.1 ws=true then (σ.1+1,σ.2) else σ)/\UpT [bp] w w':=by
 obtain ⟨i,f⟩:=σ;simp only at hi ⊢;have HL:=Y1 (Z4H bp A c l (i,f) B AW cw ws hl hi hws w h hr);have HP:=Y1 h;clear h hr;cases hs:signs l i ws
 {simp only[hs] at HL;go_enter Tryz.func64,Tryz.ntmps64
  go_wp2_with fail
  refine HL.out.mono ?_;rintro e w1 ⟨rfl,hb1⟩;have HB1:=Y1 hb1;clear hb1 HL;go_wp2;go_ret;exact ⟨rfl,HP.out.below HB1.out,Z05 HB1.out⟩}
 {simp only[hs] at HL;go_enter Tryz.func64,Tryz.ntmps64
  go_wp2_with fail
  refine HL.out.mono ?_;rintro e w1 ⟨rfl,hb1⟩;have HB1:=Y1 hb1;have HP1:=Y1 (HP.out.below hb1);have hlt:=HP1.out.lt;have c1:=HP1.out.c1;simp only at c1;have f1:=HP1.out.fz 1;clear hb1 HL HP;go_wp2;go_ret;exact ⟨rfl,HP1.out.turn1 _,(Z05 HB1.out).set _ (Or.inr (by simp)) _⟩}
theorem Z2U (s:List UInt8) (hl:l.length<=1000000) (hi:σ.1<=l.length) (w:World) (h:PAt w bp A c l σ) {b:Nat} (hb:b=w.heap.size:=by first | rfl | simp | omega):
 Calls Tryz.prog 64 #[.pointer (some ⟨bp,0,none⟩),.slice (some ⟨b,0,none⟩) 1 1] (w.alloc (.cells #[.string ⟨s.toArray⟩] 9)) fun e w'=>e= .returned (.bool (Prs.sign l σ.1 s))/\PAt w' bp A c l (if Prs.sign l σ.1 s=true then (σ.1+1,σ.2) else σ)/\UpT [bp] w w':=by
 subst hb;have h1:=ZcJ bp A c l σ w.heap.size (some ⟨w.heap.size,0,none⟩) 1 [s] hl hi (by simp) _ (h.alloc (.cells #[.string ⟨s.toArray⟩] 9)) (Z5K w s);rw[Z4G] at h1;refine h1.mono ?_;rintro e w' ⟨rfl,hp,hu⟩;exact ⟨rfl,hp,(Z05 (F:= [bp]) (Z01 w _)).trans hu⟩
theorem Z3j (k a:Int) (hl:l.length<=1000000) (w:World) (h:PAt w bp A c l σ):
 Calls Tryz.prog 37 #[.pointer (some ⟨bp,0,none⟩),.int .i64 k,.int .i64 a] w fun e w'=>e= .returned (.tuple #[])/\PAt w' bp A c l (Pso.fail l σ k a)/\UpT [bp] w w':=by
 obtain ⟨i,f,b⟩:=σ;have HP:=Y1 h;have HF:Hid (Pso.fail l (i,(f,b)) k a=(l.length,if f=0 then (k,a) else (f,b))):=Y1 rfl;rw[HF.out];have hlt:=h.lt;have c0:=h.c0;have c1:=h.c1;have c2:=h.c2;have c3:=h.c3;have f1:=h.fz 1;have f2:=h.fz 2;have f3:=h.fz 3;simp only at c1 c2 c3;clear h HF;by_cases h0:f=0
 {subst h0;rw[if_pos rfl];have e0: ((0:Int)==0)=true:=rfl;go_enter Tryz.func37,Tryz.ntmps37;go_wp2
  go_end0
  exact ⟨rfl,(HP.out.turn23 k a).turn1 l.length,(((UpT.refl _ _).set _ (Or.inr (by simp)) _).set _ (Or.inr (by simp)) _).set _ (Or.inr (by simp)) _⟩}
 {rw[if_neg h0];have e0: (f==0)=false:=by simpa using h0
  go_enter Tryz.func37,Tryz.ntmps37;go_wp2
  go_end0
  exact ⟨rfl,HP.out.turn1 l.length,(UpT.refl _ _).set _ (Or.inr (by simp)) _⟩}
theorem Z2z (hl:l.length<=1000000) (hi:σ.1<=l.length) (w:World) (h:PAt w bp A c l σ):
 Calls Tryz.prog 88 #[.pointer (some ⟨bp,0,none⟩)] w fun e w'=>e= .returned (.tuple #[])/\PAt w' bp A c l (Pso.misfit l σ)/\UpT [bp] w w':=by
 have HF:Hid (Pso.misfit l σ=Pso.fail l σ 90 (Prs.look l σ.1).at_):=Y1 rfl;rw[HF.out];have HL:=Y1 (Z1o bp A c l σ hl hi w h);obtain ⟨x,hx⟩: ∃x,x=Prs.look l σ.1:=⟨_,rfl⟩;rw[<-hx] at HL ⊢;have HP:=Y1 h;have hfd:=Z47 x.t.kind ⟨x.t.text.toArray⟩ x.at_;clear h HF hx;go_enter Tryz.func88,Tryz.ntmps88
 go_wp2_with fail
 refine HL.out.mono ?_;rintro e w1 ⟨rfl,hb1⟩;have HB1:=Y1 hb1;clear hb1 HL
 go_wp2_with fail
 refine (Z3j bp A c l σ 90 x.at_ hl w1 (HP.out.below HB1.out)).mono ?_;rintro e w2 ⟨rfl,hp2,hu2⟩;have HP2:=Y1 hp2;have HU2:=Y1 hu2;clear hp2 hu2;go_wp2
 go_end0
 exact ⟨rfl,HP2.out,(Z05 HB1.out).trans HU2.out⟩
end
end
end Go.Proofs.YtkncdbaoaeeoiaaGreatDoor
namespace Sem
section
def cut (c:UInt8):List UInt8->List UInt8×List UInt8×Bool
 | []=>([],[],false)
 | d::r=>if d=c then ([],r,true) else (d::(cut c r).1,(cut c r).2.1,(cut c r).2.2)
theorem Z8o {c:UInt8}: ∀ {l:List UInt8},(∀d∈l,d≠c)->cut c l=(l,[],false)
 | [],_=>rfl
 | d::r,h=>by rw[cut,if_neg (h d (by simp)),Z8o (fun e he=>h e (by simp[he]))]
theorem Z63 {c:UInt8}: ∀ {p:List UInt8} (q:List UInt8),(∀d∈p,d≠c)->cut c (p++c::q)=(p,q,true)
 | [],q,_=>by rw[List.nil_append,cut,if_pos rfl]
 | d::r,q,h=>by rw[List.cons_append,cut,if_neg (h d (by simp)),Z63 q (fun e he=>h e (by simp[he]))]
theorem ZcK (l:List UInt8):parts l=if (cut 46 l).2.2=true then (cut 46 l).1::parts (cut 46 l).2.1 else [l]:=by
 induction l with
 | nil=>rfl
 | cons d r ih=>
  by_cases h:d=46
  {subst h; rw[Z17,cut,if_pos rfl]; rfl}
  {rw[cut,if_neg h];simp only;rcases hp:parts r with _ | ⟨p,ps⟩
   {exact absurd hp (Z1R r)}
   {rw[Z0K h hp];rw[hp] at ih;by_cases hc: (cut 46 r).2.2=true
    {rw[if_pos hc] at ih ⊢;simp only[List.cons.injEq] at ih;rw[ih.1,ih.2]}
    {rw[if_neg hc] at ih ⊢;simp only[List.cons.injEq] at ih;rw[ih.1,ih.2]}}}
theorem Z6y (c:UInt8): ∀l:List UInt8,(cut c l).1.length<=l.length/\(cut c l).2.1.length<=l.length/\((cut c l).2.2=true->(cut c l).2.1.length < l.length)
 | []=>by simp[cut]
 | d::r=>by
  obtain ⟨h1,h2,h3⟩:=Z6y c r;rw[cut];split
  {simp}
  {simp only[List.length_cons];exact ⟨by omega,by omega,fun h=>by have:=h3 h; omega⟩}
end
end Sem
namespace Go.Proofs.YtkncdbaoaeeoiaaGreatDoor
section
open Go.RowKit
theorem Z6z (c:UInt8): ∀l:List UInt8,Lib.cut l [c]=Sem.cut c l
 | []=>by simp[Lib.cut,Lib.index,Sem.cut]
 | d::r=>by
  have ih:=Z6z c r;have hge:=Lib.indexByte_ge r c;unfold Lib.cut at ih ⊢;rw[Lib.index_one] at ih ⊢;rw[Sem.cut];unfold Lib.indexByte;by_cases h:d=c
  {subst h;simp}
  {have hb: (d==c)=false:=by simpa using h
   rw[hb,if_neg h];simp only[Bool.false_eq_true,if_false];by_cases h2:Lib.indexByte r c= -1
   {rw[h2] at ih ⊢;simp at ih ⊢;rw[<-ih];simp}
   {have h3: (Lib.indexByte r c== -1)=false:=by simpa using h2
    rw[h3];simp only[Bool.false_eq_true,if_false];rw[if_pos (by omega)] at ih;rw[if_pos (by omega), <-ih];have e: (Lib.indexByte r c+1).toNat=(Lib.indexByte r c).toNat+1:=by omega
    rw[e];simp}}
def cutR (c:UInt8) (l:List UInt8):Value:= .tuple #[.string ⟨(Sem.cut c l).1.toArray⟩,.string ⟨(Sem.cut c l).2.1.toArray⟩,.bool (Sem.cut c l).2.2]
section
variable (s : ByteArray) (c : UInt8) (hs : s.size <= 4611686018427387904) (w : World)
include s c hs w
theorem Z8p:
 Y9 149 #[.string s,.string ⟨#[c]⟩] w (cutR c s.data.toList):=by
 have hsz: (⟨#[c]⟩:ByteArray).size=1:=rfl;have hI: ∀w,Calls Tryz.prog 175 #[.string s,.string ⟨#[c]⟩] w fun e w'=>e= .returned (.int .i64 (Lib.indexB s ⟨#[c]⟩))/\w'=w:=fun w=>by
  have:=Any.stringslite_Index_one Tryz.lays219 s c w;rw[<-Lib.index_one] at this;exact this
 have hc:=Z6z c s.data.toList;have HC:Hid (cutR c s.data.toList= .tuple #[.string ⟨(Lib.cut s.data.toList (⟨#[c]⟩:ByteArray).data.toList).1.toArray⟩,.string ⟨(Lib.cut s.data.toList (⟨#[c]⟩:ByteArray).data.toList).2.1.toArray⟩,.bool (Lib.cut s.data.toList (⟨#[c]⟩:ByteArray).data.toList).2.2]):=Y1 (by
  show _=Value.tuple #[.string ⟨(Lib.cut s.data.toList [c]).1.toArray⟩,.string ⟨(Lib.cut s.data.toList [c]).2.1.toArray⟩,.bool (Lib.cut s.data.toList [c]).2.2];rw[hc]; rfl)
 clear hc;rcases Lib.indexB_cases s ⟨#[c]⟩ with hix | ⟨i,hix,hroom⟩
 {obtain ⟨e1,e2,e3⟩:=Lib.cutB_miss s ⟨#[c]⟩ hix;rw[e1,e2,e3] at HC;rw[hix] at hI;clear hix e1 e2 e3;go_enter Tryz.func149,Tryz.ntmps149
  go_wp2_with (go_at_call 175; refine (hI _).mono ?_; rintro e w' ⟨rfl,rfl⟩)
  go_ret3
  exact ⟨by rw[HC.out]; rfl,Below.refl _ _⟩}
 {obtain ⟨e1,e2,e3⟩:=Lib.cutB_hit s ⟨#[c]⟩ i hix;rw[e1,e2,e3] at HC;rw[hix] at hI;rw[hsz] at hroom HC;clear hix e1 e2 e3;have c1: (0:Int)<= ↑i:=by omega
  have c2: (↑i:Int)<= ↑s.size:=by omega
  have c3: (0:Int)<= ↑i+1:=by omega
  have c4: (↑i+1:Int)<= ↑s.size:=by omega
  have hw:IntKind.i64.wrap ((i:Int)+1)=(i:Int)+1:=IntWalk.i64_in _ (by omega);have mixed:Tryz.prog.follows .mixedOrders=true:=by kernel_rfl
  go_enter Tryz.func149,Tryz.ntmps149
  go_wp2_with (go_at_call 175; refine (hI _).mono ?_; rintro e w' ⟨rfl,rfl⟩)
  go_region
  go_wp2
  go_ret3
  exact ⟨by rw[HC.out]; rfl,Z0b Y2 _⟩}
theorem Z8q:
 Y9 117 #[.string s,.string ⟨#[c]⟩] w (cutR c s.data.toList):=by
 have hI:=Z8p s c hs;unfold cutR at hI ⊢;go_enter Tryz.func117,Tryz.ntmps117
 go_wp2_with (go_at_call 149; refine (hI _).mono ?_; rintro e w' ⟨rfl,hb⟩)
 go_ret3
 exact ⟨rfl,by assumption⟩
end
end
end Go.Proofs.YtkncdbaoaeeoiaaGreatDoor
