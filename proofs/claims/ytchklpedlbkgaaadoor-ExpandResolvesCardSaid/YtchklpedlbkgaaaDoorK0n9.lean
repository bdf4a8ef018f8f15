/- What the proofs of ExpandResolves want, part 9. -/
import Derived.WalkLawsBesides
import Derived.Test.YtchklpedlbkgaaaDoorK0n8
set_option linter.unusedVariables false
set_option linter.unusedSimpArgs false
set_option linter.unusedSectionVars false
set_option maxRecDepth 100000
set_option maxHeartbeats 16000000
namespace Shp
def nameOk (t:Sh) (wordB:List UInt8->Bool):Bool:=if t.of_= [] then Lex.isUpper t.name&& !wordB t.name else Lex.isName t.of_&&Lex.isUpper t.name
section
variable {t : Sh}
include t
theorem Z8z (h1:1<=t.kind) (h2:t.kind<=4):fits t=(bare t&&decide (t.names.length=0)&&decide (t.parts.length=0)):=by
 cases hb:bare t with
 | false=>rw[Z0Q (by omega) hb]; rfl
 | true=>
  by_cases hz:0 < t.names.length
  {rw[Z1r (by omega) hb (by omega) hz,decide_eq_false (p:=t.names.length=0) (by omega)]; rfl}
  {rw[Z2j hb (by omega) (by omega) hz (by omega) (by omega),decide_eq_true h1,decide_eq_true h2,decide_eq_true (p:=t.names.length=0) (by omega)]}
theorem Z8A (h:t.kind=5):fits t=(bare t&&decide (t.names.length=0)&&decide (t.parts.length=1)):=by
 cases hb:bare t with
 | false=>rw[Z0Q (by omega) hb]; rfl
 | true=>
  by_cases hz:0 < t.names.length
  {rw[Z1r (by omega) hb (by omega) hz,decide_eq_false (p:=t.names.length=0) (by omega)]; rfl}
  {rw[Z3s hb h hz,decide_eq_true (p:=t.names.length=0) (by omega)]; rfl}
theorem Z9T (h:t.kind=8):fits t=(bare t&&decide (t.names.length=0)&&decide (0 < t.parts.length)):=by
 cases hb:bare t with
 | false=>rw[Z0Q (by omega) hb]; rfl
 | true=>
  by_cases hz:0 < t.names.length
  {rw[Z1r (by omega) hb (by omega) hz,decide_eq_false (p:=t.names.length=0) (by omega)]; rfl}
  {rw[Z46 hb h hz,decide_eq_true (p:=t.names.length=0) (by omega)]; rfl}
theorem Z9U (h:t.kind=6\/t.kind=7):fits t=(bare t&&decide (t.names.length=t.parts.length)&&areNames t.names):=by
 cases hb:bare t with
 | false=>rw[Z0Q (by omega) hb]; rfl
 | true=>rw[Z27 hb h,Bool.true_and,Bool.and_comm]
theorem Z9V (h:t.kind < 1\/10 < t.kind):fits t=false:=by
 cases hb:bare t with
 | false=>rw[Z0Q (by omega) hb]
 | true=>
  by_cases hz:0 < t.names.length
  {rw[Z1r (by omega) hb (by omega) hz]}
  {rw[Z2j hb (by omega) (by omega) hz (by omega) (by omega)];rcases h with h | h
   {rw[decide_eq_false (by omega)]; rfl}
   {rw[decide_eq_false (p:=t.kind<=4) (by omega),Bool.and_false]; rfl}}
theorem Z7k (h:t.kind=10):fits t=(Lex.isName t.of_&&Lex.isUpper t.name&&decide (t.names.length=0)&&decide (t.parts.length=0)):=by
 rw[Z1T (Or.inr h)];unfold ofOk;rw[h,show decide ((10:Int)=9)=false from rfl,Bool.and_false,Bool.false_and,Bool.or_false,Bool.and_comm (Lex.isUpper t.name)]
end
end Shp
namespace Go.Proofs.YtchklpedlbkgaaaDoor
open Go.RowKit Shp
theorem Z9W:Lex.isUpper []=false:=rfl
theorem Z7l {s:List UInt8} (h:Lex.isUpper s=true):wordB s=plain s:=by
 have h0: ([]==s)=false:=by
  cases s with
  | nil=>rw[Z9W] at h; cases h
  | cons a l=>rfl
 have c: ∀a b:List UInt8,(a==b)=(b==a):=fun a b=>by rw[Bool.eq_iff_iff,beq_iff_eq,beq_iff_eq]; exact eq_comm
 unfold wordB plain;rw[h0,Bool.false_or,c [73,110,116],c [66,111,111,108],c [84,101,120,116],c [65,110,121]]
theorem Z8B {t:Sh} (h:t.kind=9):fits t=(nameOk t wordB&&decide (t.names.length=0)&&decide (t.parts.length=0)):=by
 rw[Z1T (Or.inl h)];congr 2;unfold ofOk nameOk;rw[h,show decide ((9:Int)=9)=true from rfl,Bool.and_true];by_cases ho:t.of_= []
 {rw[if_pos ho,ho];cases hu:Lex.isUpper t.name with
  | false=>rfl
  | true=>rw[Z7l hu]; rfl}
 {rw[if_neg ho,show (t.of_== [])=false from beq_eq_false_iff_ne.2 ho,Bool.false_and,Bool.or_false,Bool.and_comm]}
theorem Z3A (t:Sh) (q:Ptr) (w:World):
 Y9 56 #[.agg (Y8 t q)] w (.bool (bare t)):=by
 have HB:Hid (bare t=(t.of_== []&&t.name== [])):=Y1 rfl;have hb0:=Z00 w (.cells (Y8 t q) 25);have HB0:=Y1 hb0;clear hb0;obtain ⟨_,⟨c0,c1,c2,c3,c4⟩,_⟩:=Z06 w t q;cases h1: (t.of_== [])
 {have hoe:=Z0x h1;have HF:Hid (bare t=false):=Y1 (by rw[HB.out,h1]; rfl);clear h1;go_enter Tryd.func56,Tryd.ntmps56;go_wp2;go_ret;exact ⟨by rw[HF.out]; rfl,HB0.out⟩}
 {have hoe:=Z0x h1;cases h2: (t.name== [])
  all_goals
   have hne:=Z0x h2;have HF:Hid _:=Y1 (show bare t=_ from by rw[HB.out,h1,h2]);clear h1 h2;go_enter Tryd.func56,Tryd.ntmps56;go_wp2;go_ret;exact ⟨Z0j (by rw[HF.out]; rfl),HB0.out⟩}
theorem Z7m (t:Sh) (q:Ptr) (w:World) (hs:Small t q) (hg:WGlobs w):
 Y9 58 #[.agg (Y8 t q)] w (.bool (nameOk t wordB)):=by
 have HS:=Y1 hs;have HB:Hid (nameOk t wordB=if t.of_= [] then Lex.isUpper t.name&& !wordB t.name else Lex.isName t.of_&&Lex.isUpper t.name):=Y1 rfl;have hb0:=Z00 w (.cells (Y8 t q) 25);have hu:=fun W=>Z3Y t.name HS.out.n W;have hn:=fun W=>Z23 t.of_ HS.out.o W;have hw:=Z6e t.name _ (hg.next hb0);have HB0:=Y1 hb0;clear hb0 hg hs;obtain ⟨_,⟨c0,c1,c2,c3,c4⟩,_⟩:=Z06 w t q;cases h1: (t.of_== [])
 {have hoe:=Z0x h1;have HF:Hid (nameOk t wordB=(Lex.isName t.of_&&Lex.isUpper t.name)):=Y1 (by rw[HB.out,if_neg (by simpa using h1)]);clear h1;cases h2:Lex.isName t.of_
  all_goals
   rw[h2] at HF;simp only[h2] at hn;clear h2;go_enter Tryd.func58,Tryd.ntmps58
   go_wp2_with fail
   refine (hn _).mono ?_;rintro e w' ⟨rfl,rfl⟩
  {go_wp2;go_ret;exact ⟨by rw[HF.out]; rfl,HB0.out⟩}
  {go_wp2_with fail
   refine (hu _).mono ?_;rintro e w' ⟨rfl,rfl⟩;go_wp2;go_ret;exact ⟨Z0j (by rw[HF.out]; rfl),HB0.out⟩}}
 {have hoe:=Z0x h1;have HF:Hid (nameOk t wordB=(Lex.isUpper t.name&& !wordB t.name)):=Y1 (by rw[HB.out,if_pos (by simpa using h1)]);clear h1;cases h2:Lex.isUpper t.name
  all_goals
   rw[h2] at HF;simp only[h2] at hu;clear h2;go_enter Tryd.func58,Tryd.ntmps58
   go_wp2_with fail
   refine (hu _).mono ?_;rintro e w' ⟨rfl,rfl⟩
  {go_wp2;go_ret;exact ⟨by rw[HF.out]; rfl,HB0.out⟩}
  {go_wp2_with fail
   refine hw.mono ?_;rintro e w' ⟨rfl,rfl⟩;go_wp2;go_ret;exact ⟨Z0j (by rw[HF.out]; rfl),HB0.out⟩}}
theorem Z7K {a b:Nat}: ((a:Int)==(b:Int))=decide (a=b):=by rw[Bool.eq_iff_iff,beq_iff_eq,decide_eq_true_eq]; omega
theorem Z0r {k n:Int} (m:Int) (h:k=n) (e: (n==m)=true): (k==m)=true:=by rw[h]; exact e
theorem Z0k {k n:Int} (m:Int) (h:k=n) (e: (n==m)=false): (k==m)=false:=by rw[h]; exact e
section
variable (t : Sh) (q : Ptr) (w : World) (hq : ShAt w w.heap.size q t) (hg : WGlobs w)
include t q w hq hg
theorem Zbc (hk:t.kind=1\/t.kind=2\/t.kind=3\/t.kind=4\/t.kind=5\/t.kind=8):
 Y9 48 #[.agg (Y8 t q)] w (.bool (fits t)):=by
 have HS:=Y1 hq.small;have HA:=Y1 hq.strs;have hB:=Z06 w t q;have HB:=Y1 hB;have hb0:=Z00 w (.cells (Y8 t q) 25);have HB0:=Y1 hb0;have HG:=Y1 (hg.next hb0);obtain ⟨_,⟨c0,c1,c2,c3,c4⟩,_⟩:=hB;rcases hk with hk | hk | hk | hk | hk | hk
 all_goals
  first | have k1:=Z0r 1 hk rfl | have k1:=Z0k 1 hk rfl
  first | have k2:=Z0r 2 hk rfl | have k2:=Z0k 2 hk rfl
  first | have k3:=Z0r 3 hk rfl | have k3:=Z0k 3 hk rfl
  first | have k4:=Z0r 4 hk rfl | have k4:=Z0k 4 hk rfl
  first | have k5:=Z0r 5 hk rfl | have k5:=Z0k 5 hk rfl
  first | have k6:=Z0r 6 hk rfl | have k6:=Z0k 6 hk rfl
  first | have k7:=Z0r 7 hk rfl | have k7:=Z0k 7 hk rfl
  first | have k8:=Z0r 8 hk rfl | have k8:=Z0k 8 hk rfl
  first | have k9:=Z0r 9 hk rfl | have k9:=Z0k 9 hk rfl
  first | have k10:=Z0r 10 hk rfl | have k10:=Z0k 10 hk rfl
  first | have HF:=Y1 (Z8A hk) | have HF:=Y1 (Z9T hk) | have HF:=Y1 (Z8z (t:=t) (by omega) (by omega))
  have hc:=Z3A t q (w.alloc (.cells (Y8 t q) 25));clear hk hg hq hb0;cases hb:bare t
  {rw[hb] at hc HF;clear hb;go_enter Tryd.func48,Tryd.ntmps48
   go_wp2_with fail
   refine hc.mono ?_;rintro e w' ⟨rfl,hb'⟩;go_wp2;go_ret;exact ⟨by rw[HF.out]; rfl,Z02 HB0.out hb'⟩}
  {rw[hb] at hc HF;clear hb;cases hz:decide (t.names.length=0)
   {rw[hz] at HF;have hz2: ((t.names.length:Int)==0)=false:=by rw[Z19]; exact hz
    clear hz;go_enter Tryd.func48,Tryd.ntmps48
    go_wp2_with fail
    refine hc.mono ?_;rintro e w' ⟨rfl,hb'⟩;obtain ⟨_,⟨c0,c1,c2,c3,c4⟩,_⟩:=HB.out.next hb';go_wp2;go_ret;exact ⟨by rw[HF.out]; rfl,Z02 HB0.out hb'⟩}
   {rw[hz] at HF;have hz2: ((t.names.length:Int)==0)=true:=by rw[Z19]; exact hz
    clear hz;go_enter Tryd.func48,Tryd.ntmps48
    go_wp2_with fail
    refine hc.mono ?_;rintro e w' ⟨rfl,hb'⟩;obtain ⟨_,⟨c0,c1,c2,c3,c4⟩,_⟩:=HB.out.next hb';go_wp2;go_ret;exact ⟨Z0j (by rw[HF.out,Bool.eq_iff_iff]; simp; try omega),Z02 HB0.out hb'⟩}}
theorem Zbd (hk:t.kind=6\/t.kind=7) (hz:t.parts.length<=1000000):
 Y9 48 #[.agg (Y8 t q)] w (.bool (fits t)):=by
 have HS:=Y1 hq.small;have HA:=Y1 hq.strs;have hB:=Z06 w t q;have HB:=Y1 hB;have hb0:=Z00 w (.cells (Y8 t q) 25);have HB0:=Y1 hb0;have HG:=Y1 (hg.next hb0);have HZ:=Y1 hz;clear hz;obtain ⟨_,⟨c0,c1,c2,c3,c4⟩,_⟩:=hB;rcases hk with hk | hk
 all_goals
  first | have k1:=Z0r 1 hk rfl | have k1:=Z0k 1 hk rfl
  first | have k2:=Z0r 2 hk rfl | have k2:=Z0k 2 hk rfl
  first | have k3:=Z0r 3 hk rfl | have k3:=Z0k 3 hk rfl
  first | have k4:=Z0r 4 hk rfl | have k4:=Z0k 4 hk rfl
  first | have k5:=Z0r 5 hk rfl | have k5:=Z0k 5 hk rfl
  first | have k6:=Z0r 6 hk rfl | have k6:=Z0k 6 hk rfl
  first | have k7:=Z0r 7 hk rfl | have k7:=Z0k 7 hk rfl
  first | have k8:=Z0r 8 hk rfl | have k8:=Z0k 8 hk rfl
  first | have k9:=Z0r 9 hk rfl | have k9:=Z0k 9 hk rfl
  first | have k10:=Z0r 10 hk rfl | have k10:=Z0k 10 hk rfl
  have HF:=Y1 (Z9U (t:=t) (by first | exact Or.inl hk | exact Or.inr hk));have hc:=Z3A t q (w.alloc (.cells (Y8 t q) 25));clear hk hg hq hb0;cases hb:bare t
  {rw[hb] at hc HF;clear hb;go_enter Tryd.func48,Tryd.ntmps48
   go_wp2_with fail
   refine hc.mono ?_;rintro e w' ⟨rfl,hb'⟩;go_wp2;go_ret;exact ⟨by rw[HF.out]; rfl,Z02 HB0.out hb'⟩}
  {rw[hb] at hc HF;clear hb;cases hz:decide (t.names.length=t.parts.length)
   {rw[hz] at HF;have hz2: ((t.names.length:Int)==(t.parts.length:Int))=false:=by rw[Z7K]; exact hz
    clear hz;go_enter Tryd.func48,Tryd.ntmps48
    go_wp2_with fail
    refine hc.mono ?_;rintro e w' ⟨rfl,hb'⟩;obtain ⟨_,⟨c0,c1,c2,c3,c4⟩,_⟩:=HB.out.next hb';go_wp2;go_ret;exact ⟨by rw[HF.out]; rfl,Z02 HB0.out hb'⟩}
   {rw[hz] at HF;have hz2: ((t.names.length:Int)==(t.parts.length:Int))=true:=by rw[Z7K]; exact hz
    clear hz;have hlen:t.names.length<=1000000:=by have:=HZ.out; have h2:=beq_iff_eq.1 hz2; omega
    have HA0:=HA.out.next HB0.out;go_enter Tryd.func48,Tryd.ntmps48
    go_wp2_with fail
    refine hc.mono ?_;rintro e w1 ⟨rfl,hb'⟩;have hn:=Z7i q.A q.c t.names w1 (HA0.next hb') hlen HS.out.ns;obtain ⟨_,⟨c0,c1,c2,c3,c4⟩,_⟩:=HB.out.next hb';have hbw:=Z02 HB0.out hb';clear hc hb' HA0
    go_wp2_with fail
    refine hn.mono ?_;rintro e w' ⟨rfl,hb2⟩;go_wp2;go_ret;exact ⟨Z0j (by rw[HF.out]; rfl),Z02 hbw hb2⟩}}
theorem Zbe (hk:t.kind=9):
 Y9 48 #[.agg (Y8 t q)] w (.bool (fits t)):=by
 have HS:=Y1 hq.small;have HA:=Y1 hq.strs;have hB:=Z06 w t q;have HB:=Y1 hB;have hb0:=Z00 w (.cells (Y8 t q) 25);have HB0:=Y1 hb0;have HG:=Y1 (hg.next hb0);obtain ⟨_,⟨c0,c1,c2,c3,c4⟩,_⟩:=hB;have k1:=Y3 1 hk rfl;have k2:=Y3 2 hk rfl;have k3:=Y3 3 hk rfl;have k4:=Y3 4 hk rfl;have k5:=Y3 5 hk rfl;have k6:=Y3 6 hk rfl;have k7:=Y3 7 hk rfl;have k8:=Y3 8 hk rfl;have k9:=Y4 9 hk rfl;have k10:=Y3 10 hk rfl;have HF:=Y1 (Z8B hk);have hc:=Z7m t q (w.alloc (.cells (Y8 t q) 25)) HS.out HG.out;clear hk hg hq hb0;cases hb:nameOk t wordB
 {rw[hb] at hc HF;clear hb;go_enter Tryd.func48,Tryd.ntmps48
  go_wp2_with fail
  refine hc.mono ?_;rintro e w' ⟨rfl,hb'⟩;go_wp2;go_ret;exact ⟨by rw[HF.out]; rfl,Z02 HB0.out hb'⟩}
 {rw[hb] at hc HF;clear hb;cases hz:decide (t.names.length=0)
  {rw[hz] at HF;have hz2: ((t.names.length:Int)==0)=false:=by rw[Z19]; exact hz
   clear hz;go_enter Tryd.func48,Tryd.ntmps48
   go_wp2_with fail
   refine hc.mono ?_;rintro e w' ⟨rfl,hb'⟩;obtain ⟨_,⟨c0,c1,c2,c3,c4⟩,_⟩:=HB.out.next hb';go_wp2;go_ret;exact ⟨by rw[HF.out]; rfl,Z02 HB0.out hb'⟩}
  {rw[hz] at HF;have hz2: ((t.names.length:Int)==0)=true:=by rw[Z19]; exact hz
   clear hz;go_enter Tryd.func48,Tryd.ntmps48
   go_wp2_with fail
   refine hc.mono ?_;rintro e w' ⟨rfl,hb'⟩;obtain ⟨_,⟨c0,c1,c2,c3,c4⟩,_⟩:=HB.out.next hb';go_wp2;go_ret;exact ⟨Z0j (by rw[HF.out,Bool.eq_iff_iff]; simp; try omega),Z02 HB0.out hb'⟩}}
theorem ZaQ (hk:t.kind=10):
 Y9 48 #[.agg (Y8 t q)] w (.bool (fits t)):=by
 have HS:=Y1 hq.small;have HA:=Y1 hq.strs;have hB:=Z06 w t q;have HB:=Y1 hB;have hb0:=Z00 w (.cells (Y8 t q) 25);have HB0:=Y1 hb0;have HG:=Y1 (hg.next hb0);obtain ⟨_,⟨c0,c1,c2,c3,c4⟩,_⟩:=hB;have k1:=Y3 1 hk rfl;have k2:=Y3 2 hk rfl;have k3:=Y3 3 hk rfl;have k4:=Y3 4 hk rfl;have k5:=Y3 5 hk rfl;have k6:=Y3 6 hk rfl;have k7:=Y3 7 hk rfl;have k8:=Y3 8 hk rfl;have k9:=Y3 9 hk rfl;have k10:=Y4 10 hk rfl;have HF:=Y1 (Z7k hk);have hn:=fun W=>Z23 t.of_ HS.out.o W;have hu:=fun W=>Z3Y t.name HS.out.n W;clear hk hg hq hb0;cases h1:Lex.isName t.of_
 {rw[h1] at HF;simp only[h1] at hn;clear h1;go_enter Tryd.func48,Tryd.ntmps48
  go_wp2_with fail
  refine (hn _).mono ?_;rintro e w' ⟨rfl,rfl⟩;go_wp2;go_ret;exact ⟨by rw[HF.out]; rfl,HB0.out⟩}
 {rw[h1] at HF;simp only[h1] at hn;clear h1;cases h2:Lex.isUpper t.name
  {rw[h2] at HF;simp only[h2] at hu;clear h2;go_enter Tryd.func48,Tryd.ntmps48
   go_wp2_with fail
   refine (hn _).mono ?_;rintro e w' ⟨rfl,rfl⟩
   go_wp2_with fail
   refine (hu _).mono ?_;rintro e w' ⟨rfl,rfl⟩;go_wp2;go_ret;exact ⟨by rw[HF.out]; rfl,HB0.out⟩}
  {rw[h2] at HF;simp only[h2] at hu;clear h2;cases hz:decide (t.names.length=0)
   all_goals
    rw[hz] at HF;have hz2:=hz;rw[<-Z19] at hz2;clear hz;go_enter Tryd.func48,Tryd.ntmps48
    go_wp2_with fail
    refine (hn _).mono ?_;rintro e w' ⟨rfl,rfl⟩
    go_wp2_with fail
    refine (hu _).mono ?_;rintro e w' ⟨rfl,rfl⟩;go_wp2;go_ret;exact ⟨Z0j (by rw[HF.out,Bool.eq_iff_iff]; simp),HB0.out⟩}}
theorem Z8C (hk:t.kind < 1\/10 < t.kind):
 Y9 48 #[.agg (Y8 t q)] w (.bool (fits t)):=by
 have HS:=Y1 hq.small;have HA:=Y1 hq.strs;have hB:=Z06 w t q;have HB:=Y1 hB;have hb0:=Z00 w (.cells (Y8 t q) 25);have HB0:=Y1 hb0;have HG:=Y1 (hg.next hb0);obtain ⟨_,⟨c0,c1,c2,c3,c4⟩,_⟩:=hB;have k1: (t.kind==1)=false:=by rw[beq_eq_false_iff_ne]; omega
 have k2: (t.kind==2)=false:=by rw[beq_eq_false_iff_ne]; omega
 have k3: (t.kind==3)=false:=by rw[beq_eq_false_iff_ne]; omega
 have k4: (t.kind==4)=false:=by rw[beq_eq_false_iff_ne]; omega
 have k5: (t.kind==5)=false:=by rw[beq_eq_false_iff_ne]; omega
 have k6: (t.kind==6)=false:=by rw[beq_eq_false_iff_ne]; omega
 have k7: (t.kind==7)=false:=by rw[beq_eq_false_iff_ne]; omega
 have k8: (t.kind==8)=false:=by rw[beq_eq_false_iff_ne]; omega
 have k9: (t.kind==9)=false:=by rw[beq_eq_false_iff_ne]; omega
 have k10: (t.kind==10)=false:=by rw[beq_eq_false_iff_ne]; omega
 have HF:=Y1 (Z9V hk);clear hk hg hq hb0;go_enter Tryd.func48,Tryd.ntmps48;go_wp2;go_ret;exact ⟨by rw[HF.out]; rfl,HB0.out⟩
theorem Z8D (hz:t.parts.length<=1000000):
 Y9 48 #[.agg (Y8 t q)] w (.bool (fits t)):=by
 by_cases h:t.kind < 1\/10 < t.kind
 {exact Z8C t q w hq hg h}
 {have:t.kind=1\/t.kind=2\/t.kind=3\/t.kind=4\/t.kind=5\/t.kind=6\/t.kind=7\/t.kind=8\/t.kind=9\/t.kind=10:=by omega
  rcases this with h | h | h | h | h | h | h | h | h | h
  case inr.inr.inr.inr.inr.inr.inr.inr.inl=>exact Zbe t q w hq hg h
  case inr.inr.inr.inr.inr.inr.inr.inr.inr=>exact ZaQ t q w hq hg h
  all_goals first | exact Zbc t q w hq hg (by omega) | exact Zbd t q w hq hg (by omega) hz}
end
end Go.Proofs.YtchklpedlbkgaaaDoor
namespace Go.Proofs.YtchklpedlbkgaaaDoor
section
open Go.RowKit Shp
def Z0Z (p:Sh->Bool) (l:List Sh):Int:=match l.findIdx? p with
 | some i=>(i:Int)
 | none=> -1
theorem Z9X {p:Sh->Bool} {l:List Sh} {i:Nat} (hi:i < l.length) (h:p (l[i]'hi)=true) (hn: ∀j (hj:j < l.length),j < i->p (l[j]'hj)=false):Z0Z p l=(i:Int):=by
 have:l.findIdx? p=some i:=List.findIdx?_eq_some_iff_getElem.2 ⟨hi,h,fun j hj=>by rw[hn j (by omega) hj]; simp⟩;unfold Z0Z; rw[this]
theorem Z7n {p:Sh->Bool} {l:List Sh} (hn: ∀j (hj:j < l.length),p (l[j]'hj)=false):Z0Z p l= -1:=by
 have:l.findIdx? p=none:=List.findIdx?_eq_none_iff.2 (fun x hx=>by
  obtain ⟨j,hj,rfl⟩:=List.getElem_of_mem hx;exact hn j hj)
 unfold Z0Z; rw[this]
theorem Z8E (p:Sh->Bool) (l:List Sh):decide (0<=Z0Z p l)=l.any p:=by
 unfold Z0Z;cases h:l.findIdx? p with
 | some i=>
  obtain ⟨hi,hp,_⟩:=List.findIdx?_eq_some_iff_getElem.1 h;show decide ((0:Int)<=(i:Int))=_;rw[decide_eq_true (by omega)];exact (List.any_eq_true.2 ⟨_,List.getElem_mem hi,hp⟩).symm
 | none=>
  have:=List.findIdx?_eq_none_iff.1 h;show false=_;symm;rw[List.any_eq_false];intro x hx; rw[this x hx]; simp
theorem Z9Y (p:Sh->Bool) (l:List Sh): -1<=Z0Z p l:=by
 unfold Z0Z;cases l.findIdx? p with
 | some i=>show (-1:Int)<=(i:Int); omega
 | none=>show (-1:Int)<= -1; omega
theorem Z5q (l:List Sh):l.any (fun p=> !right p)= !rights l:=by
 rw[Z1w];induction l with
 | nil=>rfl
 | cons a l ih=>simp[ih]
section
variable (P : Option Addr) (d : Nat) (l : List Sh) (g off : Nat) (qs : Nat -> Ptr) (w : World) (hl : l.length <= 1000000) (hp : l.length = 0 \/ P = some ⟨g, off, none⟩ /\ g < w.heap.size /\ (∀ i (h : i < l.length), Sh5 w g (off + i * 5) (l[i]'h) (qs i)) /\ ∀ i (h : i < l.length), ShAt w w.heap.size (qs i) (l[i]'h)) (hg : WGlobs w) (hf : ∀ x ∈ l, ∀ (q : Ptr) (w : World), ShAt w w.heap.size q x -> WGlobs w -> Y9 30 #[.agg (Y8 x q)] w (.bool (!right x)))
include P d l g off qs w hl hp hg hf
theorem Z9Z:
 Y9 61 #[.slice P l.length d,.func (.func 30) #[] #[]] w (.int .i64 (Z0Z (fun p=> !right p) l)):=by
 have HP:=Y1 hp;have HF:=Y1 hf;have HG:=Y1 hg;clear hg;clear hp hf;go_enter Tryd.func61,Tryd.ntmps61
 go_wp2_with fail
 go_loopw [8] (fun ii wr=> ∃i:Nat,ii= .int .i64 i/\i<=l.length/\Hid (∀j (h:j < l.length),j < i->(!right (l[j]'h))=false)/\Below w.heap.size w wr) (fun i _=>l.length - (intOf i).toNat)
 case atStart=>exact ⟨0,rfl,Nat.zero_le _,Y1 (fun j _ hj=>absurd hj (by omega)),Below.refl _ _⟩
 case round=>
  obtain ⟨i,rfl,hi,HN,hb⟩:=hrel;by_cases hlt:i < l.length
  {rcases HP.out with h0 | ⟨rfl,hg,hc,hr⟩
   {omega}
   {obtain ⟨x,hx⟩: ∃x,x=l[i]'hlt:=⟨_,rfl⟩;obtain ⟨p0,p1,p2,p3,p4⟩:=(hc i hlt).keep hg hb;have hat:ShAt wr wr.heap.size (qs i) x:=by rw[hx]; exact (hr i hlt).next hb
    have ihx:=HF.out l[i] (List.getElem_mem _) (qs i) wr;rw[<-hx] at p0 p1 p2 p3 p4 ihx;have IH:=ihx hat (HG.out.next hb);have HX:=Y1 hx;clear hx hc hr hat ihx;have hi1: (i:Int) < (l.length:Int):=by omega
    cases hox: !right x with
    | true=>
     rw[hox] at IH;have HV:Hid (Z0Z (fun p=> !right p) l=(i:Int)):=Y1 (Z9X hlt (by show (!right _)=true; rw[<-HX.out]; exact hox) (fun j hj hji=>HN.out j hj hji));clear hox
     go_wp2_with fail
     refine IH.mono ?_;rintro e w' ⟨rfl,hb'⟩;go_wp2;go_ret;exact ⟨Z0Y HV.out.symm,Z02 hb hb'⟩
    | false=>
     rw[hox] at IH;have HO:=Y1 hox;clear hox
     go_wp2_with fail
     refine IH.mono ?_;rintro e w' ⟨rfl,hb'⟩;go_wp2
     go_roundw
     case rel=>exact ⟨i+1,by go_num,by omega,Y1 (fun j hj hji=>by
      rcases Nat.lt_succ_iff_lt_or_eq.1 hji with h | rfl
      {exact HN.out j hj h}
      · rw[<-HX.out]; exact HO.out),Z02 hb hb'⟩
     case measure=>simp[intOf]; omega}}
  {have hi1: ¬(i:Int) < (l.length:Int):=by omega
   have HV:Hid (Z0Z (fun p=> !right p) l= -1):=Y1 (Z7n (fun j hj=>HN.out j hj (by omega)));go_wp2;go_ret;exact ⟨Z0Y HV.out.symm,hb⟩}
theorem Z6f:
 Y9 49 #[.slice P l.length d,.func (.func 30) #[] #[]] w (.bool (l.any (fun p=> !right p))):=by
 have HI:=Z9Z P d l g off qs w hl hp hg hf;have HV:=Y1 (Z8E (fun p=> !right p) l);have hge:=Z9Y (fun p=> !right p) l;generalize Z0Z (fun p=> !right p) l=r at HI HV hge;clear hp hf;go_enter Tryd.func49,Tryd.ntmps49
 go_wp2_with fail
 refine HI.mono ?_;rintro e w' ⟨rfl,hb'⟩;go_wp2;go_ret;exact ⟨Z0j HV.out,hb'⟩
end
theorem Zbf {w:World} {q:Ptr} {t:Sh} (h:ShAt w w.heap.size q t): ∃(g off:Nat) (qs:Nat->Ptr),t.parts.length=0\/q.P=some ⟨g,off,none⟩/\g < w.heap.size/\(∀i (h:i < t.parts.length),Sh5 w g (off+i * 5) (t.parts[i]'h) (qs i))/\ ∀i (h:i < t.parts.length),ShAt w w.heap.size (qs i) (t.parts[i]'h):=by
 rcases h.part with h0 | ⟨g,off,qs,h1,h2,h3,h4⟩
 {exact ⟨0,0,fun _=>q,Or.inl h0⟩}
 {exact ⟨g,off,qs,Or.inr ⟨h1,h2,h3,h4⟩⟩}
theorem Z6g (t:Sh): ∀(q:Ptr) (w:World),ShAt w w.heap.size q t->WGlobs w->size t<=1000000->
 Y9 30 #[.agg (Y8 t q)] w (.bool (!right t)):=by
 induction t using Sh.ind with
 | h t ih=>
 intro q w hq hg hz;have hpl:t.parts.length<=1000000:=by have:=Z0F t.parts; rw[size_eq] at hz; omega
 have hb0:=Z00 w (.cells (Y8 t q) 25);have hf:=Z8D t q _ (hq.next hb0) (hg.next hb0) hpl;have HC:=Y1 (fun W (h:Below w.heap.size w W)=>by
  obtain ⟨g,off,qs,h1⟩:=Zbf (hq.next h);exact Z6f q.P q.d t.parts g off qs W hpl h1 (hg.next h) (fun x hx q' w' hat hg'=>ih x hx q' w' hat hg' (by have:=Z15 hx; rw[size_eq] at hz; omega)))
 have HD:=Y1 (Z1g t);have HA:=Y1 (Z5q t.parts);have HB0:=Y1 hb0;have HB:=Y1 (Z06 w t q);obtain ⟨_,⟨c0,c1,c2,c3,c4⟩,_⟩:=HB.out;clear hb0 hq hg hz hpl ih;cases hft:fits t
 {have HF:Hid (right t=false):=Y1 (by rw[HD.out,hft]; rfl);rw[hft] at hf;clear hft;go_enter Tryd.func30,Tryd.ntmps30
  go_wp2_with fail
  refine hf.mono ?_;rintro e w' ⟨rfl,hb'⟩;go_wp2;go_ret;exact ⟨by rw[HF.out]; rfl,Z02 HB0.out hb'⟩}
 {have HF:Hid ((!right t)=t.parts.any (fun p=> !right p)):=Y1 (by rw[HD.out,hft,HA.out]; rfl);rw[hft] at hf;clear hft;go_enter Tryd.func30,Tryd.ntmps30
  go_wp2_with fail
  refine hf.mono ?_;rintro e w1 ⟨rfl,hb'⟩;have hbw:=Z02 HB0.out hb';have hc:=HC.out w1 hbw;obtain ⟨_,⟨d0,d1,d2,d3,d4⟩,_⟩:=HB.out.next hb';clear hf c0 c1 c2 c3 c4 hb'
  go_wp2_with fail
  refine hc.mono ?_;rintro e w' ⟨rfl,hb2⟩;go_wp2;go_ret;exact ⟨Z0j HF.out.symm,Z02 hbw hb2⟩}
structure UpC (cb B:Nat) (w w':World):Prop where
 os:w'.os=w.os
 tape:w'.tape=w.tape
 output:w'.output=w.output
 size:w.heap.size<=w'.heap.size
 block: ∀k,k < B->k≠cb->w'.heap[k]? =w.heap[k]?
 c1:w'.cell? ⟨cb,1,none⟩=w.cell? ⟨cb,1,none⟩
 f0:w'.frozen? ⟨cb,0,none⟩=w.frozen? ⟨cb,0,none⟩
theorem UpC.refl (cb B:Nat) (w:World):UpC cb B w w:=⟨rfl,rfl,rfl,Nat.le_refl _,fun _ _ _=>rfl,rfl,rfl⟩
theorem UpC.trans {cb B:Nat} {a b c:World} (h:UpC cb B a b) (k:UpC cb B b c):UpC cb B a c:=
 ⟨k.os.trans h.os,k.tape.trans h.tape,k.output.trans h.output,Nat.le_trans h.size k.size,fun i hi hn=>(k.block i hi hn).trans (h.block i hi hn),k.c1.trans h.c1,k.f0.trans h.f0⟩
theorem UpC.mono {cb B B':Nat} {w w':World} (h:UpC cb B w w') (hB:B'<=B):UpC cb B' w w':=⟨h.os,h.tape,h.output,h.size,fun k hk=>h.block k (Nat.lt_of_lt_of_le hk hB),h.c1,h.f0⟩
theorem UpC.below {cb B:Nat} {a w w':World} (h:UpC cb B a w) (hb:Below B w w') (hc:cb < B):UpC cb B a w':=
 h.trans ⟨hb.os,hb.tape,hb.output,hb.size,fun k hk _=>hb.block k hk,hb.cell (p:=⟨cb,1,none⟩) hc,hb.frozen (p:=⟨cb,0,none⟩) hc⟩
theorem UpC.set {cb B:Nat} {a w:World} (h:UpC cb B a w) (v:Value):UpC cb B a (w.setCell ⟨cb,0,none⟩ v):=
 h.trans ⟨rfl,rfl,rfl,by simp[World.setCell],fun k hk hn=>Below.heap_setCell _ _ _ _ hn,by simp[go_sem],by simp[go_sem]⟩
theorem UpC.next {cb:Nat} {a b c:World} (h:UpC cb a.heap.size a b) (k:UpC cb b.heap.size b c):UpC cb a.heap.size a c:=h.trans (k.mono h.size)
theorem UpC.cell {cb B:Nat} {w w':World} (h:UpC cb B w w') {g k:Nat} (hg:g < B) (hn:g≠cb):w'.cell? ⟨g,k,none⟩=w.cell? ⟨g,k,none⟩:=World.cell?_of_block (w:=w) (h.block g hg hn)
theorem UpC.toBelow {cb B:Nat} {w w':World} (h:UpC cb B w w') (hB:B<=cb):Below B w w':=⟨h.os,h.tape,h.output,h.size,fun k hk=>h.block k hk (by omega)⟩
structure Cnt (w:World) (cb p m:Nat):Prop where
 lt:cb < w.heap.size
 c0:w.cell? ⟨cb,0,none⟩=some (.int .i64 (p:Int))
 c1:m=400
 f0:w.frozen? ⟨cb,0,none⟩=false
theorem Cnt.below {w w':World} {cb p m:Nat} (h:Cnt w cb p m) (hb:Below w.heap.size w w'):Cnt w' cb p m:=
 ⟨Nat.lt_of_lt_of_le h.lt hb.size,(hb.cell (p:=⟨cb,0,none⟩) h.lt).trans h.c0,h.c1,(hb.frozen (p:=⟨cb,0,none⟩) h.lt).trans h.f0⟩
theorem Cnt.set {w:World} {cb p m:Nat} (h:Cnt w cb p m) (n:Nat):Cnt (w.setCell ⟨cb,0,none⟩ (.int .i64 (n:Int))) cb n m:=
 ⟨by simpa[World.setCell] using h.lt,by simp[go_sem,h.c0],h.c1,by simp[go_sem,h.f0]⟩
theorem ShAt.upc {w w':World} {B C cb:Nat} {q:Ptr} {t:Sh} (h:ShAt w B q t) (hu:UpC cb C w w') (h1:B<=cb) (h2:B<=C):ShAt w' B q t:=
 h.of (Nat.le_refl _) (fun g k hg=>hu.cell (by omega) (by omega))
theorem Z5a (t:Sh): ∀(q:Ptr) (B cb p m:Nat) (w:World),ShAt w B q t->B<=cb->Cnt w cb p m->p+size t<=m->m<=1000000->
 Calls Tryd.prog 47 #[.pointer (some ⟨cb,0,none⟩),.agg (Y8 t q)] w
  fun e w'=>e= .returned (.int .i64 (deep t:Int))/\UpC cb w.heap.size w w'/\Cnt w' cb (p+size t) m:=by
 induction t using Sh.ind with
 | h t ih=>
 intro q B cb p m w hq hBc hc hpm hm;have HQ:=Y1 hq;have HM:=Y1 hq.small.m;have HP:=Y1 hq.part;have HD:Hid (deep t=deeps t.parts+1):=Y1 (Z0h t);have HZ:Hid (size t=1+sizes t.parts):=Y1 (size_eq t);have HDS:=Y1 (Z1p t);have HPM:Hid (p+size t<=m):=Y1 hpm;have hlt:p < m:=by have:=HZ.out; omega
 have hpe: ((p:Int)==400)=false:=by rw[beq_eq_false_iff_ne]; have:=hc.c1; omega
 have hpi: (p:Int)<=1000000:=by omega
 have hb0:=Z00 w (.cells (Y8 t q) 25);have HC:=Y1 hc;have hB:=Z06 w t q;have HB:=Y1 hB;have HC1:=Y1 (hc.below hb0);have HU:=Y1 ((UpC.refl cb w.heap.size w).below hb0 hc.lt);have hcl:=hc.lt;obtain ⟨_,k0,k1,k2⟩:=hc.below hb0;clear k1;clear hb0 hc hB hpm hq;have hne:w.heap.size≠cb:=by omega
 have hne2:cb≠w.heap.size:=by omega
 go_enter Tryd.func47,Tryd.ntmps47
 go_wp2_with fail
 obtain ⟨W0,hW0⟩: ∃W0,W0=(w.setCell ⟨cb,0,none⟩ (.int .i64 ((p:Int)+1))).alloc (.cells (Y8 t q) 25):=⟨_,rfl⟩;have hsz0:W0.heap.size=w.heap.size+1:=by rw[hW0]; simp[World.setCell]
 have hU0:UpC cb w.heap.size w W0:=by
  rw[hW0];exact ((UpC.refl cb w.heap.size w).set _).below ((Z00 _ _).mono (by simp[World.setCell])) hcl
 have hC0:Cnt W0 cb (p+1) m:=by
  rw[hW0];exact (HC.out.set (p+1)).below (Z00 _ _)
 have hB0:Box5 W0 w.heap.size t q:=by
  have e: (w.setCell ⟨cb,0,none⟩ (.int .i64 ((p:Int)+1))).heap.size=w.heap.size:=by simp[World.setCell]
  have h5:=Z06 (w.setCell ⟨cb,0,none⟩ (.int .i64 ((p:Int)+1))) t q;rw[e] at h5;rw[hW0]; exact h5
 have HU0:=Y1 hU0;have HC0:=Y1 hC0;have HB0:=Y1 hB0;clear hU0 hC0 hB0;rw[<-hW0];have HSZ:=Y1 hsz0;clear hW0 k0 k2 HU HC1 HB hsz0
 go_loopw [5,24] (fun dd ii wr=> ∃i:Nat,ii= .int .i64 i/\i<=t.parts.length/\dd= .int .i64 (deeps (t.parts.take i):Int)/\Hid (UpC cb W0.heap.size W0 wr)/\Hid (Cnt wr cb (p+1+sizes (t.parts.take i)) m)) (fun _ i _=>t.parts.length - (intOf i).toNat)
 case atStart=>exact ⟨0,rfl,Nat.zero_le _,rfl,Y1 (UpC.refl _ _ _),HC0⟩
 case round=>
  obtain ⟨i,rfl,hi,rfl,HUR,HCR⟩:=hrel;have hmm:=HM.out;have htk:=Z2Y t.parts i;have hds:=HDS.out;have hd2:deeps t.parts<=1000000:=by have:=HD.out; have:=HPM.out; omega
  by_cases hlt:i < t.parts.length
  {rcases HP.out with h0 | ⟨g,off,qs,hqP,hg,hc,hr⟩
   {omega}
   {have hur:UpC cb w.heap.size w wr:=HU0.out.next HUR.out;obtain ⟨x,hx⟩: ∃x,x=t.parts[i]:=⟨_,rfl⟩;have hgw:g < w.heap.size:=by omega
    obtain ⟨p0,p1,p2,p3,p4⟩:=(hc i hlt).of (w':=wr) (fun k=>hur.cell hgw (by omega));have hbx:=Z00 wr (.cells (Y8 x (qs i)) 25);have hat:ShAt (wr.alloc (.cells (Y8 x (qs i)) 25)) B (qs i) x:=by
     rw[hx];exact ((hr i hlt).upc hur hBc (by omega)).keep (Z00 wr _) (by have:=hur.size; omega)
    have hcx:=HCR.out.below hbx;have HN:Hid (sizes (t.parts.take (i+1))=sizes (t.parts.take i)+size x):=Y1 (by rw[hx]; exact Z1v hlt);have HE:Hid (deeps (t.parts.take (i+1))=max (deeps (t.parts.take i)) (deep x)):=Y1 (by rw[hx]; exact Z2W hlt);have ihx:=ih t.parts[i] (List.getElem_mem _) (qs i) B cb (p+1+sizes (t.parts.take i)) m (wr.alloc (.cells (Y8 x (qs i)) 25));rw[<-hx] at p0 p1 p2 p3 p4 ihx;have hdx:deep x<=1000000:=by rw[hx]; exact Nat.le_trans (Z0y (List.getElem_mem _)) hd2
    have hbd:p+1+sizes (t.parts.take i)+size x<=m:=by
     have:=Z2X t.parts (i+1);have:=HN.out;have:=HPM.out;have:=HZ.out;omega
    have IH:=ihx hat hBc hcx hbd hm;have HBX:=Y1 (HB0.out);clear hx hc hr hat ihx hcx hbd hd2 hur hbx ih;have hi1: (i:Int) < (t.parts.length:Int):=by omega
    obtain ⟨a,ha⟩: ∃a,a=deeps (t.parts.take i):=⟨_,rfl⟩;rw[<-ha] at HE htk ⊢;clear ha;rw[hqP];clear hqP
    go_wp2_with fail
    refine IH.mono ?_;rintro e w2 ⟨rfl,hu2,hc2⟩;have HU2:Hid (UpC cb W0.heap.size W0 w2):=Y1 ((HUR.out.below ((Z00 wr _).mono HUR.out.size) (by have:=HSZ.out; omega)).trans (hu2.mono (by have:=HUR.out.size; simp; omega)));have HC2:Hid (Cnt w2 cb (p+1+sizes (t.parts.take (i+1))) m):=Y1 (by rw[HN.out, <-Nat.add_assoc]; exact hc2);clear hu2 hc2 IH;by_cases hgt: (a:Int) < (deep x:Int)
    all_goals
     go_wp2
     go_roundw
     case rel=>exact ⟨i+1,by go_num,by omega,by rw[HE.out]; go_num,HU2,HC2⟩
     case measure=>simp[intOf]; omega}}
  {have HF:Hid (deep t=deeps (t.parts.take i)+1):=Y1 (by rw[HD.out,show i=t.parts.length from by omega,List.take_length]);have HG:Hid (p+size t=p+1+sizes (t.parts.take i)):=Y1 (by rw[HZ.out,show i=t.parts.length from by omega,List.take_length]; omega);have hi1: ¬(i:Int) < (t.parts.length:Int):=by omega
   go_wp2;go_ret;exact ⟨Z0Y (by rw[HF.out]; go_num),HU0.out.next HUR.out,by rw[HG.out]; exact HCR.out⟩}
theorem Z7o (t:Sh): ∀(q:Ptr) (B cb p m:Nat) (w:World),ShAt w B q t->B<=cb->Cnt w cb p m->p<=m->m < p+size t->m<=1000000->
 Calls Tryd.prog 47 #[.pointer (some ⟨cb,0,none⟩),.agg (Y8 t q)] w
  fun e w'=>e= .panicked [{ v:= .iface 29 (.int .i64 3),recovered:=false }]/\UpC cb w.heap.size w w':=by
 induction t using Sh.ind with
 | h t ih=>
 intro q B cb p m w hq hBc hc hpm hov hm;have HQ:=Y1 hq;have HM:=Y1 hq.small.m;have HP:=Y1 hq.part;have HD:Hid (deep t=deeps t.parts+1):=Y1 (Z0h t);have HZ:Hid (size t=1+sizes t.parts):=Y1 (size_eq t);have HDS:=Y1 (Z1p t);have HOV:Hid (m < p+size t):=Y1 hov;have hpi: (p:Int)<=1000000:=by omega
 have hb0:=Z00 w (.cells (Y8 t q) 25);have HC:=Y1 hc;have hB:=Z06 w t q;have HB:=Y1 hB;have HC1:=Y1 (hc.below hb0);have HU:=Y1 ((UpC.refl cb w.heap.size w).below hb0 hc.lt);have hcl:=hc.lt;obtain ⟨_,k0,k1,k2⟩:=hc.below hb0;clear k1;clear hb0 hc hB hov hq;have hne:w.heap.size≠cb:=by omega
 have hne2:cb≠w.heap.size:=by omega
 by_cases hpm2:p=m
 {have hpe: ((p:Int)==400)=true:=by rw[beq_iff_eq]; have:=HC.out.c1; omega
  have HUX:=HU;clear hpm2 hpm ih;go_enter Tryd.func47,Tryd.ntmps47
  go_wp2_with fail
  exact ⟨rfl,rfl,HU.out⟩}
 have hlt:p < m:=by omega
 have hpe: ((p:Int)==400)=false:=by rw[beq_eq_false_iff_ne]; have:=HC.out.c1; omega
 clear hpm2;go_enter Tryd.func47,Tryd.ntmps47
 go_wp2_with fail
 obtain ⟨W0,hW0⟩: ∃W0,W0=(w.setCell ⟨cb,0,none⟩ (.int .i64 ((p:Int)+1))).alloc (.cells (Y8 t q) 25):=⟨_,rfl⟩;have hsz0:W0.heap.size=w.heap.size+1:=by rw[hW0]; simp[World.setCell]
 have hU0:UpC cb w.heap.size w W0:=by
  rw[hW0];exact ((UpC.refl cb w.heap.size w).set _).below ((Z00 _ _).mono (by simp[World.setCell])) hcl
 have hC0:Cnt W0 cb (p+1) m:=by
  rw[hW0];exact (HC.out.set (p+1)).below (Z00 _ _)
 have hB0:Box5 W0 w.heap.size t q:=by
  have e: (w.setCell ⟨cb,0,none⟩ (.int .i64 ((p:Int)+1))).heap.size=w.heap.size:=by simp[World.setCell]
  have h5:=Z06 (w.setCell ⟨cb,0,none⟩ (.int .i64 ((p:Int)+1))) t q;rw[e] at h5;rw[hW0]; exact h5
 have HU0:=Y1 hU0;have HC0:=Y1 hC0;have HB0:=Y1 hB0;clear hU0 hC0 hB0;rw[<-hW0];have HSZ:=Y1 hsz0;clear hW0 k0 k2 HU HC1 HB hsz0
 go_loopw [5,24] (fun dd ii wr=> ∃i:Nat,ii= .int .i64 i/\i<=t.parts.length/\dd= .int .i64 (deeps (t.parts.take i):Int)/\Hid (UpC cb W0.heap.size W0 wr)/\p+1+sizes (t.parts.take i)<=m/\Hid (Cnt wr cb (p+1+sizes (t.parts.take i)) m)) (fun _ i _=>t.parts.length - (intOf i).toNat)
 case atStart=>exact ⟨0,rfl,Nat.zero_le _,rfl,Y1 (UpC.refl _ _ _),by simp[sizes]; omega,HC0⟩
 case round=>
  obtain ⟨i,rfl,hi,rfl,HUR,hpi2,HCR⟩:=hrel;have hmm:=HM.out;have htk:deeps (t.parts.take i)<=1000000:=by have:=Z6H (t.parts.take i); omega
  by_cases hlt:i < t.parts.length
  {rcases HP.out with h0 | ⟨g,off,qs,hqP,hg,hc,hr⟩
   {omega}
   {have hur:UpC cb w.heap.size w wr:=HU0.out.next HUR.out;obtain ⟨x,hx⟩: ∃x,x=t.parts[i]:=⟨_,rfl⟩;have hgw:g < w.heap.size:=by omega
    obtain ⟨p0,p1,p2,p3,p4⟩:=(hc i hlt).of (w':=wr) (fun k=>hur.cell hgw (by omega));have hbx:=Z00 wr (.cells (Y8 x (qs i)) 25);have hat:ShAt (wr.alloc (.cells (Y8 x (qs i)) 25)) B (qs i) x:=by
     rw[hx];exact ((hr i hlt).upc hur hBc (by omega)).keep (Z00 wr _) (by have:=hur.size; omega)
    have hcx:=HCR.out.below hbx;have HN:Hid (sizes (t.parts.take (i+1))=sizes (t.parts.take i)+size x):=Y1 (by rw[hx]; exact Z1v hlt);have HE:Hid (deeps (t.parts.take (i+1))=max (deeps (t.parts.take i)) (deep x)):=Y1 (by rw[hx]; exact Z2W hlt);have ihx:=ih t.parts[i] (List.getElem_mem _) (qs i) B cb (p+1+sizes (t.parts.take i)) m (wr.alloc (.cells (Y8 x (qs i)) 25));rw[<-hx] at p0 p1 p2 p3 p4 ihx;have hml:=fun hbd=>Z5a x (qs i) B cb (p+1+sizes (t.parts.take i)) m (wr.alloc (.cells (Y8 x (qs i)) 25)) hat hBc hcx hbd hm;have hmo:=fun hbd=>ihx hat hBc hcx hpi2 hbd hm;have HSB:=Y1 hur;have HBX:=Y1 (HB0.out);clear hx hc hr hat ihx hcx hur hbx ih;have hi1: (i:Int) < (t.parts.length:Int):=by omega
    obtain ⟨a,ha⟩: ∃a,a=deeps (t.parts.take i):=⟨_,rfl⟩;rw[<-ha] at HE htk ⊢;clear ha;rw[hqP];clear hqP;by_cases hfit:m < p+1+sizes (t.parts.take i)+size x
    {have IH:=hmo hfit;clear hml hmo hfit
     go_wp2_with fail
     refine IH.mono ?_;rintro e w2 ⟨rfl,hu2⟩;have HU2:Hid (UpC cb w.heap.size w w2):=Y1 ((HSB.out.below ((Z00 wr _).mono HSB.out.size) hcl).trans (hu2.mono (by have:=HSB.out.size; simp; omega)));clear hu2 IH;go_wp2;exact ⟨rfl,rfl,HU2.out⟩}
    have IH:=hml (by omega);have hdx:deep x<=1000000:=by have:=Z1p x; omega
    have HF1:Hid (p+1+sizes (t.parts.take (i+1))<=m):=Y1 (by rw[HN.out]; omega);clear hml hmo hfit
    go_wp2_with fail
    refine IH.mono ?_;rintro e w2 ⟨rfl,hu2,hc2⟩;have HU2:Hid (UpC cb W0.heap.size W0 w2):=Y1 ((HUR.out.below ((Z00 wr _).mono HUR.out.size) (by have:=HSZ.out; omega)).trans (hu2.mono (by have:=HUR.out.size; simp; omega)));have HC2:Hid (Cnt w2 cb (p+1+sizes (t.parts.take (i+1))) m):=Y1 (by rw[HN.out, <-Nat.add_assoc]; exact hc2);clear hu2 hc2 IH;by_cases hgt: (a:Int) < (deep x:Int)
    all_goals
     go_wp2
     go_roundw
     case rel=>exact ⟨i+1,by go_num,by omega,by rw[HE.out]; go_num,HU2,HF1.out,HC2⟩
     case measure=>simp[intOf]; omega}}
  {exfalso;have:=HOV.out;rw[show i=t.parts.length from by omega,List.take_length] at hpi2;rw[HZ.out] at this;omega}
theorem Z8F (b c:Addr) (x y:Int) (u:TypeId) (pv:Value) (older:List PanicEntry) (w:World) (hb:w.cell? b=some (.int .i64 x)) (hc:w.cell? c=some (.int .i64 y)) (fb:w.frozen? b=false) (fc:w.frozen? c=false)
 (hbc:b≠c):
 CallsD Tryd.prog 46 #[.pointer (some b),.pointer (some c)] (.panicking ({ v:= .iface u pv,recovered:=false }::older)) w fun e u' w'=>
  e= .returned (.tuple #[])/\u'= .panicking ({ v:= .iface u pv,recovered:=true }::older)/\w'=(w.setCell b (.int .i64 401)).setCell c (.int .i64 0):=by
 have hc2: (w.setCell b (.int .i64 401)).cell? c=some (.int .i64 y):=(World.cell?_setCell_other _ _ _ _ hbc).trans hc;refine callsD_of_wpS Tryd.func46 rfl fun c₀ cs hu=> ?_;apply wpS_seq;apply wpS_region;simp[wpOpsS,go_sem,recoverD,hu,Tryd.ntmps46,Exit.thenS];refine wpS_cond (t:=true) (by simp[Act.eval,Array.replicate]) ?_;simp only[if_true];apply wpS_region;simp[wpOpsS,go_sem,hb,hc2,fb,fc,bodyPostS,results,Tryd.results46]
theorem Z8G (b c:Addr) (w:World):
 CallsD Tryd.prog 46 #[.pointer (some b),.pointer (some c)] .returning w fun e u' w'=>e= .returned (.tuple #[])/\u'= .returning/\w'=w:=by
 refine callsD_of_wpS Tryd.func46 rfl fun c₀ cs hu=> ?_;apply wpS_seq;apply wpS_region;simp[wpOpsS,go_sem,recoverD,hu,Tryd.ntmps46,Exit.thenS];refine wpS_cond (t:=false) (by simp[Act.eval,Array.replicate]) ?_;simp only[Bool.false_eq_true,if_false];refine wpS_of_wp (wp_skip ?_);cases c₀;simp_all [bodyPostS,results,Tryd.results46]
def mW (w:World) (t:Sh) (q:Ptr):World:=
 (((w.alloc (.cells (Y8 t q) 25)).alloc (.cells #[.int .i64 0] 3)).alloc (.cells #[.int .i64 0] 3)).alloc (.cells #[.int .i64 0] 86)
structure MW (w W:World) (x y:Int):Prop where
 bel:Below w.heap.size w W
 size:w.heap.size+4<=W.heap.size
 b:W.cell? ⟨w.heap.size+1,0,none⟩=some (.int .i64 x)
 c:W.cell? ⟨w.heap.size+1+1,0,none⟩=some (.int .i64 y)
 fb:W.frozen? ⟨w.heap.size+1,0,none⟩=false
 fc:W.frozen? ⟨w.heap.size+1+1,0,none⟩=false
theorem Za0 (w:World) (t:Sh) (q:Ptr):Cnt (mW w t q) (w.heap.size+1+1+1) 0 400:=by
 unfold mW;exact ⟨by simp,by simp[go_sem],rfl,by simp[go_sem]⟩
theorem Z5y (w:World) (t:Sh) (q:Ptr):MW w (mW w t q) 0 0:=by
 unfold mW;refine ⟨Z0d (Z0d (Z0d (Z00 _ _) _) _) _,by simp, ?_, ?_, ?_, ?_⟩ <;> simp[go_sem]
theorem MW.upc {w W W':World} {x y:Int} (h:MW w W x y) (hu:UpC (w.heap.size+1+1+1) W.heap.size W W'):MW w W' x y:=by
 have e: ∀g,g < w.heap.size+3->W'.heap[g]? =W.heap[g]? :=fun g hg=>hu.block g (by have:=h.size; omega) (by omega);refine ⟨h.bel.trans ⟨hu.os,hu.tape,hu.output,hu.size,fun k hk=>e k (by omega)⟩,Nat.le_trans h.size hu.size, ?_, ?_, ?_, ?_⟩
 {exact (World.cell?_of_block (w:=W) (e (w.heap.size+1) (by omega))).trans h.b}
 {exact (World.cell?_of_block (w:=W) (e (w.heap.size+1+1) (by omega))).trans h.c}
 {exact (World.frozen?_of_block (w:=W) (e (w.heap.size+1) (by omega))).trans h.fb}
 {exact (World.frozen?_of_block (w:=W) (e (w.heap.size+1+1) (by omega))).trans h.fc}
section
variable (t : Sh) (q : Ptr) (w : World) (hq : ShAt w w.heap.size q t)
include t q w hq
theorem Z6h (hov:400 < size t):
 Y9 29 #[.agg (Y8 t q)] w (.tuple #[.int .i64 401,.int .i64 0]):=by
 have hmf: ∀(fn:Fn) (first cap:Array Value) (w:World),(Instr.makeFunc fn first cap).run Tryd.prog w= .ok (.func fn first cap) w:=fun _ _ _ _=>rfl;have HL:=Y1 (Z7o t q w.heap.size _ 0 400 _ (hq.keep (Z5y w t q).bel (Nat.le_refl _)) (by omega) (Za0 w t q) (Nat.zero_le _) (by omega) (by omega));have HW:=Y1 (Z5y w t q);clear hq hov
 go_enter_defers Tryd.func29,Tryd.ntmps29
 go_wp2_with fail
 change Calls _ _ _ (mW w t q) _;generalize mW w t q=W at HL HW ⊢;refine HL.out.mono ?_;rintro e w2 ⟨rfl,hu⟩;obtain ⟨hbel,hsz,cb,cc,fb,fc⟩:=HW.out.upc hu;have HBEL:=Y1 hbel;clear hbel hu HL
 go_wp2_with fail
 refine leaves_cons (f:=46) (args:=#[.pointer (some ⟨w.heap.size+1,0,none⟩),.pointer (some ⟨w.heap.size+1+1,0,none⟩)]) (by simp) (by simp[go_sem]) ?_;refine (Z8F ⟨w.heap.size+1,0,none⟩ ⟨w.heap.size+1+1,0,none⟩ 0 0 29 _ [] _ cb cc fb fc (by simp)).mono ?_;rintro e u' w'' ⟨rfl,rfl,rfl⟩;simp[Leaves,settle,results,Tryd.results29,go_sem,cb,cc];exact (HBEL.out.setCell (p:=⟨w.heap.size+1,0,none⟩) (by simp) _).setCell (p:=⟨w.heap.size+1+1,0,none⟩) (by simp; omega) _
theorem Z8H (hov:size t<=400):
 Y9 29 #[.agg (Y8 t q)] w (.tuple #[.int .i64 (size t:Int),.int .i64 (deep t:Int)]):=by
 have hmf: ∀(fn:Fn) (first cap:Array Value) (w:World),(Instr.makeFunc fn first cap).run Tryd.prog w= .ok (.func fn first cap) w:=fun _ _ _ _=>rfl;have HL:=Y1 (Z5a t q w.heap.size _ 0 400 _ (hq.keep (Z5y w t q).bel (Nat.le_refl _)) (by omega) (Za0 w t q) (by omega) (by omega));have HW:=Y1 (Z5y w t q);clear hq hov
 go_enter_defers Tryd.func29,Tryd.ntmps29
 go_wp2_with fail
 change Calls _ _ _ (mW w t q) _;generalize mW w t q=W at HL HW ⊢;refine HL.out.mono ?_;rintro e w2 ⟨rfl,hu,hcn⟩;obtain ⟨hbel,hsz,cb,cc,fb,fc⟩:=HW.out.upc hu;have k0:=hcn.c0;have HBEL:=Y1 hbel;rw[Nat.zero_add] at k0;clear hbel hu HL hcn
 go_wp2_with fail
 have HB3:Hid (Below w.heap.size w (w2.setCell ⟨w.heap.size+1+1,0,none⟩ (.int .i64 (deep t:Int)))):=Y1 (HBEL.out.setCell (by simp; omega) _);have k3: (w2.setCell ⟨w.heap.size+1+1,0,none⟩ (.int .i64 (deep t:Int))).cell? ⟨w.heap.size+1+1+1,0,none⟩=some (.int .i64 (size t:Int)):=(World.cell?_setCell_other _ _ _ _ (fun e=>by have:=congrArg Addr.block e; simp at this)).trans k0;have b3: (w2.setCell ⟨w.heap.size+1+1,0,none⟩ (.int .i64 (deep t:Int))).cell? ⟨w.heap.size+1,0,none⟩=some (.int .i64 0):=(World.cell?_setCell_other _ _ _ _ (fun e=>by have:=congrArg Addr.block e; simp at this)).trans cb;have c3: (w2.setCell ⟨w.heap.size+1+1,0,none⟩ (.int .i64 (deep t:Int))).cell? ⟨w.heap.size+1+1,0,none⟩=some (.int .i64 (deep t:Int)):=by simp[go_sem,cc]
 have fb3: (w2.setCell ⟨w.heap.size+1+1,0,none⟩ (.int .i64 (deep t:Int))).frozen? ⟨w.heap.size+1,0,none⟩=false:=by rw[World.frozen?_setCell]; exact fb
 have fc3: (w2.setCell ⟨w.heap.size+1+1,0,none⟩ (.int .i64 (deep t:Int))).frozen? ⟨w.heap.size+1+1,0,none⟩=false:=by rw[World.frozen?_setCell]; exact fc
 generalize w2.setCell ⟨w.heap.size+1+1,0,none⟩ (.int .i64 (deep t:Int))=W3 at HB3 k3 b3 c3 fb3 fc3 ⊢;clear k0 cb cc fb fc hsz HBEL
 go_region
 all_goals
  go_wp2_with fail
  refine leaves_cons (f:=46) (args:=#[.pointer (some ⟨w.heap.size+1,0,none⟩),.pointer (some ⟨w.heap.size+1+1,0,none⟩)]) (by simp) (by simp[go_sem]) ?_;refine (Z8G ⟨w.heap.size+1,0,none⟩ ⟨w.heap.size+1+1,0,none⟩ _).mono ?_;rintro e u' w'' ⟨rfl,rfl,rfl⟩;simp[Leaves,settle,results,Tryd.results29,go_sem,b3,c3];exact ((HB3.out.setCell (p:=⟨w.heap.size+1,0,none⟩) (by simp) _).setCell (p:=⟨w.heap.size+1+1,0,none⟩) (by simp; omega) _).drew
end
def Z2R (m:Nat) (t:Sh):Int:=if m < size t then (m:Int)+1 else size t
def Z2S (m:Nat) (t:Sh):Int:=if m < size t then 0 else deep t
section
variable (t : Sh) (q : Ptr) (w : World) (hq : ShAt w w.heap.size q t)
include t q w hq
theorem Z6i:
 Y9 29 #[.agg (Y8 t q)] w (.tuple #[.int .i64 (Z2R 400 t),.int .i64 (Z2S 400 t)]):=by
 unfold Z2R Z2S;by_cases h:400 < size t
 {rw[if_pos h,if_pos h]; exact Z6h t q w hq h}
 {rw[if_neg h,if_neg h]; exact Z8H t q w hq (by omega)}
theorem Z2E (hg:WGlobs w):
 Y9 18 #[.agg (Y8 t q)] w (.int .i64 (check t)):=by
 have hb0:=Z00 w (.cells (Y8 t q) 25);have hm:=Z6i t q _ (hq.next hb0);have HC:Hid (check t=if 400 < size t then 3 else if 40 < deep t then 91 else if right t=false then 70 else 0):=Y1 rfl;have HB0:=Y1 hb0;have HB:=Y1 (Z06 w t q);have HQ:=Y1 hq;have HG:=Y1 hg;obtain ⟨_,⟨c0,c1,c2,c3,c4⟩,_⟩:=HB.out;clear hb0 hq hg;by_cases h4:400 < size t
 {have HF:Hid (check t=3):=Y1 (by rw[HC.out,if_pos h4]);have hx:Z2R 400 t=401:=by unfold Z2R; rw[if_pos h4]; rfl
  rw[hx] at hm;generalize Z2S 400 t=y at hm;clear h4 hx;go_enter Tryd.func18,Tryd.ntmps18
  go_wp2_with fail
  refine hm.mono ?_;rintro e w' ⟨rfl,hb'⟩;go_wp2;go_ret;exact ⟨Z0Y HF.out.symm,Z02 HB0.out hb'⟩}
 {have hx:Z2R 400 t=(size t:Int):=by unfold Z2R; rw[if_neg h4]
  have hy:Z2S 400 t=(deep t:Int):=by unfold Z2S; rw[if_neg h4]
  rw[hx,hy] at hm;have h4': ¬(400:Int) < (size t:Int):=by omega
  by_cases h40:40 < deep t
  {have HF:Hid (check t=91):=Y1 (by rw[HC.out,if_neg h4,if_pos h40]);have h40': (40:Int) < (deep t:Int):=by omega
   clear h4 h40 hx hy;go_enter Tryd.func18,Tryd.ntmps18
   go_wp2_with fail
   refine hm.mono ?_;rintro e w' ⟨rfl,hb'⟩;go_wp2;go_ret;exact ⟨Z0Y HF.out.symm,Z02 HB0.out hb'⟩}
  {have h40': ¬(40:Int) < (deep t:Int):=by omega
   have HF:Hid (check t=if right t=false then 70 else 0):=Y1 (by rw[HC.out,if_neg h4,if_neg h40]);have HZ:Hid (size t<=1000000):=Y1 (by omega);clear h4 h40 hx hy;go_enter Tryd.func18,Tryd.ntmps18
   go_wp2_with fail
   refine hm.mono ?_;rintro e w2 ⟨rfl,hb2⟩;have hbw:=Z02 HB0.out hb2;have HBW2:=Y1 hbw;have HB2:=Y1 (HB.out.next hb2);have hr:=Z6g t q w2 (HQ.out.next hbw) (HG.out.next hbw) HZ.out;clear hm hb2 hbw c0 c1 c2 c3 c4;obtain ⟨_,⟨c0,c1,c2,c3,c4⟩,_⟩:=HB2.out;cases hrt:right t
   all_goals
    rw[hrt] at hr HF;clear hrt
    go_wp2_with fail
    refine hr.mono ?_;rintro e w' ⟨rfl,hb'⟩;go_wp2;go_ret;exact ⟨Z0Y (by rw[HF.out]; rfl),Z02 HBW2.out hb'⟩}}
theorem Z8I (hg:WGlobs w):
 Y9 35 #[.agg (Y8 t q)] w (.bool (decide (check t=0))):=by
 have hb0:=Z00 w (.cells (Y8 t q) 25);have hm:=Z2E t q _ (hq.next hb0) (hg.next hb0);have HB0:=Y1 hb0;obtain ⟨_,⟨c0,c1,c2,c3,c4⟩,_⟩:=Z06 w t q;clear hb0 hq hg;go_enter Tryd.func35,Tryd.ntmps35
 go_wp2_with fail
 refine hm.mono ?_;rintro e w' ⟨rfl,hb'⟩;go_wp2;go_ret;exact ⟨Z0j (by rw[Bool.eq_iff_iff]; simp),Z02 HB0.out hb'⟩
end
end
section
open Go.RowKit Shp Go.Sort
theorem Z8J {t:Sh} (q:Ptr) (hr:right t=true):
 (.agg #[.int .i64 t.kind,.string ⟨t.of_.toArray⟩,.string ⟨t.name.toArray⟩,.slice q.A t.names.length q.c,.slice q.P t.parts.length q.d]:Value)= .agg #[.int .i64 (sorted t).kind,.string ⟨(sorted t).of_.toArray⟩,.string ⟨(sorted t).name.toArray⟩,.slice q.A (sorted t).names.length q.c,.slice q.P (sorted t).parts.length q.d]:=by
 obtain ⟨k1,k2,k3⟩:=Z2t t;obtain ⟨l1,l2⟩:=Z3Q (t:=t) ((Z1y hr).imp id And.left);rw[k1,k2,k3,l1,l2]
theorem UpF.toBelow {F:List Nat} {w w':World} {B:Nat} (h:UpF F w w') (hF: ∀b∈F,B<=b) (hB:B<=w.heap.size):Below B w w':=
 ⟨h.os,h.tape,h.output,h.size,fun k hk=>h.block k (Nat.lt_of_lt_of_le hk hB) (fun hm=>by have:=hF k hm; omega)⟩
theorem Z5b (t:Sh) (q:Ptr) (w:World) (hq:ShAt w w.heap.size q t) (hg:WGlobs w) (hck:check t=0):
 Calls Tryd.prog 22 #[.agg (Y8 t q)] w fun e w'=> ∃q' F,e= .returned (.agg (Y8 (sorted t) q'))/\Own w' q' (sorted t) F/\(∀b∈F,w.heap.size<=b)/\Below w.heap.size w w':=by
 obtain ⟨hz,_,hr⟩:=Z0a hck;have HQ:=Y1 hq;have HG:=Y1 hg;have HR:=Y1 hr;have HCK:=Y1 hck;have HS:=Y1 (Z1i w t q);have HB:=Y1 (Z5N w t q);have HE:=Y1 (Z4o w t q);have HCP:=Y1 (Z3P t q (sW w t q) (hq.next (Z1i w t q)) hz hr);have HB0:=Y1 (Z06 w t q);obtain ⟨_,⟨c0,c1,c2,c3,c4⟩,_⟩:=HB0.out;clear hq hg hr hck;go_enter Tryd.func22,Tryd.ntmps22
 go_wp2_with fail
 clear c0 c1 c2 c3 c4 HB0;change Calls _ _ _ (sW w t q) _;generalize sW w t q=W at HS HB HE HCP ⊢;refine HCP.out.mono ?_;rintro e w1 ⟨q',F,rfl,ho,hnd,hF,hb1⟩;have HO:=Y1 ho;have HND:=Y1 hnd;have HF:=Y1 hF;have HS1:=Y1 (Z02 HS.out hb1);have HB1:=Y1 (HB.out.next hb1);have HE1:=Y1 (HE.out.next hb1);have HLF:=Y1 ho.lt;have hbw:=Z00 w1 (.cells (Y8 t q') 25);have HBW:=Y1 hbw;have HB2:=Y1 (HB1.out.next hbw);have HE2:=Y1 (HE1.out.next hbw);have HT2:=Y1 (Z06 w1 t q');have HO2:=Y1 (Z0A ho hbw);have HS2:=Y1 (Z02 HS1.out hbw);have hm:=Z8I t q _ (HQ.out.next HS2.out) (HG.out.next HS2.out);rw[show decide (check t=0)=true from by rw[HCK.out]; rfl] at hm;have HM:=Y1 hm;obtain ⟨_,⟨c0,c1,c2,c3,c4⟩,_⟩:=HB2.out;clear ho hnd hF hb1 hbw hm HCP
 go_wp2_with fail
 refine HM.out.mono ?_;rintro e w3 ⟨rfl,hb3⟩;have HS3:=Y1 (Z02 HS2.out hb3);have HE3:=Y1 (HE2.out.next hb3);have HT3:=Y1 (HT2.out.next hb3);have HO3:=Y1 (Z0A HO2.out hb3);clear c0 c1 c2 c3 c4;obtain ⟨_,⟨c0,c1,c2,c3,c4⟩,_⟩:=HT3.out;have HW:=Y1 (Z4C t q' F w3 HO3.out HND.out HR.out hz);have hbl:w1.heap.size+1<=w3.heap.size:=by have:=hb3.size; simp at this; exact this
 have HLT:=Y1 hbl;clear hb3 HM hbl
 go_wp2_with fail
 refine HW.out.mono ?_;rintro e w4 ⟨rfl,hu,F',hp,ho⟩;have HLN:=Y1 (show w.heap.size+1∉F from fun hm=>by have:=HF.out _ hm; have:=HE.out.1; omega);have HLT2:=Y1 (show w1.heap.size∉F from fun hm=>by have:=HLF.out _ hm; omega);have HT4:=Y1 (HT3.out.same (hu.same HT3.out.1 HLT2.out) hu.size);have HE4:=Y1 (HE3.out.same (hu.same HE3.out.1 HLN.out) hu.size);have HS4:=Y1 (HS3.out.trans (hu.toBelow (fun b hb=>by have:=HF.out b hb; have:=HB.out.1; omega) HS3.out.size));have HO4:=Y1 ho;have HNF:=Y1 (show ∀b∈F',w.heap.size+1≠b from fun b hb e=>HLN.out (by rw[e]; exact hp.mem_iff.1 hb));have HGE:Hid (∀b∈F',w.heap.size<=b):=Y1 (fun b hb=>by have:=HF.out b (hp.mem_iff.1 hb); have:=HB.out.1; omega);clear hu hp ho HW c0 c1 c2 c3 c4;obtain ⟨_,⟨c0,c1,c2,c3,c4⟩,_⟩:=HT4.out;obtain ⟨_,⟨r0,r1,r2,r3,r4⟩,f0,f1,f2,f3,f4⟩:=HE4.out;simp only[Nat.zero_add] at c0 c1 c2 c3 c4 r0 r1 r2 r3 r4;have hne:w1.heap.size≠w.heap.size+1:=fun e=>by have:=HE1.out.1; omega
 go_wp2;refine bodyPost_ret (v:= .agg (Y8 t q')) (by simp[results,Tryd.results22,go_sem,r0,r1,r2,r3,r4]) rfl ?_;refine ⟨q',F',by rw[Z8J q' HR.out], ?_,fun b hb=>HGE.out b hb,Z0e HS4.out (by omega) _ _ _ _ _⟩;have h5:=Z16 HO4.out HNF.out (.int .i64 t.kind) (.string ⟨t.of_.toArray⟩) (.string ⟨t.name.toArray⟩) (.slice q'.A t.names.length q'.c) (.slice q'.P t.parts.length q'.d);exact h5
end
end Go.Proofs.YtchklpedlbkgaaaDoor
