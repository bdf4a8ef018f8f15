/- What the proofs of ParseTypes want, part 8. -/
import Derived.Test.YtgndehppmaacaaaGreatDoorK0n7
set_option linter.unusedVariables false
set_option linter.unusedSimpArgs false
set_option linter.unusedSectionVars false
set_option maxRecDepth 100000
set_option maxHeartbeats 16000000
namespace Shp
def nameOk (t:Sh) (wordB:List UInt8->Bool):Bool:=if t.of_= [] then Lex.isUpper t.name&& !wordB t.name else Lex.isName t.of_&&Lex.isUpper t.name
section
variable {t : Sh}
include t
theorem Z9i (c:1<=t.kind) (d:t.kind<=4):fits t=(bare t&&decide (t.names.length=0)&&decide (t.parts.length=0)):=by
 cases a:bare t with
 | false=>rw[Z0Z (by omega) a]; rfl
 | true=>
  by_cases b:0 < t.names.length
  {rw[Z1E (by omega) a (by omega) b,decide_eq_false (p:=t.names.length=0) (by omega)]; rfl}
  {rw[Z2C a (by omega) (by omega) b (by omega) (by omega),decide_eq_true c,decide_eq_true d,decide_eq_true (p:=t.names.length=0) (by omega)]}
theorem Z9j (h:t.kind=5):fits t=(bare t&&decide (t.names.length=0)&&decide (t.parts.length=1)):=by
 cases a:bare t with
 | false=>rw[Z0Z (by omega) a]; rfl
 | true=>
  by_cases b:0 < t.names.length
  {rw[Z1E (by omega) a (by omega) b,decide_eq_false (p:=t.names.length=0) (by omega)]; rfl}
  {rw[Z3R a h b,decide_eq_true (p:=t.names.length=0) (by omega)]; rfl}
theorem ZaE (h:t.kind=8):fits t=(bare t&&decide (t.names.length=0)&&decide (0 < t.parts.length)):=by
 cases a:bare t with
 | false=>rw[Z0Z (by omega) a]; rfl
 | true=>
  by_cases b:0 < t.names.length
  {rw[Z1E (by omega) a (by omega) b,decide_eq_false (p:=t.names.length=0) (by omega)]; rfl}
  {rw[Z4B a h b,decide_eq_true (p:=t.names.length=0) (by omega)]; rfl}
theorem ZaF (h:t.kind=6\/t.kind=7):fits t=(bare t&&decide (t.names.length=t.parts.length)&&areNames t.names):=by
 cases a:bare t with
 | false=>rw[Z0Z (by omega) a]; rfl
 | true=>rw[Z2o a h,Bool.true_and,Bool.and_comm]
theorem ZaG (h:t.kind < 1\/10 < t.kind):fits t=false:=by
 cases a:bare t with
 | false=>rw[Z0Z (by omega) a]
 | true=>
  by_cases b:0 < t.names.length
  {rw[Z1E (by omega) a (by omega) b]}
  {rw[Z2C a (by omega) (by omega) b (by omega) (by omega)];rcases h with h | h
   {rw[decide_eq_false (by omega)]; rfl}
   {rw[decide_eq_false (p:=t.kind<=4) (by omega),Bool.and_false]; rfl}}
theorem Z80 (h:t.kind=10):fits t=(Lex.isName t.of_&&Lex.isUpper t.name&&decide (t.names.length=0)&&decide (t.parts.length=0)):=by
 rw[Z29 (Or.inr h)];unfold ofOk;rw[h,show decide ((10:Int)=9)=false from rfl,Bool.and_false,Bool.false_and,Bool.or_false,Bool.and_comm (Lex.isUpper t.name)]
end
end Shp
namespace Go.Proofs.YtgndehppmaacaaaGreatDoor
open Go.RowKit Shp
theorem ZaH:Lex.isUpper []=false:=rfl
theorem Z81 {s:List UInt8} (h:Lex.isUpper s=true):wordB s=plain s:=by
 have d: ([]==s)=false:=by
  cases s with
  | nil=>rw[ZaH] at h; cases h
  | cons a l=>rfl
 have c: ∀a b:List UInt8,(a==b)=(b==a):=fun a b=>by rw[Bool.eq_iff_iff,beq_iff_eq,beq_iff_eq]; exact eq_comm
 unfold wordB plain;rw[d,Bool.false_or,c [73,110,116],c [66,111,111,108],c [84,101,120,116],c [65,110,121]]
theorem Z9k {t:Sh} (h:t.kind=9):fits t=(nameOk t wordB&&decide (t.names.length=0)&&decide (t.parts.length=0)):=by
 rw[Z29 (Or.inl h)];congr 2;unfold ofOk nameOk;rw[h,show decide ((9:Int)=9)=true from rfl,Bool.and_true];by_cases a:t.of_= []
 {rw[if_pos a,a];cases b:Lex.isUpper t.name with
  | false=>rfl
  | true=>rw[Z81 b]; rfl}
 {rw[if_neg a,show (t.of_== [])=false from beq_eq_false_iff_ne.2 a,Bool.false_and,Bool.or_false,Bool.and_comm]}
theorem Z45 (t:Sh) (q:Ptr) (w:World):
 Y9 126 #[.agg (Y8 t q)] w (.bool (bare t)):=by
 have e:Hid (bare t=(t.of_== []&&t.name== [])):=Y1 rfl;have hb0:=Z01 w (.cells (Y8 t q) 28);have a:=Y1 hb0;clear hb0;obtain ⟨_,⟨g,c1,c2,c3,c4⟩,_⟩:=Z07 w t q;cases h1: (t.of_== [])
 {have d:=Z0H h1;have b:Hid (bare t=false):=Y1 (by rw[e.out,h1]; rfl);clear h1;go_enter Tryz.func126,Tryz.ntmps126;go_wp2;go_ret;exact ⟨by rw[b.out]; rfl,a.out⟩}
 {have d:=Z0H h1;cases c: (t.name== [])
  all_goals
   have f:=Z0H c;have b:Hid _:=Y1 (show bare t=_ from by rw[e.out,h1,c]);clear h1 c;go_enter Tryz.func126,Tryz.ntmps126;go_wp2;go_ret;exact ⟨Z0p (by rw[b.out]; rfl),a.out⟩}
theorem Z82 (t:Sh) (q:Ptr) (w:World) (l:Small t q) (j:WGlobs w):
 Y9 128 #[.agg (Y8 t q)] w (.bool (nameOk t wordB)):=by
 have i:=Y1 l;have h:Hid (nameOk t wordB=if t.of_= [] then Lex.isUpper t.name&& !wordB t.name else Lex.isName t.of_&&Lex.isUpper t.name):=Y1 rfl;have hb0:=Z01 w (.cells (Y8 t q) 28);have g:=fun W=>Z4l t.name i.out.n W;have k:=fun W=>Z2i t.of_ i.out.o W;have m:=Z6S t.name _ (j.next hb0);have a:=Y1 hb0;clear hb0 j l;obtain ⟨_,⟨n,c1,c2,c3,c4⟩,_⟩:=Z07 w t q;cases d: (t.of_== [])
 {have f:=Z0H d;have b:Hid (nameOk t wordB=(Lex.isName t.of_&&Lex.isUpper t.name)):=Y1 (by rw[h.out,if_neg (by simpa using d)]);clear d;cases c:Lex.isName t.of_
  all_goals
   rw[c] at b;simp only[c] at k;clear c;go_enter Tryz.func128,Tryz.ntmps128
   go_wp2_with fail
   refine (k _).mono ?_;rintro e w' ⟨rfl,rfl⟩
  {go_wp2;go_ret;exact ⟨by rw[b.out]; rfl,a.out⟩}
  {go_wp2_with fail
   refine (g _).mono ?_;rintro e w' ⟨rfl,rfl⟩;go_wp2;go_ret;exact ⟨Z0p (by rw[b.out]; rfl),a.out⟩}}
 {have f:=Z0H d;have b:Hid (nameOk t wordB=(Lex.isUpper t.name&& !wordB t.name)):=Y1 (by rw[h.out,if_pos (by simpa using d)]);clear d;cases c:Lex.isUpper t.name
  all_goals
   rw[c] at b;simp only[c] at g;clear c;go_enter Tryz.func128,Tryz.ntmps128
   go_wp2_with fail
   refine (g _).mono ?_;rintro e w' ⟨rfl,rfl⟩
  {go_wp2;go_ret;exact ⟨by rw[b.out]; rfl,a.out⟩}
  {go_wp2_with fail
   refine m.mono ?_;rintro e w' ⟨rfl,rfl⟩;go_wp2;go_ret;exact ⟨Z0p (by rw[b.out]; rfl),a.out⟩}}
theorem Z8r {a b:Nat}: ((a:Int)==(b:Int))=decide (a=b):=by rw[Bool.eq_iff_iff,beq_iff_eq,decide_eq_true_eq]; omega
theorem Z0A {k n:Int} (m:Int) (h:k=n) (e: (n==m)=true): (k==m)=true:=by rw[h]; exact e
theorem Z0q {k n:Int} (m:Int) (h:k=n) (e: (n==m)=false): (k==m)=false:=by rw[h]; exact e
section
variable (t : Sh) (q : Ptr) (w : World) (hq : ShAt w w.heap.size q t) (hg : WGlobs w)
include t q w hq hg
theorem Zc1 (a:t.kind=1\/t.kind=2\/t.kind=3\/t.kind=4\/t.kind=5\/t.kind=8):
 Y9 97 #[.agg (Y8 t q)] w (.bool (fits t)):=by
 have C:=Y1 hq.small;have A:=Y1 hq.strs;have m:=Z07 w t q;have k:=Y1 m;have hb0:=Z01 w (.cells (Y8 t q) 28);have d:=Y1 hb0;have B:=Y1 (hg.next hb0);obtain ⟨_,⟨l,c1,c2,c3,c4⟩,_⟩:=m;rcases a with a | a | a | a | a | a
 all_goals
  first | have n:=Z0A 1 a rfl | have n:=Z0q 1 a rfl
  first | have o:=Z0A 2 a rfl | have o:=Z0q 2 a rfl
  first | have p:=Z0A 3 a rfl | have p:=Z0q 3 a rfl
  first | have r:=Z0A 4 a rfl | have r:=Z0q 4 a rfl
  first | have s:=Z0A 5 a rfl | have s:=Z0q 5 a rfl
  first | have u:=Z0A 6 a rfl | have u:=Z0q 6 a rfl
  first | have v:=Z0A 7 a rfl | have v:=Z0q 7 a rfl
  first | have y:=Z0A 8 a rfl | have y:=Z0q 8 a rfl
  first | have z:=Z0A 9 a rfl | have z:=Z0q 9 a rfl
  first | have j:=Z0A 10 a rfl | have j:=Z0q 10 a rfl
  first | have c:=Y1 (Z9j a) | have c:=Y1 (ZaE a) | have c:=Y1 (Z9i (t:=t) (by omega) (by omega))
  have g:=Z45 t q (w.alloc (.cells (Y8 t q) 28));clear a hg hq hb0;cases h:bare t
  {rw[h] at g c;clear h;go_enter Tryz.func97,Tryz.ntmps97
   go_wp2_with fail
   refine g.mono ?_;rintro e w' ⟨rfl,b⟩;go_wp2;go_ret;exact ⟨by rw[c.out]; rfl,Z03 d.out b⟩}
  {rw[h] at g c;clear h;cases f:decide (t.names.length=0)
   {rw[f] at c;have i: ((t.names.length:Int)==0)=false:=by rw[Z1l]; exact f
    clear f;go_enter Tryz.func97,Tryz.ntmps97
    go_wp2_with fail
    refine g.mono ?_;rintro e w' ⟨rfl,b⟩;obtain ⟨_,⟨l,c1,c2,c3,c4⟩,_⟩:=k.out.next b;go_wp2;go_ret;exact ⟨by rw[c.out]; rfl,Z03 d.out b⟩}
   {rw[f] at c;have i: ((t.names.length:Int)==0)=true:=by rw[Z1l]; exact f
    clear f;go_enter Tryz.func97,Tryz.ntmps97
    go_wp2_with fail
    refine g.mono ?_;rintro e w' ⟨rfl,b⟩;obtain ⟨_,⟨l,c1,c2,c3,c4⟩,_⟩:=k.out.next b;go_wp2;go_ret;exact ⟨Z0p (by rw[c.out,Bool.eq_iff_iff]; simp; try omega),Z03 d.out b⟩}}
theorem Zc2 (a:t.kind=6\/t.kind=7) (d:t.parts.length<=1000000):
 Y9 97 #[.agg (Y8 t q)] w (.bool (fits t)):=by
 have u:=Y1 hq.small;have s:=Y1 hq.strs;have r:=Z07 w t q;have o:=Y1 r;have hb0:=Z01 w (.cells (Y8 t q) 28);have c:=Y1 hb0;have J:=Y1 (hg.next hb0);have v:=Y1 d;clear d;obtain ⟨_,⟨p,c1,c2,c3,c4⟩,_⟩:=r;rcases a with a | a
 all_goals
  first | have z:=Z0A 1 a rfl | have z:=Z0q 1 a rfl
  first | have A:=Z0A 2 a rfl | have A:=Z0q 2 a rfl
  first | have B:=Z0A 3 a rfl | have B:=Z0q 3 a rfl
  first | have C:=Z0A 4 a rfl | have C:=Z0q 4 a rfl
  first | have D:=Z0A 5 a rfl | have D:=Z0q 5 a rfl
  first | have E:=Z0A 6 a rfl | have E:=Z0q 6 a rfl
  first | have F:=Z0A 7 a rfl | have F:=Z0q 7 a rfl
  first | have G:=Z0A 8 a rfl | have G:=Z0q 8 a rfl
  first | have H:=Z0A 9 a rfl | have H:=Z0q 9 a rfl
  first | have n:=Z0A 10 a rfl | have n:=Z0q 10 a rfl
  have f:=Y1 (ZaF (t:=t) (by first | exact Or.inl a | exact Or.inr a));have g:=Z45 t q (w.alloc (.cells (Y8 t q) 28));clear a hg hq hb0;cases k:bare t
  {rw[k] at g f;clear k;go_enter Tryz.func97,Tryz.ntmps97
   go_wp2_with fail
   refine g.mono ?_;rintro e w' ⟨rfl,b⟩;go_wp2;go_ret;exact ⟨by rw[f.out]; rfl,Z03 c.out b⟩}
  {rw[k] at g f;clear k;cases d:decide (t.names.length=t.parts.length)
   {rw[d] at f;have j: ((t.names.length:Int)==(t.parts.length:Int))=false:=by rw[Z8r]; exact d
    clear d;go_enter Tryz.func97,Tryz.ntmps97
    go_wp2_with fail
    refine g.mono ?_;rintro e w' ⟨rfl,b⟩;obtain ⟨_,⟨p,c1,c2,c3,c4⟩,_⟩:=o.out.next b;go_wp2;go_ret;exact ⟨by rw[f.out]; rfl,Z03 c.out b⟩}
   {rw[d] at f;have j: ((t.names.length:Int)==(t.parts.length:Int))=true:=by rw[Z8r]; exact d
    clear d;have i:t.names.length<=1000000:=by have:=v.out; have K:=beq_iff_eq.1 j; omega
    have h:=s.out.next c.out;go_enter Tryz.func97,Tryz.ntmps97
    go_wp2_with fail
    refine g.mono ?_;rintro e I ⟨rfl,b⟩;have y:=Z7r q.A q.c t.names I (h.next b) i u.out.ns;obtain ⟨_,⟨p,c1,c2,c3,c4⟩,_⟩:=o.out.next b;have m:=Z03 c.out b;clear g b h
    go_wp2_with fail
    refine y.mono ?_;rintro e w' ⟨rfl,l⟩;go_wp2;go_ret;exact ⟨Z0p (by rw[f.out]; rfl),Z03 m l⟩}}
theorem Zc3 (b:t.kind=9):
 Y9 97 #[.agg (Y8 t q)] w (.bool (fits t)):=by
 have n:=Y1 hq.small;have p:=Y1 hq.strs;have l:=Z07 w t q;have j:=Y1 l;have hb0:=Z01 w (.cells (Y8 t q) 28);have c:=Y1 hb0;have m:=Y1 (hg.next hb0);obtain ⟨_,⟨k,c1,c2,c3,c4⟩,_⟩:=l;have r:=Y3 1 b rfl;have s:=Y3 2 b rfl;have u:=Y3 3 b rfl;have v:=Y3 4 b rfl;have y:=Y3 5 b rfl;have z:=Y3 6 b rfl;have A:=Y3 7 b rfl;have B:=Y3 8 b rfl;have C:=Y4 9 b rfl;have o:=Y3 10 b rfl;have d:=Y1 (Z9k b);have g:=Z82 t q (w.alloc (.cells (Y8 t q) 28)) n.out m.out;clear b hg hq hb0;cases h:nameOk t wordB
 {rw[h] at g d;clear h;go_enter Tryz.func97,Tryz.ntmps97
  go_wp2_with fail
  refine g.mono ?_;rintro e w' ⟨rfl,a⟩;go_wp2;go_ret;exact ⟨by rw[d.out]; rfl,Z03 c.out a⟩}
 {rw[h] at g d;clear h;cases f:decide (t.names.length=0)
  {rw[f] at d;have i: ((t.names.length:Int)==0)=false:=by rw[Z1l]; exact f
   clear f;go_enter Tryz.func97,Tryz.ntmps97
   go_wp2_with fail
   refine g.mono ?_;rintro e w' ⟨rfl,a⟩;obtain ⟨_,⟨k,c1,c2,c3,c4⟩,_⟩:=j.out.next a;go_wp2;go_ret;exact ⟨by rw[d.out]; rfl,Z03 c.out a⟩}
  {rw[f] at d;have i: ((t.names.length:Int)==0)=true:=by rw[Z1l]; exact f
   clear f;go_enter Tryz.func97,Tryz.ntmps97
   go_wp2_with fail
   refine g.mono ?_;rintro e w' ⟨rfl,a⟩;obtain ⟨_,⟨k,c1,c2,c3,c4⟩,_⟩:=j.out.next a;go_wp2;go_ret;exact ⟨Z0p (by rw[d.out,Bool.eq_iff_iff]; simp; try omega),Z03 c.out a⟩}}
theorem Zby (a:t.kind=10):
 Y9 97 #[.agg (Y8 t q)] w (.bool (fits t)):=by
 have k:=Y1 hq.small;have n:=Y1 hq.strs;have l:=Z07 w t q;have o:=Y1 l;have hb0:=Z01 w (.cells (Y8 t q) 28);have c:=Y1 hb0;have p:=Y1 (hg.next hb0);obtain ⟨_,⟨r,c1,c2,c3,c4⟩,_⟩:=l;have s:=Y3 1 a rfl;have u:=Y3 2 a rfl;have v:=Y3 3 a rfl;have y:=Y3 4 a rfl;have z:=Y3 5 a rfl;have A:=Y3 6 a rfl;have B:=Y3 7 a rfl;have C:=Y3 8 a rfl;have D:=Y3 9 a rfl;have m:=Y4 10 a rfl;have b:=Y1 (Z80 a);have g:=fun W=>Z2i t.of_ k.out.o W;have h:=fun W=>Z4l t.name k.out.n W;clear a hg hq hb0;cases d:Lex.isName t.of_
 {rw[d] at b;simp only[d] at g;clear d;go_enter Tryz.func97,Tryz.ntmps97
  go_wp2_with fail
  refine (g _).mono ?_;rintro e w' ⟨rfl,rfl⟩;go_wp2;go_ret;exact ⟨by rw[b.out]; rfl,c.out⟩}
 {rw[d] at b;simp only[d] at g;clear d;cases f:Lex.isUpper t.name
  {rw[f] at b;simp only[f] at h;clear f;go_enter Tryz.func97,Tryz.ntmps97
   go_wp2_with fail
   refine (g _).mono ?_;rintro e w' ⟨rfl,rfl⟩
   go_wp2_with fail
   refine (h _).mono ?_;rintro e w' ⟨rfl,rfl⟩;go_wp2;go_ret;exact ⟨by rw[b.out]; rfl,c.out⟩}
  {rw[f] at b;simp only[f] at h;clear f;cases i:decide (t.names.length=0)
   all_goals
    rw[i] at b;have j:=i;rw[<-Z1l] at j;clear i;go_enter Tryz.func97,Tryz.ntmps97
    go_wp2_with fail
    refine (g _).mono ?_;rintro e w' ⟨rfl,rfl⟩
    go_wp2_with fail
    refine (h _).mono ?_;rintro e w' ⟨rfl,rfl⟩;go_wp2;go_ret;exact ⟨Z0p (by rw[b.out,Bool.eq_iff_iff]; simp),c.out⟩}}
theorem Z9l (c:t.kind < 1\/10 < t.kind):
 Y9 97 #[.agg (Y8 t q)] w (.bool (fits t)):=by
 have i:=Y1 hq.small;have f:=Y1 hq.strs;have b:=Z07 w t q;have g:=Y1 b;have hb0:=Z01 w (.cells (Y8 t q) 28);have a:=Y1 hb0;have h:=Y1 (hg.next hb0);obtain ⟨_,⟨j,c1,c2,c3,c4⟩,_⟩:=b;have k: (t.kind==1)=false:=by rw[beq_eq_false_iff_ne]; omega
 have l: (t.kind==2)=false:=by rw[beq_eq_false_iff_ne]; omega
 have m: (t.kind==3)=false:=by rw[beq_eq_false_iff_ne]; omega
 have n: (t.kind==4)=false:=by rw[beq_eq_false_iff_ne]; omega
 have o: (t.kind==5)=false:=by rw[beq_eq_false_iff_ne]; omega
 have p: (t.kind==6)=false:=by rw[beq_eq_false_iff_ne]; omega
 have r: (t.kind==7)=false:=by rw[beq_eq_false_iff_ne]; omega
 have s: (t.kind==8)=false:=by rw[beq_eq_false_iff_ne]; omega
 have u: (t.kind==9)=false:=by rw[beq_eq_false_iff_ne]; omega
 have e: (t.kind==10)=false:=by rw[beq_eq_false_iff_ne]; omega
 have d:=Y1 (ZaG c);clear c hg hq hb0;go_enter Tryz.func97,Tryz.ntmps97;go_wp2;go_ret;exact ⟨by rw[d.out]; rfl,a.out⟩
theorem Z9m (a:t.parts.length<=1000000):
 Y9 97 #[.agg (Y8 t q)] w (.bool (fits t)):=by
 by_cases h:t.kind < 1\/10 < t.kind
 {exact Z9l t q w hq hg h}
 {have:t.kind=1\/t.kind=2\/t.kind=3\/t.kind=4\/t.kind=5\/t.kind=6\/t.kind=7\/t.kind=8\/t.kind=9\/t.kind=10:=by omega
  rcases this with h | h | h | h | h | h | h | h | h | h
  case inr.inr.inr.inr.inr.inr.inr.inr.inl=>exact Zc3 t q w hq hg h
  case inr.inr.inr.inr.inr.inr.inr.inr.inr=>exact Zby t q w hq hg h
  all_goals first | exact Zc1 t q w hq hg (by omega) | exact Zc2 t q w hq hg (by omega) a}
end
end Go.Proofs.YtgndehppmaacaaaGreatDoor
namespace Go.Proofs.YtgndehppmaacaaaGreatDoor
section
open Go.RowKit Shp
def Z1a (p:Sh->Bool) (l:List Sh):Int:=match l.findIdx? p with
 | some i=>(i:Int)
 | none=> -1
theorem ZaI {p:Sh->Bool} {l:List Sh} {i:Nat} (a:i < l.length) (h:p (l[i]'a)=true) (b: ∀j (hj:j < l.length),j < i->p (l[j]'hj)=false):Z1a p l=(i:Int):=by
 have:l.findIdx? p=some i:=List.findIdx?_eq_some_iff_getElem.2 ⟨a,h,fun j hj=>by rw[b j (by omega) hj]; simp⟩;unfold Z1a; rw[this]
theorem Z83 {p:Sh->Bool} {l:List Sh} (b: ∀j (a:j < l.length),p (l[j]'a)=false):Z1a p l= -1:=by
 have:l.findIdx? p=none:=List.findIdx?_eq_none_iff.2 (fun x hx=>by
  obtain ⟨j,a,rfl⟩:=List.getElem_of_mem hx;exact b j a)
 unfold Z1a; rw[this]
theorem Z9n (p:Sh->Bool) (l:List Sh):decide (0<=Z1a p l)=l.any p:=by
 unfold Z1a;cases h:l.findIdx? p with
 | some i=>
  obtain ⟨a,b,_⟩:=List.findIdx?_eq_some_iff_getElem.1 h;show decide ((0:Int)<=(i:Int))=_;rw[decide_eq_true (by omega)];exact (List.any_eq_true.2 ⟨_,List.getElem_mem a,b⟩).symm
 | none=>
  have:=List.findIdx?_eq_none_iff.1 h;show false=_;symm;rw[List.any_eq_false];intro x c; rw[this x c]; simp
theorem ZaJ (p:Sh->Bool) (l:List Sh): -1<=Z1a p l:=by
 unfold Z1a;cases l.findIdx? p with
 | some i=>show (-1:Int)<=(i:Int); omega
 | none=>show (-1:Int)<= -1; omega
theorem Z61 (l:List Sh):l.any (fun p=> !right p)= !rights l:=by
 rw[rights_all];induction l with
 | nil=>rfl
 | cons a l ih=>simp[ih]
section
variable (P : Option Addr) (d : Nat) (l : List Sh) (g off : Nat) (qs : Nat -> Ptr) (w : World) (hl : l.length <= 1000000) (hp : l.length = 0 \/ P = some ⟨g, off, none⟩ /\ g < w.heap.size /\ (∀ i (h : i < l.length), Sh5 w g (off + i * 5) (l[i]'h) (qs i)) /\ ∀ i (h : i < l.length), ShAt w w.heap.size (qs i) (l[i]'h)) (hg : WGlobs w) (hf : ∀ x ∈ l, ∀ (q : Ptr) (w : World), ShAt w w.heap.size q x -> WGlobs w -> Y9 52 #[.agg (Y8 x q)] w (.bool (!right x)))
include P d l g off qs w hl hp hg hf
theorem ZaK:
 Y9 129 #[.slice P l.length d,.func (.func 52) #[] #[]] w (.int .i64 (Z1a (fun p=> !right p) l)):=by
 have C:=Y1 hp;have z:=Y1 hf;have A:=Y1 hg;clear hg;clear hp hf;go_enter Tryz.func129,Tryz.ntmps129
 go_wp2_with fail
 go_loopw [8] (fun ii wr=> ∃i:Nat,ii= .int .i64 i/\i<=l.length/\Hid (∀j (h:j < l.length),j < i->(!right (l[j]'h))=false)/\Below w.heap.size w wr) (fun i _=>l.length - (intOf i).toNat)
 case atStart=>exact ⟨0,rfl,Nat.zero_le _,Y1 (fun j _ hj=>absurd hj (by omega)),Below.refl _ _⟩
 case round=>
  obtain ⟨i,rfl,E,r,k⟩:=hrel;by_cases b:i < l.length
  {rcases C.out with D | ⟨rfl,hg,v,y⟩
   {omega}
   {obtain ⟨x,o⟩: ∃x,x=l[i]'b:=⟨_,rfl⟩;obtain ⟨p0,p1,p2,p3,p4⟩:=(v i b).keep hg k;have m:ShAt wr wr.heap.size (qs i) x:=by rw[o]; exact (y i b).next k
    have f:=z.out l[i] (List.getElem_mem _) (qs i) wr;rw[<-o] at p0 p1 p2 p3 p4 f;have n:=f m (A.out.next k);have u:=Y1 o;clear o v y m f;have t: (i:Int) < (l.length:Int):=by omega
    cases a: !right x with
    | true=>
     rw[a] at n;have s:Hid (Z1a (fun p=> !right p) l=(i:Int)):=Y1 (ZaI b (by show (!right _)=true; rw[<-u.out]; exact a) (fun j hj hji=>r.out j hj hji));clear a
     go_wp2_with fail
     refine n.mono ?_;rintro e w' ⟨rfl,c⟩;go_wp2;go_ret;exact ⟨Z17 s.out.symm,Z03 k c⟩
    | false=>
     rw[a] at n;have B:=Y1 a;clear a
     go_wp2_with fail
     refine n.mono ?_;rintro e w' ⟨rfl,c⟩;go_wp2
     go_roundw
     case rel=>exact ⟨i+1,by go_num,by omega,Y1 (fun j hj hji=>by
      rcases Nat.lt_succ_iff_lt_or_eq.1 hji with h | rfl
      {exact r.out j hj h}
      · rw[<-u.out]; exact B.out),Z03 k c⟩
     case measure=>simp[intOf]; omega}}
  {have t: ¬(i:Int) < (l.length:Int):=by omega
   have s:Hid (Z1a (fun p=> !right p) l= -1):=Y1 (Z83 (fun j hj=>r.out j hj (by omega)));go_wp2;go_ret;exact ⟨Z17 s.out.symm,k⟩}
theorem Z6T:
 Y9 98 #[.slice P l.length d,.func (.func 52) #[] #[]] w (.bool (l.any (fun p=> !right p))):=by
 have c:=ZaK P d l g off qs w hl hp hg hf;have f:=Y1 (Z9n (fun p=> !right p) l);have b:=ZaJ (fun p=> !right p) l;generalize Z1a (fun p=> !right p) l=r at c f b;clear hp hf;go_enter Tryz.func98,Tryz.ntmps98
 go_wp2_with fail
 refine c.mono ?_;rintro e w' ⟨rfl,a⟩;go_wp2;go_ret;exact ⟨Z0p f.out,a⟩
end
theorem Zc4 {w:World} {q:Ptr} {t:Sh} (h:ShAt w w.heap.size q t): ∃(g off:Nat) (a:Nat->Ptr),t.parts.length=0\/q.P=some ⟨g,off,none⟩/\g < w.heap.size/\(∀i (h:i < t.parts.length),Sh5 w g (off+i * 5) (t.parts[i]'h) (a i))/\ ∀i (h:i < t.parts.length),ShAt w w.heap.size (a i) (t.parts[i]'h):=by
 rcases h.part with b | ⟨g,off,a,c,d,e,f⟩
 {exact ⟨0,0,fun _=>q,Or.inl b⟩}
 {exact ⟨g,off,a,Or.inr ⟨c,d,e,f⟩⟩}
theorem Z6U (t:Sh): ∀(q:Ptr) (w:World),ShAt w w.heap.size q t->WGlobs w->size t<=1000000->
 Y9 52 #[.agg (Y8 t q)] w (.bool (!right t)):=by
 induction t using Sh.ind with
 | h t ih=>
 intro q w l k m;have b:t.parts.length<=1000000:=by have:=length_sizes t.parts; rw[size_eq] at m; omega
 have hb0:=Z01 w (.cells (Y8 t q) 28);have f:=Z9m t q _ (l.next hb0) (k.next hb0) b;have s:=Y1 (fun W (h:Below w.heap.size w W)=>by
  obtain ⟨g,off,z,v⟩:=Zc4 (l.next h);exact Z6T q.P q.d t.parts g off z W b v (k.next h) (fun x hx q' w' hat hg'=>ih x hx q' w' hat hg' (by have:=sizes_mem hx; rw[size_eq] at m; omega)))
 have o:=Y1 (right_eq t);have r:=Y1 (Z61 t.parts);have c:=Y1 hb0;have n:=Y1 (Z07 w t q);obtain ⟨_,⟨u,c1,c2,c3,c4⟩,_⟩:=n.out;clear hb0 l k m b ih;cases hft:fits t
 {have i:Hid (right t=false):=Y1 (by rw[o.out,hft]; rfl);rw[hft] at f;clear hft;go_enter Tryz.func52,Tryz.ntmps52
  go_wp2_with fail
  refine f.mono ?_;rintro e w' ⟨rfl,a⟩;go_wp2;go_ret;exact ⟨by rw[i.out]; rfl,Z03 c.out a⟩}
 {have i:Hid ((!right t)=t.parts.any (fun p=> !right p)):=Y1 (by rw[o.out,hft,r.out]; rfl);rw[hft] at f;clear hft;go_enter Tryz.func52,Tryz.ntmps52
  go_wp2_with fail
  refine f.mono ?_;rintro e A ⟨rfl,a⟩;have d:=Z03 c.out a;have y:=s.out A d;obtain ⟨_,⟨B,d1,d2,d3,C⟩,_⟩:=n.out.next a;clear f u c1 c2 c3 c4 a
  go_wp2_with fail
  refine y.mono ?_;rintro e w' ⟨rfl,j⟩;go_wp2;go_ret;exact ⟨Z0p i.out.symm,Z03 d j⟩}
theorem Z9o (b c:Addr) (x y:Int) (u:TypeId) (g:Value) (a:List PanicEntry) (w:World) (j:w.cell? b=some (.int .i64 x)) (k:w.cell? c=some (.int .i64 y)) (h:w.frozen? b=false) (i:w.frozen? c=false)
 (d:b≠c):
 CallsD Tryz.prog 95 #[.pointer (some b),.pointer (some c)] (.panicking ({ v:= .iface u g,recovered:=false }::a)) w fun e u' w'=>
  e= .returned (.tuple #[])/\u'= .panicking ({ v:= .iface u g,recovered:=true }::a)/\w'=(w.setCell b (.int .i64 401)).setCell c (.int .i64 0):=by
 have f: (w.setCell b (.int .i64 401)).cell? c=some (.int .i64 y):=(World.cell?_setCell_other _ _ _ _ d).trans k;refine callsD_of_wpS Tryz.func95 rfl fun c₀ cs hu=> ?_;apply wpS_seq;apply wpS_region;simp[wpOpsS,go_sem,recoverD,hu,Tryz.ntmps95,Exit.thenS];refine wpS_cond (t:=true) (by simp[Act.eval,Array.replicate]) ?_;simp only[if_true];apply wpS_region;simp[wpOpsS,go_sem,j,f,h,i,bodyPostS,results,Tryz.results95]
theorem Z9p (b c:Addr) (w:World):
 CallsD Tryz.prog 95 #[.pointer (some b),.pointer (some c)] .returning w fun e u' w'=>e= .returned (.tuple #[])/\u'= .returning/\w'=w:=by
 refine callsD_of_wpS Tryz.func95 rfl fun c₀ cs hu=> ?_;apply wpS_seq;apply wpS_region;simp[wpOpsS,go_sem,recoverD,hu,Tryz.ntmps95,Exit.thenS];refine wpS_cond (t:=false) (by simp[Act.eval,Array.replicate]) ?_;simp only[Bool.false_eq_true,if_false];refine wpS_of_wp (wp_skip ?_);cases c₀;simp_all [bodyPostS,results,Tryz.results95]
def mW (w:World) (t:Sh) (q:Ptr):World:=
 (((w.alloc (.cells (Y8 t q) 28)).alloc (.cells #[.int .i64 0] 3)).alloc (.cells #[.int .i64 0] 3)).alloc (.cells #[.int .i64 0] 119)
structure MW (w W:World) (x y:Int):Prop where
 bel:Below w.heap.size w W
 size:w.heap.size+4<=W.heap.size
 b:W.cell? ⟨w.heap.size+1,0,none⟩=some (.int .i64 x)
 c:W.cell? ⟨w.heap.size+1+1,0,none⟩=some (.int .i64 y)
 fb:W.frozen? ⟨w.heap.size+1,0,none⟩=false
 fc:W.frozen? ⟨w.heap.size+1+1,0,none⟩=false
theorem ZaL (w:World) (t:Sh) (q:Ptr):Cnt (mW w t q) (w.heap.size+1+1+1) 0 400:=by
 unfold mW;exact ⟨by simp,by simp[go_sem],rfl,by simp[go_sem]⟩
theorem Z68 (w:World) (t:Sh) (q:Ptr):MW w (mW w t q) 0 0:=by
 unfold mW;refine ⟨Z0h (Z0h (Z0h (Z01 _ _) _) _) _,by simp, ?_, ?_, ?_, ?_⟩ <;> simp[go_sem]
theorem MW.upc {w W W':World} {x y:Int} (h:MW w W x y) (a:UpC (w.heap.size+1+1+1) W.heap.size W W'):MW w W' x y:=by
 have e: ∀g,g < w.heap.size+3->W'.heap[g]? =W.heap[g]? :=fun g hg=>a.block g (by have:=h.size; omega) (by omega);refine ⟨h.bel.trans ⟨a.os,a.tape,a.output,a.size,fun k hk=>e k (by omega)⟩,Nat.le_trans h.size a.size, ?_, ?_, ?_, ?_⟩
 {exact (World.cell?_of_block (w:=W) (e (w.heap.size+1) (by omega))).trans h.b}
 {exact (World.cell?_of_block (w:=W) (e (w.heap.size+1+1) (by omega))).trans h.c}
 {exact (World.frozen?_of_block (w:=W) (e (w.heap.size+1) (by omega))).trans h.fb}
 {exact (World.frozen?_of_block (w:=W) (e (w.heap.size+1+1) (by omega))).trans h.fc}
section
variable (t : Sh) (q : Ptr) (w : World) (hq : ShAt w w.heap.size q t)
include t q w hq
theorem Z6V (d:400 < size t):
 Y9 51 #[.agg (Y8 t q)] w (.tuple #[.int .i64 401,.int .i64 0]):=by
 have m: ∀(fn:Fn) (first cap:Array Value) (w:World),(Instr.makeFunc fn first cap).run Tryz.prog w= .ok (.func fn first cap) w:=fun _ _ _ _=>rfl;have c:=Y1 (Z84 t q w.heap.size _ 0 400 _ (hq.keep (Z68 w t q).bel (Nat.le_refl _)) (by omega) (ZaL w t q) (Nat.zero_le _) (by omega) (by omega));have g:=Y1 (Z68 w t q);clear hq d
 go_enter_defers Tryz.func51,Tryz.ntmps51
 go_wp2_with fail
 change Calls _ _ _ (mW w t q) _;generalize mW w t q=W at c g ⊢;refine c.out.mono ?_;rintro e s ⟨rfl,j⟩;obtain ⟨a,n,h,i,k,l⟩:=g.out.upc j;have b:=Y1 a;clear a j c
 go_wp2_with fail
 refine leaves_cons (f:=95) (args:=#[.pointer (some ⟨w.heap.size+1,0,none⟩),.pointer (some ⟨w.heap.size+1+1,0,none⟩)]) (by simp) (by simp[go_sem]) ?_;refine (Z9o ⟨w.heap.size+1,0,none⟩ ⟨w.heap.size+1+1,0,none⟩ 0 0 29 _ [] _ h i k l (by simp)).mono ?_;rintro e r o ⟨rfl,rfl,rfl⟩;simp[Leaves,settle,results,Tryz.results51,go_sem,h,i];exact (b.out.setCell (p:=⟨w.heap.size+1,0,none⟩) (by simp) _).setCell (p:=⟨w.heap.size+1+1,0,none⟩) (by simp; omega) _
theorem Z9q (k:size t<=400):
 Y9 51 #[.agg (Y8 t q)] w (.tuple #[.int .i64 (size t:Int),.int .i64 (deep t:Int)]):=by
 have z: ∀(fn:Fn) (first cap:Array Value) (w:World),(Instr.makeFunc fn first cap).run Tryz.prog w= .ok (.func fn first cap) w:=fun _ _ _ _=>rfl;have h:=Y1 (Z5J t q w.heap.size _ 0 400 _ (hq.keep (Z68 w t q).bel (Nat.le_refl _)) (by omega) (ZaL w t q) (by omega) (by omega));have n:=Y1 (Z68 w t q);clear hq k
 go_enter_defers Tryz.func51,Tryz.ntmps51
 go_wp2_with fail
 change Calls _ _ _ (mW w t q) _;generalize mW w t q=W at h n ⊢;refine h.out.mono ?_;rintro e c ⟨rfl,y,g⟩;obtain ⟨b,l,r,s,u,v⟩:=n.out.upc y;have m:=g.c0;have a:=Y1 b;rw[Nat.zero_add] at m;clear b y h g
 go_wp2_with fail
 have d:Hid (Below w.heap.size w (c.setCell ⟨w.heap.size+1+1,0,none⟩ (.int .i64 (deep t:Int)))):=Y1 (a.out.setCell (by simp; omega) _);have A: (c.setCell ⟨w.heap.size+1+1,0,none⟩ (.int .i64 (deep t:Int))).cell? ⟨w.heap.size+1+1+1,0,none⟩=some (.int .i64 (size t:Int)):=(World.cell?_setCell_other _ _ _ _ (fun e=>by have:=congrArg Addr.block e; simp at this)).trans m;have o: (c.setCell ⟨w.heap.size+1+1,0,none⟩ (.int .i64 (deep t:Int))).cell? ⟨w.heap.size+1,0,none⟩=some (.int .i64 0):=(World.cell?_setCell_other _ _ _ _ (fun e=>by have:=congrArg Addr.block e; simp at this)).trans r;have c3: (c.setCell ⟨w.heap.size+1+1,0,none⟩ (.int .i64 (deep t:Int))).cell? ⟨w.heap.size+1+1,0,none⟩=some (.int .i64 (deep t:Int)):=by simp[go_sem,s]
 have i: (c.setCell ⟨w.heap.size+1+1,0,none⟩ (.int .i64 (deep t:Int))).frozen? ⟨w.heap.size+1,0,none⟩=false:=by rw[World.frozen?_setCell]; exact u
 have j: (c.setCell ⟨w.heap.size+1+1,0,none⟩ (.int .i64 (deep t:Int))).frozen? ⟨w.heap.size+1+1,0,none⟩=false:=by rw[World.frozen?_setCell]; exact v
 generalize c.setCell ⟨w.heap.size+1+1,0,none⟩ (.int .i64 (deep t:Int))=W3 at d A o c3 i j ⊢;clear m r s u v l a
 go_region
 all_goals
  go_wp2_with fail
  refine leaves_cons (f:=95) (args:=#[.pointer (some ⟨w.heap.size+1,0,none⟩),.pointer (some ⟨w.heap.size+1+1,0,none⟩)]) (by simp) (by simp[go_sem]) ?_;refine (Z9p ⟨w.heap.size+1,0,none⟩ ⟨w.heap.size+1+1,0,none⟩ _).mono ?_;rintro e C B ⟨rfl,rfl,rfl⟩;simp[Leaves,settle,results,Tryz.results51,go_sem,o,c3];exact ((d.out.setCell (p:=⟨w.heap.size+1,0,none⟩) (by simp) _).setCell (p:=⟨w.heap.size+1+1,0,none⟩) (by simp; omega) _).drew
end
def Z3c (m:Nat) (t:Sh):Int:=if m < size t then (m:Int)+1 else size t
def Z3d (m:Nat) (t:Sh):Int:=if m < size t then 0 else deep t
section
variable (t : Sh) (q : Ptr) (w : World) (hq : ShAt w w.heap.size q t)
include t q w hq
theorem Z6W:
 Y9 51 #[.agg (Y8 t q)] w (.tuple #[.int .i64 (Z3c 400 t),.int .i64 (Z3d 400 t)]):=by
 unfold Z3c Z3d;by_cases h:400 < size t
 {rw[if_pos h,if_pos h]; exact Z6V t q w hq h}
 {rw[if_neg h,if_neg h]; exact Z9q t q w hq (by omega)}
theorem Z2Y (u:WGlobs w):
 Y9 30 #[.agg (Y8 t q)] w (.int .i64 (check t)):=by
 have hb0:=Z01 w (.cells (Y8 t q) 28);have h:=Z6W t q _ (hq.next hb0);have o:Hid (check t=if 400 < size t then 3 else if 40 < deep t then 91 else if right t=false then 70 else 0):=Y1 rfl;have f:=Y1 hb0;have r:=Y1 (Z07 w t q);have A:=Y1 hq;have z:=Y1 u;obtain ⟨_,⟨s,c1,c2,c3,c4⟩,_⟩:=r.out;clear hb0 hq u;by_cases b:400 < size t
 {have i:Hid (check t=3):=Y1 (by rw[o.out,if_pos b]);have j:Z3c 400 t=401:=by unfold Z3c; rw[if_pos b]; rfl
  rw[j] at h;generalize Z3d 400 t=y at h;clear b j;go_enter Tryz.func30,Tryz.ntmps30
  go_wp2_with fail
  refine h.mono ?_;rintro e w' ⟨rfl,a⟩;go_wp2;go_ret;exact ⟨Z17 i.out.symm,Z03 f.out a⟩}
 {have j:Z3c 400 t=(size t:Int):=by unfold Z3c; rw[if_neg b]
  have p:Z3d 400 t=(deep t:Int):=by unfold Z3d; rw[if_neg b]
  rw[j,p] at h;have C: ¬(400:Int) < (size t:Int):=by omega
  by_cases c:40 < deep t
  {have i:Hid (check t=91):=Y1 (by rw[o.out,if_neg b,if_pos c]);have l: (40:Int) < (deep t:Int):=by omega
   clear b c j p;go_enter Tryz.func30,Tryz.ntmps30
   go_wp2_with fail
   refine h.mono ?_;rintro e w' ⟨rfl,a⟩;go_wp2;go_ret;exact ⟨Z17 i.out.symm,Z03 f.out a⟩}
  {have l: ¬(40:Int) < (deep t:Int):=by omega
   have i:Hid (check t=if right t=false then 70 else 0):=Y1 (by rw[o.out,if_neg b,if_neg c]);have B:Hid (size t<=1000000):=Y1 (by omega);clear b c j p;go_enter Tryz.func30,Tryz.ntmps30
   go_wp2_with fail
   refine h.mono ?_;rintro e D ⟨rfl,g⟩;have d:=Z03 f.out g;have k:=Y1 d;have n:=Y1 (r.out.next g);have v:=Z6U t q D (A.out.next d) (z.out.next d) B.out;clear h g d s c1 c2 c3 c4;obtain ⟨_,⟨s,c1,c2,c3,c4⟩,_⟩:=n.out;cases m:right t
   all_goals
    rw[m] at v i;clear m
    go_wp2_with fail
    refine v.mono ?_;rintro e w' ⟨rfl,a⟩;go_wp2;go_ret;exact ⟨Z17 (by rw[i.out]; rfl),Z03 k.out a⟩}}
end
end
section
open Go.RowKit Tms
open Shp (Sh)
open Pso (St Ok Goes betw loop want)
open Prs (sign)
theorem Zd2 (bp:Nat) (A:Option Addr) (c:Nat) (l:List Tk) (hl:l.length<=5000) (ht: ∀b∈l,b.t.text.length<=1000000) (σ:St) (X:Ok l σ) (w:World) (Y:PAt w bp A c l σ):
 Calls Tryz.prog 18 #[.pointer (some ⟨bp,0,none⟩)] w (TyIs bp A c l (Pso.wholeT l σ) w):=by
 have HF:Hid (Pso.wholeT l σ=((Pso.anyT l (l.length+1) σ).1,if Shp.check (Pso.anyT l (l.length+1) σ).1=0 then (Pso.anyT l (l.length+1) σ).2 else Pso.fail l (Pso.anyT l (l.length+1) σ).2 (Shp.check (Pso.anyT l (l.length+1) σ).1) (Prs.look l σ.1).at_)):=Y1 rfl;rw[HF.out];have hb0:=Z01 w (.cells Yb 28);have N:=Y1 (Y.below hb0);have D:=Y1 hb0;have H:=Y.lt;have O:=Y1 (fun (W:World) (h:PAt W bp A c l σ)=>Zgd bp A c l hl ht (l.length+1) W σ X (by omega) h);have a8:=ZdX (Prs.look l σ.1).t.kind ⟨(Prs.look l σ.1).t.text.toArray⟩ (Prs.look l σ.1).at_;obtain ⟨y,hy⟩: ∃y,y=Pso.anyT l (l.length+1) σ:=⟨_,rfl⟩;rw[<-hy] at O ⊢;obtain ⟨k,Z⟩: ∃k,k=Shp.check y.1:=⟨_,rfl⟩;have HK:=Y1 Z;rw[<-Z];clear HF hb0 Y hy Z;by_cases o:k=0
 {have e0: (k !=0)=false:=by simpa using o
  rw[if_pos o];clear o;go_enter Tryz.func18,Tryz.ntmps18
  go_wp2_with fail
  refine (ZdZ hl X.1 _ N.out).mono ?_;rintro e w1 ⟨rfl,hp1,z⟩;have r:=Y1 hp1;have s:=Y1 z;clear hp1 z
  go_wp2_with fail
  refine (O.out w1 r.out).mono ?_;rintro e i ⟨x,rfl,hp2,hu2,hx,hlo,C⟩;have a1:w.heap.size+1<=x.lo:=by have V:=s.out.size; simp at V; omega
  have g:=Z01 i (.cells (Y8 x.t x.q) 28);have d:=Y1 (hp2.below g);have m:=Y1 ((s.out.trans hu2).below g);have f:=Y1 (show x.Is _ from New.below hx g);have j:=Y1 (ZcK i (.int .i64 x.t.kind) (.string ⟨x.t.of_.toArray⟩) (.string ⟨x.t.name.toArray⟩) (.slice x.q.A x.t.names.length x.q.c) (.slice x.q.P x.t.parts.length x.q.d) 28);have u:=Y1 C;clear hp2 hu2 hx hlo C g O r;simp only[valS];obtain ⟨I,c1,c2,c3,c4,cf,n⟩:=j.out
  go_wp2_with fail
  generalize i.alloc (.cells (Y8 x.t x.q) 28)=W2 at d m f j I c1 c2 c3 c4 n ⊢;refine (Z2Y x.t x.q W2 f.out.here d.out.gs.gl.s).mono ?_;rintro e L ⟨rfl,a⟩;rw[u.out, <-HK.out];have E:=Y1 (d.out.below a);have t:=Y1 (m.out.below a);have G:=Y1 (show x.Is L from New.below f.out a);have x0:=(a.cell (p:=⟨i.heap.size,0,none⟩) n).trans I;have x1:=(a.cell (p:=⟨i.heap.size,1,none⟩) n).trans c1;have x2:=(a.cell (p:=⟨i.heap.size,2,none⟩) n).trans c2;have x3:=(a.cell (p:=⟨i.heap.size,3,none⟩) n).trans c3;have x4:=(a.cell (p:=⟨i.heap.size,4,none⟩) n).trans c4;have xl:i.heap.size < L.heap.size:=Nat.lt_of_lt_of_le n a.size;obtain ⟨r0,r1,r2,r3,r4,g0,g1,g2,g3,g4,K⟩:=res5 D.out (ZcK w _ _ _ _ _ _) rfl t.out H;clear a I c1 c2 c3 c4 cf n j d m f;go_wp2;refine bodyPost_ret (v:=valS x) (by simp[results,Tryz.results18,go_sem,valS,r0,r1,r2,r3,r4,K]) rfl ?_;have J:=end5 E.out ((ZcF (F:= [bp]) D.out).trans t.out) G.out (rb:=w.heap.size) (Nat.le_refl _) (Or.inl (by omega)) H;exact ⟨x,rfl,(J _ _ _ _ _).1,(J _ _ _ _ _).2.1,(J _ _ _ _ _).2.2,by omega,u.out⟩}
 {have e0: (k !=0)=true:=by simpa using o
  rw[if_neg o];clear o;go_enter Tryz.func18,Tryz.ntmps18
  go_wp2_with fail
  refine (ZdZ hl X.1 _ N.out).mono ?_;rintro e w1 ⟨rfl,hp1,z⟩;have r:=Y1 hp1;have s:=Y1 z;clear hp1 z
  go_wp2_with fail
  refine (O.out w1 r.out).mono ?_;rintro e i ⟨x,rfl,hp2,hu2,hx,hlo,C⟩;have a1:w.heap.size+1<=x.lo:=by have V:=s.out.size; simp at V; omega
  have g:=Z01 i (.cells (Y8 x.t x.q) 28);have d:=Y1 (hp2.below g);have m:=Y1 ((s.out.trans hu2).below g);have f:=Y1 (show x.Is _ from New.below hx g);have j:=Y1 (ZcK i (.int .i64 x.t.kind) (.string ⟨x.t.of_.toArray⟩) (.string ⟨x.t.name.toArray⟩) (.slice x.q.A x.t.names.length x.q.c) (.slice x.q.P x.t.parts.length x.q.d) 28);have u:=Y1 C;have Q:Hid (bp < i.heap.size):=Y1 hp2.lt;clear hp2 hu2 hx hlo C g O r;simp only[valS];obtain ⟨I,c1,c2,c3,c4,cf,n⟩:=j.out
  go_wp2_with fail
  generalize i.alloc (.cells (Y8 x.t x.q) 28)=W2 at d m f j I c1 c2 c3 c4 n ⊢;refine (Z2Y x.t x.q W2 f.out.here d.out.gs.gl.s).mono ?_;rintro e L ⟨rfl,a⟩;rw[u.out, <-HK.out];have E:=Y1 (d.out.below a);have t:=Y1 (m.out.below a);have G:=Y1 (show x.Is L from New.below f.out a);have T:=Y1 (show SameT W2 L i.heap.size from (ZcF (F:= []) a).same n (by simp));have M:Hid (i.heap.size < L.heap.size):=Y1 (Nat.lt_of_lt_of_le n a.size);clear a
  go_wp2_with fail
  refine (Zf2 bp A c l y.2 k (Prs.look l σ.1).at_ (by omega) L E.out).mono ?_;rintro e w4 ⟨rfl,hp4,B⟩;have b0:bp < i.heap.size:=Q.out;have q:=T.out.trans (B.same M.out (by simp; omega));have S:=Y1 hp4;have P:=Y1 (t.out.trans B);have U:=Y1 (show x.Is w4 from New.up G.out B (by simp; omega));have x0:=(q.1 0).trans I;have x1:=(q.1 1).trans c1;have x2:=(q.1 2).trans c2;have x3:=(q.1 3).trans c3;have x4:=(q.1 4).trans c4;have xl:i.heap.size < w4.heap.size:=Nat.lt_of_lt_of_le M.out B.size;obtain ⟨r0,r1,r2,r3,r4,g0,g1,g2,g3,g4,K⟩:=res5 D.out (ZcK w _ _ _ _ _ _) rfl P.out H;clear hp4 B q I c1 c2 c3 c4 cf n j d m f E t G;go_wp2;refine bodyPost_ret (v:=valS x) (by simp[results,Tryz.results18,go_sem,valS,r0,r1,r2,r3,r4,K]) rfl ?_;have J:=end5 S.out ((ZcF (F:= [bp]) D.out).trans P.out) U.out (rb:=w.heap.size) (Nat.le_refl _) (Or.inl (by omega)) H;exact ⟨x,rfl,(J _ _ _ _ _).1,(J _ _ _ _ _).2.1,(J _ _ _ _ _).2.2,by omega,u.out⟩}
end
section
open Go.RowKit Prs
def needV (i:Nat) (r:Except Flt Nat):Value:=match r with
 | .ok j=> .tuple #[.int .i64 (j:Int),.agg #[.int .i64 0,.int .i64 0]]
 | .error f=> .tuple #[.int .i64 (i:Int),.agg #[.int .i64 f.1,.int .i64 f.2]]
def ZeE (i:Nat) (r:R (List UInt8)):Value:=match r with
 | .ok x=> .tuple #[.string ⟨x.1.toArray⟩,.int .i64 (x.2:Int),.agg #[.int .i64 0,.int .i64 0]]
 | .error f=> .tuple #[.string ⟨#[]⟩,.int .i64 (i:Int),.agg #[.int .i64 f.1,.int .i64 f.2]]
theorem ZdK (A:Option Addr) (c:Nat) (l:List Tk) (i:Nat) (s:List UInt8) (B:l.length<=1000000) (z:i<=2000000) (w:World) (h:Tks w w.heap.size A l):
 Y9 54 #[.slice A l.length c,.int .i64 (i:Int),.string ⟨s.toArray⟩] w (needV i (need l i s)):=by
 have hb0:=Z01 w (.cells Yc 31);have k:=Y1 (ZcG w 0 0);have o:=Y1 (h.on hb0);have d:=Y1 (ZcM A c l i s B z _ (h.on hb0));have j:=Y1 hb0;clear h hb0;cases m:Prs.sign l i s
 {have n:Hid (need l i s= .error (no l i)):=Y1 (by unfold need; rw[m]; rfl);rw[m] at d;obtain ⟨f,t⟩: ∃f,f=no l i:=⟨_,rfl⟩;rw[n.out, <-t];have D:=Y1 t;clear m n t;go_enter Tryz.func54,Tryz.ntmps54
  go_wp2_with fail
  generalize w.alloc (.cells Yc 31)=W0 at k o d j ⊢;refine d.out.mono ?_;rintro e C ⟨rfl,a⟩;have r:=ZfF A c l i B z C (o.out.on a);rw[<-D.out] at r;have y:=Y1 r;have b:=Y1 (Z03 j.out a);have p:=Y1 (k.out.next a);clear a d k j o r
  go_wp2_with fail
  refine y.out.mono ?_;rintro e F ⟨rfl,g⟩;have q:=Y1 (Z03 b.out g);obtain ⟨u,x0,x1,y0,E⟩:=p.out.next g;clear g y p b;go_wp2;refine bodyPost_ret (v:=needV i (.error f)) (by simp[needV,results,Tryz.results54,go_sem,x0,x1,u]) rfl ?_;exact ⟨rfl,ZcI q.out (Nat.le_refl _) _ _⟩}
 {have n:Hid (need l i s= .ok (i+1)):=Y1 (by unfold need; rw[m]; rfl);rw[m] at d;rw[n.out];clear m n;go_enter Tryz.func54,Tryz.ntmps54
  go_wp2_with fail
  generalize w.alloc (.cells Yc 31)=W0 at k o d j ⊢;refine d.out.mono ?_;rintro e C ⟨rfl,a⟩;have b:=Y1 (Z03 j.out a);obtain ⟨u,x0,x1,y0,E⟩:=k.out.next a;clear a d k j o;go_wp2;refine bodyPost_ret (v:=needV i (.ok (i+1))) (by simp[needV,results,Tryz.results54,go_sem,x0,x1,u]) rfl ?_;exact ⟨rfl,ZcI b.out (Nat.le_refl _) _ _⟩}
theorem Zdf (w:World) (x:Tk): (w.alloc (.cells #[.int .i64 x.t.kind,.string ⟨x.t.text.toArray⟩,.int .i64 x.at_] 46)).cell? ⟨w.heap.size,0,none⟩=some (.int .i64 x.t.kind)/\(w.alloc (.cells #[.int .i64 x.t.kind,.string ⟨x.t.text.toArray⟩,.int .i64 x.at_] 46)).cell? ⟨w.heap.size,1,none⟩=some (.string ⟨x.t.text.toArray⟩):=⟨by simp[go_sem],by simp[go_sem]⟩
theorem Zhg (A:Option Addr) (c:Nat) (l:List Tk) (i:Nat) (k:Int) (F:l.length<=1000000) (E:i<=2000000) (w:World) (h:Tks w w.heap.size A l):
 Y9 55 #[.slice A l.length c,.int .i64 (i:Int),.int .i64 k] w (ZeE i (Prs.kind l i k)):=by
 have hb0:=Z01 w (.cells Yc 31);have j:=Y1 (ZcG w 0 0);have s:=Y1 (h.on hb0);have g:=Y1 (ZcY A c l i F E _ (h.on hb0));have p:=Y1 hb0;clear h hb0;have r:Hid (Prs.kind l i k=if (Prs.look l i).t.kind=k then .ok ((Prs.look l i).t.text,i+1) else .error (no l i)):=Y1 rfl;obtain ⟨x,G⟩: ∃x,x=Prs.look l i:=⟨_,rfl⟩;rw[<-G] at g r;clear G;by_cases q:x.t.kind=k
 {have I: (x.t.kind !=k)=false:=by simpa using q
  rw[r.out,if_pos q];clear q r;go_enter Tryz.func55,Tryz.ntmps55
  go_wp2_with fail
  generalize w.alloc (.cells Yc 31)=W0 at j s g p ⊢;refine g.out.mono ?_;rintro e o ⟨rfl,a⟩;have b:=Y1 (Z0h (Z03 p.out a) (.cells #[.int .i64 x.t.kind,.string ⟨x.t.text.toArray⟩,.int .i64 x.at_] 46));obtain ⟨B,x0,x1,y0,K⟩:=(j.out.next a).next (Z01 o (.cells #[.int .i64 x.t.kind,.string ⟨x.t.text.toArray⟩,.int .i64 x.at_] 46));obtain ⟨C,D⟩:=Zdf o x;have J:w.heap.size≠o.heap.size:=by have:=j.out.1; have:=a.size; omega
  clear a g j p s;go_wp2;refine bodyPost_ret (v:=ZeE i (.ok (x.t.text,i+1))) (by simp[ZeE,results,Tryz.results55,go_sem,x0,x1,B]) rfl ?_;exact ⟨rfl,ZcI b.out (Nat.le_refl _) _ _⟩}
 {have I: (x.t.kind !=k)=true:=by simpa using q
  obtain ⟨f,z⟩: ∃f,f=no l i:=⟨_,rfl⟩;rw[r.out,if_neg q, <-z];have H:=Y1 z;clear q r z;go_enter Tryz.func55,Tryz.ntmps55
  go_wp2_with fail
  generalize w.alloc (.cells Yc 31)=W0 at j s g p ⊢;refine g.out.mono ?_;rintro e o ⟨rfl,a⟩;have d:=Z01 o (.cells #[.int .i64 x.t.kind,.string ⟨x.t.text.toArray⟩,.int .i64 x.at_] 46);have b:=Y1 (Z03 (Z03 p.out a) d);have m:=Y1 ((j.out.next a).next d);have y:=ZfF A c l i F E _ ((s.out.on a).on d);rw[<-H.out] at y;have u:=Y1 y;obtain ⟨C,D⟩:=Zdf o x;clear a g j p s y d
  go_wp2_with fail
  generalize o.alloc (.cells #[.int .i64 x.t.kind,.string ⟨x.t.text.toArray⟩,.int .i64 x.at_] 46)=w2 at b m u C D ⊢;refine u.out.mono ?_;rintro e L ⟨rfl,n⟩;have t:=Y1 (Z03 b.out n);obtain ⟨B,x0,x1,y0,K⟩:=m.out.next n;clear n u m b C D;go_wp2;refine bodyPost_ret (v:=ZeE i (.error f)) (by simp[ZeE,results,Tryz.results55,go_sem,x0,x1,B]) rfl ?_;exact ⟨rfl,ZcI t.out (Nat.le_refl _) _ _⟩}
theorem Zo4 {W:World} {g:Nat} {a b:Int} (h:Box2 W g a b) (x y:Int):Box2 ((W.setCell ⟨g,0,none⟩ (.int .i64 x)).setCell ⟨g,1,none⟩ (.int .i64 y)) g x y:=by
 obtain ⟨c,d,e,f,i⟩:=h;refine ⟨by simpa using c, ?_, ?_, ?_, ?_⟩ <;> simp[go_sem,d,e,f,i]
theorem Zo5 {W:World} {g p:Nat} {a b:Int} (h:Box2 W g a b) (d:g≠p) (x y:Value):Box2 ((W.setCell ⟨p,0,none⟩ x).setCell ⟨p,1,none⟩ y) g a b:=by
 obtain ⟨e,f,i,j,k⟩:=h;have c:=Ne.symm d;refine ⟨by simpa using e, ?_, ?_, ?_, ?_⟩ <;> simp[go_sem,f,i,j,k,d,c]
def TextIs (r:R (List UInt8)) (v:Value):Prop:= ∃(s:List UInt8) (j:Int) (f:Flt),v= .tuple #[.string ⟨s.toArray⟩,.int .i64 j,.agg #[.int .i64 f.1,.int .i64 f.2]]/\
 match r with
 | .ok x=>s=x.1/\j=(x.2:Int)/\f=(0,0)
 | .error g=>f=g/\g.1≠0
def FrS (w wr:World) (rb fb:Nat) (ns:List (List UInt8)) (s:List UInt8) (a:Int) (i:Nat):Prop:=
 Below w.heap.size w wr/\Box2 wr rb 0 0/\((Box2 wr fb 0 0/\ ∀j (hj:j < ns.length),j < i->ns[j]≠s)\/(Box2 wr fb 111 a/\ns.contains s=true))
theorem Zk6 (A B:Option Addr) (c d:Nat) (l:List Tk) (i:Nat) (ns:List (List UInt8)) (hl:l.length<=1000000) (hi:i<=2000000) (hn:ns.length<=1000000) (w:World) (h:Tks w w.heap.size A l) (hs:Strs w w.heap.size B (strs ns)):
 Calls Tryz.prog 99 #[.slice A l.length c,.int .i64 (i:Int),.slice B ns.length d] w fun e w'=> ∃v,e= .returned v/\TextIs (Prs.fresh l i ns) v/\Below w.heap.size w w':=by
 have hb0:=Z01 w (.cells Yc 31);have M:=Y1 (ZcG w 0 0);have HT:=Y1 h;have HS:=Y1 hs;have HK:=Y1 (Zhg A c l i 1 hl hi _ (h.on hb0));have N:=Y1 hb0;clear h hs hb0;obtain ⟨x,hx⟩: ∃x,x=Prs.look l i:=⟨_,rfl⟩;have HF:Hid (Prs.fresh l i ns=if x.t.kind=1 then (if ns.contains x.t.text then .error (111,x.at_) else .ok (x.t.text,i+1)) else .error (90,x.at_)):=Y1 (by rw[hx]; rfl);have H:Hid (Prs.kind l i 1=if x.t.kind=1 then .ok (x.t.text,i+1) else .error (90,x.at_)):=Y1 (by rw[hx]; rfl);have a9:=Y1 hx;clear hx;by_cases hk:x.t.kind=1
 {have P:=HF.out;have q:=H.out;rw[if_pos hk] at P q;have o:=HK.out;rw[q] at o;have n:=Y1 P;have f:=Y1 o;clear P q o HK HF H hk;obtain ⟨s,hs⟩: ∃s,s=x.t.text:=⟨_,rfl⟩;rw[<-hs] at n f;clear hs;go_enter Tryz.func99,Tryz.ntmps99
  go_wp2_with fail
  generalize w.alloc (.cells Yc 31)=W0 at M f N ⊢;refine f.out.mono ?_;rintro e z ⟨rfl,a⟩;have r:=Z01 z (.cells Yc 31);have u:=Y1 (Z03 (Z03 N.out a) r);have C:=Y1 ((M.out.next a).next r);have p:=Y1 (ZcG z 0 0);have K:w.heap.size≠z.heap.size:=by have:=M.out.1; have:=a.size; omega
  have Y:=Y1 K;have X:Hid (w.heap.size<=z.heap.size):=Y1 (by have:=N.out.size; have:=a.size; omega);clear a r f M N;simp only[ZeE]
  go_wp2_with fail
  generalize z.alloc (.cells Yc 31)=W1 at u C p ⊢;obtain ⟨O,F⟩: ∃O,O=z.heap.size:=⟨_,rfl⟩;rw[<-F] at p X K Y ⊢;clear F
  go_loopw [12] (fun ii wr=> ∃k:Nat,ii= .int .i64 k/\k<=ns.length/\Hid (FrS w wr w.heap.size O ns s x.at_ k)) (fun k _=>ns.length - (intOf k).toNat)
  case atStart=>exact ⟨0,rfl,Nat.zero_le _,Y1 ⟨u.out,C.out,Or.inl ⟨p.out,fun j _ hj=>absurd hj (by omega)⟩⟩⟩
  case round=>
   obtain ⟨k,rfl,hk,HR⟩:=hrel;obtain ⟨Z,b2,a1⟩:=HR.out;obtain ⟨q0,x0,x1,y0,y1⟩:=b2;have b:=Y1 Z;clear Z;by_cases J:k < ns.length
   {have Q: (k:Int) < (ns.length:Int):=by omega
    rcases a1 with ⟨t,G⟩ | ⟨t,m⟩
    {obtain ⟨p0,z0,z1,v0,S⟩:=t;have a7:=Y1 G;clear G;rcases ((HS.out.keep b.out (Nat.le_refl _)).more b.out.size).cell7 with h0 | ⟨g,off,b0,hg,hc⟩
     {omega}
     {have E:=hc k J;obtain ⟨y,hy⟩: ∃y,y=ns[k]'J:=⟨_,rfl⟩;rw[<-hy] at E;have HY:=Y1 hy;have a8:=Y1 ((HT.out.keep b.out (Nat.le_refl _)).more b.out.size);have U:=Y1 (show Box2 wr w.heap.size 0 0 from ⟨q0,x0,x1,y0,y1⟩);have W:=Y1 (show Box2 wr O 0 0 from ⟨p0,z0,z1,v0,S⟩);subst b0;clear hc hy;cases hq: (y==s)
      {have HM:Hid (ns[k]'J≠s):=Y1 (by rw[<-HY.out]; intro h; rw[h] at hq; simp at hq);go_wp2
       go_roundw
       case rel=>exact ⟨k+1,by go_num,by omega,Y1 ⟨b.out,U.out,Or.inl ⟨W.out,fun j hj hjk=>by
        rcases Nat.lt_succ_iff_lt_or_eq.1 hjk with h | rfl
        {exact a7.out j hj h}
        · exact HM.out⟩⟩⟩
       case measure=>simp[intOf]; omega}
      {have HC:Hid (ns.contains s=true):=Y1 (by rw[List.contains_iff_mem, <-(beq_iff_eq.1 hq),HY.out]; exact List.getElem_mem _)
       go_wp2_with fail
       have hL:=ZcY A c l i hl hi wr a8.out;rw[<-a9.out] at hL;refine hL.mono ?_;rintro e w2 ⟨rfl,I⟩;have T:=Y1 (Z03 b.out I);have V:=Y1 (U.out.next I);have L:=Y1 (W.out.next I);obtain ⟨d6,z0',z1',v0',d7⟩:=L.out;have d5:=ZdX x.t.kind ⟨x.t.text.toArray⟩ x.at_;clear hL I E q0 x0 x1 y0 y1 p0 z0 z1 v0 S;go_wp2
       go_roundw
       case rel=>exact ⟨_,_,_,_,_,_,_,_,_,_,_,_,_,_,_,_,_,_,_,_,_,_,_,⟨k+1,by go_num,by omega,Y1 ⟨ZcI T.out X.out _ _,Zo5 V.out Y.out _ _,Or.inr ⟨Zo4 L.out _ _,HC.out⟩⟩⟩,rfl⟩
       case measure=>simp[intOf]; omega}}}
    {obtain ⟨p0,z0,z1,v0,S⟩:=t;have D:=Y1 m;clear m
     go_wp2_with fail
     go_region
     all_goals go_wp2
     all_goals refine bodyPost_ret (v:= .tuple #[.string ⟨s.toArray⟩,.int .i64 ((i:Int)+1),.agg #[.int .i64 111,.int .i64 x.at_]]) (by simp[results,Tryz.results99,go_sem,x0,x1,q0,z0,z1,p0]) rfl ?_
     all_goals exact ⟨_,rfl,⟨s,(i:Int)+1,(111,x.at_),rfl,by rw[n.out,if_pos D.out]; exact ⟨rfl,by simp⟩⟩,(ZcI b.out (Nat.le_refl _) _ _).drew⟩}}
   {have Q: ¬(k:Int) < (ns.length:Int):=by omega
    rcases a1 with ⟨t,G⟩ | ⟨t,m⟩
    {obtain ⟨p0,z0,z1,v0,S⟩:=t;have a6:Hid (ns.contains s=false):=Y1 (by
      cases b3:ns.contains s with
      | false=>rfl
      | true=>
       obtain ⟨j,hj,b4⟩:=List.getElem_of_mem (List.contains_iff_mem.1 b3);exact absurd b4 (G j hj (by omega)))
     clear G
     go_wp2_with fail
     go_region
     all_goals go_wp2
     all_goals refine bodyPost_ret (v:= .tuple #[.string ⟨s.toArray⟩,.int .i64 ((i:Int)+1),.agg #[.int .i64 0,.int .i64 0]]) (by simp[results,Tryz.results99,go_sem,x0,x1,q0,z0,z1,p0]) rfl ?_
     all_goals exact ⟨_,rfl,⟨s,(i:Int)+1,(0,0),rfl,by rw[n.out,if_neg (by rw[a6.out]; simp)]; exact ⟨rfl,by simp,rfl⟩⟩,(ZcI b.out (Nat.le_refl _) _ _).drew⟩}
    {obtain ⟨p0,z0,z1,v0,S⟩:=t;have D:=Y1 m;clear m
     go_wp2_with fail
     go_region
     all_goals go_wp2
     all_goals refine bodyPost_ret (v:= .tuple #[.string ⟨s.toArray⟩,.int .i64 ((i:Int)+1),.agg #[.int .i64 111,.int .i64 x.at_]]) (by simp[results,Tryz.results99,go_sem,x0,x1,q0,z0,z1,p0]) rfl ?_
     all_goals exact ⟨_,rfl,⟨s,(i:Int)+1,(111,x.at_),rfl,by rw[n.out,if_pos D.out]; exact ⟨rfl,by simp⟩⟩,(ZcI b.out (Nat.le_refl _) _ _).drew⟩}}}
 {have P:=HF.out;have q:=H.out;rw[if_neg hk] at P q;have o:=HK.out;rw[q] at o;have n:=Y1 P;have f:=Y1 o;clear P q o HK HF H hk;go_enter Tryz.func99,Tryz.ntmps99
  go_wp2_with fail
  generalize w.alloc (.cells Yc 31)=W0 at M f N ⊢;refine f.out.mono ?_;rintro e z ⟨rfl,a⟩;have r:=Z01 z (.cells #[.int .i64 90,.int .i64 x.at_] 31);have u:=Y1 (Z03 (Z03 N.out a) r);have C:=Y1 ((M.out.next a).next r);have p:=Y1 (ZcG z 90 x.at_);have K:w.heap.size≠z.heap.size:=by have:=M.out.1; have:=a.size; omega
  clear a r f M N;simp only[ZeE]
  go_wp2_with fail
  generalize z.alloc (.cells #[.int .i64 90,.int .i64 x.at_] 31)=W1 at u C p ⊢;obtain ⟨O,F⟩: ∃O,O=z.heap.size:=⟨_,rfl⟩;rw[<-F] at p K ⊢;clear F;obtain ⟨q0,x0,x1,y0,y1⟩:=C.out;obtain ⟨p0,z0,z1,v0,S⟩:=p.out
  go_loopw [12] (fun ii wr=>ii= .int .i64 0/\W1=wr) (fun k _=>1)
  case atStart=>exact ⟨rfl,rfl⟩
  case round=>
   obtain ⟨rfl,rfl⟩:=hrel;by_cases J:0 < ns.length
   {have Q: (0:Int) < (ns.length:Int):=by omega
    go_wp2_with fail
    go_region
    all_goals go_wp2
    all_goals refine bodyPost_ret (v:= .tuple #[.string ⟨#[]⟩,.int .i64 (i:Int),.agg #[.int .i64 90,.int .i64 x.at_]]) (by simp[results,Tryz.results99,go_sem,x0,x1,q0,z0,z1,p0]) rfl ?_
    all_goals exact ⟨_,rfl,⟨[],(i:Int),(90,x.at_),rfl,by rw[n.out]; exact ⟨rfl,by simp⟩⟩,(ZcI u.out (Nat.le_refl _) _ _).drew⟩}
   {have Q: ¬(0:Int) < (ns.length:Int):=by omega
    go_wp2_with fail
    go_region
    all_goals go_wp2
    all_goals refine bodyPost_ret (v:= .tuple #[.string ⟨#[]⟩,.int .i64 (i:Int),.agg #[.int .i64 90,.int .i64 x.at_]]) (by simp[results,Tryz.results99,go_sem,x0,x1,q0,z0,z1,p0]) rfl ?_
    all_goals exact ⟨_,rfl,⟨[],(i:Int),(90,x.at_),rfl,by rw[n.out]; exact ⟨rfl,by simp⟩⟩,(ZcI u.out (Nat.le_refl _) _ _).drew⟩}}
end
end Go.Proofs.YtgndehppmaacaaaGreatDoor
namespace Prs
def wordU:Nat->List UInt8
 | 1=> [73,110,116]
 | 2=> [66,111,111,108]
 | 3=> [84,101,120,116]
 | 4=> [65,110,121]
 | _=> []
theorem Zlp {o n:List UInt8} {k:Nat} (c:1<=k) (d:k<=4) (b:o= []) (a:n=wordU k):upper o n=⟨(k:Int),[],[],[],[]⟩:=by
 subst b a;have:k=1\/k=2\/k=3\/k=4:=by omega
 rcases this with rfl | rfl | rfl | rfl <;> rfl
theorem Zlq {o n:List UInt8} (h: ∀j,1<=j->j < 5-> ¬(o= []/\n=wordU j)):upper o n=⟨9,o,n,[],[]⟩:=by
 have a: ¬(o= []/\n= [73,110,116]):=h 1 (by omega) (by omega);have b: ¬(o= []/\n= [66,111,111,108]):=h 2 (by omega) (by omega);have c: ¬(o= []/\n= [84,101,120,116]):=h 3 (by omega) (by omega);have d: ¬(o= []/\n= [65,110,121]):=h 4 (by omega) (by omega);unfold upper;rw[if_neg a,if_neg b,if_neg c,if_neg d]
end Prs
namespace Go.Proofs.YtgndehppmaacaaaGreatDoor
open Go.RowKit Prs
def uW (w:World):World:=(w.alloc (.cells Yb 28)).alloc (.cells #[.string ⟨#[]⟩,.string ⟨#[73,110,116]⟩,.string ⟨#[66,111,111,108]⟩,.string ⟨#[84,101,120,116]⟩,.string ⟨#[65,110,121]⟩] 9)
theorem Zo6 (w:World):Below w.heap.size w (uW w):=Z0h (Z01 _ _) _
theorem Zpb (w:World) (k:Nat) (a:1<=k) (b:k<=4): (uW w).cell? ⟨w.heap.size+1,k,none⟩=some (.string ⟨(wordU k).toArray⟩):=by
 have:k=1\/k=2\/k=3\/k=4:=by omega
 rcases this with rfl | rfl | rfl | rfl <;> simp[uW,go_sem,wordU]
def ZcD (W:World) (g:Nat):Prop:=g < W.heap.size/\(W.cell? ⟨g,0,none⟩=some (.int .i64 0)/\W.cell? ⟨g,1,none⟩=some (.string ⟨#[]⟩)/\W.cell? ⟨g,2,none⟩=some (.string ⟨#[]⟩)/\W.cell? ⟨g,3,none⟩=some (.slice none 0 0)/\W.cell? ⟨g,4,none⟩=some (.slice none 0 0))/\
 W.frozen? ⟨g,0,none⟩=false/\W.frozen? ⟨g,1,none⟩=false/\W.frozen? ⟨g,2,none⟩=false/\W.frozen? ⟨g,3,none⟩=false/\W.frozen? ⟨g,4,none⟩=false
theorem Zpc (w:World):ZcD (uW w) w.heap.size:=by
 refine ⟨by simp[uW]; omega,⟨?_, ?_, ?_, ?_, ?_⟩, ?_, ?_, ?_, ?_, ?_⟩ <;> simp[uW,go_sem]
theorem ZcT {B:Nat} {a W:World} (h:Below B a W) {b:Nat} (c:B<=b) (x0 x1 x2 d e:Value):Below B a (((((W.setCell ⟨b,0,none⟩ x0).setCell ⟨b,1,none⟩ x1).setCell ⟨b,2,none⟩ x2).setCell ⟨b,3,none⟩ d).setCell ⟨b,4,none⟩ e):=
 ((((h.setCell (p:=⟨b,0,none⟩) c _).setCell (p:=⟨b,1,none⟩) c _).setCell (p:=⟨b,2,none⟩) c _).setCell (p:=⟨b,3,none⟩) c _).setCell (p:=⟨b,4,none⟩) c _
theorem Zfa (o n:List UInt8) (w:World):
 Y9 53 #[.string ⟨o.toArray⟩,.string ⟨n.toArray⟩] w (.agg #[.int .i64 (upper o n).kind,.string ⟨(upper o n).of_.toArray⟩,.string ⟨(upper o n).name.toArray⟩,.slice none 0 0,.slice none 0 0]):=by
 have f:=Y1 (Zo6 w);have z:=Y1 (Zpc w);have i:=Y1 (Zpb w);obtain ⟨u,s⟩: ∃u,u=upper o n:=⟨_,rfl⟩;rw[<-s];have y:=Y1 s;clear s;go_enter Tryz.func53,Tryz.ntmps53
 go_wp2_with fail
 change Code.wp _ _ _ _ (uW w);have q:w.heap.size≠w.heap.size+1:=by omega
 obtain ⟨t,c⟩: ∃t,t=w.heap.size+1:=⟨_,rfl⟩;rw[<-c] at i q ⊢;have p:t < (uW w).heap.size:=by rw[c]; simp[uW]
 generalize uW w=W0 at f z i p ⊢;clear c
 go_loopw [6] (fun ii wr=> ∃k:Nat,ii= .int .i64 k/\1<=k/\k<=5/\Hid (∀j,1<=j->j < k-> ¬(o= []/\n=wordU j))/\W0=wr) (fun k _=>5 - (intOf k).toNat)
 case atStart=>exact ⟨1,rfl,by omega,by omega,Y1 (fun j a h2=>by omega),rfl⟩
 case round=>
  obtain ⟨k,rfl,a,K,g,rfl⟩:=hrel;obtain ⟨q0,⟨z0,z1,z2,z3,B⟩,F,G,H,I,J⟩:=z.out;by_cases A:k<=4
  {have m: (k:Int)<=4:=by omega
   have D: (0:Int)<=(k:Int):=by omega
   have E: (k:Int) < 5:=by omega
   have l:=i.out k a A;by_cases d:o= []
   {have C:=Y1 d;have heq: (o== [])=true:=by simpa using d
    clear d;cases r: (n==wordU k)
    {have b:Hid (¬(o= []/\n=wordU k)):=Y1 (fun h=>by rw[h.2] at r; simp at r);have HM2:=Y1 (fun j (a:1<=j) (hj:j < k+1)=>(if e:j=k then (by rw[e]; exact b.out) else g.out j a (by omega): ¬(o= []/\n=wordU j)))
     go_wp2_with fail
     exact ⟨⟨k+1,by go_num,by omega,by omega,HM2,trivial⟩,by simp[intOf]; omega⟩}
    {have b:Hid (upper o n=⟨(k:Int),[],[],[],[]⟩):=Y1 (Zlp a A C.out (by simpa using r));go_wp2;refine bodyPost_ret (v:= .agg #[.int .i64 (k:Int),.string ⟨#[]⟩,.string ⟨#[]⟩,.slice none 0 0,.slice none 0 0]) (by simp[results,Tryz.results53,go_sem,q0,z0,z1,z2,z3,B]) rfl ?_;exact ⟨by rw[y.out,b.out],ZcT f.out (Nat.le_refl _) _ _ _ _ _⟩}}
   {have b:Hid (¬(o= []/\n=wordU k)):=Y1 (fun h=>d h.1);have heq: (o== [])=false:=by simpa using d
    clear d;have HM2:=Y1 (fun j (a:1<=j) (hj:j < k+1)=>(if e:j=k then (by rw[e]; exact b.out) else g.out j a (by omega): ¬(o= []/\n=wordU j)))
    go_wp2_with fail
    exact ⟨⟨k+1,by go_num,by omega,by omega,HM2,trivial⟩,by simp[intOf]; omega⟩}}
  {have m: ¬(k:Int)<=4:=by omega
   have b:Hid (upper o n=⟨9,o,n,[],[]⟩):=Y1 (Zlq (fun j a h2=>g.out j a (by omega)));go_wp2;refine bodyPost_ret (v:= .agg #[.int .i64 9,.string ⟨o.toArray⟩,.string ⟨n.toArray⟩,.slice none 0 0,.slice none 0 0]) (by simp[results,Tryz.results53,go_sem,q0,z0,z1,z2,z3,B]) rfl ?_;exact ⟨by rw[y.out,b.out],ZcT f.out (Nat.le_refl _) _ _ _ _ _⟩}
end Go.Proofs.YtgndehppmaacaaaGreatDoor
namespace Go.Proofs.YtgndehppmaacaaaGreatDoor
section
open Go.RowKit Prs
def openV (a:Int) (r:Except Flt Nat):Value:=match r with
 | .ok _=> .tuple #[.int .i64 a,.agg #[.int .i64 0,.int .i64 0]]
 | .error f=> .tuple #[.int .i64 0,.agg #[.int .i64 f.1,.int .i64 f.2]]
theorem Zlr (A:Option Addr) (c:Nat) (l:List Tk) (a:Int) (m:l.length<=9223372036854775807) (w:World):
 Y9 19 #[.slice A l.length c,.int .i64 a] w (openV a (opened l a)):=by
 have b:=Y1 (Z01 w (.cells Yc 31));have d:=Y1 (ZcG w 0 0);by_cases i:a < 0
 {have e:Hid (opened l a= .error (2,0)):=Y1 (by unfold opened; rw[if_pos (Or.inl i)]);rw[e.out];go_enter Tryz.func19,Tryz.ntmps19
  go_wp2_with fail
  generalize w.alloc (.cells Yc 31)=W0 at d b ⊢;obtain ⟨f,x0,x1,y0,h⟩:=d.out;go_wp2;refine bodyPost_ret (v:= .tuple #[.int .i64 0,.agg #[.int .i64 2,.int .i64 0]]) (by simp[results,Tryz.results19,go_sem,x0,x1,f]) rfl ?_
  first | exact ⟨rfl,Z01 _ _⟩ | exact ⟨rfl,b.out⟩ | exact ⟨rfl,ZcI b.out (Nat.le_refl _) _ _⟩}
 {by_cases j: (l.length:Int) < a
  {have e:Hid (opened l a= .error (2,0)):=Y1 (by unfold opened; rw[if_pos (Or.inr j)]);rw[e.out];go_enter Tryz.func19,Tryz.ntmps19
   go_wp2_with fail
   generalize w.alloc (.cells Yc 31)=W0 at d b ⊢;obtain ⟨f,x0,x1,y0,h⟩:=d.out;go_wp2;refine bodyPost_ret (v:= .tuple #[.int .i64 0,.agg #[.int .i64 2,.int .i64 0]]) (by simp[results,Tryz.results19,go_sem,x0,x1,f]) rfl ?_
   first | exact ⟨rfl,Z01 _ _⟩ | exact ⟨rfl,b.out⟩ | exact ⟨rfl,ZcI b.out (Nat.le_refl _) _ _⟩}
  {by_cases g:4097 < l.length
   {have k: (4097:Int) < (l.length:Int):=by omega
    have e:Hid (opened l a= .error (3,0)):=Y1 (by unfold opened; rw[if_neg (by omega),if_pos g]);rw[e.out];clear g;go_enter Tryz.func19,Tryz.ntmps19
    go_wp2_with fail
    generalize w.alloc (.cells Yc 31)=W0 at d b ⊢;obtain ⟨f,x0,x1,y0,h⟩:=d.out;go_wp2;refine bodyPost_ret (v:= .tuple #[.int .i64 0,.agg #[.int .i64 3,.int .i64 0]]) (by simp[results,Tryz.results19,go_sem,x0,x1,f]) rfl ?_
    first | exact ⟨rfl,Z01 _ _⟩ | exact ⟨rfl,b.out⟩ | exact ⟨rfl,ZcI b.out (Nat.le_refl _) _ _⟩}
   {have k: ¬(4097:Int) < (l.length:Int):=by omega
    have e:Hid (opened l a= .ok a.toNat):=Y1 (by unfold opened; rw[if_neg (by omega),if_neg g]);rw[e.out];clear g;go_enter Tryz.func19,Tryz.ntmps19
    go_wp2_with fail
    generalize w.alloc (.cells Yc 31)=W0 at d b ⊢;obtain ⟨f,x0,x1,y0,h⟩:=d.out;go_wp2;refine bodyPost_ret (v:= .tuple #[.int .i64 a,.agg #[.int .i64 0,.int .i64 0]]) (by simp[results,Tryz.results19,go_sem,x0,x1,f]) rfl ?_
    first | exact ⟨rfl,Z01 _ _⟩ | exact ⟨rfl,b.out⟩ | exact ⟨rfl,ZcI b.out (Nat.le_refl _) _ _⟩}}}
end
section
open Go.RowKit Shp
structure PaR (W:World) (b:Nat) (ps:List Sh) (qs:Nat->Ptr):Prop where
 lt:b < W.heap.size
 at_: ∀i (h:i < ps.length),Sh5 W b (i * 5) (ps[i]'h) (qs i)
 fz: ∀k,W.frozen? ⟨b,k,none⟩=false
def Z0y (W W':World) (b:Nat):Prop:=(∀k,W'.cell? ⟨b,k,none⟩=W.cell? ⟨b,k,none⟩)/\ ∀k,W'.frozen? ⟨b,k,none⟩=W.frozen? ⟨b,k,none⟩
theorem PaR.of {W W':World} {b:Nat} {ps:List Sh} {c:Nat->Ptr} (h:PaR W b ps c) (a:Z0y W W' b) (d:W.heap.size<=W'.heap.size):PaR W' b ps c:=
 ⟨Nat.lt_of_lt_of_le h.lt d,fun i hi=>(h.at_ i hi).of a.1,fun k=>(a.2 k).trans (h.fz k)⟩
theorem TxR.of {W W':World} {b:Nat} {ts:List (List UInt8)} (h:TxR W b ts) (a:Z0y W W' b) (c:W.heap.size<=W'.heap.size):TxR W' b ts:=
 ⟨Nat.lt_of_lt_of_le h.lt c,fun i hi=>(a.1 i).trans (h.at_ i hi),fun k=>(a.2 k).trans (h.fz k)⟩
inductive Own (W:World):Ptr->Sh->List Nat->Prop
 | mk (q:Ptr) (t:Sh) (F FN FP:List Nat) (qs:Nat->Ptr) (Fs:Nat->List Nat) (hs:Small t q)
  (hn:t.names.length=0/\FN= []\/ ∃b,q.A=some ⟨b,0,none⟩/\FN= [b]/\TxR W b t.names)
  (hp:t.parts.length=0/\FP= []\/ ∃b,q.P=some ⟨b,0,none⟩/\FP= [b]/\PaR W b t.parts qs)
  (hr: ∀i (h:i < t.parts.length),Own W (qs i) (t.parts[i]'h) (Fs i)) (hF:F=FN++FP++(List.range t.parts.length).flatMap Fs):Own W q t F
theorem Own.small {W:World} {q:Ptr} {t:Sh} {F:List Nat} (h:Own W q t F):Small t q:=by cases h; assumption
theorem Own.of {W W':World} {q:Ptr} {t:Sh} {F:List Nat} (h:Own W q t F) (d: ∀b∈F,Z0y W W' b) (f:W.heap.size<=W'.heap.size):Own W' q t F:=by
 induction h with
 | mk q t F FN FP qs Fs hs hn hp hr hF ih=>
  subst hF;refine .mk q t _ FN FP qs Fs hs ?_ ?_ ?_ rfl
  {rcases hn with h | ⟨b,a,rfl,c⟩
   {exact Or.inl h}
   {exact Or.inr ⟨b,a,rfl,c.of (d b (by simp)) f⟩}}
  {rcases hp with h | ⟨b,a,rfl,c⟩
   {exact Or.inl h}
   {exact Or.inr ⟨b,a,rfl,c.of (d b (by simp)) f⟩}}
  {intro i e;refine ih i e (fun b hb=>d b ?_);refine List.mem_append_right _ (List.mem_flatMap.2 ⟨i,List.mem_range.2 e,hb⟩)}
theorem Own.at_ {W:World} {q:Ptr} {t:Sh} {F:List Nat} {B:Nat} (h:Own W q t F) (e: ∀b∈F,b < B):ShAt W B q t:=by
 induction h with
 | mk q t F FN FP qs Fs hs hn hp hr hF ih=>
  subst hF;have f:Strs W B q.A (strs t.names):=by
   rcases hn with ⟨h,_⟩ | ⟨b,c,rfl,d⟩
   {exact Or.inl (by rw[Z1w]; exact h)}
   {refine Or.inr ⟨b,0,c,e b (by simp),fun i hi=> ?_⟩;rw[Z1w] at hi;rw[Nat.zero_add,d.at_ i hi];simp[strs]}
  have a: ∀i (h:i < t.parts.length),ShAt W B (qs i) (t.parts[i]'h):=fun i hi=>ih i hi (fun b hb=>e b (List.mem_append_right _ (List.mem_flatMap.2 ⟨i,List.mem_range.2 hi,hb⟩)));rcases hp with ⟨h,_⟩ | ⟨b,c,rfl,d⟩
  {exact .mk q t 0 0 qs hs f (Or.inl h) (fun i hi=>absurd hi (by omega)) a}
  {exact .mk q t b 0 qs hs f (Or.inr ⟨c,e b (by simp)⟩) (fun i hi=>by rw[Nat.zero_add]; exact d.at_ i hi) a}
theorem Own.lt {W:World} {q:Ptr} {t:Sh} {F:List Nat} (h:Own W q t F): ∀b∈F,b < W.heap.size:=by
 induction h with
 | mk q t F FN FP qs Fs hs hn hp hr hF ih=>
  subst hF;intro b a;rcases List.mem_append.1 a with a | a
  {rcases List.mem_append.1 a with a | a
   {rcases hn with ⟨_,rfl⟩ | ⟨c,_,rfl,d⟩
    {cases a}
    {rw[List.mem_singleton] at a; subst a; exact d.lt}}
   {rcases hp with ⟨_,rfl⟩ | ⟨c,_,rfl,d⟩
    {cases a}
    {rw[List.mem_singleton] at a; subst a; exact d.lt}}}
  {obtain ⟨i,hi,a⟩:=List.mem_flatMap.1 a;exact ih i (List.mem_range.1 hi) b a}
def Node (W:World) (g i:Nat) (t:Sh) (F:List Nat):Prop:= ∃q,Sh5 W g (i * 5) t q/\Own W q t F
structure Nd where
 g:Nat
 i:Nat
 t:Sh
 q:Ptr
def Ready (r:Nat) (T:Sh) (L:List Nd) (D:List Nat) (W:World):Prop:=
 ∀(W':World) (Fs:Nat->List Nat),W.heap.size<=W'.heap.size->
  (∀b∈D,∀k,(∀n∈L,¬(n.g=b/\(k=n.i * 5+3\/k=n.i * 5+4)))->W'.cell? ⟨b,k,none⟩=W.cell? ⟨b,k,none⟩)->
  (∀b∈D,∀k,W'.frozen? ⟨b,k,none⟩=W.frozen? ⟨b,k,none⟩)->
  (∀j (h:j < L.length),Node W' (L[j]'h).g (L[j]'h).i (L[j]'h).t (Fs j))->
  (∀j,j < L.length-> ∀b∈Fs j,b∉D)->((List.range L.length).flatMap Fs).Nodup->
  ∃F,Node W' r 0 T F/\F.Nodup/\ ∀b∈F,b∈D\/ ∃j,j < L.length/\b∈Fs j
theorem Ready.of {r:Nat} {T:Sh} {L:List Nd} {D:List Nat} {W a:World} (h:Ready r T L D W) (c: ∀b∈D,Z0y W a b) (d:W.heap.size<=a.heap.size):Ready r T L D a:=
 fun W' Fs hz' hc hf hN hd hn=>h W' Fs (Nat.le_trans d hz') (fun b hb k hx=>(hc b hb k hx).trans ((c b hb).1 k)) (fun b hb k=>(hf b hb k).trans ((c b hb).2 k)) hN hd hn
def kids (pb:Nat) (ps:List Sh) (qs:Nat->Ptr):List Nd:=ps.mapIdx fun i p=>⟨pb,i,p,qs i⟩
section
variable (pb : Nat) (ps : List Sh) (qs : Nat -> Ptr)
include pb ps qs
theorem Z0M: (kids pb ps qs).length=ps.length:=by simp[kids]
theorem Z1F (i:Nat) (h:i < (kids pb ps qs).length): (kids pb ps qs)[i]'h=⟨pb,i,ps[i]'(by rwa [Z0M] at h),qs i⟩:=by simp[kids]
end
theorem Z6B {a:Nat} {ps:List Sh} {b:Nat->Ptr} {n:Nd} (h:n∈kids a ps b):n.g=a:=by
 obtain ⟨i,c,rfl⟩:=List.getElem_of_mem h;rw[Z1F]
theorem Z5W {n m:Nat} (a:Nat->List Nat): (List.range (n+m)).flatMap a=(List.range n).flatMap a++(List.range m).flatMap (fun i=>a (n+i)):=by
 rw[List.range_add,List.flatMap_append,List.flatMap_map]
theorem Ready.step {r:Nat} {T:Sh} {L:List Nd} {a:Nd} {D t C:List Nat} {W z:World} {O:Ptr} {m:Nat} {B:Nat->Ptr} (hR:Ready r T (L++ [a]) D W) (hD: ∀b∈D,b < W.heap.size)
 (a6:a.g∈D) (a4: ∀n∈L,n.g∈D) (a8: ∀n∈L,n.g=a.g->n.i≠a.i) (b0:W.heap.size<=z.heap.size) (ha:Sh5 z a.g (a.i * 5) a.t O) (hs:Small a.t O)
 (hk: ∀b∈D,∀k,¬(a.g=b/\(k=a.i * 5+3\/k=a.i * 5+4))->z.cell? ⟨b,k,none⟩=W.cell? ⟨b,k,none⟩) (hf: ∀b∈D,∀k,z.frozen? ⟨b,k,none⟩=W.frozen? ⟨b,k,none⟩)
 (N:a.t.names.length=0/\t= []\/ ∃b,O.A=some ⟨b,0,none⟩/\t= [b]/\W.heap.size<=b/\TxR z b a.t.names)
 (hp:a.t.parts.length=0/\C= []\/O.P=some ⟨m,0,none⟩/\C= [m]/\W.heap.size<=m/\m∉t/\PaR z m a.t.parts B):
 Ready r T (L++kids m a.t.parts B) (D++t++C) z:=by
 intro W' Fs w u K hN H M;have g: (L++kids m a.t.parts B).length=L.length+a.t.parts.length:=by rw[List.length_append,Z0M]
 have a9: ∀n∈kids m a.t.parts B,a.t.parts.length≠0:=fun n N P=>by
  have:kids m a.t.parts B= []:=List.eq_nil_of_length_eq_zero (by rw[Z0M]; exact P);rw[this] at N; cases N
 have J: ∀n∈kids m a.t.parts B,n.g=m/\W.heap.size<=m/\m∉t:=fun n hnm=>by
  rcases hp with ⟨P,_⟩ | ⟨_,_,h3,E,_⟩
  {exact absurd P (a9 n hnm)}
  {exact ⟨Z6B hnm,h3,E⟩}
 have Q: ∀b∈t,W.heap.size<=b:=fun b d=>by
  rcases N with ⟨_,rfl⟩ | ⟨c,_,rfl,h3,_⟩
  {cases d}
  {rw[List.mem_singleton] at d; subst d; exact h3}
 have G: ∀b∈C,W.heap.size<=b/\b∉t:=fun b d=>by
  rcases hp with ⟨_,rfl⟩ | ⟨_,rfl,h3,E,_⟩
  {cases d}
  {rw[List.mem_singleton] at d; subst d; exact ⟨h3,E⟩}
 have S:t.Nodup:=by
  rcases N with ⟨_,rfl⟩ | ⟨c,_,rfl,_⟩ <;> simp
 have U:C.Nodup:=by
  rcases hp with ⟨_,rfl⟩ | ⟨_,rfl,_⟩ <;> simp
 let Fk:Nat->List Nat:=fun i=>Fs (L.length+i)
 let Fa:List Nat:=t++C++(List.range a.t.parts.length).flatMap Fk
 let Fs':Nat->List Nat:=fun j=>if j < L.length then Fs j else Fa
 rw[g] at H M;rw[Z5W] at M;have v:=List.nodup_append.1 M;have o: ∀j,j < L.length+a.t.parts.length-> ∀b∈Fs j,b∉D/\b∉t/\b∉C:=fun j p b d=>by
  have:=H j p b d;simp only[List.mem_append,not_or] at this;exact ⟨this.1.1,this.1.2,this.2⟩
 -- the place that was copied
 have Z: ∀i (h:i < a.t.parts.length),Node W' m i (a.t.parts[i]'h) (Fk i):=fun i hi=>by
  have h1:=hN (L.length+i) (by rw[g]; omega);have e: (L++kids m a.t.parts B)[L.length+i]'(by rw[g]; omega)=⟨m,i,a.t.parts[i]'hi,B i⟩:=by
   rw[List.getElem_append_right (by omega)];simp only[Nat.add_sub_cancel_left];exact Z1F _ _ _ _ _
  rw[e] at h1;exact h1
 have A: ∃qk:Nat->Ptr,∀i (h:i < a.t.parts.length),Sh5 W' m (i * 5) (a.t.parts[i]'h) (qk i)/\Own W' (qk i) (a.t.parts[i]'h) (Fk i):=by
  refine ⟨fun i=>if h:i < a.t.parts.length then (Z i h).choose else ⟨none,0,none,0⟩,fun i h=> ?_⟩;simp only[dif_pos h];exact (Z i h).choose_spec
 obtain ⟨qk,A⟩:=A;have I: ∀b∈D,∀k,(∀n∈L,¬(n.g=b/\(k=n.i * 5+3\/k=n.i * 5+4)))->W'.cell? ⟨b,k,none⟩=z.cell? ⟨b,k,none⟩:=fun b d k hx=>by
  refine u b (by simp[d]) k (fun n hnm=> ?_);rcases List.mem_append.1 hnm with h | h
  {exact hx n h}
  {intro ⟨h1,_⟩;have h2:=J n h;have:=hD b d;omega}
 have a5:Node W' a.g a.i a.t Fa:=by
  refine ⟨O, ?_,.mk O a.t Fa t C qk Fk hs ?_ ?_ (fun i hi=>(A i hi).2) rfl⟩
  {have e: ∀c,c < 5->W'.cell? ⟨a.g,a.i * 5+c,none⟩=z.cell? ⟨a.g,a.i * 5+c,none⟩:=fun c hc=>I a.g a6 _ (fun n hnm ⟨h1,h2⟩=>by
    have:=a8 n hnm h1;omega)
   obtain ⟨P,h1,h2,h3,E⟩:=ha;exact ⟨(e 0 (by omega)).trans P,(e 1 (by omega)).trans h1,(e 2 (by omega)).trans h2,(e 3 (by omega)).trans h3,(e 4 (by omega)).trans E⟩}
  {rcases N with h | ⟨b,h1,rfl,h3,E⟩
   {exact Or.inl h}
   {refine Or.inr ⟨b,h1,rfl,E.of ⟨fun k=>u b (by simp) k (fun n hnm=> ?_),fun k=>K b (by simp) k⟩ w⟩;rcases List.mem_append.1 hnm with h | h
    {intro ⟨h5,_⟩;have:=hD _ (a4 n h);omega}
    {intro ⟨h5,_⟩;have h6:=J n h;rw[List.mem_singleton] at h6;omega}}}
  {rcases hp with h | ⟨h1,rfl,h3,E,h5⟩
   {exact Or.inl h}
   {exact Or.inr ⟨m,h1,rfl,Nat.lt_of_lt_of_le h5.lt w,fun i hi=>(A i hi).1,fun k=>(K m (by simp) k).trans (h5.fz k)⟩}}
 have V: ∀b∈Fa,b∉D:=fun b d hbD=>by
  have c0:=hD b hbD;rcases List.mem_append.1 d with d | d
  {rcases List.mem_append.1 d with d | d
   {have:=Q b d; omega}
   {have:=(G b d).1; omega}}
  {obtain ⟨i,hi,d⟩:=List.mem_flatMap.1 d;exact (o (L.length+i) (by have:=List.mem_range.1 hi; omega) b d).1 hbD}
 have X:Fa.Nodup:=by
  refine List.nodup_append.2 ⟨List.nodup_append.2 ⟨S,U,fun x hx y s e=>(G y s).2 (e▸hx)⟩,v.2.1,fun x hx y s e=> ?_⟩;subst e;obtain ⟨i,hi,d⟩:=List.mem_flatMap.1 s;have h1:=o (L.length+i) (by have:=List.mem_range.1 hi; omega) x d;rcases List.mem_append.1 hx with h | h
  {exact h1.2.1 h}
  {exact h1.2.2 h}
 have q: (L++ [a]).length=L.length+1:=by simp
 have Y: (List.range L.length).flatMap Fs'=(List.range L.length).flatMap Fs:=by
  have: ∀(l:List Nat),(∀j∈l,j < L.length)->l.flatMap Fs'=l.flatMap Fs:=by
   intro l;induction l with
   | nil=>intro _; rfl
   | cons j l ih=>
    intro h;rw[List.flatMap_cons,List.flatMap_cons,ih (fun j p=>h j (by simp[p]))];simp only[Fs',if_pos (h j (by simp))]
  exact this _ (fun j p=>List.mem_range.1 p)
 obtain ⟨F,h1,h2,h3⟩:=hR W' Fs' (Nat.le_trans b0 w) (fun b d k hx=>by
  rw[I b d k (fun n hnm=>hx n (by simp[hnm]))];exact hk b d k (hx a (by simp)))
  (fun b d k=>(K b (by simp[d]) k).trans (hf b d k))
  (fun j p=>by
   rw[q] at p;by_cases f:j < L.length
   {have e: (L++ [a])[j]'(by rw[q]; omega)=L[j]'f:=List.getElem_append_left f;have h1:=hN j (by rw[g]; omega);have e2: (L++kids m a.t.parts B)[j]'(by rw[g]; omega)=L[j]'f:=List.getElem_append_left f;rw[e2] at h1;rw[e];simp only[Fs',if_pos f];exact h1}
   · have a7:j=L.length:=by omega
     subst a7;have e: (L++ [a])[L.length]'(by rw[q]; omega)=a:=by simp
     rw[e];simp only[Fs',if_neg f];exact a5)
  (fun j p b d=>by
   rw[q] at p;by_cases f:j < L.length
   {simp only[Fs',if_pos f] at d;exact (o j (by omega) b d).1}
   · simp only[Fs',if_neg f] at d
     exact V b d)
  (by
   rw[q,List.range_succ,List.flatMap_append,Y];have e: [L.length].flatMap Fs'=Fa:=by simp[Fs']
   rw[e];refine List.nodup_append.2 ⟨v.1,X,fun x hx y s e=> ?_⟩;subst e;obtain ⟨j,p,b1⟩:=List.mem_flatMap.1 hx;have hd:=o j (by have:=List.mem_range.1 p; omega) x b1;rcases List.mem_append.1 s with s | s
   {rcases List.mem_append.1 s with s | s
    {exact hd.2.1 s}
    {exact hd.2.2 s}}
   · exact v.2.2 x hx x s rfl)
 refine ⟨F,h1,h2,fun b d=> ?_⟩;rcases h3 b d with h | ⟨j,p,h⟩
 {exact Or.inl (by simp[h])}
 {rw[q] at p;by_cases f:j < L.length
  {simp only[Fs',if_pos f] at h;exact Or.inr ⟨j,by rw[g]; omega,h⟩}
  {simp only[Fs',if_neg f] at h;rcases List.mem_append.1 h with h | h
   {rcases List.mem_append.1 h with h | h
    {exact Or.inl (by simp[h])}
    {exact Or.inl (by simp[h])}}
   {obtain ⟨i,hi,h⟩:=List.mem_flatMap.1 h;exact Or.inr ⟨L.length+i,by rw[g]; have:=List.mem_range.1 hi; omega,h⟩}}}
end
end Go.Proofs.YtgndehppmaacaaaGreatDoor
namespace Prs
open Go.Proofs.YtgndehppmaacaaaGreatDoor (Tk)
section
variable {l : List Tk} {i : Nat} (h : ¬ i < l.length)
include l i h
theorem Zh1: (look l i).t=⟨0,[]⟩:=by
 by_cases a:0 < l.length
 {rw[look_out h a]}
 {rw[look_nil i (by omega)]}
theorem ZfJ: (look l i).t.kind=0:=by rw[Zh1 h]
end
def noShp (l:List Tk) (i:Nat):Bool:= !(decide ((look l i).t.kind=2))&& !(decide ((look l i).t.kind=1))&& !(sign l i [91])&& !(sign l i [123])&& !(sign l i [60])&& !(sign l i [40])
theorem ZmC {l:List Tk} {i:Nat} (n:Nat) (h:noShp l i=true):shp n l i= .error (no l i):=by
 cases n with
 | zero=>unfold shp; rfl
 | succ n=>
  unfold noShp at h;simp only[Bool.and_eq_true,Bool.not_eq_true',decide_eq_false_iff_not] at h;obtain ⟨⟨⟨⟨⟨b,a⟩,c⟩,d⟩,s3⟩,s4⟩:=h;unfold shp;rw[if_neg b,if_neg a,if_neg (by rw[c]; simp),if_neg (by rw[d]; simp),if_neg (by rw[s3]; simp),if_neg (by rw[s4]; simp)]
end Prs
namespace Go.Proofs.YtgndehppmaacaaaGreatDoor
open Go.RowKit Prs
open Shp (Sh)
def ShapeIs (r:R Sh) (v:Value) (W W':World):Prop:= ∃(s:Sh) (q:Ptr) (F:List Nat) (j:Int) (f:Flt),v= .tuple #[.agg (Y8 s q),.int .i64 j,.agg #[.int .i64 f.1,.int .i64 f.2]]/\
 match r with
 | .ok x=>s=x.1/\j=(x.2:Int)/\f=(0,0)/\Own W' q s F/\ ∀b∈F,W.heap.size<=b
 | .error g=>f=g/\g.1≠0
def zSh:Sh:=⟨0,[],[],[],[]⟩
def ZdU:Ptr:=⟨none,0,none,0⟩
def aW (w:World):World:=(w.alloc (.cells Yb 28)).alloc (.cells Yc 31)
theorem ZcH (w:World):Below w.heap.size w (aW w):=Z0h (Z01 _ _) _
theorem Zd3 (w:World):ZcD (aW w) w.heap.size:=by
 refine ⟨by simp[aW]; omega,⟨?_, ?_, ?_, ?_, ?_⟩, ?_, ?_, ?_, ?_, ?_⟩ <;> simp[aW,go_sem]
theorem Zdg (w:World):Box2 (aW w) (w.heap.size+1) 0 0:=by
 refine ⟨by simp[aW], ?_, ?_, ?_, ?_⟩ <;> simp[aW,go_sem]
theorem ZcD.next {W W':World} {g:Nat} (h:ZcD W g) (b:Below W.heap.size W W'):ZcD W' g:=by
 obtain ⟨a,⟨m,n,o,q,r⟩,d,e,i,j,l⟩:=h;have c: ∀k,W'.cell? ⟨g,k,none⟩=W.cell? ⟨g,k,none⟩:=fun k=>b.cell (p:=⟨g,k,none⟩) a;have f: ∀k,W'.frozen? ⟨g,k,none⟩=W.frozen? ⟨g,k,none⟩:=fun k=>b.frozen (p:=⟨g,k,none⟩) a;exact ⟨Nat.lt_of_lt_of_le a b.size,⟨(c 0).trans m,(c 1).trans n,(c 2).trans o,(c 3).trans q,(c 4).trans r⟩,(f 0).trans d,(f 1).trans e,(f 2).trans i,(f 3).trans j,(f 4).trans l⟩
theorem ZmD (A:Option Addr) (c:Nat) (l:List Tk) (i:Nat) (n:Nat) (y:l.length<=1000000) (u:i<=2000000) (t:noShp l i=true) (w:World) (h:Tks w w.heap.size A l):
 Calls Tryz.prog 32 #[.slice A l.length c,.int .i64 (i:Int)] w fun e w'=> ∃v,e= .returned v/\ShapeIs (shp n l i) v w w'/\Below w.heap.size w w':=by
 have HE:=Y1 (ZmC n t);have T:=Y1 (ZcH w);have X:=Y1 (Zd3 w);have Q:=Y1 (Zdg w);have P:=Y1 (h.on (ZcH w));have j:=t;unfold noShp at j;simp only[Bool.and_eq_true,Bool.not_eq_true',decide_eq_false_iff_not] at j;obtain ⟨⟨⟨⟨⟨Z,Y⟩,s1⟩,s2⟩,s3⟩,s4⟩:=j;have O:=Y1 (And.intro s1 (And.intro s2 (And.intro s3 s4)));obtain ⟨x,hx⟩: ∃x,x=Prs.look l i:=⟨_,rfl⟩;have W:=Y1 hx;rw[<-hx] at Y Z;have e2: (x.t.kind==2)=false:=by simpa using Z
 have e1: (x.t.kind==1)=false:=by simpa using Y
 obtain ⟨f,hf⟩: ∃f,f=no l i:=⟨_,rfl⟩;have HF:=Y1 hf;clear h t Y Z s1 s2 s3 s4 hx hf;go_enter Tryz.func32,Tryz.ntmps32
 go_wp2_with fail
 change Calls _ _ _ (aW w) _;obtain ⟨S,N⟩: ∃S,S=w.heap.size+1:=⟨_,rfl⟩;rw[<-N] at Q ⊢;have a2:w.heap.size≠S:=by omega
 have V:Hid (w.heap.size<=S):=Y1 (by omega);generalize aW w=W0 at T X Q P ⊢;clear N;have hL:=ZcY A c l i y u W0 P.out;rw[<-W.out] at hL;refine hL.mono ?_;rintro e w1 ⟨rfl,d⟩;have g:=Z01 w1 (.cells #[.int .i64 x.t.kind,.string ⟨x.t.text.toArray⟩,.int .i64 x.at_] 46);obtain ⟨t0,t1⟩:=Zdf w1 x;have m:=Y1 (Z03 (Z03 T.out d) g);have s:=Y1 ((X.out.next d).next g);have r:=Y1 ((Q.out.next d).next g);have k:=Y1 ((P.out.on d).on g);clear hL d g T X Q P
 go_wp2_with fail
 generalize w1.alloc (.cells #[.int .i64 x.t.kind,.string ⟨x.t.text.toArray⟩,.int .i64 x.at_] 46)=V1 at m s r k t0 t1 ⊢;have b:=ZcM A c l i [91] y u V1 k.out;rw[O.out.1] at b;refine b.mono ?_;rintro e V2 ⟨rfl,a⟩;have z:=Y1 (Z03 m.out a);have J:=Y1 (s.out.next a);have F:=Y1 (r.out.next a);have o:=Y1 (k.out.on a);clear b a t0 t1
 go_wp2_with fail
 have b:=ZcM A c l i [123] y u V2 o.out;rw[O.out.2.1] at b;refine b.mono ?_;rintro e V3 ⟨rfl,a⟩;have B:=Y1 (Z03 z.out a);have K:=Y1 (J.out.next a);have G:=Y1 (F.out.next a);have p:=Y1 (o.out.on a);clear b a
 go_wp2_with fail
 have b:=ZcM A c l i [60] y u V3 p.out;rw[O.out.2.2.1] at b;refine b.mono ?_;rintro e V4 ⟨rfl,a⟩;have C:=Y1 (Z03 B.out a);have L:=Y1 (K.out.next a);have H:=Y1 (G.out.next a);have q:=Y1 (p.out.on a);clear b a
 go_wp2_with fail
 have b:=ZcM A c l i [40] y u V4 q.out;rw[O.out.2.2.2] at b;refine b.mono ?_;rintro e V5 ⟨rfl,a⟩;have D:=Y1 (Z03 C.out a);have M:=Y1 (L.out.next a);have I:=Y1 (H.out.next a);have E:=Y1 (q.out.on a);clear b a
 go_wp2_with fail
 have hN:=ZfF A c l i y u V5 E.out;rw[<-HF.out] at hN;refine hN.mono ?_;rintro e V6 ⟨rfl,a⟩;have U:=Y1 (Z03 D.out a);obtain ⟨q0,⟨z0,z1,z2,z3,z4⟩,y0,y1,y2,y3,y4⟩:=M.out.next a;obtain ⟨p0,x0,x1,v0,v1⟩:=I.out.next a;clear hN a m z B C D s J K L M r F G H I k o p q E;go_wp2;refine bodyPost_ret (v:= .tuple #[.agg #[.int .i64 0,.string ⟨#[]⟩,.string ⟨#[]⟩,.slice none 0 0,.slice none 0 0],.int .i64 (i:Int),.agg #[.int .i64 f.1,.int .i64 f.2]]) (by simp[results,Tryz.results32,go_sem,q0,z0,z1,z2,z3,z4,p0,x0,x1,a2]) rfl ?_;exact ⟨_,rfl,⟨zSh,ZdU,[],(i:Int),f,rfl,by rw[HE.out]; exact ⟨HF.out,show (90:Int)≠0 by decide⟩⟩,ZcI (ZcT U.out (Nat.le_refl _) _ _ _ _ _) V.out _ _⟩
end Go.Proofs.YtgndehppmaacaaaGreatDoor
