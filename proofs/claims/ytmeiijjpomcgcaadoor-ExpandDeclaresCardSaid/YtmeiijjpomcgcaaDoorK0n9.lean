/- What the proofs of ExpandDeclares want, part 9. -/
import Derived.WalkLawsBesides
import Derived.Test.YtmeiijjpomcgcaaDoorK0n8
set_option linter.unusedVariables false
set_option linter.unusedSimpArgs false
set_option linter.unusedSectionVars false
set_option maxRecDepth 100000
set_option maxHeartbeats 16000000
namespace Go.Proofs.YtmeiijjpomcgcaaDoor
section
open Go.RowKit Shp
def wordB (s:List UInt8):Bool:= []==s|| [73,110,116]==s|| [66,111,111,108]==s|| [84,101,120,116]==s|| [65,110,121]==s
def NotYet (s:List UInt8) (i:Int):Prop:=((1:Int)<=i->(([]:List UInt8)==s)=false)/\((2:Int)<=i->([73,110,116]==s)=false)/\((3:Int)<=i->([66,111,111,108]==s)=false)/\((4:Int)<=i->([84,101,120,116]==s)=false)/\((5:Int)<=i->([65,110,121]==s)=false)
theorem Z6S (s:List UInt8) (w:World) (hg:WGlobs w):
 Calls Tryd.prog 68 #[.string ⟨s.toArray⟩] w fun e w'=>e= .returned (.bool (wordB s))/\w=w':=by
 have c0:w.cell? ⟨0,0,none⟩=some (.string ⟨#[]⟩):=hg.cell 0;have c1:w.cell? ⟨0,1,none⟩=some (.string ⟨#[73,110,116]⟩):=hg.cell 1;have c2:w.cell? ⟨0,2,none⟩=some (.string ⟨#[66,111,111,108]⟩):=hg.cell 2;have c3:w.cell? ⟨0,3,none⟩=some (.string ⟨#[84,101,120,116]⟩):=hg.cell 3;have c4:w.cell? ⟨0,4,none⟩=some (.string ⟨#[65,110,121]⟩):=hg.cell 4;clear hg;have i0: ∀W,(Instr.index 132 (.agg #[.string ⟨#[]⟩,.string ⟨#[73,110,116]⟩,.string ⟨#[66,111,111,108]⟩,.string ⟨#[84,101,120,116]⟩,.string ⟨#[65,110,121]⟩]) (.int .i64 0)).run Tryd.prog W= .ok (.string ⟨#[]⟩) W:=fun W=>by kernel_rfl
 have i1: ∀W,(Instr.index 132 (.agg #[.string ⟨#[]⟩,.string ⟨#[73,110,116]⟩,.string ⟨#[66,111,111,108]⟩,.string ⟨#[84,101,120,116]⟩,.string ⟨#[65,110,121]⟩]) (.int .i64 1)).run Tryd.prog W= .ok (.string ⟨#[73,110,116]⟩) W:=fun W=>by kernel_rfl
 have i2: ∀W,(Instr.index 132 (.agg #[.string ⟨#[]⟩,.string ⟨#[73,110,116]⟩,.string ⟨#[66,111,111,108]⟩,.string ⟨#[84,101,120,116]⟩,.string ⟨#[65,110,121]⟩]) (.int .i64 2)).run Tryd.prog W= .ok (.string ⟨#[66,111,111,108]⟩) W:=fun W=>by kernel_rfl
 have i3: ∀W,(Instr.index 132 (.agg #[.string ⟨#[]⟩,.string ⟨#[73,110,116]⟩,.string ⟨#[66,111,111,108]⟩,.string ⟨#[84,101,120,116]⟩,.string ⟨#[65,110,121]⟩]) (.int .i64 3)).run Tryd.prog W= .ok (.string ⟨#[84,101,120,116]⟩) W:=fun W=>by kernel_rfl
 have i4: ∀W,(Instr.index 132 (.agg #[.string ⟨#[]⟩,.string ⟨#[73,110,116]⟩,.string ⟨#[66,111,111,108]⟩,.string ⟨#[84,101,120,116]⟩,.string ⟨#[65,110,121]⟩]) (.int .i64 4)).run Tryd.prog W= .ok (.string ⟨#[65,110,121]⟩) W:=fun W=>by kernel_rfl
 go_enter Tryd.func68,Tryd.ntmps68
 go_wp2_with fail
 go_loopw [6] (fun ii wr=> ∃i:Int,ii= .int .i64 i/\0<=i/\i<=5/\Hid (NotYet s i)/\w=wr)
  (fun i _=>(5 - intOf i).toNat)
 case atStart=>exact ⟨0,rfl,by omega,by omega,Y1 ⟨fun h=>absurd h (by omega),fun h=>absurd h (by omega),fun h=>absurd h (by omega),fun h=>absurd h (by omega),fun h=>absurd h (by omega)⟩,rfl⟩
 case round=>
  obtain ⟨i,rfl,hi0,hi,HN,rfl⟩:=hrel;clear c0 c1 c2 c3 c4;have hc:i=0\/i=1\/i=2\/i=3\/i=4\/i=5:=by omega
  rcases hc with rfl | rfl | rfl | rfl | rfl | rfl
  {cases hq: (([]:List UInt8)==s)
   {have HN2:Hid (NotYet s 1):=Y1 (show ((1:Int)<=1->(([]:List UInt8)==s)=false)/\((2:Int)<=1->([73,110,116]==s)=false)/\((3:Int)<=1->([66,111,111,108]==s)=false)/\((4:Int)<=1->([84,101,120,116]==s)=false)/\((5:Int)<=1->([65,110,121]==s)=false) from ⟨fun _=>hq,fun h=>absurd h (by omega),fun h=>absurd h (by omega),fun h=>absurd h (by omega),fun h=>absurd h (by omega)⟩);have hqe:s.isEmpty=false:=by cases s <;> simp_all
    go_wp2
    go_roundw
    case rel=>exact ⟨1,rfl,by omega,by omega,HN2,trivial⟩
    case measure=>simp[intOf]}
   {have HF:Hid (wordB s=true):=Y1 (by unfold wordB; rw[hq]; simp);have hqe:s.isEmpty=true:=by cases s <;> simp_all
    go_wp2;go_ret;exact ⟨by rw[HF.out]; rfl,rfl⟩}}
  {cases hq: ([73,110,116]==s)
   {have HN2:Hid (NotYet s 2):=Y1 (show ((1:Int)<=2->(([]:List UInt8)==s)=false)/\((2:Int)<=2->([73,110,116]==s)=false)/\((3:Int)<=2->([66,111,111,108]==s)=false)/\((4:Int)<=2->([84,101,120,116]==s)=false)/\((5:Int)<=2->([65,110,121]==s)=false) from ⟨fun _=>HN.out.1 (by omega),fun _=>hq,fun h=>absurd h (by omega),fun h=>absurd h (by omega),fun h=>absurd h (by omega)⟩);go_wp2
    go_roundw
    case rel=>exact ⟨2,rfl,by omega,by omega,HN2,trivial⟩
    case measure=>simp[intOf]}
   {have HF:Hid (wordB s=true):=Y1 (by unfold wordB; rw[hq]; simp);go_wp2;go_ret;exact ⟨by rw[HF.out]; rfl,rfl⟩}}
  {cases hq: ([66,111,111,108]==s)
   {have HN2:Hid (NotYet s 3):=Y1 (show ((1:Int)<=3->(([]:List UInt8)==s)=false)/\((2:Int)<=3->([73,110,116]==s)=false)/\((3:Int)<=3->([66,111,111,108]==s)=false)/\((4:Int)<=3->([84,101,120,116]==s)=false)/\((5:Int)<=3->([65,110,121]==s)=false) from ⟨fun _=>HN.out.1 (by omega),fun _=>HN.out.2.1 (by omega),fun _=>hq,fun h=>absurd h (by omega),fun h=>absurd h (by omega)⟩);go_wp2
    go_roundw
    case rel=>exact ⟨3,rfl,by omega,by omega,HN2,trivial⟩
    case measure=>simp[intOf]}
   {have HF:Hid (wordB s=true):=Y1 (by unfold wordB; rw[hq]; simp);go_wp2;go_ret;exact ⟨by rw[HF.out]; rfl,rfl⟩}}
  {cases hq: ([84,101,120,116]==s)
   {have HN2:Hid (NotYet s 4):=Y1 (show ((1:Int)<=4->(([]:List UInt8)==s)=false)/\((2:Int)<=4->([73,110,116]==s)=false)/\((3:Int)<=4->([66,111,111,108]==s)=false)/\((4:Int)<=4->([84,101,120,116]==s)=false)/\((5:Int)<=4->([65,110,121]==s)=false) from ⟨fun _=>HN.out.1 (by omega),fun _=>HN.out.2.1 (by omega),fun _=>HN.out.2.2.1 (by omega),fun _=>hq,fun h=>absurd h (by omega)⟩);go_wp2
    go_roundw
    case rel=>exact ⟨4,rfl,by omega,by omega,HN2,trivial⟩
    case measure=>simp[intOf]}
   {have HF:Hid (wordB s=true):=Y1 (by unfold wordB; rw[hq]; simp);go_wp2;go_ret;exact ⟨by rw[HF.out]; rfl,rfl⟩}}
  {cases hq: ([65,110,121]==s)
   {have HN2:Hid (NotYet s 5):=Y1 (show ((1:Int)<=5->(([]:List UInt8)==s)=false)/\((2:Int)<=5->([73,110,116]==s)=false)/\((3:Int)<=5->([66,111,111,108]==s)=false)/\((4:Int)<=5->([84,101,120,116]==s)=false)/\((5:Int)<=5->([65,110,121]==s)=false) from ⟨fun _=>HN.out.1 (by omega),fun _=>HN.out.2.1 (by omega),fun _=>HN.out.2.2.1 (by omega),fun _=>HN.out.2.2.2.1 (by omega),fun _=>hq⟩);go_wp2
    go_roundw
    case rel=>exact ⟨5,rfl,by omega,by omega,HN2,trivial⟩
    case measure=>simp[intOf]}
   {have HF:Hid (wordB s=true):=Y1 (by unfold wordB; rw[hq]; simp);go_wp2;go_ret;exact ⟨by rw[HF.out]; rfl,rfl⟩}}
  {have HF:Hid (wordB s=false):=Y1 (by
    unfold wordB;obtain ⟨h0,h1,h2,h3,h4⟩:=HN.out;rw[h0 (by omega),h1 (by omega),h2 (by omega),h3 (by omega),h4 (by omega)]; rfl)
   go_wp2;go_ret;exact ⟨by rw[HF.out]; rfl,rfl⟩}
theorem Z0H {l:List UInt8} {b:Bool} (h: (l== [])=b):l.isEmpty=b:=by cases l <;> simp_all
theorem Z1l {l:List (List UInt8)}: ((l.length:Int)==0)=decide (l.length=0):=by rw[Bool.eq_iff_iff]; simp
theorem Z7Z (t:Sh) (q:Ptr) (w:World) (hq:ShAt w w.heap.size q t) (hk:t.kind=9\/t.kind=10):
 Calls Tryd.prog 53 #[.agg (Y8 t q)] w
  fun e w'=>e= .returned (.bool (fits t))/\Below w.heap.size w w':=by
 have HS:=Y1 hq.small;have hB:=Z07 w t q;have HB:=Y1 hB;have hb0:=Z01 w (.cells (Y8 t q) 25);have HB0:=Y1 hb0;have HF:=Y1 (Z29 hk);have HO:Hid (ofOk t=(Lex.isName t.of_||(t.of_== []&&decide (t.kind=9)&& !plain t.name))):=Y1 rfl;have HPL:Hid (plain t.name=(t.name== [73,110,116]||t.name== [66,111,111,108]||t.name== [84,101,120,116]||t.name== [65,110,121])):=Y1 rfl;obtain ⟨h9,h10⟩: ((t.kind==9)=true\/(t.kind==9)=false/\(t.kind==10)=true)/\True:=⟨by rcases hk with h | h <;> simp[h],trivial⟩;have HD9:Hid (decide (t.kind=9)=(t.kind==9)):=Y1 (by rw[Bool.eq_iff_iff]; simp);clear hB hb0 hq h10 hk;rcases h9 with h9 | ⟨h9,h10⟩
 all_goals
  have H9:=Y1 h9;go_enter Tryd.func53,Tryd.ntmps53
  go_upto_region 1 with fail
  generalize hW0:w.alloc (.cells (Y8 t q) 25)=W0 at HB HB0 ⊢;clear hW0;obtain ⟨_,⟨c0,c1,c2,c3,c4⟩,_⟩:=HB.out
  go_upto_region 2 with fail
  go_cut [3] (fun p wx=>p= .bool (plain t.name)/\W0=wx)
  case first=>
   cases e1: (t.name== [73,110,116])
   {cases e2: (t.name== [66,111,111,108])
    {cases e3: (t.name== [84,101,120,116])
     {cases e4: (t.name== [65,110,121])
      all_goals
       have HE:Hid _:=Y1 (show plain t.name=_ from by rw[HPL.out,e1,e2,e3,e4])
       go_wp2_with fail
       go_meet
       exact ⟨by rw[HE.out]; rfl,rfl⟩}
     {have HE:Hid _:=Y1 (show plain t.name=_ from by rw[HPL.out,e1,e2,e3])
      go_wp2_with fail
      go_meet
      exact ⟨by rw[HE.out]; rfl,rfl⟩}}
    {have HE:Hid _:=Y1 (show plain t.name=_ from by rw[HPL.out,e1,e2])
     go_wp2_with fail
     go_meet
     exact ⟨by rw[HE.out]; rfl,rfl⟩}}
   {have HE:Hid _:=Y1 (show plain t.name=_ from by rw[HPL.out,e1])
    go_wp2_with fail
    go_meet
    exact ⟨by rw[HE.out]; rfl,rfl⟩}
  case rest=>
   obtain ⟨rfl,rfl⟩:=hcut;have hlo:=HS.out.o;have hln:=HS.out.n;generalize plain t.name=pl at HO ⊢
   go_upto_region 3 with fail
   go_cut [4] (fun o wx=>o= .bool (ofOk t)/\Below W0.heap.size W0 wx)
   case first=>
    have hw:=Z3o t.of_ hlo W0;have hblk:=HB.out.1;cases hn:Lex.isName t.of_
    {cases ho: (t.of_== [])
     {have HE:Hid (ofOk t=false):=Y1 (by rw[HO.out,hn,ho]; rfl);have hoe:=Z0H ho;rw[hn] at hw;clear hn ho
      go_wp2_with fail
      refine hw.mono ?_;rintro e w' ⟨rfl,hb'⟩;have c1':=(hb'.cell (p:=⟨w.heap.size,1,none⟩) hblk).trans c1
      go_wp2_with fail
      go_meet
      exact ⟨by (first | (rw[HE.out]; done) | (rw[HE.out]; rfl)),hb'⟩}
     {have HE:Hid (ofOk t=((t.kind==9)&& !pl)):=Y1 (by rw[HO.out,hn,ho,HD9.out]; rfl);rw[H9.out] at HE;have hoe:=Z0H ho;rw[hn] at hw;clear hn ho
      go_wp2_with fail
      refine hw.mono ?_;rintro e w' ⟨rfl,hb'⟩;have c1':=(hb'.cell (p:=⟨w.heap.size,1,none⟩) hblk).trans c1;have c0':=(hb'.cell (p:=⟨w.heap.size,0,none⟩) hblk).trans c0
      go_wp2_with fail
      go_meet
      exact ⟨by (first | (rw[HE.out]; done) | (rw[HE.out]; rfl)),hb'⟩}}
    {have HE:Hid (ofOk t=true):=Y1 (by rw[HO.out,hn]; rfl);rw[hn] at hw;clear hn
     go_wp2_with fail
     refine hw.mono ?_;rintro e w' ⟨rfl,hb'⟩
     go_wp2_with fail
     go_meet
     exact ⟨by (first | (rw[HE.out]; done) | (rw[HE.out]; rfl)),hb'⟩}
   case rest=>
    obtain ⟨rfl,hb'⟩:=hcut;have hbw:Below w.heap.size w _:=HB0.out.trans (hb'.mono HB0.out.size);obtain ⟨_,⟨d0,d1,d2,d3,d4⟩,_⟩:=HB.out.next hb';clear c0 c1 c2 c3 c4;have hw:=fun wx=>Z7l t.name hln wx;have hblk:=HB.out.1;generalize ofOk t=ok at HF ⊢;cases hn:Lex.isUpper t.name
    {rw[hn] at HF;simp only[hn] at hw;clear hn
     go_wp2_with fail
     refine (hw _).mono ?_;rintro e w' ⟨rfl,hb2⟩;go_wp2;go_ret;exact ⟨by rw[HF.out]; rfl,hbw.trans (hb2.mono hbw.size)⟩}
    {rw[hn] at HF;simp only[hn] at hw;clear hn;cases ok
     {go_wp2_with fail
      refine (hw _).mono ?_;rintro e w' ⟨rfl,hb2⟩;go_wp2;go_ret;exact ⟨by rw[HF.out]; rfl,hbw.trans (hb2.mono hbw.size)⟩}
     {have HX:=Y1 (HB.out.next hb');cases hz:decide (t.names.length=0)
      {have HF2:=HF;rw[hz] at HF2;have hz2: ((t.names.length:Int)==0)=false:=by rw[Z1l]; exact hz
       have HZ:=Y1 hz;clear hz
       go_wp2_with fail
       refine (hw _).mono ?_;rintro e w' ⟨rfl,hb2⟩;obtain ⟨_,⟨e0,e1,e2,e3,e4⟩,_⟩:=HX.out.next hb2;go_wp2;go_ret;exact ⟨by rw[HF2.out]; rfl,hbw.trans (hb2.mono hbw.size)⟩}
      {have HF2:=HF;rw[hz] at HF2;have hz2: ((t.names.length:Int)==0)=true:=by rw[Z1l]; exact hz
       clear hz
       go_wp2_with fail
       refine (hw _).mono ?_;rintro e w' ⟨rfl,hb2⟩;obtain ⟨_,⟨e0,e1,e2,e3,e4⟩,_⟩:=HX.out.next hb2;go_wp2;go_ret;exact ⟨Z0p (by rw[HF2.out,Bool.eq_iff_iff]; simp),hbw.trans (hb2.mono hbw.size)⟩}}}
end
end Go.Proofs.YtmeiijjpomcgcaaDoor
namespace Shp
def nameOk (t:Sh) (wordB:List UInt8->Bool):Bool:=if t.of_= [] then Lex.isUpper t.name&& !wordB t.name else Lex.isName t.of_&&Lex.isUpper t.name
section
variable {t : Sh}
include t
theorem Z9i (h1:1<=t.kind) (h2:t.kind<=4):fits t=(bare t&&decide (t.names.length=0)&&decide (t.parts.length=0)):=by
 cases hb:bare t with
 | false=>rw[Z0Z (by omega) hb]; rfl
 | true=>
  by_cases hz:0 < t.names.length
  {rw[Z1E (by omega) hb (by omega) hz,decide_eq_false (p:=t.names.length=0) (by omega)]; rfl}
  {rw[Z2C hb (by omega) (by omega) hz (by omega) (by omega),decide_eq_true h1,decide_eq_true h2,decide_eq_true (p:=t.names.length=0) (by omega)]}
theorem Z9j (h:t.kind=5):fits t=(bare t&&decide (t.names.length=0)&&decide (t.parts.length=1)):=by
 cases hb:bare t with
 | false=>rw[Z0Z (by omega) hb]; rfl
 | true=>
  by_cases hz:0 < t.names.length
  {rw[Z1E (by omega) hb (by omega) hz,decide_eq_false (p:=t.names.length=0) (by omega)]; rfl}
  {rw[Z3R hb h hz,decide_eq_true (p:=t.names.length=0) (by omega)]; rfl}
theorem ZaE (h:t.kind=8):fits t=(bare t&&decide (t.names.length=0)&&decide (0 < t.parts.length)):=by
 cases hb:bare t with
 | false=>rw[Z0Z (by omega) hb]; rfl
 | true=>
  by_cases hz:0 < t.names.length
  {rw[Z1E (by omega) hb (by omega) hz,decide_eq_false (p:=t.names.length=0) (by omega)]; rfl}
  {rw[Z4B hb h hz,decide_eq_true (p:=t.names.length=0) (by omega)]; rfl}
theorem ZaF (h:t.kind=6\/t.kind=7):fits t=(bare t&&decide (t.names.length=t.parts.length)&&areNames t.names):=by
 cases hb:bare t with
 | false=>rw[Z0Z (by omega) hb]; rfl
 | true=>rw[Z2o hb h,Bool.true_and,Bool.and_comm]
theorem ZaG (h:t.kind < 1\/10 < t.kind):fits t=false:=by
 cases hb:bare t with
 | false=>rw[Z0Z (by omega) hb]
 | true=>
  by_cases hz:0 < t.names.length
  {rw[Z1E (by omega) hb (by omega) hz]}
  {rw[Z2C hb (by omega) (by omega) hz (by omega) (by omega)];rcases h with h | h
   {rw[decide_eq_false (by omega)]; rfl}
   {rw[decide_eq_false (p:=t.kind<=4) (by omega),Bool.and_false]; rfl}}
theorem Z80 (h:t.kind=10):fits t=(Lex.isName t.of_&&Lex.isUpper t.name&&decide (t.names.length=0)&&decide (t.parts.length=0)):=by
 rw[Z29 (Or.inr h)];unfold ofOk;rw[h,show decide ((10:Int)=9)=false from rfl,Bool.and_false,Bool.false_and,Bool.or_false,Bool.and_comm (Lex.isUpper t.name)]
end
end Shp
namespace Go.Proofs.YtmeiijjpomcgcaaDoor
open Go.RowKit Shp
theorem ZaH:Lex.isUpper []=false:=rfl
theorem Z81 {s:List UInt8} (h:Lex.isUpper s=true):wordB s=plain s:=by
 have h0: ([]==s)=false:=by
  cases s with
  | nil=>rw[ZaH] at h; cases h
  | cons a l=>rfl
 have c: ∀a b:List UInt8,(a==b)=(b==a):=fun a b=>by rw[Bool.eq_iff_iff,beq_iff_eq,beq_iff_eq]; exact eq_comm
 unfold wordB plain;rw[h0,Bool.false_or,c [73,110,116],c [66,111,111,108],c [84,101,120,116],c [65,110,121]]
theorem Z9k {t:Sh} (h:t.kind=9):fits t=(nameOk t wordB&&decide (t.names.length=0)&&decide (t.parts.length=0)):=by
 rw[Z29 (Or.inl h)];congr 2;unfold ofOk nameOk;rw[h,show decide ((9:Int)=9)=true from rfl,Bool.and_true];by_cases ho:t.of_= []
 {rw[if_pos ho,ho];cases hu:Lex.isUpper t.name with
  | false=>rfl
  | true=>rw[Z81 hu]; rfl}
 {rw[if_neg ho,show (t.of_== [])=false from beq_eq_false_iff_ne.2 ho,Bool.false_and,Bool.or_false,Bool.and_comm]}
theorem Z45 (t:Sh) (q:Ptr) (w:World):
 Y9 56 #[.agg (Y8 t q)] w (.bool (bare t)):=by
 have HB:Hid (bare t=(t.of_== []&&t.name== [])):=Y1 rfl;have hb0:=Z01 w (.cells (Y8 t q) 25);have HB0:=Y1 hb0;clear hb0;obtain ⟨_,⟨c0,c1,c2,c3,c4⟩,_⟩:=Z07 w t q;cases h1: (t.of_== [])
 {have hoe:=Z0H h1;have HF:Hid (bare t=false):=Y1 (by rw[HB.out,h1]; rfl);clear h1;go_enter Tryd.func56,Tryd.ntmps56;go_wp2;go_ret;exact ⟨by rw[HF.out]; rfl,HB0.out⟩}
 {have hoe:=Z0H h1;cases h2: (t.name== [])
  all_goals
   have hne:=Z0H h2;have HF:Hid _:=Y1 (show bare t=_ from by rw[HB.out,h1,h2]);clear h1 h2;go_enter Tryd.func56,Tryd.ntmps56;go_wp2;go_ret;exact ⟨Z0p (by rw[HF.out]; rfl),HB0.out⟩}
theorem Z82 (t:Sh) (q:Ptr) (w:World) (hs:Small t q) (hg:WGlobs w):
 Y9 58 #[.agg (Y8 t q)] w (.bool (nameOk t wordB)):=by
 have HS:=Y1 hs;have HB:Hid (nameOk t wordB=if t.of_= [] then Lex.isUpper t.name&& !wordB t.name else Lex.isName t.of_&&Lex.isUpper t.name):=Y1 rfl;have hb0:=Z01 w (.cells (Y8 t q) 25);have hu:=fun W=>Z4l t.name HS.out.n W;have hn:=fun W=>Z2i t.of_ HS.out.o W;have hw:=Z6S t.name _ (hg.next hb0);have HB0:=Y1 hb0;clear hb0 hg hs;obtain ⟨_,⟨c0,c1,c2,c3,c4⟩,_⟩:=Z07 w t q;cases h1: (t.of_== [])
 {have hoe:=Z0H h1;have HF:Hid (nameOk t wordB=(Lex.isName t.of_&&Lex.isUpper t.name)):=Y1 (by rw[HB.out,if_neg (by simpa using h1)]);clear h1;cases h2:Lex.isName t.of_
  all_goals
   rw[h2] at HF;simp only[h2] at hn;clear h2;go_enter Tryd.func58,Tryd.ntmps58
   go_wp2_with fail
   refine (hn _).mono ?_;rintro e w' ⟨rfl,rfl⟩
  {go_wp2;go_ret;exact ⟨by rw[HF.out]; rfl,HB0.out⟩}
  {go_wp2_with fail
   refine (hu _).mono ?_;rintro e w' ⟨rfl,rfl⟩;go_wp2;go_ret;exact ⟨Z0p (by rw[HF.out]; rfl),HB0.out⟩}}
 {have hoe:=Z0H h1;have HF:Hid (nameOk t wordB=(Lex.isUpper t.name&& !wordB t.name)):=Y1 (by rw[HB.out,if_pos (by simpa using h1)]);clear h1;cases h2:Lex.isUpper t.name
  all_goals
   rw[h2] at HF;simp only[h2] at hu;clear h2;go_enter Tryd.func58,Tryd.ntmps58
   go_wp2_with fail
   refine (hu _).mono ?_;rintro e w' ⟨rfl,rfl⟩
  {go_wp2;go_ret;exact ⟨by rw[HF.out]; rfl,HB0.out⟩}
  {go_wp2_with fail
   refine hw.mono ?_;rintro e w' ⟨rfl,rfl⟩;go_wp2;go_ret;exact ⟨Z0p (by rw[HF.out]; rfl),HB0.out⟩}}
theorem Z8r {a b:Nat}: ((a:Int)==(b:Int))=decide (a=b):=by rw[Bool.eq_iff_iff,beq_iff_eq,decide_eq_true_eq]; omega
theorem Z0A {k n:Int} (m:Int) (h:k=n) (e: (n==m)=true): (k==m)=true:=by rw[h]; exact e
theorem Z0q {k n:Int} (m:Int) (h:k=n) (e: (n==m)=false): (k==m)=false:=by rw[h]; exact e
section
variable (t : Sh) (q : Ptr) (w : World) (hq : ShAt w w.heap.size q t) (hg : WGlobs w)
include t q w hq hg
theorem Zc1 (hk:t.kind=1\/t.kind=2\/t.kind=3\/t.kind=4\/t.kind=5\/t.kind=8):
 Y9 48 #[.agg (Y8 t q)] w (.bool (fits t)):=by
 have HS:=Y1 hq.small;have HA:=Y1 hq.strs;have hB:=Z07 w t q;have HB:=Y1 hB;have hb0:=Z01 w (.cells (Y8 t q) 25);have HB0:=Y1 hb0;have HG:=Y1 (hg.next hb0);obtain ⟨_,⟨c0,c1,c2,c3,c4⟩,_⟩:=hB;rcases hk with hk | hk | hk | hk | hk | hk
 all_goals
  first | have k1:=Z0A 1 hk rfl | have k1:=Z0q 1 hk rfl
  first | have k2:=Z0A 2 hk rfl | have k2:=Z0q 2 hk rfl
  first | have k3:=Z0A 3 hk rfl | have k3:=Z0q 3 hk rfl
  first | have k4:=Z0A 4 hk rfl | have k4:=Z0q 4 hk rfl
  first | have k5:=Z0A 5 hk rfl | have k5:=Z0q 5 hk rfl
  first | have k6:=Z0A 6 hk rfl | have k6:=Z0q 6 hk rfl
  first | have k7:=Z0A 7 hk rfl | have k7:=Z0q 7 hk rfl
  first | have k8:=Z0A 8 hk rfl | have k8:=Z0q 8 hk rfl
  first | have k9:=Z0A 9 hk rfl | have k9:=Z0q 9 hk rfl
  first | have k10:=Z0A 10 hk rfl | have k10:=Z0q 10 hk rfl
  first | have HF:=Y1 (Z9j hk) | have HF:=Y1 (ZaE hk) | have HF:=Y1 (Z9i (t:=t) (by omega) (by omega))
  have hc:=Z45 t q (w.alloc (.cells (Y8 t q) 25));clear hk hg hq hb0;cases hb:bare t
  {rw[hb] at hc HF;clear hb;go_enter Tryd.func48,Tryd.ntmps48
   go_wp2_with fail
   refine hc.mono ?_;rintro e w' ⟨rfl,hb'⟩;go_wp2;go_ret;exact ⟨by rw[HF.out]; rfl,Z03 HB0.out hb'⟩}
  {rw[hb] at hc HF;clear hb;cases hz:decide (t.names.length=0)
   {rw[hz] at HF;have hz2: ((t.names.length:Int)==0)=false:=by rw[Z1l]; exact hz
    clear hz;go_enter Tryd.func48,Tryd.ntmps48
    go_wp2_with fail
    refine hc.mono ?_;rintro e w' ⟨rfl,hb'⟩;obtain ⟨_,⟨c0,c1,c2,c3,c4⟩,_⟩:=HB.out.next hb';go_wp2;go_ret;exact ⟨by rw[HF.out]; rfl,Z03 HB0.out hb'⟩}
   {rw[hz] at HF;have hz2: ((t.names.length:Int)==0)=true:=by rw[Z1l]; exact hz
    clear hz;go_enter Tryd.func48,Tryd.ntmps48
    go_wp2_with fail
    refine hc.mono ?_;rintro e w' ⟨rfl,hb'⟩;obtain ⟨_,⟨c0,c1,c2,c3,c4⟩,_⟩:=HB.out.next hb';go_wp2;go_ret;exact ⟨Z0p (by rw[HF.out,Bool.eq_iff_iff]; simp; try omega),Z03 HB0.out hb'⟩}}
theorem Zc2 (hk:t.kind=6\/t.kind=7) (hz:t.parts.length<=1000000):
 Y9 48 #[.agg (Y8 t q)] w (.bool (fits t)):=by
 have HS:=Y1 hq.small;have HA:=Y1 hq.strs;have hB:=Z07 w t q;have HB:=Y1 hB;have hb0:=Z01 w (.cells (Y8 t q) 25);have HB0:=Y1 hb0;have HG:=Y1 (hg.next hb0);have HZ:=Y1 hz;clear hz;obtain ⟨_,⟨c0,c1,c2,c3,c4⟩,_⟩:=hB;rcases hk with hk | hk
 all_goals
  first | have k1:=Z0A 1 hk rfl | have k1:=Z0q 1 hk rfl
  first | have k2:=Z0A 2 hk rfl | have k2:=Z0q 2 hk rfl
  first | have k3:=Z0A 3 hk rfl | have k3:=Z0q 3 hk rfl
  first | have k4:=Z0A 4 hk rfl | have k4:=Z0q 4 hk rfl
  first | have k5:=Z0A 5 hk rfl | have k5:=Z0q 5 hk rfl
  first | have k6:=Z0A 6 hk rfl | have k6:=Z0q 6 hk rfl
  first | have k7:=Z0A 7 hk rfl | have k7:=Z0q 7 hk rfl
  first | have k8:=Z0A 8 hk rfl | have k8:=Z0q 8 hk rfl
  first | have k9:=Z0A 9 hk rfl | have k9:=Z0q 9 hk rfl
  first | have k10:=Z0A 10 hk rfl | have k10:=Z0q 10 hk rfl
  have HF:=Y1 (ZaF (t:=t) (by first | exact Or.inl hk | exact Or.inr hk));have hc:=Z45 t q (w.alloc (.cells (Y8 t q) 25));clear hk hg hq hb0;cases hb:bare t
  {rw[hb] at hc HF;clear hb;go_enter Tryd.func48,Tryd.ntmps48
   go_wp2_with fail
   refine hc.mono ?_;rintro e w' ⟨rfl,hb'⟩;go_wp2;go_ret;exact ⟨by rw[HF.out]; rfl,Z03 HB0.out hb'⟩}
  {rw[hb] at hc HF;clear hb;cases hz:decide (t.names.length=t.parts.length)
   {rw[hz] at HF;have hz2: ((t.names.length:Int)==(t.parts.length:Int))=false:=by rw[Z8r]; exact hz
    clear hz;go_enter Tryd.func48,Tryd.ntmps48
    go_wp2_with fail
    refine hc.mono ?_;rintro e w' ⟨rfl,hb'⟩;obtain ⟨_,⟨c0,c1,c2,c3,c4⟩,_⟩:=HB.out.next hb';go_wp2;go_ret;exact ⟨by rw[HF.out]; rfl,Z03 HB0.out hb'⟩}
   {rw[hz] at HF;have hz2: ((t.names.length:Int)==(t.parts.length:Int))=true:=by rw[Z8r]; exact hz
    clear hz;have hlen:t.names.length<=1000000:=by have:=HZ.out; have h2:=beq_iff_eq.1 hz2; omega
    have HA0:=HA.out.next HB0.out;go_enter Tryd.func48,Tryd.ntmps48
    go_wp2_with fail
    refine hc.mono ?_;rintro e w1 ⟨rfl,hb'⟩;have hn:=Z7r q.A q.c t.names w1 (HA0.next hb') hlen HS.out.ns;obtain ⟨_,⟨c0,c1,c2,c3,c4⟩,_⟩:=HB.out.next hb';have hbw:=Z03 HB0.out hb';clear hc hb' HA0
    go_wp2_with fail
    refine hn.mono ?_;rintro e w' ⟨rfl,hb2⟩;go_wp2;go_ret;exact ⟨Z0p (by rw[HF.out]; rfl),Z03 hbw hb2⟩}}
theorem Zc3 (hk:t.kind=9):
 Y9 48 #[.agg (Y8 t q)] w (.bool (fits t)):=by
 have HS:=Y1 hq.small;have HA:=Y1 hq.strs;have hB:=Z07 w t q;have HB:=Y1 hB;have hb0:=Z01 w (.cells (Y8 t q) 25);have HB0:=Y1 hb0;have HG:=Y1 (hg.next hb0);obtain ⟨_,⟨c0,c1,c2,c3,c4⟩,_⟩:=hB;have k1:=Y3 1 hk rfl;have k2:=Y3 2 hk rfl;have k3:=Y3 3 hk rfl;have k4:=Y3 4 hk rfl;have k5:=Y3 5 hk rfl;have k6:=Y3 6 hk rfl;have k7:=Y3 7 hk rfl;have k8:=Y3 8 hk rfl;have k9:=Y4 9 hk rfl;have k10:=Y3 10 hk rfl;have HF:=Y1 (Z9k hk);have hc:=Z82 t q (w.alloc (.cells (Y8 t q) 25)) HS.out HG.out;clear hk hg hq hb0;cases hb:nameOk t wordB
 {rw[hb] at hc HF;clear hb;go_enter Tryd.func48,Tryd.ntmps48
  go_wp2_with fail
  refine hc.mono ?_;rintro e w' ⟨rfl,hb'⟩;go_wp2;go_ret;exact ⟨by rw[HF.out]; rfl,Z03 HB0.out hb'⟩}
 {rw[hb] at hc HF;clear hb;cases hz:decide (t.names.length=0)
  {rw[hz] at HF;have hz2: ((t.names.length:Int)==0)=false:=by rw[Z1l]; exact hz
   clear hz;go_enter Tryd.func48,Tryd.ntmps48
   go_wp2_with fail
   refine hc.mono ?_;rintro e w' ⟨rfl,hb'⟩;obtain ⟨_,⟨c0,c1,c2,c3,c4⟩,_⟩:=HB.out.next hb';go_wp2;go_ret;exact ⟨by rw[HF.out]; rfl,Z03 HB0.out hb'⟩}
  {rw[hz] at HF;have hz2: ((t.names.length:Int)==0)=true:=by rw[Z1l]; exact hz
   clear hz;go_enter Tryd.func48,Tryd.ntmps48
   go_wp2_with fail
   refine hc.mono ?_;rintro e w' ⟨rfl,hb'⟩;obtain ⟨_,⟨c0,c1,c2,c3,c4⟩,_⟩:=HB.out.next hb';go_wp2;go_ret;exact ⟨Z0p (by rw[HF.out,Bool.eq_iff_iff]; simp; try omega),Z03 HB0.out hb'⟩}}
theorem Zby (hk:t.kind=10):
 Y9 48 #[.agg (Y8 t q)] w (.bool (fits t)):=by
 have HS:=Y1 hq.small;have HA:=Y1 hq.strs;have hB:=Z07 w t q;have HB:=Y1 hB;have hb0:=Z01 w (.cells (Y8 t q) 25);have HB0:=Y1 hb0;have HG:=Y1 (hg.next hb0);obtain ⟨_,⟨c0,c1,c2,c3,c4⟩,_⟩:=hB;have k1:=Y3 1 hk rfl;have k2:=Y3 2 hk rfl;have k3:=Y3 3 hk rfl;have k4:=Y3 4 hk rfl;have k5:=Y3 5 hk rfl;have k6:=Y3 6 hk rfl;have k7:=Y3 7 hk rfl;have k8:=Y3 8 hk rfl;have k9:=Y3 9 hk rfl;have k10:=Y4 10 hk rfl;have HF:=Y1 (Z80 hk);have hn:=fun W=>Z2i t.of_ HS.out.o W;have hu:=fun W=>Z4l t.name HS.out.n W;clear hk hg hq hb0;cases h1:Lex.isName t.of_
 {rw[h1] at HF;simp only[h1] at hn;clear h1;go_enter Tryd.func48,Tryd.ntmps48
  go_wp2_with fail
  refine (hn _).mono ?_;rintro e w' ⟨rfl,rfl⟩;go_wp2;go_ret;exact ⟨by rw[HF.out]; rfl,HB0.out⟩}
 {rw[h1] at HF;simp only[h1] at hn;clear h1;cases h2:Lex.isUpper t.name
  {rw[h2] at HF;simp only[h2] at hu;clear h2;go_enter Tryd.func48,Tryd.ntmps48
   go_wp2_with fail
   refine (hn _).mono ?_;rintro e w' ⟨rfl,rfl⟩
   go_wp2_with fail
   refine (hu _).mono ?_;rintro e w' ⟨rfl,rfl⟩;go_wp2;go_ret;exact ⟨by rw[HF.out]; rfl,HB0.out⟩}
  {rw[h2] at HF;simp only[h2] at hu;clear h2;cases hz:decide (t.names.length=0)
   all_goals
    rw[hz] at HF;have hz2:=hz;rw[<-Z1l] at hz2;clear hz;go_enter Tryd.func48,Tryd.ntmps48
    go_wp2_with fail
    refine (hn _).mono ?_;rintro e w' ⟨rfl,rfl⟩
    go_wp2_with fail
    refine (hu _).mono ?_;rintro e w' ⟨rfl,rfl⟩;go_wp2;go_ret;exact ⟨Z0p (by rw[HF.out,Bool.eq_iff_iff]; simp),HB0.out⟩}}
theorem Z9l (hk:t.kind < 1\/10 < t.kind):
 Y9 48 #[.agg (Y8 t q)] w (.bool (fits t)):=by
 have HS:=Y1 hq.small;have HA:=Y1 hq.strs;have hB:=Z07 w t q;have HB:=Y1 hB;have hb0:=Z01 w (.cells (Y8 t q) 25);have HB0:=Y1 hb0;have HG:=Y1 (hg.next hb0);obtain ⟨_,⟨c0,c1,c2,c3,c4⟩,_⟩:=hB;have k1: (t.kind==1)=false:=by rw[beq_eq_false_iff_ne]; omega
 have k2: (t.kind==2)=false:=by rw[beq_eq_false_iff_ne]; omega
 have k3: (t.kind==3)=false:=by rw[beq_eq_false_iff_ne]; omega
 have k4: (t.kind==4)=false:=by rw[beq_eq_false_iff_ne]; omega
 have k5: (t.kind==5)=false:=by rw[beq_eq_false_iff_ne]; omega
 have k6: (t.kind==6)=false:=by rw[beq_eq_false_iff_ne]; omega
 have k7: (t.kind==7)=false:=by rw[beq_eq_false_iff_ne]; omega
 have k8: (t.kind==8)=false:=by rw[beq_eq_false_iff_ne]; omega
 have k9: (t.kind==9)=false:=by rw[beq_eq_false_iff_ne]; omega
 have k10: (t.kind==10)=false:=by rw[beq_eq_false_iff_ne]; omega
 have HF:=Y1 (ZaG hk);clear hk hg hq hb0;go_enter Tryd.func48,Tryd.ntmps48;go_wp2;go_ret;exact ⟨by rw[HF.out]; rfl,HB0.out⟩
theorem Z9m (hz:t.parts.length<=1000000):
 Y9 48 #[.agg (Y8 t q)] w (.bool (fits t)):=by
 by_cases h:t.kind < 1\/10 < t.kind
 {exact Z9l t q w hq hg h}
 {have:t.kind=1\/t.kind=2\/t.kind=3\/t.kind=4\/t.kind=5\/t.kind=6\/t.kind=7\/t.kind=8\/t.kind=9\/t.kind=10:=by omega
  rcases this with h | h | h | h | h | h | h | h | h | h
  case inr.inr.inr.inr.inr.inr.inr.inr.inl=>exact Zc3 t q w hq hg h
  case inr.inr.inr.inr.inr.inr.inr.inr.inr=>exact Zby t q w hq hg h
  all_goals first | exact Zc1 t q w hq hg (by omega) | exact Zc2 t q w hq hg (by omega) hz}
end
end Go.Proofs.YtmeiijjpomcgcaaDoor
namespace Go.Proofs.YtmeiijjpomcgcaaDoor
section
open Go.RowKit Shp
def Z1a (p:Sh->Bool) (l:List Sh):Int:=match l.findIdx? p with
 | some i=>(i:Int)
 | none=> -1
theorem ZaI {p:Sh->Bool} {l:List Sh} {i:Nat} (hi:i < l.length) (h:p (l[i]'hi)=true) (hn: ∀j (hj:j < l.length),j < i->p (l[j]'hj)=false):Z1a p l=(i:Int):=by
 have:l.findIdx? p=some i:=List.findIdx?_eq_some_iff_getElem.2 ⟨hi,h,fun j hj=>by rw[hn j (by omega) hj]; simp⟩;unfold Z1a; rw[this]
theorem Z83 {p:Sh->Bool} {l:List Sh} (hn: ∀j (hj:j < l.length),p (l[j]'hj)=false):Z1a p l= -1:=by
 have:l.findIdx? p=none:=List.findIdx?_eq_none_iff.2 (fun x hx=>by
  obtain ⟨j,hj,rfl⟩:=List.getElem_of_mem hx;exact hn j hj)
 unfold Z1a; rw[this]
theorem Z9n (p:Sh->Bool) (l:List Sh):decide (0<=Z1a p l)=l.any p:=by
 unfold Z1a;cases h:l.findIdx? p with
 | some i=>
  obtain ⟨hi,hp,_⟩:=List.findIdx?_eq_some_iff_getElem.1 h;show decide ((0:Int)<=(i:Int))=_;rw[decide_eq_true (by omega)];exact (List.any_eq_true.2 ⟨_,List.getElem_mem hi,hp⟩).symm
 | none=>
  have:=List.findIdx?_eq_none_iff.1 h;show false=_;symm;rw[List.any_eq_false];intro x hx; rw[this x hx]; simp
theorem ZaJ (p:Sh->Bool) (l:List Sh): -1<=Z1a p l:=by
 unfold Z1a;cases l.findIdx? p with
 | some i=>show (-1:Int)<=(i:Int); omega
 | none=>show (-1:Int)<= -1; omega
theorem Z61 (l:List Sh):l.any (fun p=> !right p)= !rights l:=by
 rw[Z1M];induction l with
 | nil=>rfl
 | cons a l ih=>simp[ih]
section
variable (P : Option Addr) (d : Nat) (l : List Sh) (g off : Nat) (qs : Nat -> Ptr) (w : World) (hl : l.length <= 1000000) (hp : l.length = 0 \/ P = some ⟨g, off, none⟩ /\ g < w.heap.size /\ (∀ i (h : i < l.length), Sh5 w g (off + i * 5) (l[i]'h) (qs i)) /\ ∀ i (h : i < l.length), ShAt w w.heap.size (qs i) (l[i]'h)) (hg : WGlobs w) (hf : ∀ x ∈ l, ∀ (q : Ptr) (w : World), ShAt w w.heap.size q x -> WGlobs w -> Y9 30 #[.agg (Y8 x q)] w (.bool (!right x)))
include P d l g off qs w hl hp hg hf
theorem ZaK:
 Y9 61 #[.slice P l.length d,.func (.func 30) #[] #[]] w (.int .i64 (Z1a (fun p=> !right p) l)):=by
 have HP:=Y1 hp;have HF:=Y1 hf;have HG:=Y1 hg;clear hg;clear hp hf;go_enter Tryd.func61,Tryd.ntmps61
 go_wp2_with fail
 go_loopw [8] (fun ii wr=> ∃i:Nat,ii= .int .i64 i/\i<=l.length/\Hid (∀j (h:j < l.length),j < i->(!right (l[j]'h))=false)/\Below w.heap.size w wr) (fun i _=>l.length - (intOf i).toNat)
 case atStart=>exact ⟨0,rfl,Nat.zero_le _,Y1 (fun j _ hj=>absurd hj (by omega)),Below.refl _ _⟩
 case round=>
  obtain ⟨i,rfl,hi,HN,hb⟩:=hrel;by_cases hlt:i < l.length
  {rcases HP.out with h0 | ⟨rfl,hg,hc,hr⟩
   {omega}
   {obtain ⟨x,hx⟩: ∃x,x=l[i]'hlt:=⟨_,rfl⟩;obtain ⟨p0,p1,p2,p3,p4⟩:=(hc i hlt).keep hg hb;have hat:ShAt wr wr.heap.size (qs i) x:=by rw[hx]; exact (hr i hlt).next hb
    have ihx:=HF.out l[i] (List.getElem_mem _) (qs i) wr;rw[<-hx] at p0 p1 p2 p3 p4 ihx;have IH:=ihx hat (HG.out.next hb);have HX:=Y1 hx;clear hx hc hr hat ihx;have hi1: (i:Int) < (l.length:Int):=by omega
    cases hox: !right x with
    | true=>
     rw[hox] at IH;have HV:Hid (Z1a (fun p=> !right p) l=(i:Int)):=Y1 (ZaI hlt (by show (!right _)=true; rw[<-HX.out]; exact hox) (fun j hj hji=>HN.out j hj hji));clear hox
     go_wp2_with fail
     refine IH.mono ?_;rintro e w' ⟨rfl,hb'⟩;go_wp2;go_ret;exact ⟨Z17 HV.out.symm,Z03 hb hb'⟩
    | false=>
     rw[hox] at IH;have HO:=Y1 hox;clear hox
     go_wp2_with fail
     refine IH.mono ?_;rintro e w' ⟨rfl,hb'⟩;go_wp2
     go_roundw
     case rel=>exact ⟨i+1,by go_num,by omega,Y1 (fun j hj hji=>by
      rcases Nat.lt_succ_iff_lt_or_eq.1 hji with h | rfl
      {exact HN.out j hj h}
      · rw[<-HX.out]; exact HO.out),Z03 hb hb'⟩
     case measure=>simp[intOf]; omega}}
  {have hi1: ¬(i:Int) < (l.length:Int):=by omega
   have HV:Hid (Z1a (fun p=> !right p) l= -1):=Y1 (Z83 (fun j hj=>HN.out j hj (by omega)));go_wp2;go_ret;exact ⟨Z17 HV.out.symm,hb⟩}
theorem Z6T:
 Y9 49 #[.slice P l.length d,.func (.func 30) #[] #[]] w (.bool (l.any (fun p=> !right p))):=by
 have HI:=ZaK P d l g off qs w hl hp hg hf;have HV:=Y1 (Z9n (fun p=> !right p) l);have hge:=ZaJ (fun p=> !right p) l;generalize Z1a (fun p=> !right p) l=r at HI HV hge;clear hp hf;go_enter Tryd.func49,Tryd.ntmps49
 go_wp2_with fail
 refine HI.mono ?_;rintro e w' ⟨rfl,hb'⟩;go_wp2;go_ret;exact ⟨Z0p HV.out,hb'⟩
end
theorem Zc4 {w:World} {q:Ptr} {t:Sh} (h:ShAt w w.heap.size q t): ∃(g off:Nat) (qs:Nat->Ptr),t.parts.length=0\/q.P=some ⟨g,off,none⟩/\g < w.heap.size/\(∀i (h:i < t.parts.length),Sh5 w g (off+i * 5) (t.parts[i]'h) (qs i))/\ ∀i (h:i < t.parts.length),ShAt w w.heap.size (qs i) (t.parts[i]'h):=by
 rcases h.part with h0 | ⟨g,off,qs,h1,h2,h3,h4⟩
 {exact ⟨0,0,fun _=>q,Or.inl h0⟩}
 {exact ⟨g,off,qs,Or.inr ⟨h1,h2,h3,h4⟩⟩}
theorem Z6U (t:Sh): ∀(q:Ptr) (w:World),ShAt w w.heap.size q t->WGlobs w->size t<=1000000->
 Y9 30 #[.agg (Y8 t q)] w (.bool (!right t)):=by
 induction t using Sh.ind with
 | h t ih=>
 intro q w hq hg hz;have hpl:t.parts.length<=1000000:=by have:=Z0F t.parts; rw[size_eq] at hz; omega
 have hb0:=Z01 w (.cells (Y8 t q) 25);have hf:=Z9m t q _ (hq.next hb0) (hg.next hb0) hpl;have HC:=Y1 (fun W (h:Below w.heap.size w W)=>by
  obtain ⟨g,off,qs,h1⟩:=Zc4 (hq.next h);exact Z6T q.P q.d t.parts g off qs W hpl h1 (hg.next h) (fun x hx q' w' hat hg'=>ih x hx q' w' hat hg' (by have:=Z1h hx; rw[size_eq] at hz; omega)))
 have HD:=Y1 (Z1v t);have HA:=Y1 (Z61 t.parts);have HB0:=Y1 hb0;have HB:=Y1 (Z07 w t q);obtain ⟨_,⟨c0,c1,c2,c3,c4⟩,_⟩:=HB.out;clear hb0 hq hg hz hpl ih;cases hft:fits t
 {have HF:Hid (right t=false):=Y1 (by rw[HD.out,hft]; rfl);rw[hft] at hf;clear hft;go_enter Tryd.func30,Tryd.ntmps30
  go_wp2_with fail
  refine hf.mono ?_;rintro e w' ⟨rfl,hb'⟩;go_wp2;go_ret;exact ⟨by rw[HF.out]; rfl,Z03 HB0.out hb'⟩}
 {have HF:Hid ((!right t)=t.parts.any (fun p=> !right p)):=Y1 (by rw[HD.out,hft,HA.out]; rfl);rw[hft] at hf;clear hft;go_enter Tryd.func30,Tryd.ntmps30
  go_wp2_with fail
  refine hf.mono ?_;rintro e w1 ⟨rfl,hb'⟩;have hbw:=Z03 HB0.out hb';have hc:=HC.out w1 hbw;obtain ⟨_,⟨d0,d1,d2,d3,d4⟩,_⟩:=HB.out.next hb';clear hf c0 c1 c2 c3 c4 hb'
  go_wp2_with fail
  refine hc.mono ?_;rintro e w' ⟨rfl,hb2⟩;go_wp2;go_ret;exact ⟨Z0p HF.out.symm,Z03 hbw hb2⟩}
structure UpC (cb B:Nat) (w w':World):Prop where
 os:w'.os=w.os
 tape:w'.tape=w.tape
 output:w'.output=w.output
 size:w.heap.size<=w'.heap.size
 block: ∀k,k < B->k≠cb->w'.heap[k]? =w.heap[k]?
 c1:w'.cell? ⟨cb,1,none⟩=w.cell? ⟨cb,1,none⟩
 f0:w'.frozen? ⟨cb,0,none⟩=w.frozen? ⟨cb,0,none⟩
theorem UpC.refl (cb B:Nat) (w:World):UpC cb B w w:=⟨rfl,rfl,rfl,Nat.le_refl _,fun _ _ _=>rfl,rfl,rfl⟩
theorem UpC.trans {cb B:Nat} {a b c:World} (h:UpC cb B a b) (k:UpC cb B b c):UpC cb B a c:=
 ⟨k.os.trans h.os,k.tape.trans h.tape,k.output.trans h.output,Nat.le_trans h.size k.size,fun i hi hn=>(k.block i hi hn).trans (h.block i hi hn),k.c1.trans h.c1,k.f0.trans h.f0⟩
theorem UpC.mono {cb B B':Nat} {w w':World} (h:UpC cb B w w') (hB:B'<=B):UpC cb B' w w':=⟨h.os,h.tape,h.output,h.size,fun k hk=>h.block k (Nat.lt_of_lt_of_le hk hB),h.c1,h.f0⟩
theorem UpC.below {cb B:Nat} {a w w':World} (h:UpC cb B a w) (hb:Below B w w') (hc:cb < B):UpC cb B a w':=
 h.trans ⟨hb.os,hb.tape,hb.output,hb.size,fun k hk _=>hb.block k hk,hb.cell (p:=⟨cb,1,none⟩) hc,hb.frozen (p:=⟨cb,0,none⟩) hc⟩
theorem UpC.set {cb B:Nat} {a w:World} (h:UpC cb B a w) (v:Value):UpC cb B a (w.setCell ⟨cb,0,none⟩ v):=
 h.trans ⟨rfl,rfl,rfl,by simp[World.setCell],fun k hk hn=>Below.heap_setCell _ _ _ _ hn,by simp[go_sem],by simp[go_sem]⟩
theorem UpC.next {cb:Nat} {a b c:World} (h:UpC cb a.heap.size a b) (k:UpC cb b.heap.size b c):UpC cb a.heap.size a c:=h.trans (k.mono h.size)
theorem UpC.cell {cb B:Nat} {w w':World} (h:UpC cb B w w') {g k:Nat} (hg:g < B) (hn:g≠cb):w'.cell? ⟨g,k,none⟩=w.cell? ⟨g,k,none⟩:=World.cell?_of_block (w:=w) (h.block g hg hn)
theorem UpC.toBelow {cb B:Nat} {w w':World} (h:UpC cb B w w') (hB:B<=cb):Below B w w':=⟨h.os,h.tape,h.output,h.size,fun k hk=>h.block k hk (by omega)⟩
structure Cnt (w:World) (cb p m:Nat):Prop where
 lt:cb < w.heap.size
 c0:w.cell? ⟨cb,0,none⟩=some (.int .i64 (p:Int))
 c1:m=400
 f0:w.frozen? ⟨cb,0,none⟩=false
theorem Cnt.below {w w':World} {cb p m:Nat} (h:Cnt w cb p m) (hb:Below w.heap.size w w'):Cnt w' cb p m:=
 ⟨Nat.lt_of_lt_of_le h.lt hb.size,(hb.cell (p:=⟨cb,0,none⟩) h.lt).trans h.c0,h.c1,(hb.frozen (p:=⟨cb,0,none⟩) h.lt).trans h.f0⟩
theorem Cnt.set {w:World} {cb p m:Nat} (h:Cnt w cb p m) (n:Nat):Cnt (w.setCell ⟨cb,0,none⟩ (.int .i64 (n:Int))) cb n m:=
 ⟨by simpa[World.setCell] using h.lt,by simp[go_sem,h.c0],h.c1,by simp[go_sem,h.f0]⟩
theorem ShAt.upc {w w':World} {B C cb:Nat} {q:Ptr} {t:Sh} (h:ShAt w B q t) (hu:UpC cb C w w') (h1:B<=cb) (h2:B<=C):ShAt w' B q t:=
 h.of (Nat.le_refl _) (fun g k hg=>hu.cell (by omega) (by omega))
theorem Z5J (t:Sh): ∀(q:Ptr) (B cb p m:Nat) (w:World),ShAt w B q t->B<=cb->Cnt w cb p m->p+size t<=m->m<=1000000->
 Calls Tryd.prog 47 #[.pointer (some ⟨cb,0,none⟩),.agg (Y8 t q)] w
  fun e w'=>e= .returned (.int .i64 (deep t:Int))/\UpC cb w.heap.size w w'/\Cnt w' cb (p+size t) m:=by
 induction t using Sh.ind with
 | h t ih=>
 intro q B cb p m w hq hBc hc hpm hm;have HQ:=Y1 hq;have HM:=Y1 hq.small.m;have HP:=Y1 hq.part;have HD:Hid (deep t=deeps t.parts+1):=Y1 (Z0l t);have HZ:Hid (size t=1+sizes t.parts):=Y1 (size_eq t);have HDS:=Y1 (Z1i t);have HPM:Hid (p+size t<=m):=Y1 hpm;have hlt:p < m:=by have:=HZ.out; omega
 have hpe: ((p:Int)==400)=false:=by rw[beq_eq_false_iff_ne]; have:=hc.c1; omega
 have hpi: (p:Int)<=1000000:=by omega
 have hb0:=Z01 w (.cells (Y8 t q) 25);have HC:=Y1 hc;have hB:=Z07 w t q;have HB:=Y1 hB;have HC1:=Y1 (hc.below hb0);have HU:=Y1 ((UpC.refl cb w.heap.size w).below hb0 hc.lt);have hcl:=hc.lt;obtain ⟨_,k0,k1,k2⟩:=hc.below hb0;clear k1;clear hb0 hc hB hpm hq;have hne:w.heap.size≠cb:=by omega
 have hne2:cb≠w.heap.size:=by omega
 go_enter Tryd.func47,Tryd.ntmps47
 go_wp2_with fail
 obtain ⟨W0,hW0⟩: ∃W0,W0=(w.setCell ⟨cb,0,none⟩ (.int .i64 ((p:Int)+1))).alloc (.cells (Y8 t q) 25):=⟨_,rfl⟩;have hsz0:W0.heap.size=w.heap.size+1:=by rw[hW0]; simp[World.setCell]
 have hU0:UpC cb w.heap.size w W0:=by
  rw[hW0];exact ((UpC.refl cb w.heap.size w).set _).below ((Z01 _ _).mono (by simp[World.setCell])) hcl
 have hC0:Cnt W0 cb (p+1) m:=by
  rw[hW0];exact (HC.out.set (p+1)).below (Z01 _ _)
 have hB0:Box5 W0 w.heap.size t q:=by
  have e: (w.setCell ⟨cb,0,none⟩ (.int .i64 ((p:Int)+1))).heap.size=w.heap.size:=by simp[World.setCell]
  have h5:=Z07 (w.setCell ⟨cb,0,none⟩ (.int .i64 ((p:Int)+1))) t q;rw[e] at h5;rw[hW0]; exact h5
 have HU0:=Y1 hU0;have HC0:=Y1 hC0;have HB0:=Y1 hB0;clear hU0 hC0 hB0;rw[<-hW0];have HSZ:=Y1 hsz0;clear hW0 k0 k2 HU HC1 HB hsz0
 go_loopw [5,24] (fun dd ii wr=> ∃i:Nat,ii= .int .i64 i/\i<=t.parts.length/\dd= .int .i64 (deeps (t.parts.take i):Int)/\Hid (UpC cb W0.heap.size W0 wr)/\Hid (Cnt wr cb (p+1+sizes (t.parts.take i)) m)) (fun _ i _=>t.parts.length - (intOf i).toNat)
 case atStart=>exact ⟨0,rfl,Nat.zero_le _,rfl,Y1 (UpC.refl _ _ _),HC0⟩
 case round=>
  obtain ⟨i,rfl,hi,rfl,HUR,HCR⟩:=hrel;have hmm:=HM.out;have htk:=Z3m t.parts i;have hds:=HDS.out;have hd2:deeps t.parts<=1000000:=by have:=HD.out; have:=HPM.out; omega
  by_cases hlt:i < t.parts.length
  {rcases HP.out with h0 | ⟨g,off,qs,hqP,hg,hc,hr⟩
   {omega}
   {have hur:UpC cb w.heap.size w wr:=HU0.out.next HUR.out;obtain ⟨x,hx⟩: ∃x,x=t.parts[i]:=⟨_,rfl⟩;have hgw:g < w.heap.size:=by omega
    obtain ⟨p0,p1,p2,p3,p4⟩:=(hc i hlt).of (w':=wr) (fun k=>hur.cell hgw (by omega));have hbx:=Z01 wr (.cells (Y8 x (qs i)) 25);have hat:ShAt (wr.alloc (.cells (Y8 x (qs i)) 25)) B (qs i) x:=by
     rw[hx];exact ((hr i hlt).upc hur hBc (by omega)).keep (Z01 wr _) (by have:=hur.size; omega)
    have hcx:=HCR.out.below hbx;have HN:Hid (sizes (t.parts.take (i+1))=sizes (t.parts.take i)+size x):=Y1 (by rw[hx]; exact Z1L hlt);have HE:Hid (deeps (t.parts.take (i+1))=max (deeps (t.parts.take i)) (deep x)):=Y1 (by rw[hx]; exact Z3k hlt);have ihx:=ih t.parts[i] (List.getElem_mem _) (qs i) B cb (p+1+sizes (t.parts.take i)) m (wr.alloc (.cells (Y8 x (qs i)) 25));rw[<-hx] at p0 p1 p2 p3 p4 ihx;have hdx:deep x<=1000000:=by rw[hx]; exact Nat.le_trans (Z0z (List.getElem_mem _)) hd2
    have hbd:p+1+sizes (t.parts.take i)+size x<=m:=by
     have:=Z3l t.parts (i+1);have:=HN.out;have:=HPM.out;have:=HZ.out;omega
    have IH:=ihx hat hBc hcx hbd hm;have HBX:=Y1 (HB0.out);clear hx hc hr hat ihx hcx hbd hd2 hur hbx ih;have hi1: (i:Int) < (t.parts.length:Int):=by omega
    obtain ⟨a,ha⟩: ∃a,a=deeps (t.parts.take i):=⟨_,rfl⟩;rw[<-ha] at HE htk ⊢;clear ha;rw[hqP];clear hqP
    go_wp2_with fail
    refine IH.mono ?_;rintro e w2 ⟨rfl,hu2,hc2⟩;have HU2:Hid (UpC cb W0.heap.size W0 w2):=Y1 ((HUR.out.below ((Z01 wr _).mono HUR.out.size) (by have:=HSZ.out; omega)).trans (hu2.mono (by have:=HUR.out.size; simp; omega)));have HC2:Hid (Cnt w2 cb (p+1+sizes (t.parts.take (i+1))) m):=Y1 (by rw[HN.out, <-Nat.add_assoc]; exact hc2);clear hu2 hc2 IH;by_cases hgt: (a:Int) < (deep x:Int)
    all_goals
     go_wp2
     go_roundw
     case rel=>exact ⟨i+1,by go_num,by omega,by rw[HE.out]; go_num,HU2,HC2⟩
     case measure=>simp[intOf]; omega}}
  {have HF:Hid (deep t=deeps (t.parts.take i)+1):=Y1 (by rw[HD.out,show i=t.parts.length from by omega,List.take_length]);have HG:Hid (p+size t=p+1+sizes (t.parts.take i)):=Y1 (by rw[HZ.out,show i=t.parts.length from by omega,List.take_length]; omega);have hi1: ¬(i:Int) < (t.parts.length:Int):=by omega
   go_wp2;go_ret;exact ⟨Z17 (by rw[HF.out]; go_num),HU0.out.next HUR.out,by rw[HG.out]; exact HCR.out⟩}
theorem Z84 (t:Sh): ∀(q:Ptr) (B cb p m:Nat) (w:World),ShAt w B q t->B<=cb->Cnt w cb p m->p<=m->m < p+size t->m<=1000000->
 Calls Tryd.prog 47 #[.pointer (some ⟨cb,0,none⟩),.agg (Y8 t q)] w
  fun e w'=>e= .panicked [{ v:= .iface 29 (.int .i64 3),recovered:=false }]/\UpC cb w.heap.size w w':=by
 induction t using Sh.ind with
 | h t ih=>
 intro q B cb p m w hq hBc hc hpm hov hm;have HQ:=Y1 hq;have HM:=Y1 hq.small.m;have HP:=Y1 hq.part;have HD:Hid (deep t=deeps t.parts+1):=Y1 (Z0l t);have HZ:Hid (size t=1+sizes t.parts):=Y1 (size_eq t);have HDS:=Y1 (Z1i t);have HOV:Hid (m < p+size t):=Y1 hov;have hpi: (p:Int)<=1000000:=by omega
 have hb0:=Z01 w (.cells (Y8 t q) 25);have HC:=Y1 hc;have hB:=Z07 w t q;have HB:=Y1 hB;have HC1:=Y1 (hc.below hb0);have HU:=Y1 ((UpC.refl cb w.heap.size w).below hb0 hc.lt);have hcl:=hc.lt;obtain ⟨_,k0,k1,k2⟩:=hc.below hb0;clear k1;clear hb0 hc hB hov hq;have hne:w.heap.size≠cb:=by omega
 have hne2:cb≠w.heap.size:=by omega
 by_cases hpm2:p=m
 {have hpe: ((p:Int)==400)=true:=by rw[beq_iff_eq]; have:=HC.out.c1; omega
  have HUX:=HU;clear hpm2 hpm ih;go_enter Tryd.func47,Tryd.ntmps47
  go_wp2_with fail
  exact ⟨rfl,rfl,HU.out⟩}
 have hlt:p < m:=by omega
 have hpe: ((p:Int)==400)=false:=by rw[beq_eq_false_iff_ne]; have:=HC.out.c1; omega
 clear hpm2;go_enter Tryd.func47,Tryd.ntmps47
 go_wp2_with fail
 obtain ⟨W0,hW0⟩: ∃W0,W0=(w.setCell ⟨cb,0,none⟩ (.int .i64 ((p:Int)+1))).alloc (.cells (Y8 t q) 25):=⟨_,rfl⟩;have hsz0:W0.heap.size=w.heap.size+1:=by rw[hW0]; simp[World.setCell]
 have hU0:UpC cb w.heap.size w W0:=by
  rw[hW0];exact ((UpC.refl cb w.heap.size w).set _).below ((Z01 _ _).mono (by simp[World.setCell])) hcl
 have hC0:Cnt W0 cb (p+1) m:=by
  rw[hW0];exact (HC.out.set (p+1)).below (Z01 _ _)
 have hB0:Box5 W0 w.heap.size t q:=by
  have e: (w.setCell ⟨cb,0,none⟩ (.int .i64 ((p:Int)+1))).heap.size=w.heap.size:=by simp[World.setCell]
  have h5:=Z07 (w.setCell ⟨cb,0,none⟩ (.int .i64 ((p:Int)+1))) t q;rw[e] at h5;rw[hW0]; exact h5
 have HU0:=Y1 hU0;have HC0:=Y1 hC0;have HB0:=Y1 hB0;clear hU0 hC0 hB0;rw[<-hW0];have HSZ:=Y1 hsz0;clear hW0 k0 k2 HU HC1 HB hsz0
 go_loopw [5,24] (fun dd ii wr=> ∃i:Nat,ii= .int .i64 i/\i<=t.parts.length/\dd= .int .i64 (deeps (t.parts.take i):Int)/\Hid (UpC cb W0.heap.size W0 wr)/\p+1+sizes (t.parts.take i)<=m/\Hid (Cnt wr cb (p+1+sizes (t.parts.take i)) m)) (fun _ i _=>t.parts.length - (intOf i).toNat)
 case atStart=>exact ⟨0,rfl,Nat.zero_le _,rfl,Y1 (UpC.refl _ _ _),by simp[sizes]; omega,HC0⟩
 case round=>
  obtain ⟨i,rfl,hi,rfl,HUR,hpi2,HCR⟩:=hrel;have hmm:=HM.out;have htk:deeps (t.parts.take i)<=1000000:=by have:=Z7j (t.parts.take i); omega
  by_cases hlt:i < t.parts.length
  {rcases HP.out with h0 | ⟨g,off,qs,hqP,hg,hc,hr⟩
   {omega}
   {have hur:UpC cb w.heap.size w wr:=HU0.out.next HUR.out;obtain ⟨x,hx⟩: ∃x,x=t.parts[i]:=⟨_,rfl⟩;have hgw:g < w.heap.size:=by omega
    obtain ⟨p0,p1,p2,p3,p4⟩:=(hc i hlt).of (w':=wr) (fun k=>hur.cell hgw (by omega));have hbx:=Z01 wr (.cells (Y8 x (qs i)) 25);have hat:ShAt (wr.alloc (.cells (Y8 x (qs i)) 25)) B (qs i) x:=by
     rw[hx];exact ((hr i hlt).upc hur hBc (by omega)).keep (Z01 wr _) (by have:=hur.size; omega)
    have hcx:=HCR.out.below hbx;have HN:Hid (sizes (t.parts.take (i+1))=sizes (t.parts.take i)+size x):=Y1 (by rw[hx]; exact Z1L hlt);have HE:Hid (deeps (t.parts.take (i+1))=max (deeps (t.parts.take i)) (deep x)):=Y1 (by rw[hx]; exact Z3k hlt);have ihx:=ih t.parts[i] (List.getElem_mem _) (qs i) B cb (p+1+sizes (t.parts.take i)) m (wr.alloc (.cells (Y8 x (qs i)) 25));rw[<-hx] at p0 p1 p2 p3 p4 ihx;have hml:=fun hbd=>Z5J x (qs i) B cb (p+1+sizes (t.parts.take i)) m (wr.alloc (.cells (Y8 x (qs i)) 25)) hat hBc hcx hbd hm;have hmo:=fun hbd=>ihx hat hBc hcx hpi2 hbd hm;have HSB:=Y1 hur;have HBX:=Y1 (HB0.out);clear hx hc hr hat ihx hcx hur hbx ih;have hi1: (i:Int) < (t.parts.length:Int):=by omega
    obtain ⟨a,ha⟩: ∃a,a=deeps (t.parts.take i):=⟨_,rfl⟩;rw[<-ha] at HE htk ⊢;clear ha;rw[hqP];clear hqP;by_cases hfit:m < p+1+sizes (t.parts.take i)+size x
    {have IH:=hmo hfit;clear hml hmo hfit
     go_wp2_with fail
     refine IH.mono ?_;rintro e w2 ⟨rfl,hu2⟩;have HU2:Hid (UpC cb w.heap.size w w2):=Y1 ((HSB.out.below ((Z01 wr _).mono HSB.out.size) hcl).trans (hu2.mono (by have:=HSB.out.size; simp; omega)));clear hu2 IH;go_wp2;exact ⟨rfl,rfl,HU2.out⟩}
    have IH:=hml (by omega);have hdx:deep x<=1000000:=by have:=Z1i x; omega
    have HF1:Hid (p+1+sizes (t.parts.take (i+1))<=m):=Y1 (by rw[HN.out]; omega);clear hml hmo hfit
    go_wp2_with fail
    refine IH.mono ?_;rintro e w2 ⟨rfl,hu2,hc2⟩;have HU2:Hid (UpC cb W0.heap.size W0 w2):=Y1 ((HUR.out.below ((Z01 wr _).mono HUR.out.size) (by have:=HSZ.out; omega)).trans (hu2.mono (by have:=HUR.out.size; simp; omega)));have HC2:Hid (Cnt w2 cb (p+1+sizes (t.parts.take (i+1))) m):=Y1 (by rw[HN.out, <-Nat.add_assoc]; exact hc2);clear hu2 hc2 IH;by_cases hgt: (a:Int) < (deep x:Int)
    all_goals
     go_wp2
     go_roundw
     case rel=>exact ⟨i+1,by go_num,by omega,by rw[HE.out]; go_num,HU2,HF1.out,HC2⟩
     case measure=>simp[intOf]; omega}}
  {exfalso;have:=HOV.out;rw[show i=t.parts.length from by omega,List.take_length] at hpi2;rw[HZ.out] at this;omega}
end
end Go.Proofs.YtmeiijjpomcgcaaDoor
