/- What the proofs of ExpandMore want, part 14. -/
import Derived.Test.YtchklpedlbkgaaaDoorK0n13
set_option linter.unusedVariables false
set_option linter.unusedSimpArgs false
set_option linter.unusedSectionVars false
set_option maxRecDepth 100000
set_option maxHeartbeats 16000000
namespace Go.Proofs.YtchklpedlbkgaaaDoor
section
open Go.RowKit Shp Sub SubM
open Expd (Bd Z0W mB)
structure Bx7 (W:World) (g:Nat) (b:Bd) (qb:Ptr):Prop where
 lt:g < W.heap.size
 c0:W.cell? ⟨g,0,none⟩=some (.string ⟨b.of_.toArray⟩)
 c1:W.cell? ⟨g,1,none⟩=some (.string ⟨b.name.toArray⟩)
 c2:W.cell? ⟨g,2,none⟩=some (.int .i64 b.sh.kind)
 c3:W.cell? ⟨g,3,none⟩=some (.string ⟨b.sh.of_.toArray⟩)
 c4:W.cell? ⟨g,4,none⟩=some (.string ⟨b.sh.name.toArray⟩)
 c5:W.cell? ⟨g,5,none⟩=some (.slice qb.A b.sh.names.length qb.c)
 c6:W.cell? ⟨g,6,none⟩=some (.slice qb.P b.sh.parts.length qb.d)
theorem Bx7.next {W W':World} {g:Nat} {b:Bd} {qb:Ptr} (h:Bx7 W g b qb) (hb:Below W.heap.size W W'):Bx7 W' g b qb:=by
 have c:=fun k=>hb.cell (p:=⟨g,k,none⟩) h.lt;exact ⟨Nat.lt_of_lt_of_le h.lt hb.size,(c 0).trans h.c0,(c 1).trans h.c1,(c 2).trans h.c2,(c 3).trans h.c3,(c 4).trans h.c4,(c 5).trans h.c5,(c 6).trans h.c6⟩
theorem Z8c (w:World) (b:Bd) (qb:Ptr):Bx7 (w.alloc (.cells #[.string ⟨b.of_.toArray⟩,.string ⟨b.name.toArray⟩,.int .i64 b.sh.kind,.string ⟨b.sh.of_.toArray⟩,.string ⟨b.sh.name.toArray⟩,.slice qb.A b.sh.names.length qb.c,.slice qb.P b.sh.parts.length qb.d] 54)) w.heap.size b qb:=by
 refine ⟨by simp, ?_, ?_, ?_, ?_, ?_, ?_, ?_⟩ <;> simp[go_sem]
def mrV (v0 v2 v4:Value):Nat->Option Value
 | 0=>some v0
 | 2=>some v2
 | 4=>some v4
 | _=>none
theorem Z0N {v0 v2 v4:Value} {j:Nat} (h:7 < j):mrV v0 v2 v4 j=none:=by unfold mrV; split <;> first | omega | rfl
theorem ZbK (w:World) (b:Bd) (qb:Ptr) (hb:ShAt w w.heap.size qb b.sh) (h1:b.of_.length<=9223372036854775807) (h2:b.name.length<=9223372036854775807):BdsAt (w.alloc (.cells #[.string ⟨b.of_.toArray⟩,.string ⟨b.name.toArray⟩,.int .i64 b.sh.kind,.string ⟨b.sh.of_.toArray⟩,.string ⟨b.sh.name.toArray⟩,.slice qb.A b.sh.names.length qb.c,.slice qb.P b.sh.parts.length qb.d] 54)) (w.alloc (.cells #[.string ⟨b.of_.toArray⟩,.string ⟨b.name.toArray⟩,.int .i64 b.sh.kind,.string ⟨b.sh.of_.toArray⟩,.string ⟨b.sh.name.toArray⟩,.slice qb.A b.sh.names.length qb.c,.slice qb.P b.sh.parts.length qb.d] 54)).heap.size (some ⟨w.heap.size,0,none⟩) [b]:=by
 have hx:=Z8c w b qb;have hn:=hb.next (Z00 w (.cells #[.string ⟨b.of_.toArray⟩,.string ⟨b.name.toArray⟩,.int .i64 b.sh.kind,.string ⟨b.sh.of_.toArray⟩,.string ⟨b.sh.name.toArray⟩,.slice qb.A b.sh.names.length qb.c,.slice qb.P b.sh.parts.length qb.d] 54));refine Or.inr ⟨w.heap.size,0,fun _=>qb,rfl,hx.lt,fun i hi=> ?_⟩;have hi:i < 1:=hi
 match i,hi with
 | 0,_=>exact ⟨hx.c0,hx.c1,⟨hx.c2,hx.c3,hx.c4,hx.c5,hx.c6⟩,hn,h1,h2⟩
theorem Z3u {w w':World} {x:BE} (h:BOk w w.heap.size x) (hb:Below w.heap.size w w'):BOk w' w'.heap.size x:=⟨h.1.next hb,h.2⟩
theorem Z5b (t:Sh) (q:Ptr) (L:List Bd) (A:Option Addr) (cap:Nat) (b:Bd) (qb:Ptr) (w:World) (hq:ShAt w w.heap.size q t) (hL:BdsAt w w.heap.size A L) (hl:L.length<=9223372036854775807) (hc:L.length<=cap) (hz:A=none->cap=0)
 (hbs:ShAt w w.heap.size qb b.sh) (hb1:b.of_.length<=9223372036854775807) (hb2:b.name.length<=9223372036854775807) (hg:WGlobs w):
 Y9 6 #[shV t q,.slice A L.length cap,.agg #[.string ⟨b.of_.toArray⟩,.string ⟨b.name.toArray⟩,.int .i64 b.sh.kind,.string ⟨b.sh.of_.toArray⟩,.string ⟨b.sh.name.toArray⟩,.slice qb.A b.sh.names.length qb.c,.slice qb.P b.sh.parts.length qb.d]] w (.bool true):=by
 have hx1:=Z00 w (.cells (Y8 t q) 25);obtain ⟨u1,hu1⟩: ∃u1,w.alloc (.cells (Y8 t q) 25)=u1:=⟨_,rfl⟩;have hs1:u1.heap.size=w.heap.size+1:=by rw[<-hu1]; simp
 have hy1:=Z07 w t q;rw[hu1] at hx1 hy1;have hx2:=Z00 u1 (.cells #[.string ⟨b.of_.toArray⟩,.string ⟨b.name.toArray⟩,.int .i64 b.sh.kind,.string ⟨b.sh.of_.toArray⟩,.string ⟨b.sh.name.toArray⟩,.slice qb.A b.sh.names.length qb.c,.slice qb.P b.sh.parts.length qb.d] 54);obtain ⟨W1,hu2⟩: ∃u2,u1.alloc (.cells #[.string ⟨b.of_.toArray⟩,.string ⟨b.name.toArray⟩,.int .i64 b.sh.kind,.string ⟨b.sh.of_.toArray⟩,.string ⟨b.sh.name.toArray⟩,.slice qb.A b.sh.names.length qb.c,.slice qb.P b.sh.parts.length qb.d] 54)=u2:=⟨_,rfl⟩;have hy2:=Z8c u1 b qb;rw[hu2] at hx2 hy2;rw[hs1] at hy2;have hbb:=Z02 hx1 hx2;have HBt:=Y1 (hy1.next hx2);have HBb:=Y1 hy2;have HQ:=Y1 (hq.next hbb);have HL:=Y1 (hL.next hbb);have HS:=Y1 (hbs.next hbb);have HG:=Y1 (hg.next hbb);have HB:=Y1 hbb;have HLL:=Y1 (And.intro hl (And.intro hc hz));have HBL:=Y1 (And.intro hb1 hb2);clear hx1 hx2 hy1 hy2 hbb hq hL hbs hg hl hc hz hb1 hb2;have HSM:=Y1 (Z53 L A cap W1 HL.out HLL.out.1);unfold shV;obtain ⟨_,⟨a0,a1,a2,a3,a4⟩,_⟩:=HBt.out;obtain ⟨_,y0,y1,y2,y3,y4,y5,y6⟩:=HBb.out;simp only[Nat.zero_add] at a0 a1 a2 a3 a4;go_enter Tryd.func6,Tryd.ntmps6
 go_wp2_with fail
 refine HSM.out.mono ?_;rintro e v1 ⟨rfl,hbb⟩;have HBt:=Y1 (HBt.out.next hbb);have HBb:=Y1 (HBb.out.next hbb);have HQ:=Y1 (HQ.out.next hbb);have HL:=Y1 (HL.out.next hbb);have HS:=Y1 (HS.out.next hbb);have HG:=Y1 (HG.out.next hbb);have HB:=Y1 (Z02 HB.out hbb);clear hbb HSM hu1 hu2 hs1 a0 a1 a2 a3 a4 y0 y1 y2 y3 y4 y5 y6;obtain ⟨sm,hsm⟩: ∃c,smallB L=c:=⟨_,rfl⟩;rw[hsm];cases sm with
 | false=>
  clear hsm
  go_wp2_with fail
  refine (Z0V _ HG.out).mono ?_;rintro e v2 ⟨rfl,hb9⟩;have HB9:=Y1 (Z02 HB.out hb9);clear hb9;go_wp2;go_ret;exact ⟨rfl,HB9.out⟩
 | true=>
  have HLN:Hid (L.length<=60):=Y1 (Z97 hsm);clear hsm;obtain ⟨_,y0,y1,y2,y3,y4,y5,y6⟩:=HBb.out;have hbb:=Z00 v1 (.cells #[.string ⟨b.of_.toArray⟩,.string ⟨b.name.toArray⟩,.int .i64 b.sh.kind,.string ⟨b.sh.of_.toArray⟩,.string ⟨b.sh.name.toArray⟩,.slice qb.A b.sh.names.length qb.c,.slice qb.P b.sh.parts.length qb.d] 54);have hone:=ZbK v1 b qb HS.out HBL.out.1 HBL.out.2;obtain ⟨v2,hv2⟩: ∃v2,v1.alloc (.cells #[.string ⟨b.of_.toArray⟩,.string ⟨b.name.toArray⟩,.int .i64 b.sh.kind,.string ⟨b.sh.of_.toArray⟩,.string ⟨b.sh.name.toArray⟩,.slice qb.A b.sh.names.length qb.c,.slice qb.P b.sh.parts.length qb.d] 54)=v2:=⟨_,rfl⟩;rw[hv2] at hbb hone;have HSM:=Y1 (Z53 [b] (some ⟨v1.heap.size,0,none⟩) 1 v2 hone (by simp));have HBt:=Y1 (HBt.out.next hbb);have HBb:=Y1 (HBb.out.next hbb);have HQ:=Y1 (HQ.out.next hbb);have HL:=Y1 (HL.out.next hbb);have HS:=Y1 (HS.out.next hbb);have HG:=Y1 (HG.out.next hbb);have HB:=Y1 (Z02 HB.out hbb);clear hbb hone
  go_wp2_with fail
  refine HSM.out.mono ?_;rintro e v3 ⟨rfl,hbb⟩;have HBt:=Y1 (HBt.out.next hbb);have HBb:=Y1 (HBb.out.next hbb);have HQ:=Y1 (HQ.out.next hbb);have HL:=Y1 (HL.out.next hbb);have HS:=Y1 (HS.out.next hbb);have HG:=Y1 (HG.out.next hbb);have HB:=Y1 (Z02 HB.out hbb);clear hbb HSM hv2 y0 y1 y2 y3 y4 y5 y6;obtain ⟨sm,hsm⟩: ∃c,smallB [b]=c:=⟨_,rfl⟩;rw[hsm];clear hsm;cases sm with
  | false=>
   go_wp2_with fail
   refine (Z0V _ HG.out).mono ?_;rintro e v4 ⟨rfl,hb9⟩;have HB9:=Y1 (Z02 HB.out hb9);clear hb9;go_wp2;go_ret;exact ⟨rfl,HB9.out⟩
  | true=>
   obtain ⟨_,⟨a0,a1,a2,a3,a4⟩,_⟩:=HBt.out;simp only[Nat.zero_add] at a0 a1 a2 a3 a4;have hsz:=Z3n t q 400 v3 HQ.out (by omega);rw[show (((400:Nat):Int))=(400:Int) from rfl] at hsz;have HSZ:=Y1 hsz;clear hsz
   go_wp2_with fail
   refine HSZ.out.mono ?_;rintro e v4 ⟨rfl,hbb⟩;have HBt:=Y1 (HBt.out.next hbb);have HBb:=Y1 (HBb.out.next hbb);have HQ:=Y1 (HQ.out.next hbb);have HL:=Y1 (HL.out.next hbb);have HS:=Y1 (HS.out.next hbb);have HG:=Y1 (HG.out.next hbb);have HB:=Y1 (Z02 HB.out hbb);clear hbb HSZ a0 a1 a2 a3 a4;obtain ⟨sz,hsz⟩: ∃z:Int,(sizeTo 400 t:Int)=z:=⟨_,rfl⟩;rw[hsz];by_cases hbig:400 < size t
   {have hx: (400:Int) < sz:=by rw[<-hsz]; unfold sizeTo; omega
    clear hbig hsz
    go_wp2_with fail
    refine (Z0V _ HG.out).mono ?_;rintro e v5 ⟨rfl,hb9⟩;have HB9:=Y1 (Z02 HB.out hb9);clear hb9;go_wp2;go_ret;exact ⟨rfl,HB9.out⟩}
   have hx: ¬(400:Int) < sz:=by rw[<-hsz]; unfold sizeTo; omega
   clear hsz;have HZ:Hid (size t<=400):=Y1 (by omega);clear hbig;obtain ⟨j,hj⟩: ∃j,j=(Expd.resolve L t).1:=⟨_,rfl⟩;obtain ⟨er,her⟩: ∃er,er=(Expd.resolve L t).2:=⟨_,rfl⟩;have HJ:=Y1 (And.intro hj her);clear hj her;obtain ⟨_,⟨a0,a1,a2,a3,a4⟩,_⟩:=HBt.out;simp only[Nat.zero_add] at a0 a1 a2 a3 a4;have HU:=Y1 (Z13 t q L A cap v4 HQ.out HL.out (by have:=HLN.out; omega) HG.out);unfold shV at HU
   go_wp2_with fail
   refine HU.out.mono ?_;rintro e v5 ⟨q1,he,hk,hb1⟩;rw[<-HJ.out.1, <-HJ.out.2] at he;rw[<-HJ.out.1] at hk;unfold shV at he;subst he;have hb2:=Z00 v5 (.cells (Y8 j q1) 25);have hbb:=Z02 hb1 hb2;have HXj:=Y1 (Z07 v5 j q1);have HAj:=Y1 (hk.next hb2);have HBt:=Y1 (HBt.out.next hbb);have HBb:=Y1 (HBb.out.next hbb);have HQ:=Y1 (HQ.out.next hbb);have HL:=Y1 (HL.out.next hbb);have HS:=Y1 (HS.out.next hbb);have HG:=Y1 (HG.out.next hbb);have HB:=Y1 (Z02 HB.out hbb);clear hk hb1 hb2 hbb HU a0 a1 a2 a3 a4 hx;obtain ⟨V6,hW⟩: ∃W,v5.alloc (.cells (Y8 j q1) 25)=W:=⟨_,rfl⟩;rw[hW] at HXj HAj HBt HBb HQ HL HS HG HB;obtain ⟨_,⟨a0,a1,a2,a3,a4⟩,_⟩:=HBt.out;simp only[Nat.zero_add] at a0 a1 a2 a3 a4;have HCK:=Y1 (Z1g t q V6 HQ.out HG.out);have here:er=er:=rfl;have hbo: (er !=er)=false:=by simp
   go_wp2_with fail
   refine HCK.out.mono ?_;rintro e v7 ⟨rfl,hbb⟩;have HBt:=Y1 (HBt.out.next hbb);have HBb:=Y1 (HBb.out.next hbb);have HQ:=Y1 (HQ.out.next hbb);have HL:=Y1 (HL.out.next hbb);have HS:=Y1 (HS.out.next hbb);have HG:=Y1 (HG.out.next hbb);have HXj:=Y1 (HXj.out.next hbb);have HAj:=Y1 (HAj.out.next hbb);have HB:=Y1 (Z02 HB.out hbb);clear hbb HCK hW a0 a1 a2 a3 a4 here;obtain ⟨ck,hck⟩: ∃ck,(check t==0)=ck:=⟨_,rfl⟩;cases ck with
   | false=>
    obtain ⟨_,⟨a0,a1,a2,a3,a4⟩,_⟩:=HBt.out;simp only[Nat.zero_add] at a0 a1 a2 a3 a4;obtain ⟨_,y0,y1,y2,y3,y4,y5,y6⟩:=HBb.out;have HMT:=Y1 (Z5a (deep t) t q b qb v7 (Nat.le_refl _) HQ.out)
    go_wp2_with fail
    refine HMT.out.mono ?_;rintro e m1 ⟨rfl,hbb⟩;have HBt:=Y1 (HBt.out.next hbb);have HBb:=Y1 (HBb.out.next hbb);have HQ:=Y1 (HQ.out.next hbb);have HL:=Y1 (HL.out.next hbb);have HS:=Y1 (HS.out.next hbb);have HG:=Y1 (HG.out.next hbb);have HXj:=Y1 (HXj.out.next hbb);have HAj:=Y1 (HAj.out.next hbb);have HB:=Y1 (Z02 HB.out hbb);clear hbb HMT a0 a1 a2 a3 a4 y0 y1 y2 y3 y4 y5 y6;obtain ⟨mt,hmt⟩: ∃c,mB b.of_ b.name t=c:=⟨_,rfl⟩;rw[hmt];cases mt with
    | true=>
     clear hmt
     go_wp2_with fail
     refine (Z0V _ HG.out).mono ?_;rintro e v20 ⟨rfl,hb9⟩;have HB9:=Y1 (Z02 HB.out hb9);clear hb9;go_wp2;go_ret;exact ⟨rfl,HB9.out⟩
    | false=>
     have HNM:=Y1 (Expd.mB_keys t hmt);clear hmt;obtain ⟨lE,hlE,hok,hcl⟩:=Z4a HL.out;have hlen:lE.length=L.length:=by have:=congrArg List.length hlE; simpa using this
     obtain ⟨k,hk⟩: ∃k,k=L.length / 2:=⟨_,rfl⟩;have hkd: (L.length:Int).tdiv 2=(k:Int):=by rw[hk]; rfl
     have hkl:k<=L.length:=by omega
     have hcap:=HLL.out.2.1;have hkw:IntKind.i64.wrap (k:Int)=(k:Int):=IntWalk.i64_in _ (by have:=HLN.out; omega);have HK:=Y1 (And.intro hkl (And.intro hlen hlE));have HOK:=Y1 hok;have HCL:=Y1 hcl;have hk0: (0:Int)<=(k:Int):=by omega
     clear hk hok hcl hlE
     go_wp2_with fail
     obtain ⟨A1,hA1⟩: ∃X:Option Addr,X=(if cap=0 then A else A.map (·.add (0 * 7))):=⟨_,rfl⟩;obtain ⟨A2,hA2⟩: ∃X:Option Addr,X=(if cap=k then A else A.map (·.add (k * 7))):=⟨_,rfl⟩;have HA1:Hid ((A1=none->k=0/\cap=0)/\ ∀W,Below m1.heap.size m1 W-> ∀ad,A1=some ad-> ∀j v,(cellsB (lE.take k))[j]? =some v->W.cell? (ad.add j)=some v):=Y1 ⟨fun h=>by
      have h0:A=none:=by
       rw[hA1] at h;by_cases c0:cap=0
       {rw[if_pos c0] at h; exact h}
       {rw[if_neg c0] at h; cases A with
        | none=>rfl
        | some a=>cases h}
      have:=HLL.out.2.2 h0;omega,fun W hW ad e j v hv=>by
      rcases HCL.out with h0 | ⟨g,off,hA,hg,hc⟩
      {rw[h0] at hv; simp[cellsB] at hv}
      · have hj:j < k * 7:=by have:=(List.getElem?_eq_some_iff.1 hv).1; rw[Z0h,List.length_take] at this; omega
        have hv2: (cellsB lE)[j]? =some v:=by
         rw[<-List.take_append_drop k lE,Z0j,List.getElem?_append_left (by rw[Z0h,List.length_take]; omega)]; exact hv
        have e2:ad=⟨g,off,none⟩:=by
         rw[hA1,hA] at e;by_cases c0:cap=0
         {omega}
         {rw[if_neg c0] at e; simp only[Option.map_some,Option.some.injEq] at e; rw[<-e,Z0b,Nat.zero_mul,Nat.add_zero]}
        rw[e2,Z0b];exact (hW.cell (p:=⟨g,off+j,none⟩) hg).trans (hc j v hv2)⟩
     have HA2:Hid ((A2=none->L.length - k=0/\cap - k=0)/\ ∀W,Below m1.heap.size m1 W-> ∀ad,A2=some ad-> ∀j v,(cellsB (lE.drop k))[j]? =some v->W.cell? (ad.add j)=some v):=Y1 ⟨fun h=>by
      have h0:A=none:=by
       rw[hA2] at h;by_cases c0:cap=k
       {rw[if_pos c0] at h; exact h}
       {rw[if_neg c0] at h; cases A with
        | none=>rfl
        | some a=>cases h}
      have:=HLL.out.2.2 h0;omega,fun W hW ad e j v hv=>by
      rcases HCL.out with h0 | ⟨g,off,hA,hg,hc⟩
      {rw[h0] at hv; simp[cellsB] at hv}
      · have hj:j < (lE.length - k) * 7:=by have:=(List.getElem?_eq_some_iff.1 hv).1; rw[Z0h,List.length_drop] at this; omega
        have hv2: (cellsB lE)[k * 7+j]? =some v:=by
         rw[<-List.take_append_drop k lE,Z0j,List.getElem?_append_right (by rw[Z0h,List.length_take]; omega)];rw[Z0h,List.length_take,show k * 7+j - min k lE.length * 7=j by rw[Nat.min_eq_left (by omega)]; omega]; exact hv
        have e2:ad=⟨g,off+k * 7,none⟩:=by
         rw[hA2,hA] at e;by_cases c0:cap=k
         {omega}
         {rw[if_neg c0] at e; simp only[Option.map_some,Option.some.injEq] at e; rw[<-e,Z0b]}
        rw[e2,Z0b,Nat.add_assoc];exact (hW.cell (p:=⟨g,off+(k * 7+j),none⟩) hg).trans (hc _ v hv2)⟩
     obtain ⟨ib,hifb,hzb,hsb,hbb7⟩:=Z8a Z8b;have hdis:Dis 0 4 7 11 6:=by decide
     refine Z49 (rs:= [0,1,2,3,4,5,6,7,8,9,10,11,12])
      (fun u'=> { tmps:=#[.agg (Y8 t q),.slice A L.length cap,.agg #[.string { data:=b.of_.toArray },.string { data:=b.name.toArray },.int .i64 b.sh.kind,.string { data:=b.sh.of_.toArray },.string { data:=b.sh.name.toArray },.slice qb.A b.sh.names.length qb.c,.slice qb.P b.sh.parts.length qb.d],.pointer (some { block:=w.heap.size,off:=0 }),undef,.pointer (some { block:=w.heap.size+1,off:=0 }),.bool false,.pointer (some { block:=v5.heap.size,off:=0 }),.int .i64 er,undef,undef,.int .i64 ↑k,u' 12,undef,undef,undef,undef,.slice A L.length cap,.bool true,.bool false,.bool false,.agg #[.string { data:=b.of_.toArray },.string { data:=b.name.toArray },.int .i64 b.sh.kind,.string { data:=b.sh.of_.toArray },.string { data:=b.sh.name.toArray },.slice qb.A b.sh.names.length qb.c,.slice qb.P b.sh.parts.length qb.d],.slice (some { block:=v1.heap.size,off:=0 }) 1 1,.bool true,.bool false,.bool false,.bool false,.agg (Y8 t q),.int .i64 sz,.bool (decide (400 < sz)),.bool (decide (400 < sz)),undef,.tuple #[.agg (Y8 j q1),.int .i64 er],.agg (Y8 t q),.slice A L.length cap,.tuple #[.agg (Y8 j q1),.int .i64 er],.agg (Y8 j q1),.int .i64 er,.agg (Y8 t q),.int .i64 (check t),.bool false,undef,undef,undef,undef,undef,undef,undef,undef,undef,undef,undef,undef,undef,undef,undef,undef,.agg (Y8 t q),.agg #[.string { data:=b.of_.toArray },.string { data:=b.name.toArray },.int .i64 b.sh.kind,.string { data:=b.sh.of_.toArray },.string { data:=b.sh.name.toArray },.slice qb.A b.sh.names.length qb.c,.slice qb.P b.sh.parts.length qb.d],.bool false,undef,.slice A L.length cap,.int .i64 ↑L.length,.int .i64 ↑k,u' 0,u' 1,u' 2,u' 3,u' 4,u' 5,u' 6,u' 7,u' 8,u' 9,u' 10,u' 11,undef,undef,undef,undef,undef,undef,undef,undef,undef,undef,undef,undef,undef,undef,undef,undef,undef,undef,undef,undef,undef,undef,undef,undef,undef,undef,undef,undef,undef,undef,undef,undef,undef,undef,undef,undef,undef,undef],defers:= [] })
      (fun j=>([undef,undef,undef,undef,undef,undef,undef,undef,undef,undef,undef,undef,undef]:List Value).getD j undef) (CJ m1 (fun j=>match j with | 1 | 8=>some (.slice A L.length cap) | 2 | 9=>some (.int .i64 (k:Int)) | 3=>some (.slice A1 k cap) | 5=>some (.agg #[.string ⟨b.of_.toArray⟩,.string ⟨b.name.toArray⟩,.int .i64 b.sh.kind,.string ⟨b.sh.of_.toArray⟩,.string ⟨b.sh.name.toArray⟩,.slice qb.A b.sh.names.length qb.c,.slice qb.P b.sh.parts.length qb.d]) | 10=>some (.slice A2 (L.length - k) (cap - k)) | _=>none) (lE.take k) (lE.drop k) (b,qb) 0 4 7 6) (by kernel_rfl) (by kernel_rfl) (by kernel_rfl) CJ.start ?_ ?_
     refine StepsInv.cons2 _ rfl (fun d u' W K' hs hI hd hw hK=> ?_) ?_
     {refine Z03 (v:= .slice (some ⟨W.heap.size,0,none⟩) 0 0) (W':=W.alloc (.cells #[] 54)) rfl ?_ (hK.out _ _ (hI.on (by decide) (hI.ci.mk0 hdis rfl)));go_simp}
     refine StepsInv.cons2 _ rfl (fun d u' W K' hs hI hd hw hK=> ?_) ?_
     {refine Z03 (v:= .slice A L.length cap) (W':=W) rfl ?_ (hK.out _ _ (hI.on (by decide) (hI.ci.pure (by decide) (fun v' h=>by cases h; rfl) Y2)));go_simp}
     refine StepsInv.cons2 _ rfl (fun d u' W K' hs hI hd hw hK=> ?_) ?_
     {refine Z03 (v:= .int .i64 (k:Int)) (W':=W) rfl ?_ (hK.out _ _ (hI.on (by decide) (hI.ci.pure (by decide) (fun v' h=>by cases h; rfl) Y2)));go_simp}
     refine StepsInv.cons2 _ rfl (fun d u' W K' hs hI hd hw hK=> ?_) ?_
     {have d1:u' 1= .slice A L.length cap:=hI.ci.vals 1 (hw 1 (by kernel_rfl)) _ rfl;have d2:u' 2= .int .i64 (k:Int):=hI.ci.vals 2 (hw 2 (by kernel_rfl)) _ rfl;refine Z03 (v:= .slice A1 k cap) (W':=W) rfl ?_ (hK.out _ _ (hI.on (by decide) (hI.ci.pure (by decide) (fun v' h=>by cases h; rfl) Y2)));have kk1: (cap:Int) - 0=(cap:Int):=by omega
      have kk2: ¬cap < k:=by omega
      have kk3: ¬(cap:Int) < (k:Int):=by omega
      go_simp
      all_goals (intro hh; omega)}
     refine StepsInv.cons2 _ rfl (fun d u' W K' hs hI hd hw hK=> ?_) ?_
     {have d4:d 4=false:=hd;have d7:d 7=false:=Z0a hs rfl (by kernel_rfl) hd;have d11:d 11=false:=Z0a hs rfl (by kernel_rfl) d7;have w0:=hw 0 (by kernel_rfl);have d3:u' 3= .slice A1 k cap:=hI.ci.vals 3 (hw 3 (by kernel_rfl)) _ rfl;refine Z0e rfl _ _ 26 rfl m1.heap.size 54 ib (.agg #[.string ByteArray.empty,.string ByteArray.empty,.int .i64 0,.string ByteArray.empty,.string ByteArray.empty,.slice none 0 0,.slice none 0 0]) 7 120 Tryd.underlying26 hifb hzb hsb hbb7 rfl (by decide) (u' 0) 0 [] rfl (hI.ci.r0 w0 d4) A1 k cap (cellsB (lE.take k)) (by show u' 3=_; exact d3) (HA1.out.1) (by rw[Z0h,List.length_take,Nat.min_eq_left (by omega)]) (HA1.out.2 W hI.ci.up) (Z0B _) (by unfold maxLen; have:=HLN.out; omega) (by have:=HLN.out; omega) hI.ci.up.size ?_;intro v' w' hown hg hat;exact hK.out _ _ (hI.on (by decide) (hI.ci.ap1 hdis rfl w0 d4 d7 d11 (by rw[List.length_take,Nat.min_eq_left (by omega)]; rwa [Nat.zero_add,List.nil_append] at hown) hg hat))}
     refine StepsInv.cons2 _ rfl (fun d u' W K' hs hI hd hw hK=> ?_) ?_
     {obtain ⟨_,y0,y1,y2,y3,y4,y5,y6⟩:=HBb.out.next hI.ci.up;refine Z03 (v:= .agg #[.string ⟨b.of_.toArray⟩,.string ⟨b.name.toArray⟩,.int .i64 b.sh.kind,.string ⟨b.sh.of_.toArray⟩,.string ⟨b.sh.name.toArray⟩,.slice qb.A b.sh.names.length qb.c,.slice qb.P b.sh.parts.length qb.d]) (W':=W) rfl ?_ (hK.out _ _ (hI.on (by decide) (hI.ci.pure (by decide) (fun v' h=>by cases h; rfl) Y2)));go_simp}
     refine StepsInv.cons2 _ rfl (fun d u' W K' hs hI hd hw hK=> ?_) ?_
     {have d5:u' 5= .agg #[.string ⟨b.of_.toArray⟩,.string ⟨b.name.toArray⟩,.int .i64 b.sh.kind,.string ⟨b.sh.of_.toArray⟩,.string ⟨b.sh.name.toArray⟩,.slice qb.A b.sh.names.length qb.c,.slice qb.P b.sh.parts.length qb.d]:=hI.ci.vals 5 (hw 5 (by kernel_rfl)) _ rfl;refine Z03 (v:= .slice (some ⟨W.heap.size,0,none⟩) 1 1) (W':=W.alloc (.cells #[.string ⟨b.of_.toArray⟩,.string ⟨b.name.toArray⟩,.int .i64 b.sh.kind,.string ⟨b.sh.of_.toArray⟩,.string ⟨b.sh.name.toArray⟩,.slice qb.A b.sh.names.length qb.c,.slice qb.P b.sh.parts.length qb.d] 54)) rfl ?_ (hK.out _ _ (hI.on (by decide) (hI.ci.mkb hdis rfl)));go_simp}
     refine StepsInv.cons2 _ rfl (fun d u' W K' hs hI hd hw hK=> ?_) ?_
     {have d7:d 7=false:=hd;have d11:d 11=false:=Z0a hs rfl (by kernel_rfl) d7;have w4:=hw 4 (by kernel_rfl);obtain ⟨zb,d6,z1,z2,_,_,z5⟩:=hI.ci.rb (hw 6 (by kernel_rfl)) d7
      try dsimp only at d6
      have hln: (lE.take k).length=k:=by rw[List.length_take,Nat.min_eq_left (by omega)]
      refine Z0e rfl _ _ 26 rfl m1.heap.size 54 ib (.agg #[.string ByteArray.empty,.string ByteArray.empty,.int .i64 0,.string ByteArray.empty,.string ByteArray.empty,.slice none 0 0,.slice none 0 0]) 7 120 Tryd.underlying26 hifb hzb hsb hbb7 rfl (by decide) (u' 4) (lE.take k).length (cellsB (lE.take k)) rfl (hI.ci.r1 w4 d7) (some ⟨zb,0,none⟩) 1 1 (cellsB [(b,qb)]) (by show u' 6=_; exact d6) (nofun) (by rw[Z0h]; rfl) (by intro ad e j v hv; cases e; rw[Z0b,Nat.zero_add]; exact z5 j v (by rw[<-Z1u]; exact hv)) (Z0B _) (by unfold maxLen; have:=HLN.out; omega) (by have:=HLN.out; omega) hI.ci.up.size ?_;intro v' w' hown hg hat;exact hK.out _ _ (hI.on (by decide) (hI.ci.ap2 hdis rfl w4 d7 d11 (by rw[Z0j]; exact hown) hg))}
     refine StepsInv.cons2 _ rfl (fun d u' W K' hs hI hd hw hK=> ?_) ?_
     {refine Z03 (v:= .slice A L.length cap) (W':=W) rfl ?_ (hK.out _ _ (hI.on (by decide) (hI.ci.pure (by decide) (fun v' h=>by cases h; rfl) Y2)));go_simp}
     refine StepsInv.cons2 _ rfl (fun d u' W K' hs hI hd hw hK=> ?_) ?_
     {refine Z03 (v:= .int .i64 (k:Int)) (W':=W) rfl ?_ (hK.out _ _ (hI.on (by decide) (hI.ci.pure (by decide) (fun v' h=>by cases h; rfl) Y2)));go_simp}
     refine StepsInv.cons2 _ rfl (fun d u' W K' hs hI hd hw hK=> ?_) ?_
     {have d8:u' 8= .slice A L.length cap:=hI.ci.vals 8 (hw 8 (by kernel_rfl)) _ rfl;have d9:u' 9= .int .i64 (k:Int):=hI.ci.vals 9 (hw 9 (by kernel_rfl)) _ rfl;refine Z03 (v:= .slice A2 (L.length - k) (cap - k)) (W':=W) rfl ?_ (hK.out _ _ (hI.on (by decide) (hI.ci.pure (by decide) (fun v' h=>by cases h; rfl) Y2)));go_simp}
     refine StepsInv.cons2 _ rfl (fun d u' W K' hs hI hd hw hK=> ?_) ?_
     {have d11:d 11=false:=hd;have d12:d 12=false:=Z0a hs rfl (by kernel_rfl) hd;have w7:=hw 7 (by kernel_rfl);have w4:d 4=true:=hs 7 _ rfl w7 4 (by kernel_rfl);have d10:u' 10= .slice A2 (L.length - k) (cap - k):=hI.ci.vals 10 (hw 10 (by kernel_rfl)) _ rfl;have hln: (lE.take k).length=k:=by rw[List.length_take,Nat.min_eq_left (by omega)]
      have hld: (lE.drop k).length=L.length - k:=by rw[List.length_drop]; omega
      refine Z0e rfl _ _ 26 rfl m1.heap.size 54 ib (.agg #[.string ByteArray.empty,.string ByteArray.empty,.int .i64 0,.string ByteArray.empty,.string ByteArray.empty,.slice none 0 0,.slice none 0 0]) 7 120 Tryd.underlying26 hifb hzb hsb hbb7 rfl (by decide) (u' 7) ((lE.take k).length+1) (cellsB (lE.take k++ [(b,qb)])) rfl (hI.ci.r2 w7 d11) A2 (L.length - k) (cap - k) (cellsB (lE.drop k)) (by show u' 10=_; exact d10) (HA2.out.1) (by rw[Z0h,hld]) (HA2.out.2 W hI.ci.up) (Z0B _) (by unfold maxLen; have:=HLN.out; omega) (by have:=HLN.out; omega) hI.ci.up.size ?_;intro v' w' hown hg hat;exact hK.out _ _ (CJ.on11 d12 (hI.ci.ap3 hdis rfl w4 w7 d11 (by rw[Z0j,hld]; exact hown) hg))}
     refine StepsInv.cons2 _ rfl (fun d u' W K' hs hI hd hw hK=> ?_) StepsInv.nil
     {have w11:=hw 11 (by kernel_rfl);refine Z03 (v:=u' 11) (W':=W) rfl ?_ (hK.out _ _ (CJ.on12 (hI.ci.pure (by decide) (fun v' h=>by cases h) Y2)));go_simp}
     intro d z' W2 hI hdn
     try dsimp only
     have hrow:=hI.ci.r3 rfl (hdn 11 (by decide));rw[hI.al (hdn 12 (by decide))];have hbb:=hI.ci.up;have hln: (lE.take k).length=k:=by rw[List.length_take,Nat.min_eq_left (by omega)]
     have hld: (lE.drop k).length=L.length - k:=by rw[List.length_drop]; omega
     obtain ⟨g3,c3,e11⟩:=Z3t hrow (by omega);rw[e11] at hrow ⊢;have HOK2:Hid (∀x∈lE,BOk W2 W2.heap.size x):=Y1 (fun x hx=>Z3u (HOK.out x hx) hbb);have HBt:=Y1 (HBt.out.next hbb);have HBb:=Y1 (HBb.out.next hbb);have HQ:=Y1 (HQ.out.next hbb);have HL:=Y1 (HL.out.next hbb);have HS:=Y1 (HS.out.next hbb);have HG:=Y1 (HG.out.next hbb);have HXj:=Y1 (HXj.out.next hbb);have HAj:=Y1 (HAj.out.next hbb);have HB:=Y1 (Z02 HB.out hbb);clear hI hdn hbb;obtain ⟨M,hM⟩: ∃M,M=L.take k++b::L.drop k:=⟨_,rfl⟩;have hMl: (lE.take k).length+1+(lE.drop k).length=M.length:=by rw[hM,hln,hld,List.length_append,List.length_cons,List.length_take,List.length_drop,Nat.min_eq_left hkl]; omega
     rw[hMl] at hrow ⊢;have hmap: (lE.take k++ [(b,qb)]++lE.drop k).map Prod.fst=M:=by rw[hM,List.map_append,List.map_append,List.map_take,List.map_drop,HK.out.2.2,List.append_assoc]; rfl
     have hBM:BdsAt W2 W2.heap.size (some ⟨g3,0,none⟩) M:=by
      have h:=Z4b hrow (by rw[List.length_append,List.length_append, <-hMl]; rfl) (fun x hx=>by
       rcases List.mem_append.1 hx with hx | hx
       {rcases List.mem_append.1 hx with hx | hx
        {exact HOK2.out x (List.mem_of_mem_take hx)}
        {rw[List.mem_singleton.1 hx]; exact ⟨HS.out,HBL.out⟩}}
       · exact HOK2.out x (List.mem_of_mem_drop hx))
      rw[hmap] at h; exact h
     have hres:Expd.resolve M t=Expd.resolve L t:=by rw[hM,Expd.resolve_more HNM.out,List.take_append_drop]
     have HRS:=Y1 hres;have HU:=Y1 (Z13 t q M (some ⟨g3,0,none⟩) c3 W2 HQ.out hBM (by have:=HLN.out; omega) HG.out);unfold shV at HU;obtain ⟨_,⟨a0,a1,a2,a3,a4⟩,_⟩:=HBt.out;simp only[Nat.zero_add] at a0 a1 a2 a3 a4;clear hrow hM hMl hmap hBM hres e11 hln hld HOK2 HCL HA1 HA2 hA1 hA2
     go_wp2_with fail
     refine HU.out.mono ?_;rintro e w3 ⟨q3,he,hk,hb1⟩;rw[HRS.out, <-HJ.out.1, <-HJ.out.2] at he;rw[HRS.out, <-HJ.out.1] at hk;unfold shV at he;subst he;have hb2:=Z00 w3 (.cells (Y8 j q3) 25);have hbb:=Z02 hb1 hb2;have HXk:=Y1 (Z07 w3 j q3);have HAk:=Y1 (hk.next hb2);have HBt:=Y1 (HBt.out.next hbb);have HBb:=Y1 (HBb.out.next hbb);have HQ:=Y1 (HQ.out.next hbb);have HL:=Y1 (HL.out.next hbb);have HS:=Y1 (HS.out.next hbb);have HG:=Y1 (HG.out.next hbb);have HXj:=Y1 (HXj.out.next hbb);have HAj:=Y1 (HAj.out.next hbb);have HB:=Y1 (Z02 HB.out hbb);clear hk hb1 hb2 hbb HU a0 a1 a2 a3 a4;obtain ⟨V3,hW⟩: ∃W,w3.alloc (.cells (Y8 j q3) 25)=W:=⟨_,rfl⟩;rw[hW] at HXk HAk HXj HAj HBt HBb HQ HL HS HG HB;obtain ⟨lF,hlF,hokF,hclF⟩:=Z4a HL.out;have hlenF:lF.length=L.length:=by have:=congrArg List.length hlF; simpa using this
     have HOF:=Y1 hokF;have HCF:=Y1 hclF;have HLF:=Y1 hlF;have hcap3:=HLL.out.2.1;clear hokF hclF hlF
     go_wp2_with fail
     clear hW;refine Z49 (rs:= [0,1,2,3,4,5,6,7,8,9,10,11,12,13])
      (fun u'=> { tmps:=#[.agg (Y8 t q),.slice A L.length cap,.agg #[.string { data:=b.of_.toArray },.string { data:=b.name.toArray },.int .i64 b.sh.kind,.string { data:=b.sh.of_.toArray },.string { data:=b.sh.name.toArray },.slice qb.A b.sh.names.length qb.c,.slice qb.P b.sh.parts.length qb.d],.pointer (some { block:=w.heap.size,off:=0 }),undef,.pointer (some { block:=w.heap.size+1,off:=0 }),.bool false,.pointer (some { block:=v5.heap.size,off:=0 }),.int .i64 er,undef,undef,.int .i64 ↑k,.slice (some { block:=g3,off:=0 }) M.length c3,.pointer (some { block:=w3.heap.size,off:=0 }),.int .i64 er,u' 11,u' 13,.slice A L.length cap,.bool true,.bool false,.bool false,.agg #[.string { data:=b.of_.toArray },.string { data:=b.name.toArray },.int .i64 b.sh.kind,.string { data:=b.sh.of_.toArray },.string { data:=b.sh.name.toArray },.slice qb.A b.sh.names.length qb.c,.slice qb.P b.sh.parts.length qb.d],.slice (some { block:=v1.heap.size,off:=0 }) 1 1,.bool true,.bool false,.bool false,.bool false,.agg (Y8 t q),.int .i64 sz,.bool (decide (400 < sz)),.bool (decide (400 < sz)),undef,.tuple #[.agg (Y8 j q1),.int .i64 er],.agg (Y8 t q),.slice A L.length cap,.tuple #[.agg (Y8 j q1),.int .i64 er],.agg (Y8 j q1),.int .i64 er,.agg (Y8 t q),.int .i64 (check t),.bool false,undef,undef,undef,undef,undef,undef,undef,undef,undef,undef,undef,undef,undef,undef,undef,undef,.agg (Y8 t q),.agg #[.string { data:=b.of_.toArray },.string { data:=b.name.toArray },.int .i64 b.sh.kind,.string { data:=b.sh.of_.toArray },.string { data:=b.sh.name.toArray },.slice qb.A b.sh.names.length qb.c,.slice qb.P b.sh.parts.length qb.d],.bool false,undef,.slice A L.length cap,.int .i64 ↑L.length,.int .i64 ↑k,z' 0,z' 1,z' 2,z' 3,z' 4,z' 5,z' 6,z' 7,z' 8,z' 9,z' 10,.slice (some { block:=g3,off:=0 }) M.length c3,.tuple #[.agg (Y8 j q3),.int .i64 er],.agg (Y8 t q),.slice (some { block:=g3,off:=0 }) M.length c3,.tuple #[.agg (Y8 j q3),.int .i64 er],.agg (Y8 j q3),.int .i64 er,u' 8,u' 0,u' 1,u' 2,u' 3,u' 4,u' 5,u' 6,u' 7,u' 9,u' 10,undef,undef,undef,undef,undef,undef,undef,undef,undef,undef,undef,undef,undef,undef,undef,undef,undef,undef,undef,undef,undef],defers:= [] })
      (fun j=>([undef,undef,undef,undef,undef,undef,undef,undef,undef,undef,undef,undef,undef,undef]:List Value).getD j undef) (MR V3 0 (mrV (.agg (Y8 t q)) (.slice A L.length cap) (.agg #[.string ⟨b.of_.toArray⟩,.string ⟨b.name.toArray⟩,.int .i64 b.sh.kind,.string ⟨b.sh.of_.toArray⟩,.string ⟨b.sh.name.toArray⟩,.slice qb.A b.sh.names.length qb.c,.slice qb.P b.sh.parts.length qb.d])) 7 (.int .i64 er) (some j) lF (b,qb) 1 3 6 5) (by kernel_rfl) (by kernel_rfl) (by kernel_rfl) MR.start ?_ ?_
     refine StepsInv.cons2 _ rfl (fun d u' W K' hs hI hd hw hK=> ?_) ?_
     {obtain ⟨_,⟨a0,a1,a2,a3,a4⟩,_⟩:=HBt.out.next hI.ci.up;simp only[Nat.zero_add] at a0 a1 a2 a3 a4;refine Z03 (v:= .agg (Y8 t q)) (W':=W) rfl ?_ (hK.out _ _ (hI.pure (by decide) (by decide) (fun v' h=>by cases h; rfl)));go_simp}
     refine StepsInv.cons2 _ rfl (fun d u' W K' hs hI hd hw hK=> ?_) ?_
     {have d3:d 3=false:=Z0a hs rfl (by kernel_rfl) hd;have d6:d 6=false:=Z0a hs rfl (by kernel_rfl) d3;have d7:d 7=false:=Z0a hs rfl (by kernel_rfl) d6;refine Z03 (v:= .slice (some ⟨W.heap.size,0,none⟩) 0 0) (W':=W.alloc (.cells #[] 54)) rfl ?_ (hK.out _ _ (hI.mk0 (show Dis 1 3 6 7 5 by decide) (by decide) d7 rfl));go_simp}
     refine StepsInv.cons2 _ rfl (fun d u' W K' hs hI hd hw hK=> ?_) ?_
     {refine Z03 (v:= .slice A L.length cap) (W':=W) rfl ?_ (hK.out _ _ (hI.pure (by decide) (by decide) (fun v' h=>by cases h; rfl)));go_simp}
     refine StepsInv.cons2 _ rfl (fun d u' W K' hs hI hd hw hK=> ?_) ?_
     {have d3:d 3=false:=hd;have d6:d 6=false:=Z0a hs rfl (by kernel_rfl) hd;have d7:d 7=false:=Z0a hs rfl (by kernel_rfl) d6;have w1:=hw 1 (by kernel_rfl);have d2:u' 2= .slice A L.length cap:=hI.ci.vals 2 (hw 2 (by kernel_rfl)) _ rfl;refine Z0e rfl _ _ 26 rfl V3.heap.size 54 ib (.agg #[.string ByteArray.empty,.string ByteArray.empty,.int .i64 0,.string ByteArray.empty,.string ByteArray.empty,.slice none 0 0,.slice none 0 0]) 7 120 Tryd.underlying26 hifb hzb hsb hbb7 rfl (by decide) (u' 1) 0 [] rfl (hI.ci.r0 w1 d3) A L.length cap (cellsB lF) (by show u' 2=_; exact d2) (fun h=>by have:=HLL.out.2.2 h; omega) (by rw[Z0h,hlenF]) (by
       intro ad e j v hv;rcases HCF.out with h0 | ⟨g,off,hA,hg,hc⟩
       {rw[h0] at hv; simp[cellsB] at hv}
       · rw[hA] at e; cases e; rw[Z0b]; exact (hI.ci.up.cell (p:=⟨g,off+j,none⟩) hg).trans (hc j v hv)) (Z0B _) (by unfold maxLen; have:=HLN.out; omega) (by have:=HLN.out; omega) hI.ci.up.size ?_
      intro v' w' hown hg hat;exact hK.out _ _ (hI.ap1 (show Dis 1 3 6 7 5 by decide) (by decide) rfl w1 d3 d6 d7 (by rw[hlenF]; rwa [Nat.zero_add,List.nil_append] at hown) hg hat)}
     refine StepsInv.cons2 _ rfl (fun d u' W K' hs hI hd hw hK=> ?_) ?_
     {obtain ⟨_,y0,y1,y2,y3,y4,y5,y6⟩:=HBb.out.next hI.ci.up;refine Z03 (v:= .agg #[.string ⟨b.of_.toArray⟩,.string ⟨b.name.toArray⟩,.int .i64 b.sh.kind,.string ⟨b.sh.of_.toArray⟩,.string ⟨b.sh.name.toArray⟩,.slice qb.A b.sh.names.length qb.c,.slice qb.P b.sh.parts.length qb.d]) (W':=W) rfl ?_ (hK.out _ _ (hI.pure (by decide) (by decide) (fun v' h=>by cases h; rfl)));go_simp}
     refine StepsInv.cons2 _ rfl (fun d u' W K' hs hI hd hw hK=> ?_) ?_
     {have d4:u' 4= .agg #[.string ⟨b.of_.toArray⟩,.string ⟨b.name.toArray⟩,.int .i64 b.sh.kind,.string ⟨b.sh.of_.toArray⟩,.string ⟨b.sh.name.toArray⟩,.slice qb.A b.sh.names.length qb.c,.slice qb.P b.sh.parts.length qb.d]:=hI.ci.vals 4 (hw 4 (by kernel_rfl)) _ rfl;have d6:d 6=false:=Z0a hs rfl (by kernel_rfl) hd;have d7:d 7=false:=Z0a hs rfl (by kernel_rfl) d6;refine Z03 (v:= .slice (some ⟨W.heap.size,0,none⟩) 1 1) (W':=W.alloc (.cells #[.string ⟨b.of_.toArray⟩,.string ⟨b.name.toArray⟩,.int .i64 b.sh.kind,.string ⟨b.sh.of_.toArray⟩,.string ⟨b.sh.name.toArray⟩,.slice qb.A b.sh.names.length qb.c,.slice qb.P b.sh.parts.length qb.d] 54)) rfl ?_ (hK.out _ _ (hI.mkb (show Dis 1 3 6 7 5 by decide) (by decide) d7 rfl));go_simp}
     refine StepsInv.cons2 _ rfl (fun d u' W K' hs hI hd hw hK=> ?_) ?_
     {have d6:d 6=false:=hd;have d7:d 7=false:=Z0a hs rfl (by kernel_rfl) hd;have w3:=hw 3 (by kernel_rfl);obtain ⟨zb,d5,z1,z2,_,_,z5⟩:=hI.ci.rb (hw 5 (by kernel_rfl)) d6
      try dsimp only at d5
      refine Z0e rfl _ _ 26 rfl V3.heap.size 54 ib (.agg #[.string ByteArray.empty,.string ByteArray.empty,.int .i64 0,.string ByteArray.empty,.string ByteArray.empty,.slice none 0 0,.slice none 0 0]) 7 120 Tryd.underlying26 hifb hzb hsb hbb7 rfl (by decide) (u' 3) lF.length (cellsB lF) rfl (hI.ci.r1 w3 d6) (some ⟨zb,0,none⟩) 1 1 (cellsB [(b,qb)]) (by show u' 5=_; exact d5) (nofun) (by rw[Z0h]; rfl) (by intro ad e j v hv; cases e; rw[Z0b,Nat.zero_add]; exact z5 j v (by rw[<-Z1u]; exact hv)) (Z0B _) (by unfold maxLen; have:=HLN.out; omega) (by have:=HLN.out; omega) hI.ci.up.size ?_;intro v' w' hown hg hat;exact hK.out _ _ (hI.ap2 (show Dis 1 3 6 7 5 by decide) (by decide) rfl w3 d6 d7 (by rw[Z0j]; exact hown) hg)}
     refine StepsInv.cons2 _ rfl (fun d u' W K' hs hI hd hw hK=> ?_) ?_
     {have d7:d 7=false:=hd;have h1:d 8=false:=Z0a hs rfl (by kernel_rfl) hd;have h2:d 9=false:=Z0a hs rfl (by kernel_rfl) h1;have h3:d 10=false:=Z0a hs rfl (by kernel_rfl) h1;have h5:d 12=false:=Z0a hs rfl (by kernel_rfl) h2;have h6:d 13=false:=Z0a hs rfl (by kernel_rfl) h3;have w6:=hw 6 (by kernel_rfl);have w3:d 3=true:=hs 6 _ rfl w6 3 (by kernel_rfl);have d0:u' 0= .agg (Y8 t q):=hI.ci.vals 0 (hw 0 (by kernel_rfl)) _ rfl;have hr:=hI.ci.r2 w6 d7;obtain ⟨g6,c6,e6⟩:=Z3t hr (by omega);rw[e6] at hr;have hM2:lF.length+1=(L++ [b]).length:=by rw[List.length_append,hlenF]; rfl
      rw[hM2] at hr e6;have hup:=hI.ci.up;have hB2:BdsAt W W.heap.size (some ⟨g6,0,none⟩) (L++ [b]):=by
       have h:=Z4b hr (by rw[List.length_append,List.length_append,hlenF]; rfl) (fun x hx=>by
        rcases List.mem_append.1 hx with hx | hx
        {exact Z3u (HOF.out x hx) hup}
        · rw[List.mem_singleton.1 hx]; exact ⟨HS.out.next hup,HBL.out⟩)
       rw[List.map_append,HLF.out] at h; exact h
      have hres:Expd.resolve (L++ [b]) t=Expd.resolve L t:=by
       have h:=Expd.resolve_more (l:=L) (m:= []) HNM.out;rw[List.append_nil] at h; exact h
      have hcon:Calls Tryd.prog 9 #[.agg (Y8 t q),u' 6] W (GetRs 0 (.int .i64 er) (some j) W):=by
       rw[e6];refine (Z3A t q (L++ [b]) (some ⟨g6,0,none⟩) c6 W (HQ.out.next hup) hB2 (by rw[List.length_append]; have:=HLN.out; simp; omega) (HG.out.next hup)).mono ?_;rintro e w' ⟨q',he,hk,hb⟩;rw[hres, <-HJ.out.1, <-HJ.out.2] at he;rw[hres, <-HJ.out.1] at hk;exact ⟨j,q',he,hb,fun j' h=>by cases h; exact ⟨rfl,hk.more (fun b _ h=>Or.inr h)⟩⟩
      refine Z3b (f:=9) (args:=#[.agg (Y8 t q),u' 6]) (W':=W) rfl ?_ (hcon.mono fun e w' hb=> ?_)
      {try dsimp only
       go_simp}
      {obtain ⟨v,he,hr⟩:=hI.call (by decide) rfl w3 w6 d7 (fun j hj=>by rcases hj with rfl | rfl | rfl | rfl | rfl <;> assumption) hb;exact ⟨v,he,hK.out _ _ hr⟩}}
     refine StepsInv.cons2 _ rfl (fun d u' W K' hs hI hd hw hK=> ?_) ?_
     {have w7:=hw 7 (by kernel_rfl);have w6:d 6=true:=hs 7 _ rfl w7 6 (by kernel_rfl);have w3:d 3=true:=hs 6 _ rfl w6 3 (by kernel_rfl);obtain ⟨t2,qt,W2',s,e7,_⟩:=hI.gr.ca w7
      try dsimp only at e7
      unfold sv at e7;refine Z03 (v:= .tuple #[.agg (Y8 t2 qt),(.int .i64 er)]) (W':=W) rfl ?_ (hK.out _ _ (hI.read (fun j h=>Z0N h) (by decide) w3 w6 w7 (by decide) hd (fun t' q' h=>⟨fun _=>e7.symm,nofun,nofun,nofun⟩)));go_simp}
     refine StepsInv.cons2 _ rfl (fun d u' W K' hs hI hd hw hK=> ?_) ?_
     {have w8:=hw 8 (by kernel_rfl);have w7:d 7=true:=hs 8 _ rfl w8 7 (by kernel_rfl);have w6:d 6=true:=hs 7 _ rfl w7 6 (by kernel_rfl);have w3:d 3=true:=hs 6 _ rfl w6 3 (by kernel_rfl);obtain ⟨t2,qt,W2',s,e7,_,_,_,e8,_⟩:=hI.gr.ca w7
      try dsimp only at e7 e8
      have d8:=(e8 w8).trans e7;have e7s:=e7;unfold sv at d8;refine Z03 (v:= .agg (Y8 t2 qt)) (W':=W) rfl ?_ (hK.out _ _ (hI.read (fun j h=>Z0N h) (by decide) w3 w6 w7 (by decide) hd (fun t' q' h=>⟨nofun,fun _=>by rw[e7s] at h; simp only[Value.tuple.injEq] at h; have:=congrArg (fun a:Array Value=>a[0]?) h; unfold sv at this ⊢; simpa using this,nofun,nofun⟩)));go_simp}
     refine StepsInv.cons2 _ rfl (fun d u' W K' hs hI hd hw hK=> ?_) ?_
     {have w8:=hw 8 (by kernel_rfl);have w7:d 7=true:=hs 8 _ rfl w8 7 (by kernel_rfl);have w6:d 6=true:=hs 7 _ rfl w7 6 (by kernel_rfl);have w3:d 3=true:=hs 6 _ rfl w6 3 (by kernel_rfl);obtain ⟨t2,qt,W2',s,e7,_,_,_,e8,_⟩:=hI.gr.ca w7
      try dsimp only at e7 e8
      have d8:=(e8 w8).trans e7;unfold sv at d8;refine Z03 (v:=(.int .i64 er)) (W':=W) rfl ?_ (hK.out _ _ (hI.read (fun j h=>Z0N h) (by decide) w3 w6 w7 (by decide) hd (fun t' q' h=>⟨nofun,nofun,fun _=>rfl,nofun⟩)));go_simp}
     refine StepsInv.cons2 _ rfl (fun d u' W K' hs hI hd hw hK=> ?_) ?_
     {have h12:d 12=false:=Z0a hs rfl (by kernel_rfl) hd;refine Z03 (v:= .pointer (some ⟨W.heap.size,0,none⟩)) (W':=W.alloc (.cells Yb 25)) rfl ?_ (hK.out _ _ (hI.alloc (fun j h=>Z0N h) (by decide) hd h12));go_simp}
     refine StepsInv.cons2 _ rfl (fun d u' W K' hs hI hd hw hK=> ?_) ?_
     {have w11:=hw 11 (by kernel_rfl);have w9:=hw 9 (by kernel_rfl);have w8:d 8=true:=hs 9 _ rfl w9 8 (by kernel_rfl);have w7:d 7=true:=hs 8 _ rfl w8 7 (by kernel_rfl);have w6:d 6=true:=hs 7 _ rfl w7 6 (by kernel_rfl);have w3:d 3=true:=hs 6 _ rfl w6 3 (by kernel_rfl);obtain ⟨t2,qt,W2',s,e7,_,_,_,_,e9,_⟩:=hI.gr.ca w7
      try dsimp only at e7 e9
      have d9:=e9 w9;obtain ⟨g1,e11,g2,g3',g4,g5⟩:=hI.gr.al w11
      try dsimp only at e11
      have hst:=hI.store (fun j h=>Z0N h) (by decide) w3 w6 w7 w11 e11 e7;refine Z1I (W':=RX.lay W g1 t2 qt) rfl ?_ (hK.out undef _ hst);obtain ⟨v0,x0⟩:=g5 0 (by omega);obtain ⟨v1,x1⟩:=g5 1 (by omega);obtain ⟨v2,x2⟩:=g5 2 (by omega);obtain ⟨v3,x3⟩:=g5 3 (by omega);obtain ⟨v4,x4⟩:=g5 4 (by omega);have y0:=g4 0;have y1:=g4 1;have y2:=g4 2;have y3:=g4 3;have y4:=g4 4;unfold sv at d9;go_simp;rfl}
     refine StepsInv.cons2 _ rfl (fun d u' W K' hs hI hd hw hK=> ?_) StepsInv.nil
     {have w10:=hw 10 (by kernel_rfl);have w8:d 8=true:=hs 10 _ rfl w10 8 (by kernel_rfl);have w7:d 7=true:=hs 8 _ rfl w8 7 (by kernel_rfl);have w6:d 6=true:=hs 7 _ rfl w7 6 (by kernel_rfl);have w3:d 3=true:=hs 6 _ rfl w6 3 (by kernel_rfl);obtain ⟨t2,qt,W2',s,e7,_,_,_,_,_,e10,_⟩:=hI.gr.ca w7
      try dsimp only at e7 e10
      have d10:=e10 w10;refine Z03 (v:=(.int .i64 er)) (W':=W) rfl ?_ (hK.out _ _ (hI.read (fun j h=>Z0N h) (by decide) w3 w6 w7 (by decide) hd (fun t' q' h=>⟨nofun,nofun,nofun,fun _=>rfl⟩)));go_simp}
     intro d s' W4 hI hd
     try dsimp only
     have w7:=hd 7 (by decide);have w11:=hd 11 (by decide);obtain ⟨g1,e11,g2,g3',g4,_⟩:=hI.gr.al w11;obtain ⟨t2,qt,W2',s,e7,s1,s2',hj,_,_,_,hu,hgs,h12,h13⟩:=hI.gr.ca w7;have d13:=h13 (hd 13 (by decide));have hl5:=h12 (hd 12 (by decide)) g1 e11;have hsep:=hgs g1 w11 e11
     try dsimp only at d13 e11
     have hbb:=hI.gr.up;rw[e11,d13];obtain ⟨e2,hkp⟩:=hj j rfl;rw[e2] at hl5;have HAz:Hid (ShAt W4 W4.heap.size qt j):=Y1 ((hkp.upd hu (fun x hx hS ht=>by
      obtain ⟨_,ht2⟩:=ht;rw[e11] at ht2;have e3:g1=x:=by simp at ht2 <;> exact ht2
      rcases hsep with h | h <;> rcases hS with hS | hS <;> omega)).here)
     have HLz:Hid (Sh5 W4 g1 0 j qt):=Y1 hl5;have HGz:Hid (g1 < W4.heap.size):=Y1 g3';have HG:=Y1 (HG.out.next hbb);have HXj:=Y1 (HXj.out.next hbb);have HAj:=Y1 (HAj.out.next hbb);have HXk:=Y1 (HXk.out.next hbb);have HAk:=Y1 (HAk.out.next hbb);have HB:=Y1 (Z02 HB.out hbb);clear hI hd w7 w11 e11 g2 g3' g4 e7 s1 s2' hj hu hgs h12 h13 d13 hl5 hsep hbb e2 hkp;have hee: (er==er)=true:=by simp
     obtain ⟨_,⟨a0,a1,a2,a3,a4⟩,_⟩:=HXj.out;obtain ⟨_,⟨b0,b1,b2,b3,b4⟩,_⟩:=HXk.out;simp only[Nat.zero_add] at a0 a1 a2 a3 a4 b0 b1 b2 b3 b4;have HE:=Y1 (Z1h j j q1 q3 W4 HAj.out HAk.out);rw[Z1n] at HE
     go_wp2_with fail
     refine HE.out.mono ?_;rintro e w5 ⟨rfl,hbb⟩;have HLz2:=Y1 (HLz.out.keep HGz.out hbb);have HAz2:=Y1 (HAz.out.next hbb);have HXj:=Y1 (HXj.out.next hbb);have HAj:=Y1 (HAj.out.next hbb);have HG:=Y1 (HG.out.next hbb);have HB:=Y1 (Z02 HB.out hbb);clear hbb HE a0 a1 a2 a3 a4 b0 b1 b2 b3 b4;obtain ⟨_,⟨a0,a1,a2,a3,a4⟩,_⟩:=HXj.out;obtain ⟨b0,b1,b2,b3,b4⟩:=HLz2.out;simp only[Nat.zero_add] at a0 a1 a2 a3 a4 b0 b1 b2 b3 b4;have HE:=Y1 (Z1h j j q1 qt w5 HAj.out HAz2.out);rw[Z1n] at HE
     go_wp2_with fail
     refine HE.out.mono ?_;rintro e w6 ⟨rfl,hbb⟩;have HG:=Y1 (HG.out.next hbb);have HB:=Y1 (Z02 HB.out hbb);clear hbb HE a0 a1 a2 a3 a4 b0 b1 b2 b3 b4
     go_wp2_with fail
     refine (Z0V _ HG.out).mono ?_;rintro e v30 ⟨rfl,hb9⟩;have HB9:=Y1 (Z02 HB.out hb9);clear hb9;go_wp2;go_ret;exact ⟨rfl,HB9.out⟩
   | true=>
    have hc0:check t=0:=by simpa using hck
    obtain ⟨_,_,hrt⟩:=Z0f hc0;have HTU:=Y1 (Z6L t q v7 HQ.out hrt HZ.out);have HRT:=Y1 (Expd.resolve_turned (env:=L) hc0);clear hc0 hrt;obtain ⟨_,⟨a0,a1,a2,a3,a4⟩,_⟩:=HBt.out;simp only[Nat.zero_add] at a0 a1 a2 a3 a4
    go_wp2_with fail
    refine HTU.out.mono ?_;rintro e v8 ⟨q8,F8,rfl,hown,hF,hbb⟩;obtain ⟨tt,htt⟩: ∃tt,turned t=tt:=⟨_,rfl⟩;rw[htt] at hown ⊢;have HA8:=Y1 (hown.at_ hown.lt);have HBt:=Y1 (HBt.out.next hbb);have HBb:=Y1 (HBb.out.next hbb);have HQ:=Y1 (HQ.out.next hbb);have HL:=Y1 (HL.out.next hbb);have HS:=Y1 (HS.out.next hbb);have HG:=Y1 (HG.out.next hbb);have HXj:=Y1 (HXj.out.next hbb);have HAj:=Y1 (HAj.out.next hbb);have HB:=Y1 (Z02 HB.out hbb);clear hbb HTU a0 a1 a2 a3 a4 hown hF;have HU:=Y1 (Z13 tt q8 L A cap v8 HA8.out HL.out (by have:=HLN.out; omega) HG.out);unfold shV at HU;have HTT:=Y1 htt.symm;clear htt HA8
    go_wp2_with fail
    refine HU.out.mono ?_;rintro e v9 ⟨q9,he,hk,hb1⟩;rw[HTT.out,HRT.out, <-HJ.out.1, <-HJ.out.2] at he;rw[HTT.out,HRT.out, <-HJ.out.1] at hk;unfold shV at he;subst he;have hb2:=Z00 v9 (.cells (Y8 j q9) 25);have hbb:=Z02 hb1 hb2;have HXy:=Y1 (Z07 v9 j q9);have HAy:=Y1 (hk.next hb2);have HBt:=Y1 (HBt.out.next hbb);have HBb:=Y1 (HBb.out.next hbb);have HQ:=Y1 (HQ.out.next hbb);have HL:=Y1 (HL.out.next hbb);have HS:=Y1 (HS.out.next hbb);have HG:=Y1 (HG.out.next hbb);have HXj:=Y1 (HXj.out.next hbb);have HAj:=Y1 (HAj.out.next hbb);have HB:=Y1 (Z02 HB.out hbb);clear hk hb1 hb2 hbb HU;obtain ⟨V9,hW⟩: ∃W,v9.alloc (.cells (Y8 j q9) 25)=W:=⟨_,rfl⟩;rw[hW] at HXy HAy HXj HAj HBt HBb HQ HL HS HG HB;obtain ⟨_,⟨a0,a1,a2,a3,a4⟩,_⟩:=HXj.out;obtain ⟨_,⟨b0,b1,b2,b3,b4⟩,_⟩:=HXy.out;simp only[Nat.zero_add] at a0 a1 a2 a3 a4 b0 b1 b2 b3 b4;have HE:=Y1 (Z1h j j q1 q9 V9 HAj.out HAy.out);rw[Z1n] at HE
    go_wp2_with fail
    refine HE.out.mono ?_;rintro e v10 ⟨rfl,hbb⟩;have HBt:=Y1 (HBt.out.next hbb);have HBb:=Y1 (HBb.out.next hbb);have HQ:=Y1 (HQ.out.next hbb);have HL:=Y1 (HL.out.next hbb);have HS:=Y1 (HS.out.next hbb);have HG:=Y1 (HG.out.next hbb);have HXj:=Y1 (HXj.out.next hbb);have HAj:=Y1 (HAj.out.next hbb);have HB:=Y1 (Z02 HB.out hbb);clear hbb HE a0 a1 a2 a3 a4 b0 b1 b2 b3 b4 hW HXy HAy HRT HTT;obtain ⟨_,⟨a0,a1,a2,a3,a4⟩,_⟩:=HBt.out;simp only[Nat.zero_add] at a0 a1 a2 a3 a4;obtain ⟨_,y0,y1,y2,y3,y4,y5,y6⟩:=HBb.out;have HMT:=Y1 (Z5a (deep t) t q b qb v10 (Nat.le_refl _) HQ.out)
    go_wp2_with fail
    refine HMT.out.mono ?_;rintro e m1 ⟨rfl,hbb⟩;have HBt:=Y1 (HBt.out.next hbb);have HBb:=Y1 (HBb.out.next hbb);have HQ:=Y1 (HQ.out.next hbb);have HL:=Y1 (HL.out.next hbb);have HS:=Y1 (HS.out.next hbb);have HG:=Y1 (HG.out.next hbb);have HXj:=Y1 (HXj.out.next hbb);have HAj:=Y1 (HAj.out.next hbb);have HB:=Y1 (Z02 HB.out hbb);clear hbb HMT a0 a1 a2 a3 a4 y0 y1 y2 y3 y4 y5 y6;obtain ⟨mt,hmt⟩: ∃c,mB b.of_ b.name t=c:=⟨_,rfl⟩;rw[hmt];cases mt with
    | true=>
     clear hmt
     go_wp2_with fail
     refine (Z0V _ HG.out).mono ?_;rintro e v20 ⟨rfl,hb9⟩;have HB9:=Y1 (Z02 HB.out hb9);clear hb9;go_wp2;go_ret;exact ⟨rfl,HB9.out⟩
    | false=>
     have HNM:=Y1 (Expd.mB_keys t hmt);clear hmt;obtain ⟨lE,hlE,hok,hcl⟩:=Z4a HL.out;have hlen:lE.length=L.length:=by have:=congrArg List.length hlE; simpa using this
     obtain ⟨k,hk⟩: ∃k,k=L.length / 2:=⟨_,rfl⟩;have hkd: (L.length:Int).tdiv 2=(k:Int):=by rw[hk]; rfl
     have hkl:k<=L.length:=by omega
     have hcap:=HLL.out.2.1;have hkw:IntKind.i64.wrap (k:Int)=(k:Int):=IntWalk.i64_in _ (by have:=HLN.out; omega);have HK:=Y1 (And.intro hkl (And.intro hlen hlE));have HOK:=Y1 hok;have HCL:=Y1 hcl;have hk0: (0:Int)<=(k:Int):=by omega
     clear hk hok hcl hlE
     go_wp2_with fail
     obtain ⟨A1,hA1⟩: ∃X:Option Addr,X=(if cap=0 then A else A.map (·.add (0 * 7))):=⟨_,rfl⟩;obtain ⟨A2,hA2⟩: ∃X:Option Addr,X=(if cap=k then A else A.map (·.add (k * 7))):=⟨_,rfl⟩;have HA1:Hid ((A1=none->k=0/\cap=0)/\ ∀W,Below m1.heap.size m1 W-> ∀ad,A1=some ad-> ∀j v,(cellsB (lE.take k))[j]? =some v->W.cell? (ad.add j)=some v):=Y1 ⟨fun h=>by
      have h0:A=none:=by
       rw[hA1] at h;by_cases c0:cap=0
       {rw[if_pos c0] at h; exact h}
       {rw[if_neg c0] at h; cases A with
        | none=>rfl
        | some a=>cases h}
      have:=HLL.out.2.2 h0;omega,fun W hW ad e j v hv=>by
      rcases HCL.out with h0 | ⟨g,off,hA,hg,hc⟩
      {rw[h0] at hv; simp[cellsB] at hv}
      · have hj:j < k * 7:=by have:=(List.getElem?_eq_some_iff.1 hv).1; rw[Z0h,List.length_take] at this; omega
        have hv2: (cellsB lE)[j]? =some v:=by
         rw[<-List.take_append_drop k lE,Z0j,List.getElem?_append_left (by rw[Z0h,List.length_take]; omega)]; exact hv
        have e2:ad=⟨g,off,none⟩:=by
         rw[hA1,hA] at e;by_cases c0:cap=0
         {omega}
         {rw[if_neg c0] at e; simp only[Option.map_some,Option.some.injEq] at e; rw[<-e,Z0b,Nat.zero_mul,Nat.add_zero]}
        rw[e2,Z0b];exact (hW.cell (p:=⟨g,off+j,none⟩) hg).trans (hc j v hv2)⟩
     have HA2:Hid ((A2=none->L.length - k=0/\cap - k=0)/\ ∀W,Below m1.heap.size m1 W-> ∀ad,A2=some ad-> ∀j v,(cellsB (lE.drop k))[j]? =some v->W.cell? (ad.add j)=some v):=Y1 ⟨fun h=>by
      have h0:A=none:=by
       rw[hA2] at h;by_cases c0:cap=k
       {rw[if_pos c0] at h; exact h}
       {rw[if_neg c0] at h; cases A with
        | none=>rfl
        | some a=>cases h}
      have:=HLL.out.2.2 h0;omega,fun W hW ad e j v hv=>by
      rcases HCL.out with h0 | ⟨g,off,hA,hg,hc⟩
      {rw[h0] at hv; simp[cellsB] at hv}
      · have hj:j < (lE.length - k) * 7:=by have:=(List.getElem?_eq_some_iff.1 hv).1; rw[Z0h,List.length_drop] at this; omega
        have hv2: (cellsB lE)[k * 7+j]? =some v:=by
         rw[<-List.take_append_drop k lE,Z0j,List.getElem?_append_right (by rw[Z0h,List.length_take]; omega)];rw[Z0h,List.length_take,show k * 7+j - min k lE.length * 7=j by rw[Nat.min_eq_left (by omega)]; omega]; exact hv
        have e2:ad=⟨g,off+k * 7,none⟩:=by
         rw[hA2,hA] at e;by_cases c0:cap=k
         {omega}
         {rw[if_neg c0] at e; simp only[Option.map_some,Option.some.injEq] at e; rw[<-e,Z0b]}
        rw[e2,Z0b,Nat.add_assoc];exact (hW.cell (p:=⟨g,off+(k * 7+j),none⟩) hg).trans (hc _ v hv2)⟩
     obtain ⟨ib,hifb,hzb,hsb,hbb7⟩:=Z8a Z8b;have hdis:Dis 0 4 7 11 6:=by decide
     refine Z49 (rs:= [0,1,2,3,4,5,6,7,8,9,10,11,12])
      (fun u'=> { tmps:=#[.agg (Y8 t q),.slice A L.length cap,.agg #[.string { data:=b.of_.toArray },.string { data:=b.name.toArray },.int .i64 b.sh.kind,.string { data:=b.sh.of_.toArray },.string { data:=b.sh.name.toArray },.slice qb.A b.sh.names.length qb.c,.slice qb.P b.sh.parts.length qb.d],.pointer (some { block:=w.heap.size,off:=0 }),undef,.pointer (some { block:=w.heap.size+1,off:=0 }),.bool false,.pointer (some { block:=v5.heap.size,off:=0 }),.int .i64 er,.pointer (some { block:=v9.heap.size,off:=0 }),.int .i64 er,.int .i64 ↑k,u' 12,undef,undef,undef,undef,.slice A L.length cap,.bool true,.bool false,.bool false,.agg #[.string { data:=b.of_.toArray },.string { data:=b.name.toArray },.int .i64 b.sh.kind,.string { data:=b.sh.of_.toArray },.string { data:=b.sh.name.toArray },.slice qb.A b.sh.names.length qb.c,.slice qb.P b.sh.parts.length qb.d],.slice (some { block:=v1.heap.size,off:=0 }) 1 1,.bool true,.bool false,.bool false,.bool false,.agg (Y8 t q),.int .i64 sz,.bool (decide (400 < sz)),.bool (decide (400 < sz)),undef,.tuple #[.agg (Y8 j q1),.int .i64 er],.agg (Y8 t q),.slice A L.length cap,.tuple #[.agg (Y8 j q1),.int .i64 er],.agg (Y8 j q1),.int .i64 er,.agg (Y8 t q),.int .i64 (check t),.bool true,.tuple #[.agg (Y8 j q9),.int .i64 er],.agg (Y8 t q),.agg (Y8 tt q8),.slice A L.length cap,.tuple #[.agg (Y8 j q9),.int .i64 er],.agg (Y8 j q9),.int .i64 er,.int .i64 er,.int .i64 er,.bool false,.bool false,.agg (Y8 j q1),.agg (Y8 j q9),.bool true,.bool false,.bool false,.agg (Y8 t q),.agg #[.string { data:=b.of_.toArray },.string { data:=b.name.toArray },.int .i64 b.sh.kind,.string { data:=b.sh.of_.toArray },.string { data:=b.sh.name.toArray },.slice qb.A b.sh.names.length qb.c,.slice qb.P b.sh.parts.length qb.d],.bool false,undef,.slice A L.length cap,.int .i64 ↑L.length,.int .i64 ↑k,u' 0,u' 1,u' 2,u' 3,u' 4,u' 5,u' 6,u' 7,u' 8,u' 9,u' 10,u' 11,undef,undef,undef,undef,undef,undef,undef,undef,undef,undef,undef,undef,undef,undef,undef,undef,undef,undef,undef,undef,undef,undef,undef,undef,undef,undef,undef,undef,undef,undef,undef,undef,undef,undef,undef,undef,undef,undef],defers:= [] })
      (fun j=>([undef,undef,undef,undef,undef,undef,undef,undef,undef,undef,undef,undef,undef]:List Value).getD j undef) (CJ m1 (fun j=>match j with | 1 | 8=>some (.slice A L.length cap) | 2 | 9=>some (.int .i64 (k:Int)) | 3=>some (.slice A1 k cap) | 5=>some (.agg #[.string ⟨b.of_.toArray⟩,.string ⟨b.name.toArray⟩,.int .i64 b.sh.kind,.string ⟨b.sh.of_.toArray⟩,.string ⟨b.sh.name.toArray⟩,.slice qb.A b.sh.names.length qb.c,.slice qb.P b.sh.parts.length qb.d]) | 10=>some (.slice A2 (L.length - k) (cap - k)) | _=>none) (lE.take k) (lE.drop k) (b,qb) 0 4 7 6) (by kernel_rfl) (by kernel_rfl) (by kernel_rfl) CJ.start ?_ ?_
     refine StepsInv.cons2 _ rfl (fun d u' W K' hs hI hd hw hK=> ?_) ?_
     {refine Z03 (v:= .slice (some ⟨W.heap.size,0,none⟩) 0 0) (W':=W.alloc (.cells #[] 54)) rfl ?_ (hK.out _ _ (hI.on (by decide) (hI.ci.mk0 hdis rfl)));go_simp}
     refine StepsInv.cons2 _ rfl (fun d u' W K' hs hI hd hw hK=> ?_) ?_
     {refine Z03 (v:= .slice A L.length cap) (W':=W) rfl ?_ (hK.out _ _ (hI.on (by decide) (hI.ci.pure (by decide) (fun v' h=>by cases h; rfl) Y2)));go_simp}
     refine StepsInv.cons2 _ rfl (fun d u' W K' hs hI hd hw hK=> ?_) ?_
     {refine Z03 (v:= .int .i64 (k:Int)) (W':=W) rfl ?_ (hK.out _ _ (hI.on (by decide) (hI.ci.pure (by decide) (fun v' h=>by cases h; rfl) Y2)));go_simp}
     refine StepsInv.cons2 _ rfl (fun d u' W K' hs hI hd hw hK=> ?_) ?_
     {have d1:u' 1= .slice A L.length cap:=hI.ci.vals 1 (hw 1 (by kernel_rfl)) _ rfl;have d2:u' 2= .int .i64 (k:Int):=hI.ci.vals 2 (hw 2 (by kernel_rfl)) _ rfl;refine Z03 (v:= .slice A1 k cap) (W':=W) rfl ?_ (hK.out _ _ (hI.on (by decide) (hI.ci.pure (by decide) (fun v' h=>by cases h; rfl) Y2)));have kk1: (cap:Int) - 0=(cap:Int):=by omega
      have kk2: ¬cap < k:=by omega
      have kk3: ¬(cap:Int) < (k:Int):=by omega
      go_simp
      all_goals (intro hh; omega)}
     refine StepsInv.cons2 _ rfl (fun d u' W K' hs hI hd hw hK=> ?_) ?_
     {have d4:d 4=false:=hd;have d7:d 7=false:=Z0a hs rfl (by kernel_rfl) hd;have d11:d 11=false:=Z0a hs rfl (by kernel_rfl) d7;have w0:=hw 0 (by kernel_rfl);have d3:u' 3= .slice A1 k cap:=hI.ci.vals 3 (hw 3 (by kernel_rfl)) _ rfl;refine Z0e rfl _ _ 26 rfl m1.heap.size 54 ib (.agg #[.string ByteArray.empty,.string ByteArray.empty,.int .i64 0,.string ByteArray.empty,.string ByteArray.empty,.slice none 0 0,.slice none 0 0]) 7 120 Tryd.underlying26 hifb hzb hsb hbb7 rfl (by decide) (u' 0) 0 [] rfl (hI.ci.r0 w0 d4) A1 k cap (cellsB (lE.take k)) (by show u' 3=_; exact d3) (HA1.out.1) (by rw[Z0h,List.length_take,Nat.min_eq_left (by omega)]) (HA1.out.2 W hI.ci.up) (Z0B _) (by unfold maxLen; have:=HLN.out; omega) (by have:=HLN.out; omega) hI.ci.up.size ?_;intro v' w' hown hg hat;exact hK.out _ _ (hI.on (by decide) (hI.ci.ap1 hdis rfl w0 d4 d7 d11 (by rw[List.length_take,Nat.min_eq_left (by omega)]; rwa [Nat.zero_add,List.nil_append] at hown) hg hat))}
     refine StepsInv.cons2 _ rfl (fun d u' W K' hs hI hd hw hK=> ?_) ?_
     {obtain ⟨_,y0,y1,y2,y3,y4,y5,y6⟩:=HBb.out.next hI.ci.up;refine Z03 (v:= .agg #[.string ⟨b.of_.toArray⟩,.string ⟨b.name.toArray⟩,.int .i64 b.sh.kind,.string ⟨b.sh.of_.toArray⟩,.string ⟨b.sh.name.toArray⟩,.slice qb.A b.sh.names.length qb.c,.slice qb.P b.sh.parts.length qb.d]) (W':=W) rfl ?_ (hK.out _ _ (hI.on (by decide) (hI.ci.pure (by decide) (fun v' h=>by cases h; rfl) Y2)));go_simp}
     refine StepsInv.cons2 _ rfl (fun d u' W K' hs hI hd hw hK=> ?_) ?_
     {have d5:u' 5= .agg #[.string ⟨b.of_.toArray⟩,.string ⟨b.name.toArray⟩,.int .i64 b.sh.kind,.string ⟨b.sh.of_.toArray⟩,.string ⟨b.sh.name.toArray⟩,.slice qb.A b.sh.names.length qb.c,.slice qb.P b.sh.parts.length qb.d]:=hI.ci.vals 5 (hw 5 (by kernel_rfl)) _ rfl;refine Z03 (v:= .slice (some ⟨W.heap.size,0,none⟩) 1 1) (W':=W.alloc (.cells #[.string ⟨b.of_.toArray⟩,.string ⟨b.name.toArray⟩,.int .i64 b.sh.kind,.string ⟨b.sh.of_.toArray⟩,.string ⟨b.sh.name.toArray⟩,.slice qb.A b.sh.names.length qb.c,.slice qb.P b.sh.parts.length qb.d] 54)) rfl ?_ (hK.out _ _ (hI.on (by decide) (hI.ci.mkb hdis rfl)));go_simp}
     refine StepsInv.cons2 _ rfl (fun d u' W K' hs hI hd hw hK=> ?_) ?_
     {have d7:d 7=false:=hd;have d11:d 11=false:=Z0a hs rfl (by kernel_rfl) d7;have w4:=hw 4 (by kernel_rfl);obtain ⟨zb,d6,z1,z2,_,_,z5⟩:=hI.ci.rb (hw 6 (by kernel_rfl)) d7
      try dsimp only at d6
      have hln: (lE.take k).length=k:=by rw[List.length_take,Nat.min_eq_left (by omega)]
      refine Z0e rfl _ _ 26 rfl m1.heap.size 54 ib (.agg #[.string ByteArray.empty,.string ByteArray.empty,.int .i64 0,.string ByteArray.empty,.string ByteArray.empty,.slice none 0 0,.slice none 0 0]) 7 120 Tryd.underlying26 hifb hzb hsb hbb7 rfl (by decide) (u' 4) (lE.take k).length (cellsB (lE.take k)) rfl (hI.ci.r1 w4 d7) (some ⟨zb,0,none⟩) 1 1 (cellsB [(b,qb)]) (by show u' 6=_; exact d6) (nofun) (by rw[Z0h]; rfl) (by intro ad e j v hv; cases e; rw[Z0b,Nat.zero_add]; exact z5 j v (by rw[<-Z1u]; exact hv)) (Z0B _) (by unfold maxLen; have:=HLN.out; omega) (by have:=HLN.out; omega) hI.ci.up.size ?_;intro v' w' hown hg hat;exact hK.out _ _ (hI.on (by decide) (hI.ci.ap2 hdis rfl w4 d7 d11 (by rw[Z0j]; exact hown) hg))}
     refine StepsInv.cons2 _ rfl (fun d u' W K' hs hI hd hw hK=> ?_) ?_
     {refine Z03 (v:= .slice A L.length cap) (W':=W) rfl ?_ (hK.out _ _ (hI.on (by decide) (hI.ci.pure (by decide) (fun v' h=>by cases h; rfl) Y2)));go_simp}
     refine StepsInv.cons2 _ rfl (fun d u' W K' hs hI hd hw hK=> ?_) ?_
     {refine Z03 (v:= .int .i64 (k:Int)) (W':=W) rfl ?_ (hK.out _ _ (hI.on (by decide) (hI.ci.pure (by decide) (fun v' h=>by cases h; rfl) Y2)));go_simp}
     refine StepsInv.cons2 _ rfl (fun d u' W K' hs hI hd hw hK=> ?_) ?_
     {have d8:u' 8= .slice A L.length cap:=hI.ci.vals 8 (hw 8 (by kernel_rfl)) _ rfl;have d9:u' 9= .int .i64 (k:Int):=hI.ci.vals 9 (hw 9 (by kernel_rfl)) _ rfl;refine Z03 (v:= .slice A2 (L.length - k) (cap - k)) (W':=W) rfl ?_ (hK.out _ _ (hI.on (by decide) (hI.ci.pure (by decide) (fun v' h=>by cases h; rfl) Y2)));go_simp}
     refine StepsInv.cons2 _ rfl (fun d u' W K' hs hI hd hw hK=> ?_) ?_
     {have d11:d 11=false:=hd;have d12:d 12=false:=Z0a hs rfl (by kernel_rfl) hd;have w7:=hw 7 (by kernel_rfl);have w4:d 4=true:=hs 7 _ rfl w7 4 (by kernel_rfl);have d10:u' 10= .slice A2 (L.length - k) (cap - k):=hI.ci.vals 10 (hw 10 (by kernel_rfl)) _ rfl;have hln: (lE.take k).length=k:=by rw[List.length_take,Nat.min_eq_left (by omega)]
      have hld: (lE.drop k).length=L.length - k:=by rw[List.length_drop]; omega
      refine Z0e rfl _ _ 26 rfl m1.heap.size 54 ib (.agg #[.string ByteArray.empty,.string ByteArray.empty,.int .i64 0,.string ByteArray.empty,.string ByteArray.empty,.slice none 0 0,.slice none 0 0]) 7 120 Tryd.underlying26 hifb hzb hsb hbb7 rfl (by decide) (u' 7) ((lE.take k).length+1) (cellsB (lE.take k++ [(b,qb)])) rfl (hI.ci.r2 w7 d11) A2 (L.length - k) (cap - k) (cellsB (lE.drop k)) (by show u' 10=_; exact d10) (HA2.out.1) (by rw[Z0h,hld]) (HA2.out.2 W hI.ci.up) (Z0B _) (by unfold maxLen; have:=HLN.out; omega) (by have:=HLN.out; omega) hI.ci.up.size ?_;intro v' w' hown hg hat;exact hK.out _ _ (CJ.on11 d12 (hI.ci.ap3 hdis rfl w4 w7 d11 (by rw[Z0j,hld]; exact hown) hg))}
     refine StepsInv.cons2 _ rfl (fun d u' W K' hs hI hd hw hK=> ?_) StepsInv.nil
     {have w11:=hw 11 (by kernel_rfl);refine Z03 (v:=u' 11) (W':=W) rfl ?_ (hK.out _ _ (CJ.on12 (hI.ci.pure (by decide) (fun v' h=>by cases h) Y2)));go_simp}
     intro d z' W2 hI hdn
     try dsimp only
     have hrow:=hI.ci.r3 rfl (hdn 11 (by decide));rw[hI.al (hdn 12 (by decide))];have hbb:=hI.ci.up;have hln: (lE.take k).length=k:=by rw[List.length_take,Nat.min_eq_left (by omega)]
     have hld: (lE.drop k).length=L.length - k:=by rw[List.length_drop]; omega
     obtain ⟨g3,c3,e11⟩:=Z3t hrow (by omega);rw[e11] at hrow ⊢;have HOK2:Hid (∀x∈lE,BOk W2 W2.heap.size x):=Y1 (fun x hx=>Z3u (HOK.out x hx) hbb);have HBt:=Y1 (HBt.out.next hbb);have HBb:=Y1 (HBb.out.next hbb);have HQ:=Y1 (HQ.out.next hbb);have HL:=Y1 (HL.out.next hbb);have HS:=Y1 (HS.out.next hbb);have HG:=Y1 (HG.out.next hbb);have HXj:=Y1 (HXj.out.next hbb);have HAj:=Y1 (HAj.out.next hbb);have HB:=Y1 (Z02 HB.out hbb);clear hI hdn hbb;obtain ⟨M,hM⟩: ∃M,M=L.take k++b::L.drop k:=⟨_,rfl⟩;have hMl: (lE.take k).length+1+(lE.drop k).length=M.length:=by rw[hM,hln,hld,List.length_append,List.length_cons,List.length_take,List.length_drop,Nat.min_eq_left hkl]; omega
     rw[hMl] at hrow ⊢;have hmap: (lE.take k++ [(b,qb)]++lE.drop k).map Prod.fst=M:=by rw[hM,List.map_append,List.map_append,List.map_take,List.map_drop,HK.out.2.2,List.append_assoc]; rfl
     have hBM:BdsAt W2 W2.heap.size (some ⟨g3,0,none⟩) M:=by
      have h:=Z4b hrow (by rw[List.length_append,List.length_append, <-hMl]; rfl) (fun x hx=>by
       rcases List.mem_append.1 hx with hx | hx
       {rcases List.mem_append.1 hx with hx | hx
        {exact HOK2.out x (List.mem_of_mem_take hx)}
        {rw[List.mem_singleton.1 hx]; exact ⟨HS.out,HBL.out⟩}}
       · exact HOK2.out x (List.mem_of_mem_drop hx))
      rw[hmap] at h; exact h
     have hres:Expd.resolve M t=Expd.resolve L t:=by rw[hM,Expd.resolve_more HNM.out,List.take_append_drop]
     have HRS:=Y1 hres;have HU:=Y1 (Z13 t q M (some ⟨g3,0,none⟩) c3 W2 HQ.out hBM (by have:=HLN.out; omega) HG.out);unfold shV at HU;obtain ⟨_,⟨a0,a1,a2,a3,a4⟩,_⟩:=HBt.out;simp only[Nat.zero_add] at a0 a1 a2 a3 a4;clear hrow hM hMl hmap hBM hres e11 hln hld HOK2 HCL HA1 HA2 hA1 hA2
     go_wp2_with fail
     refine HU.out.mono ?_;rintro e w3 ⟨q3,he,hk,hb1⟩;rw[HRS.out, <-HJ.out.1, <-HJ.out.2] at he;rw[HRS.out, <-HJ.out.1] at hk;unfold shV at he;subst he;have hb2:=Z00 w3 (.cells (Y8 j q3) 25);have hbb:=Z02 hb1 hb2;have HXk:=Y1 (Z07 w3 j q3);have HAk:=Y1 (hk.next hb2);have HBt:=Y1 (HBt.out.next hbb);have HBb:=Y1 (HBb.out.next hbb);have HQ:=Y1 (HQ.out.next hbb);have HL:=Y1 (HL.out.next hbb);have HS:=Y1 (HS.out.next hbb);have HG:=Y1 (HG.out.next hbb);have HXj:=Y1 (HXj.out.next hbb);have HAj:=Y1 (HAj.out.next hbb);have HB:=Y1 (Z02 HB.out hbb);clear hk hb1 hb2 hbb HU a0 a1 a2 a3 a4;obtain ⟨V3,hW⟩: ∃W,w3.alloc (.cells (Y8 j q3) 25)=W:=⟨_,rfl⟩;rw[hW] at HXk HAk HXj HAj HBt HBb HQ HL HS HG HB;obtain ⟨lF,hlF,hokF,hclF⟩:=Z4a HL.out;have hlenF:lF.length=L.length:=by have:=congrArg List.length hlF; simpa using this
     have HOF:=Y1 hokF;have HCF:=Y1 hclF;have HLF:=Y1 hlF;have hcap3:=HLL.out.2.1;clear hokF hclF hlF
     go_wp2_with fail
     clear hW;refine Z49 (rs:= [0,1,2,3,4,5,6,7,8,9,10,11,12,13])
      (fun u'=> { tmps:=#[.agg (Y8 t q),.slice A L.length cap,.agg #[.string { data:=b.of_.toArray },.string { data:=b.name.toArray },.int .i64 b.sh.kind,.string { data:=b.sh.of_.toArray },.string { data:=b.sh.name.toArray },.slice qb.A b.sh.names.length qb.c,.slice qb.P b.sh.parts.length qb.d],.pointer (some { block:=w.heap.size,off:=0 }),undef,.pointer (some { block:=w.heap.size+1,off:=0 }),.bool false,.pointer (some { block:=v5.heap.size,off:=0 }),.int .i64 er,.pointer (some { block:=v9.heap.size,off:=0 }),.int .i64 er,.int .i64 ↑k,.slice (some { block:=g3,off:=0 }) M.length c3,.pointer (some { block:=w3.heap.size,off:=0 }),.int .i64 er,u' 11,u' 13,.slice A L.length cap,.bool true,.bool false,.bool false,.agg #[.string { data:=b.of_.toArray },.string { data:=b.name.toArray },.int .i64 b.sh.kind,.string { data:=b.sh.of_.toArray },.string { data:=b.sh.name.toArray },.slice qb.A b.sh.names.length qb.c,.slice qb.P b.sh.parts.length qb.d],.slice (some { block:=v1.heap.size,off:=0 }) 1 1,.bool true,.bool false,.bool false,.bool false,.agg (Y8 t q),.int .i64 sz,.bool (decide (400 < sz)),.bool (decide (400 < sz)),undef,.tuple #[.agg (Y8 j q1),.int .i64 er],.agg (Y8 t q),.slice A L.length cap,.tuple #[.agg (Y8 j q1),.int .i64 er],.agg (Y8 j q1),.int .i64 er,.agg (Y8 t q),.int .i64 (check t),.bool true,.tuple #[.agg (Y8 j q9),.int .i64 er],.agg (Y8 t q),.agg (Y8 tt q8),.slice A L.length cap,.tuple #[.agg (Y8 j q9),.int .i64 er],.agg (Y8 j q9),.int .i64 er,.int .i64 er,.int .i64 er,.bool false,.bool false,.agg (Y8 j q1),.agg (Y8 j q9),.bool true,.bool false,.bool false,.agg (Y8 t q),.agg #[.string { data:=b.of_.toArray },.string { data:=b.name.toArray },.int .i64 b.sh.kind,.string { data:=b.sh.of_.toArray },.string { data:=b.sh.name.toArray },.slice qb.A b.sh.names.length qb.c,.slice qb.P b.sh.parts.length qb.d],.bool false,undef,.slice A L.length cap,.int .i64 ↑L.length,.int .i64 ↑k,z' 0,z' 1,z' 2,z' 3,z' 4,z' 5,z' 6,z' 7,z' 8,z' 9,z' 10,.slice (some { block:=g3,off:=0 }) M.length c3,.tuple #[.agg (Y8 j q3),.int .i64 er],.agg (Y8 t q),.slice (some { block:=g3,off:=0 }) M.length c3,.tuple #[.agg (Y8 j q3),.int .i64 er],.agg (Y8 j q3),.int .i64 er,u' 8,u' 0,u' 1,u' 2,u' 3,u' 4,u' 5,u' 6,u' 7,u' 9,u' 10,undef,undef,undef,undef,undef,undef,undef,undef,undef,undef,undef,undef,undef,undef,undef,undef,undef,undef,undef,undef,undef],defers:= [] })
      (fun j=>([undef,undef,undef,undef,undef,undef,undef,undef,undef,undef,undef,undef,undef,undef]:List Value).getD j undef) (MR V3 0 (mrV (.agg (Y8 t q)) (.slice A L.length cap) (.agg #[.string ⟨b.of_.toArray⟩,.string ⟨b.name.toArray⟩,.int .i64 b.sh.kind,.string ⟨b.sh.of_.toArray⟩,.string ⟨b.sh.name.toArray⟩,.slice qb.A b.sh.names.length qb.c,.slice qb.P b.sh.parts.length qb.d])) 7 (.int .i64 er) (some j) lF (b,qb) 1 3 6 5) (by kernel_rfl) (by kernel_rfl) (by kernel_rfl) MR.start ?_ ?_
     refine StepsInv.cons2 _ rfl (fun d u' W K' hs hI hd hw hK=> ?_) ?_
     {obtain ⟨_,⟨a0,a1,a2,a3,a4⟩,_⟩:=HBt.out.next hI.ci.up;simp only[Nat.zero_add] at a0 a1 a2 a3 a4;refine Z03 (v:= .agg (Y8 t q)) (W':=W) rfl ?_ (hK.out _ _ (hI.pure (by decide) (by decide) (fun v' h=>by cases h; rfl)));go_simp}
     refine StepsInv.cons2 _ rfl (fun d u' W K' hs hI hd hw hK=> ?_) ?_
     {have d3:d 3=false:=Z0a hs rfl (by kernel_rfl) hd;have d6:d 6=false:=Z0a hs rfl (by kernel_rfl) d3;have d7:d 7=false:=Z0a hs rfl (by kernel_rfl) d6;refine Z03 (v:= .slice (some ⟨W.heap.size,0,none⟩) 0 0) (W':=W.alloc (.cells #[] 54)) rfl ?_ (hK.out _ _ (hI.mk0 (show Dis 1 3 6 7 5 by decide) (by decide) d7 rfl));go_simp}
     refine StepsInv.cons2 _ rfl (fun d u' W K' hs hI hd hw hK=> ?_) ?_
     {refine Z03 (v:= .slice A L.length cap) (W':=W) rfl ?_ (hK.out _ _ (hI.pure (by decide) (by decide) (fun v' h=>by cases h; rfl)));go_simp}
     refine StepsInv.cons2 _ rfl (fun d u' W K' hs hI hd hw hK=> ?_) ?_
     {have d3:d 3=false:=hd;have d6:d 6=false:=Z0a hs rfl (by kernel_rfl) hd;have d7:d 7=false:=Z0a hs rfl (by kernel_rfl) d6;have w1:=hw 1 (by kernel_rfl);have d2:u' 2= .slice A L.length cap:=hI.ci.vals 2 (hw 2 (by kernel_rfl)) _ rfl;refine Z0e rfl _ _ 26 rfl V3.heap.size 54 ib (.agg #[.string ByteArray.empty,.string ByteArray.empty,.int .i64 0,.string ByteArray.empty,.string ByteArray.empty,.slice none 0 0,.slice none 0 0]) 7 120 Tryd.underlying26 hifb hzb hsb hbb7 rfl (by decide) (u' 1) 0 [] rfl (hI.ci.r0 w1 d3) A L.length cap (cellsB lF) (by show u' 2=_; exact d2) (fun h=>by have:=HLL.out.2.2 h; omega) (by rw[Z0h,hlenF]) (by
       intro ad e j v hv;rcases HCF.out with h0 | ⟨g,off,hA,hg,hc⟩
       {rw[h0] at hv; simp[cellsB] at hv}
       · rw[hA] at e; cases e; rw[Z0b]; exact (hI.ci.up.cell (p:=⟨g,off+j,none⟩) hg).trans (hc j v hv)) (Z0B _) (by unfold maxLen; have:=HLN.out; omega) (by have:=HLN.out; omega) hI.ci.up.size ?_
      intro v' w' hown hg hat;exact hK.out _ _ (hI.ap1 (show Dis 1 3 6 7 5 by decide) (by decide) rfl w1 d3 d6 d7 (by rw[hlenF]; rwa [Nat.zero_add,List.nil_append] at hown) hg hat)}
     refine StepsInv.cons2 _ rfl (fun d u' W K' hs hI hd hw hK=> ?_) ?_
     {obtain ⟨_,y0,y1,y2,y3,y4,y5,y6⟩:=HBb.out.next hI.ci.up;refine Z03 (v:= .agg #[.string ⟨b.of_.toArray⟩,.string ⟨b.name.toArray⟩,.int .i64 b.sh.kind,.string ⟨b.sh.of_.toArray⟩,.string ⟨b.sh.name.toArray⟩,.slice qb.A b.sh.names.length qb.c,.slice qb.P b.sh.parts.length qb.d]) (W':=W) rfl ?_ (hK.out _ _ (hI.pure (by decide) (by decide) (fun v' h=>by cases h; rfl)));go_simp}
     refine StepsInv.cons2 _ rfl (fun d u' W K' hs hI hd hw hK=> ?_) ?_
     {have d4:u' 4= .agg #[.string ⟨b.of_.toArray⟩,.string ⟨b.name.toArray⟩,.int .i64 b.sh.kind,.string ⟨b.sh.of_.toArray⟩,.string ⟨b.sh.name.toArray⟩,.slice qb.A b.sh.names.length qb.c,.slice qb.P b.sh.parts.length qb.d]:=hI.ci.vals 4 (hw 4 (by kernel_rfl)) _ rfl;have d6:d 6=false:=Z0a hs rfl (by kernel_rfl) hd;have d7:d 7=false:=Z0a hs rfl (by kernel_rfl) d6;refine Z03 (v:= .slice (some ⟨W.heap.size,0,none⟩) 1 1) (W':=W.alloc (.cells #[.string ⟨b.of_.toArray⟩,.string ⟨b.name.toArray⟩,.int .i64 b.sh.kind,.string ⟨b.sh.of_.toArray⟩,.string ⟨b.sh.name.toArray⟩,.slice qb.A b.sh.names.length qb.c,.slice qb.P b.sh.parts.length qb.d] 54)) rfl ?_ (hK.out _ _ (hI.mkb (show Dis 1 3 6 7 5 by decide) (by decide) d7 rfl));go_simp}
     refine StepsInv.cons2 _ rfl (fun d u' W K' hs hI hd hw hK=> ?_) ?_
     {have d6:d 6=false:=hd;have d7:d 7=false:=Z0a hs rfl (by kernel_rfl) hd;have w3:=hw 3 (by kernel_rfl);obtain ⟨zb,d5,z1,z2,_,_,z5⟩:=hI.ci.rb (hw 5 (by kernel_rfl)) d6
      try dsimp only at d5
      refine Z0e rfl _ _ 26 rfl V3.heap.size 54 ib (.agg #[.string ByteArray.empty,.string ByteArray.empty,.int .i64 0,.string ByteArray.empty,.string ByteArray.empty,.slice none 0 0,.slice none 0 0]) 7 120 Tryd.underlying26 hifb hzb hsb hbb7 rfl (by decide) (u' 3) lF.length (cellsB lF) rfl (hI.ci.r1 w3 d6) (some ⟨zb,0,none⟩) 1 1 (cellsB [(b,qb)]) (by show u' 5=_; exact d5) (nofun) (by rw[Z0h]; rfl) (by intro ad e j v hv; cases e; rw[Z0b,Nat.zero_add]; exact z5 j v (by rw[<-Z1u]; exact hv)) (Z0B _) (by unfold maxLen; have:=HLN.out; omega) (by have:=HLN.out; omega) hI.ci.up.size ?_;intro v' w' hown hg hat;exact hK.out _ _ (hI.ap2 (show Dis 1 3 6 7 5 by decide) (by decide) rfl w3 d6 d7 (by rw[Z0j]; exact hown) hg)}
     refine StepsInv.cons2 _ rfl (fun d u' W K' hs hI hd hw hK=> ?_) ?_
     {have d7:d 7=false:=hd;have h1:d 8=false:=Z0a hs rfl (by kernel_rfl) hd;have h2:d 9=false:=Z0a hs rfl (by kernel_rfl) h1;have h3:d 10=false:=Z0a hs rfl (by kernel_rfl) h1;have h5:d 12=false:=Z0a hs rfl (by kernel_rfl) h2;have h6:d 13=false:=Z0a hs rfl (by kernel_rfl) h3;have w6:=hw 6 (by kernel_rfl);have w3:d 3=true:=hs 6 _ rfl w6 3 (by kernel_rfl);have d0:u' 0= .agg (Y8 t q):=hI.ci.vals 0 (hw 0 (by kernel_rfl)) _ rfl;have hr:=hI.ci.r2 w6 d7;obtain ⟨g6,c6,e6⟩:=Z3t hr (by omega);rw[e6] at hr;have hM2:lF.length+1=(L++ [b]).length:=by rw[List.length_append,hlenF]; rfl
      rw[hM2] at hr e6;have hup:=hI.ci.up;have hB2:BdsAt W W.heap.size (some ⟨g6,0,none⟩) (L++ [b]):=by
       have h:=Z4b hr (by rw[List.length_append,List.length_append,hlenF]; rfl) (fun x hx=>by
        rcases List.mem_append.1 hx with hx | hx
        {exact Z3u (HOF.out x hx) hup}
        · rw[List.mem_singleton.1 hx]; exact ⟨HS.out.next hup,HBL.out⟩)
       rw[List.map_append,HLF.out] at h; exact h
      have hres:Expd.resolve (L++ [b]) t=Expd.resolve L t:=by
       have h:=Expd.resolve_more (l:=L) (m:= []) HNM.out;rw[List.append_nil] at h; exact h
      have hcon:Calls Tryd.prog 9 #[.agg (Y8 t q),u' 6] W (GetRs 0 (.int .i64 er) (some j) W):=by
       rw[e6];refine (Z3A t q (L++ [b]) (some ⟨g6,0,none⟩) c6 W (HQ.out.next hup) hB2 (by rw[List.length_append]; have:=HLN.out; simp; omega) (HG.out.next hup)).mono ?_;rintro e w' ⟨q',he,hk,hb⟩;rw[hres, <-HJ.out.1, <-HJ.out.2] at he;rw[hres, <-HJ.out.1] at hk;exact ⟨j,q',he,hb,fun j' h=>by cases h; exact ⟨rfl,hk.more (fun b _ h=>Or.inr h)⟩⟩
      refine Z3b (f:=9) (args:=#[.agg (Y8 t q),u' 6]) (W':=W) rfl ?_ (hcon.mono fun e w' hb=> ?_)
      {try dsimp only
       go_simp}
      {obtain ⟨v,he,hr⟩:=hI.call (by decide) rfl w3 w6 d7 (fun j hj=>by rcases hj with rfl | rfl | rfl | rfl | rfl <;> assumption) hb;exact ⟨v,he,hK.out _ _ hr⟩}}
     refine StepsInv.cons2 _ rfl (fun d u' W K' hs hI hd hw hK=> ?_) ?_
     {have w7:=hw 7 (by kernel_rfl);have w6:d 6=true:=hs 7 _ rfl w7 6 (by kernel_rfl);have w3:d 3=true:=hs 6 _ rfl w6 3 (by kernel_rfl);obtain ⟨t2,qt,W2',s,e7,_⟩:=hI.gr.ca w7
      try dsimp only at e7
      unfold sv at e7;refine Z03 (v:= .tuple #[.agg (Y8 t2 qt),(.int .i64 er)]) (W':=W) rfl ?_ (hK.out _ _ (hI.read (fun j h=>Z0N h) (by decide) w3 w6 w7 (by decide) hd (fun t' q' h=>⟨fun _=>e7.symm,nofun,nofun,nofun⟩)));go_simp}
     refine StepsInv.cons2 _ rfl (fun d u' W K' hs hI hd hw hK=> ?_) ?_
     {have w8:=hw 8 (by kernel_rfl);have w7:d 7=true:=hs 8 _ rfl w8 7 (by kernel_rfl);have w6:d 6=true:=hs 7 _ rfl w7 6 (by kernel_rfl);have w3:d 3=true:=hs 6 _ rfl w6 3 (by kernel_rfl);obtain ⟨t2,qt,W2',s,e7,_,_,_,e8,_⟩:=hI.gr.ca w7
      try dsimp only at e7 e8
      have d8:=(e8 w8).trans e7;have e7s:=e7;unfold sv at d8;refine Z03 (v:= .agg (Y8 t2 qt)) (W':=W) rfl ?_ (hK.out _ _ (hI.read (fun j h=>Z0N h) (by decide) w3 w6 w7 (by decide) hd (fun t' q' h=>⟨nofun,fun _=>by rw[e7s] at h; simp only[Value.tuple.injEq] at h; have:=congrArg (fun a:Array Value=>a[0]?) h; unfold sv at this ⊢; simpa using this,nofun,nofun⟩)));go_simp}
     refine StepsInv.cons2 _ rfl (fun d u' W K' hs hI hd hw hK=> ?_) ?_
     {have w8:=hw 8 (by kernel_rfl);have w7:d 7=true:=hs 8 _ rfl w8 7 (by kernel_rfl);have w6:d 6=true:=hs 7 _ rfl w7 6 (by kernel_rfl);have w3:d 3=true:=hs 6 _ rfl w6 3 (by kernel_rfl);obtain ⟨t2,qt,W2',s,e7,_,_,_,e8,_⟩:=hI.gr.ca w7
      try dsimp only at e7 e8
      have d8:=(e8 w8).trans e7;unfold sv at d8;refine Z03 (v:=(.int .i64 er)) (W':=W) rfl ?_ (hK.out _ _ (hI.read (fun j h=>Z0N h) (by decide) w3 w6 w7 (by decide) hd (fun t' q' h=>⟨nofun,nofun,fun _=>rfl,nofun⟩)));go_simp}
     refine StepsInv.cons2 _ rfl (fun d u' W K' hs hI hd hw hK=> ?_) ?_
     {have h12:d 12=false:=Z0a hs rfl (by kernel_rfl) hd;refine Z03 (v:= .pointer (some ⟨W.heap.size,0,none⟩)) (W':=W.alloc (.cells Yb 25)) rfl ?_ (hK.out _ _ (hI.alloc (fun j h=>Z0N h) (by decide) hd h12));go_simp}
     refine StepsInv.cons2 _ rfl (fun d u' W K' hs hI hd hw hK=> ?_) ?_
     {have w11:=hw 11 (by kernel_rfl);have w9:=hw 9 (by kernel_rfl);have w8:d 8=true:=hs 9 _ rfl w9 8 (by kernel_rfl);have w7:d 7=true:=hs 8 _ rfl w8 7 (by kernel_rfl);have w6:d 6=true:=hs 7 _ rfl w7 6 (by kernel_rfl);have w3:d 3=true:=hs 6 _ rfl w6 3 (by kernel_rfl);obtain ⟨t2,qt,W2',s,e7,_,_,_,_,e9,_⟩:=hI.gr.ca w7
      try dsimp only at e7 e9
      have d9:=e9 w9;obtain ⟨g1,e11,g2,g3',g4,g5⟩:=hI.gr.al w11
      try dsimp only at e11
      have hst:=hI.store (fun j h=>Z0N h) (by decide) w3 w6 w7 w11 e11 e7;refine Z1I (W':=RX.lay W g1 t2 qt) rfl ?_ (hK.out undef _ hst);obtain ⟨v0,x0⟩:=g5 0 (by omega);obtain ⟨v1,x1⟩:=g5 1 (by omega);obtain ⟨v2,x2⟩:=g5 2 (by omega);obtain ⟨v3,x3⟩:=g5 3 (by omega);obtain ⟨v4,x4⟩:=g5 4 (by omega);have y0:=g4 0;have y1:=g4 1;have y2:=g4 2;have y3:=g4 3;have y4:=g4 4;unfold sv at d9;go_simp;rfl}
     refine StepsInv.cons2 _ rfl (fun d u' W K' hs hI hd hw hK=> ?_) StepsInv.nil
     {have w10:=hw 10 (by kernel_rfl);have w8:d 8=true:=hs 10 _ rfl w10 8 (by kernel_rfl);have w7:d 7=true:=hs 8 _ rfl w8 7 (by kernel_rfl);have w6:d 6=true:=hs 7 _ rfl w7 6 (by kernel_rfl);have w3:d 3=true:=hs 6 _ rfl w6 3 (by kernel_rfl);obtain ⟨t2,qt,W2',s,e7,_,_,_,_,_,e10,_⟩:=hI.gr.ca w7
      try dsimp only at e7 e10
      have d10:=e10 w10;refine Z03 (v:=(.int .i64 er)) (W':=W) rfl ?_ (hK.out _ _ (hI.read (fun j h=>Z0N h) (by decide) w3 w6 w7 (by decide) hd (fun t' q' h=>⟨nofun,nofun,nofun,fun _=>rfl⟩)));go_simp}
     intro d s' W4 hI hd
     try dsimp only
     have w7:=hd 7 (by decide);have w11:=hd 11 (by decide);obtain ⟨g1,e11,g2,g3',g4,_⟩:=hI.gr.al w11;obtain ⟨t2,qt,W2',s,e7,s1,s2',hj,_,_,_,hu,hgs,h12,h13⟩:=hI.gr.ca w7;have d13:=h13 (hd 13 (by decide));have hl5:=h12 (hd 12 (by decide)) g1 e11;have hsep:=hgs g1 w11 e11
     try dsimp only at d13 e11
     have hbb:=hI.gr.up;rw[e11,d13];obtain ⟨e2,hkp⟩:=hj j rfl;rw[e2] at hl5;have HAz:Hid (ShAt W4 W4.heap.size qt j):=Y1 ((hkp.upd hu (fun x hx hS ht=>by
      obtain ⟨_,ht2⟩:=ht;rw[e11] at ht2;have e3:g1=x:=by simp at ht2 <;> exact ht2
      rcases hsep with h | h <;> rcases hS with hS | hS <;> omega)).here)
     have HLz:Hid (Sh5 W4 g1 0 j qt):=Y1 hl5;have HGz:Hid (g1 < W4.heap.size):=Y1 g3';have HG:=Y1 (HG.out.next hbb);have HXj:=Y1 (HXj.out.next hbb);have HAj:=Y1 (HAj.out.next hbb);have HXk:=Y1 (HXk.out.next hbb);have HAk:=Y1 (HAk.out.next hbb);have HB:=Y1 (Z02 HB.out hbb);clear hI hd w7 w11 e11 g2 g3' g4 e7 s1 s2' hj hu hgs h12 h13 d13 hl5 hsep hbb e2 hkp;have hee: (er==er)=true:=by simp
     obtain ⟨_,⟨a0,a1,a2,a3,a4⟩,_⟩:=HXj.out;obtain ⟨_,⟨b0,b1,b2,b3,b4⟩,_⟩:=HXk.out;simp only[Nat.zero_add] at a0 a1 a2 a3 a4 b0 b1 b2 b3 b4;have HE:=Y1 (Z1h j j q1 q3 W4 HAj.out HAk.out);rw[Z1n] at HE
     go_wp2_with fail
     refine HE.out.mono ?_;rintro e w5 ⟨rfl,hbb⟩;have HLz2:=Y1 (HLz.out.keep HGz.out hbb);have HAz2:=Y1 (HAz.out.next hbb);have HXj:=Y1 (HXj.out.next hbb);have HAj:=Y1 (HAj.out.next hbb);have HG:=Y1 (HG.out.next hbb);have HB:=Y1 (Z02 HB.out hbb);clear hbb HE a0 a1 a2 a3 a4 b0 b1 b2 b3 b4;obtain ⟨_,⟨a0,a1,a2,a3,a4⟩,_⟩:=HXj.out;obtain ⟨b0,b1,b2,b3,b4⟩:=HLz2.out;simp only[Nat.zero_add] at a0 a1 a2 a3 a4 b0 b1 b2 b3 b4;have HE:=Y1 (Z1h j j q1 qt w5 HAj.out HAz2.out);rw[Z1n] at HE
     go_wp2_with fail
     refine HE.out.mono ?_;rintro e w6 ⟨rfl,hbb⟩;have HG:=Y1 (HG.out.next hbb);have HB:=Y1 (Z02 HB.out hbb);clear hbb HE a0 a1 a2 a3 a4 b0 b1 b2 b3 b4
     go_wp2_with fail
     refine (Z0V _ HG.out).mono ?_;rintro e v30 ⟨rfl,hb9⟩;have HB9:=Y1 (Z02 HB.out hb9);clear hb9;go_wp2;go_ret;exact ⟨rfl,HB9.out⟩
end
end Go.Proofs.YtchklpedlbkgaaaDoor
