/- ExpandTwice: what comes stays, in any environment, if it is closed, and it is in order; for all values that the row lets in, with the program's variable laid as its text lays it. -/
import Derived.Test.YtfgcocpdaghlnaaDoorTie
import Derived.Test.YtfgcocpdaghlnaaDoorCards
import Derived.LaidMore
import Derived.Lay
import Derived.Test.YtfgcocpdaghlnaaDoorK0n10
set_option linter.unusedVariables false
set_option linter.unusedSimpArgs false
set_option linter.unusedSectionVars false
set_option maxRecDepth 100000
set_option maxHeartbeats 16000000
namespace Go.Proofs.YtfgcocpdaghlnaaDoor
section
open Shp
theorem Z8b (L:List Fld): (L.map Prod.fst).zip (L.map Prod.snd)=L:=by
 induction L with
 | nil=>rfl
 | cons a l ih=>simp[ih]
theorem Z2F (t:Sh):right t=true->sorted (sorted t)=sorted t:=by
 induction t using Sh.ind with
 | h t ih=>
  intro h;have hp: ∀p∈(sorted t).parts,sorted p=p:=fun p hm=>by
   obtain ⟨x,hx,rfl⟩:=List.mem_map.1 ((Z0M h).ps.mem_iff.1 hm);exact ih x hx (Z05 h hx)
  have hm:=Z52 hp;by_cases h0:t.names= []
  {have hn: (sorted t).names= []:=by rw[Z09,if_pos h0]
   rw[Z09 (sorted t),if_pos hn,hm];rw[<-hn];exact (Z53 _).symm}
  {have hl:=Z2d h h0;have hs:sorted t=⟨t.kind,t.of_,t.name,(sortF (t.names.zip (t.parts.map sorted))).map Prod.fst,(sortF (t.names.zip (t.parts.map sorted))).map Prod.snd⟩:=by rw[Z09,if_neg h0]
   have hfst: (t.names.zip (t.parts.map sorted)).map Prod.fst=t.names:=List.map_fst_zip (by rw[List.length_map,hl.1]; exact Nat.le_refl _);have hnd: ((sortF (t.names.zip (t.parts.map sorted))).map Prod.fst).Nodup:=(((Z0y _).map Prod.fst).nodup_iff).2 (by rw[hfst]; exact hl.2);have hne: (sorted t).names≠ []:=fun e=>h0 (by
    have:=(Z0M h).ns.length_eq;rw[e] at this;exact List.eq_nil_of_length_eq_zero this.symm)
   have hu:sortF (sortF (t.names.zip (t.parts.map sorted)))=sortF (t.names.zip (t.parts.map sorted)):=(Z1e (List.Perm.refl _) (Z1d _) hnd).symm;rw[Z09 (sorted t),if_neg hne,hm];generalize hL:sortF (t.names.zip (t.parts.map sorted))=L at hs hu;rw[hs];simp only[Z8b,hu]}
end
end Go.Proofs.YtfgcocpdaghlnaaDoor
namespace Go.Proofs.YtfgcocpdaghlnaaDoor
namespace Expd
open Shp
theorem resolve_none {env:List Bd} {t:Sh} (h: (resolve env t).2≠0): (resolve env t).1=Z0r:=by
 unfold resolve at h ⊢;split
 {rfl}
 {rename_i h0
  rw[if_neg h0] at h;cases e:put (find env) t with
  | none=>rfl
  | some u=>
   rw[e] at h;simp only at h ⊢;split
   {rfl}
   {rename_i h1; rw[if_neg h1] at h; exact absurd rfl h}}
theorem resolve_sorted {env:List Bd} {t:Sh} (h: (resolve env t).2=0):sorted (resolve env t).1=(resolve env t).1/\check (resolve env t).1=0:=by
 obtain ⟨h0,u,h1,h2,h3⟩:=Z3d h;rw[h3];exact ⟨Z2F u (Z0C h2).2.2,Z1M h2⟩
theorem resolve_again {env other:List Bd} {t:Sh} (h: (resolve env t).2=0) (hc:closed (resolve env t).1=true):resolve other (resolve env t).1=((resolve env t).1,0):=by
 rw[resolve_self hc,(resolve_sorted h).1]
end Expd
end Go.Proofs.YtfgcocpdaghlnaaDoor
namespace Go.Proofs.YtfgcocpdaghlnaaDoor
section
open Go.RowKit Shp
open Expd (Bd Z0r)
def twiceT (x:Sh) (q3:Ptr):Nat->Want
 | 0=> .val (.agg (Y8 x q3))
 | 1=>wantSh x
 | 2=> .val (.agg (Y8 x q3))
 | 3=> .val (.bool true)
 | 4=> .val (.bool false)
 | 5=> .val (.bool false)
 | 6=> .val (.agg (Y8 x q3))
 | 7=> .val (.int .i64 0)
 | 8=> .val (.bool false)
 | 9=> .val (.bool false)
 | _=> .any
theorem Z3y (t:Sh) (q:Ptr) (L:List Bd) (A:Option Addr) (cap:Nat) (M:List Bd) (C:Option Addr) (cam:Nat) (w:World) (hq:ShAt w w.heap.size q t) (hL:BdsAt w w.heap.size A L) (hl:L.length<=9223372036854775807)
 (hM:BdsAt w w.heap.size C M) (hm:M.length<=9223372036854775807) (hg:WGlobs w):
 Y9 7 #[shV t q,.slice A L.length cap,.slice C M.length cam] w (.bool true):=by
 have hb0:=Z01 w (.cells (Y8 t q) 25);have HB0:=Y1 hb0;have HB:=Y1 (Z03 w t q);have HQ:=Y1 (hq.next hb0);have HL:=Y1 (hL.next hb0);have HM:=Y1 (hM.next hb0);have HG:=Y1 (hg.next hb0);have HLN:=Y1 hl;have HMN:=Y1 hm;obtain ⟨_,⟨c0,c1,c2,c3,c4⟩,_⟩:=HB.out;clear hb0 hq hL hM hg hl hm;unfold shV;go_enter Tryd.func7,Tryd.ntmps7
 go_wp2_with fail
 generalize w.alloc (.cells (Y8 t q) 25)=W0 at HB0 HB HQ HL HM HG c0 c1 c2 c3 c4 ⊢;refine (Z2D L A cap W0 HL.out HLN.out).mono ?_;rintro e W1 ⟨rfl,hb1⟩;have HB1:=Y1 (Z00 HB0.out hb1);have HBX:=Y1 (HB.out.next hb1);have HQ1:=Y1 (HQ.out.next hb1);have HL1:=Y1 (HL.out.next hb1);have HM1:=Y1 (HM.out.next hb1);have HG1:=Y1 (HG.out.next hb1);clear hb1 c0 c1 c2 c3 c4 HB0 HB HQ HL HM HG;cases hs:smallB L with
 | false=>
  clear hs
  go_wp2_with fail
  refine (Z0a W1 HG1.out).mono ?_;rintro e W2 ⟨rfl,hb2⟩;have HB2:=Y1 (Z00 HB1.out hb2);clear hb2;go_wp2;go_ret;exact ⟨rfl,HB2.out⟩
 | true=>
  have HLN2:=Y1 (Z2C hs);clear hs
  go_wp2_with fail
  refine (Z2D M C cam W1 HM1.out HMN.out).mono ?_;rintro e W2 ⟨rfl,hb2⟩;have HB2:=Y1 (Z00 HB1.out hb2);have HBY:=Y1 (HBX.out.next hb2);have HQ2:=Y1 (HQ1.out.next hb2);have HL2:=Y1 (HL1.out.next hb2);have HM2:=Y1 (HM1.out.next hb2);have HG2:=Y1 (HG1.out.next hb2);clear hb2 HB1 HBX HQ1 HL1 HM1 HG1;cases hs:smallB M with
  | false=>
   clear hs
   go_wp2_with fail
   refine (Z0a W2 HG2.out).mono ?_;rintro e W3 ⟨rfl,hb3⟩;have HB3:=Y1 (Z00 HB2.out hb3);clear hb3;go_wp2;go_ret;exact ⟨rfl,HB3.out⟩
  | true=>
   have HMN2:=Y1 (Z2C hs);clear hs;obtain ⟨_,⟨c0,c1,c2,c3,c4⟩,_⟩:=HBY.out;simp only[Nat.zero_add] at c0 c1 c2 c3 c4;have HR:=Y1 (Z0S t q L A cap W2 HQ2.out HL2.out (by have:=HLN2.out; omega) HG2.out);unfold shV at HR
   go_wp2_with fail
   refine HR.out.mono ?_;rintro e w3 ⟨q3,he,hat,hb3⟩;obtain ⟨x,hx⟩: ∃x,x=(Expd.resolve L t).1:=⟨_,rfl⟩;obtain ⟨n,hn⟩: ∃n,n=(Expd.resolve L t).2:=⟨_,rfl⟩;rw[<-hx, <-hn] at he;rw[<-hx] at hat;subst he;have hb4:=Z01 w3 (.cells (Y8 x q3) 25);have HB4:=Y1 (Z00 HB2.out (Z00 hb3 hb4));have HAT:=Y1 (hat.next hb4);have HBXX:=Y1 (Z03 w3 x q3);have HM4:=Y1 (HM2.out.next (Z00 hb3 hb4));have HG4:=Y1 (HG2.out.next (Z00 hb3 hb4));have HNO:Hid (n≠0->x=Z0r):=Y1 (fun h=>by rw[hx]; exact Expd.resolve_none (by rw[<-hn]; exact h));have HSO:Hid (n=0->sorted x=x/\check x=0):=Y1 (fun h=>by rw[hx]; exact Expd.resolve_sorted (by rw[<-hn]; exact h));have HAG:Hid (n=0->closed x=true->Expd.resolve M x=(x,0)):=Y1 (fun h h2=>by rw[hx] at h2 ⊢; exact Expd.resolve_again (by rw[<-hn]; exact h) h2);clear hx hn hat hb3 hb4 c0 c1 c2 c3 c4 HR;obtain ⟨W4,hW4⟩: ∃W4,w3.alloc (.cells (Y8 x q3) 25)=W4:=⟨_,rfl⟩;rw[hW4] at HB4 HAT HBXX HM4 HG4;obtain ⟨_,⟨x0,x1,x2,x3,x4⟩,_⟩:=HBXX.out;simp only[Nat.zero_add] at x0 x1 x2 x3 x4;by_cases hn0:n=0
   {obtain ⟨hsx,hcx⟩:=HSO.out hn0;have HSX:=Y1 hsx;have HCX:=Y1 hcx;have HAX:=Y1 (HAG.out hn0);subst hn0;clear hsx hcx HSO HNO HAG;have hn1: ((0:Int) !=0)=false:=by decide
    go_wp2_with fail
    refine Z2Q (rs:= [0,1,2,3,4,5,6,7,8,9])
     (fun u'=> { tmps:=#[.agg (Y8 t q),.slice A L.length cap,.slice C M.length cam,.pointer (some { block:=w.heap.size,off:=0 }),undef,undef,.bool false,.pointer (some { block:=w3.heap.size,off:=0 }),.int .i64 0,undef,undef,.slice A L.length cap,.bool true,.bool false,.bool false,.slice C M.length cam,.bool true,.bool false,.bool false,undef,.tuple #[shV x q3,.int .i64 0],.agg (Y8 t q),.slice A L.length cap,.tuple #[shV x q3,.int .i64 0],shV x q3,.int .i64 0,.int .i64 0,.bool false,undef,undef,undef,undef,undef,undef,u' 0,u' 1,u' 2,u' 3,u' 4,u' 5,u' 6,u' 7,u' 8,u' 9,undef,undef,undef,undef,undef,undef,undef,undef,undef,undef,undef,undef,undef,undef,undef,undef,undef,undef,undef,undef,undef],defers:= [] })
     (fun j=>([undef,undef,undef,undef,undef,undef,undef,undef,undef,undef]:List Value).getD j undef) (twiceT x q3) (fun W=>Below W4.heap.size W4 W) (by kernel_rfl) (by kernel_rfl) (by kernel_rfl) Y2.drew ?_ ?_
    refine StepsAt.cons _ rfl (fun u' W K' hJ hd hK=> ?_) ?_
    {obtain ⟨_,⟨y0,y1,y2,y3,y4⟩,_⟩:=HBXX.out.next hJ;simp only[Nat.zero_add] at y0 y1 y2 y3 y4;refine Y0 hK hJ rfl rfl rfl ?_
     try dsimp only
     go_simp}
    refine StepsAt.cons _ rfl (fun u' W K' hJ hd hK=> ?_) ?_
    {have d0:_=_:=hd 0 (by kernel_rfl);refine Z0q (f:=21) (args:=#[.agg (Y8 x q3)]) (W':=W) rfl ?_ ((Z2B x q3 W (HAT.out.next hJ) (HG4.out.next hJ) HCX.out).mono fun e w' ⟨q',he,ha,hb⟩=>⟨_,he,hK.out _ _ ⟨q',by rw[HSX.out],by rw[HSX.out] at ha; exact ha⟩ (Z00 hJ hb) hb⟩)
     try dsimp only
     go_simp}
    refine StepsAt.cons _ rfl (fun u' W K' hJ hd hK=> ?_) ?_
    {obtain ⟨_,⟨y0,y1,y2,y3,y4⟩,_⟩:=HBXX.out.next hJ;simp only[Nat.zero_add] at y0 y1 y2 y3 y4;refine Y0 hK hJ rfl rfl rfl ?_
     try dsimp only
     go_simp}
    refine StepsAt.cons _ rfl (fun u' W K' hJ hd hK=> ?_) ?_
    {obtain ⟨qa,d1,a1⟩:=hd 1 (by kernel_rfl);have d2:_=_:=hd 2 (by kernel_rfl);refine Z0q (f:=13) (args:=#[.agg (Y8 x qa),.agg (Y8 x q3)]) (W':=W) rfl ?_ ((Z0N x x qa q3 W a1 (HAT.out.next hJ)).mono fun e w' h=>⟨_,h.1,hK.out _ _ (by rw[Z0Q]; rfl) (Z00 hJ h.2) h.2⟩)
     try dsimp only
     go_simp}
    refine StepsAt.cons _ rfl (fun u' W K' hJ hd hK=> ?_) ?_
    {have d3:_=_:=hd 3 (by kernel_rfl);refine Y0 hK hJ rfl rfl rfl ?_
     try dsimp only
     go_simp}
    refine StepsAt.cons _ rfl (fun u' W K' hJ hd hK=> ?_) ?_
    {have d4:_=_:=hd 4 (by kernel_rfl);refine Y0 hK hJ rfl rfl rfl ?_
     try dsimp only
     go_simp}
    refine StepsAt.cons _ rfl (fun u' W K' hJ hd hK=> ?_) ?_
    {have dg:_=_:=hd 5 (by kernel_rfl);obtain ⟨_,⟨y0,y1,y2,y3,y4⟩,_⟩:=HBXX.out.next hJ;simp only[Nat.zero_add] at y0 y1 y2 y3 y4;refine Y0 hK hJ rfl rfl ?_ ?_
     {simp[Region.wanted,yielded,dg]}
     {try dsimp only
      go_simp}}
    refine StepsAt.cons _ rfl (fun u' W K' hJ hd hK=> ?_) ?_
    {have dg:_=_:=hd 5 (by kernel_rfl);have d6:_=_:=hd 6 (by kernel_rfl);refine Z0q (f:=22) (args:=#[.agg (Y8 x q3)]) (W':=W) ?_ ?_ ((Z0v x q3 W (HAT.out.next hJ) (HG4.out.next hJ)).mono fun e w' h=>⟨_,h.1,hK.out _ _ (by rw[HCX.out]; rfl) (Z00 hJ h.2) h.2⟩)
     {simp[Region.wanted,yielded,dg]}
     {try dsimp only
      go_simp}}
    refine StepsAt.cons _ rfl (fun u' W K' hJ hd hK=> ?_) ?_
    {have dg:_=_:=hd 5 (by kernel_rfl);have d7:_=_:=hd 7 (by kernel_rfl);refine Y0 hK hJ rfl rfl ?_ ?_
     {simp[Region.wanted,yielded,dg]}
     {try dsimp only
      go_simp}}
    refine StepsAt.cons _ rfl (fun u' W K' hJ hd hK=> ?_) StepsAt.nil
    {have d5:_=_:=hd 5 (by kernel_rfl);have d8:_=_:=hd 8 (by kernel_rfl);refine Y0 hK hJ rfl rfl rfl ?_
     try dsimp only
     go_simp}
    intro u' W' hJ' hok
    try dsimp only
    have HJ:=Y1 hJ';obtain ⟨_,⟨y0,y1,y2,y3,y4⟩,_⟩:=HBXX.out.next hJ';simp only[Nat.zero_add] at y0 y1 y2 y3 y4;rw[show u' 9= .bool false from hok 9 (by decide)];clear hok hJ' x0 x1 x2 x3 x4;have HR:=Y1 (Z0S x q3 M C cam W' (HAT.out.next HJ.out) (HM4.out.next HJ.out) (by have:=HMN2.out; omega) (HG4.out.next HJ.out));unfold shV at HR
    go_wp2_with fail
    refine HR.out.mono ?_;rintro e w5 ⟨q5,he,hat5,hb5⟩;have HAX2:Hid (closed x=true->(Expd.resolve M x).1=x/\(Expd.resolve M x).2=0):=Y1 (fun h=>by rw[HAX.out h]; exact ⟨rfl,rfl⟩);obtain ⟨y,hy⟩: ∃y,y=(Expd.resolve M x).1:=⟨_,rfl⟩;obtain ⟨m,hm⟩: ∃m,m=(Expd.resolve M x).2:=⟨_,rfl⟩;rw[<-hy, <-hm] at he HAX2;rw[<-hy] at hat5;subst he;have hb6:=Z01 w5 (.cells (Y8 y q5) 25);have HB6:=Y1 (Z00 HJ.out (Z00 hb5 hb6));have HAT5:=Y1 (hat5.next hb6);have HBYY:=Y1 (Z03 w5 y q5);clear hy hm hat5 hb5 hb6 y0 y1 y2 y3 y4 HR;obtain ⟨W6,hW6⟩: ∃W6,w5.alloc (.cells (Y8 y q5) 25)=W6:=⟨_,rfl⟩;rw[hW6] at HB6 HAT5 HBYY;obtain ⟨_,⟨x0,x1,x2,x3,x4⟩,_⟩:=HBXX.out.next HB6.out;simp only[Nat.zero_add] at x0 x1 x2 x3 x4;have HC:=Y1 (Z1i x q3 W6 (HAT.out.next HB6.out) (HG4.out.next HB6.out))
    go_wp2_with fail
    refine HC.out.mono ?_;rintro e W7 ⟨rfl,hb7⟩;have HB7:=Y1 hb7;clear hb7 HC x0 x1 x2 x3 x4;cases hcl:closed x with
    | false=>
     clear hcl
     go_wp2_with fail
     refine (Z0a W7 (HG4.out.next (Z00 HB6.out HB7.out))).mono ?_;rintro e W8 ⟨rfl,hb8⟩;have HB8:=Y1 (Z00 HB4.out (Z00 (Z00 HB6.out HB7.out) hb8));clear hb8;go_wp2;go_ret;exact ⟨rfl,HB8.out⟩
    | true=>
     obtain ⟨hyx,hm0⟩:=HAX2.out hcl;have HYX:=Y1 hyx;clear hyx hcl;subst hm0;obtain ⟨_,⟨x0,x1,x2,x3,x4⟩,_⟩:=HBXX.out.next (Z00 HB6.out HB7.out);obtain ⟨_,⟨y0,y1,y2,y3,y4⟩,_⟩:=HBYY.out.next HB7.out;simp only[Nat.zero_add] at x0 x1 x2 x3 x4 y0 y1 y2 y3 y4;have HE:=Y1 (Z0N x y q3 q5 W7 (HAT.out.next (Z00 HB6.out HB7.out)) (HAT5.out.next HB7.out));rw[show eqB x y=true from by rw[HYX.out]; exact Z0Q x] at HE
     go_wp2_with fail
     refine HE.out.mono ?_;rintro e W8 ⟨rfl,hb8⟩;have HB8:=Y1 (Z00 (Z00 HB6.out HB7.out) hb8);clear hb8 HE x0 x1 x2 x3 x4 y0 y1 y2 y3 y4
     go_wp2_with fail
     refine (Z0a W8 (HG4.out.next HB8.out)).mono ?_;rintro e W9 ⟨rfl,hb9⟩;have HB9:=Y1 (Z00 HB4.out (Z00 HB8.out hb9));clear hb9;go_wp2;go_ret;exact ⟨rfl,HB9.out⟩}
   {have hxn:=HNO.out hn0;have hn1: (n !=0)=true:=by simpa using hn0
    have hn2: (n==0)=false:=by simpa using hn0
    subst hxn;have HN0:=Y1 hn0;clear hn0 HSO HAG HNO;have HE:=Y1 (Z0N Z0r Z0r q3 ⟨none,0,none,0⟩ W4 HAT.out (Z37 W4 _));rw[Z0Q] at HE
    go_wp2_with fail
    refine HE.out.mono ?_;rintro e W5 ⟨rfl,hb5⟩;have HB5:=Y1 hb5;clear hb5 HE x0 x1 x2 x3 x4
    go_wp2_with fail
    refine (Z0a W5 (HG4.out.next HB5.out)).mono ?_;rintro e W6 ⟨rfl,hb6⟩;have HB6:=Y1 (Z00 HB4.out (Z00 HB5.out hb6));clear hb6;go_wp2;go_ret;exact ⟨rfl,HB6.out⟩}
end
end Go.Proofs.YtfgcocpdaghlnaaDoor
namespace Go.Proofs.YtfgcocpdaghlnaaDoor.expandTwice
section
open Go.ChangeShapes Go.WideShapes Go.ChangeAt Go.RowKit
open Go.ChangeMaps (open_string shut_string)
theorem walk (w:World) (u0:Shp.Sh) (p0:Ptr) (S0:ShAt w w.heap.size p0 u0) (A1:Option Addr) (c1:Nat) (s1:List Expd.Bd) (S1:BdsAt w w.heap.size A1 s1) (m1:s1.length<=9223372036854775807) (q1:s1.length<=c1) (A2:Option Addr) (c2:Nat) (s2:List Expd.Bd) (S2:BdsAt w w.heap.size A2 s2) (m2:s2.length<=9223372036854775807) (q2:s2.length<=c2) (hg:WGlobs w):Y9 7 #[.agg (Y8 u0 p0),.slice A1 s1.length c1,.slice A2 s2.length c2] w (.bool true):=Z3y u0 p0 s1 A1 c1 s2 A2 c2 w S0 S1 m1 S2 m2 hg
theorem own:ownKnob Tryd.prog.godebug=none:=by kernel_rfl
theorem laidOut:laidOutB Tryd.prog=true:=by kernel_rfl
theorem contract (H:Type) (enc:TypeId×Value->H) (W:World) (base:Nat) (args:Array Value) (ds gs:List (DataW H)) (before:List MemPlace)
 (hval0: ∀(j:Nat) t v,Tryd.f7.params[j]? =some t->args[j]? =some v->Value.okWide Tryd.prog W .any base t v)
 (hW:DataW.Whole enc Tryd.prog Tryd.f7.params.toList Rows.expandTwiceSpec.vars false W args.toList ds gs before) (hL:laidMetH Tryd.prog Rows.expandTwiceRow.laid W) (hsz0: (DataW.weightsEach Tryd.prog (Tryd.f7.params.toList++Rows.expandTwiceSpec.plain.varTypes Tryd.prog) (ds++gs)).all (· <=reachBytes)=true):
 Calls Tryd.prog 7 args W fun e W'=> ∃v,e= .returned v/\Rows.expandTwiceSpec.post enc Tryd.prog Tryd.f7 false true false false W args v W':=by
 have hval: ∀(j:Nat) t v,Tryd.f7.params[j]? =some t->args[j]? =some v->Value.okWide Tryd.prog W .any base t v:=hval0;have hsz: (DataW.weightsEach Tryd.prog (Tryd.f7.params.toList++Rows.expandTwiceSpec.plain.varTypes Tryd.prog) (ds++gs)).all (· <=reachBytes)=true:=hsz0
 have hW':=hW;obtain ⟨p,q,hA0,hV,rfl,hfz,hnd⟩:=hW;have hA:DataW.TrodAll enc Tryd.prog W 0 (fun _=>true) true Tryd.f7.params.toList args.toList ds p:=hA0;rw[Tryd.params7] at hA hval hsz;obtain ⟨v0,vs0,d0,ds0,p0,q0,hargs,rfl,rfl,h0,t0⟩:=trodAll_cons hA;obtain ⟨v1,vs1,d1,ds1,p1,q1,rfl,rfl,rfl,h1,t1⟩:=trodAll_cons t0;obtain ⟨v2,vs2,d2,ds2,p2,q2,rfl,rfl,rfl,h2,t2⟩:=trodAll_cons t1;obtain ⟨rfl,rfl,rfl⟩:=trodAll_nil t2;obtain rfl:args=#[v0,v1,v2]:=by cases args; simp_all
 obtain ⟨rfl,rfl⟩:=trodVars_none hV;have k0:=h0;have lt0: ∀x∈p0,x.block < W.heap.size:=by obtain ⟨m,hm⟩:=k0; exact DataW.trod_lt m _ _ _ hm
 obtain ⟨u0,y0,rfl,S0⟩:=Z3R (hval 0 25 v0 rfl rfl) h0;obtain ⟨A1,n1,c1,rfl⟩:=okWide_slice Tryd.underlying26 (hval 1 26 v1 rfl rfl);have k1:=h1;have lt1: ∀x∈p1,x.block < W.heap.size:=by obtain ⟨m,hm⟩:=k1; exact DataW.trod_lt m _ _ _ hm
 obtain ⟨s1,rfl,S1,m1,q1⟩:=Z2v h1;obtain ⟨A2,n2,c2,rfl⟩:=okWide_slice Tryd.underlying26 (hval 2 26 v2 rfl rfl);have k2:=h2;have lt2: ∀x∈p2,x.block < W.heap.size:=by obtain ⟨m,hm⟩:=k2; exact DataW.trod_lt m _ _ _ hm
 obtain ⟨s2,rfl,S2,m2,q2⟩:=Z2v h2;clear hA0 hval0;rw[MakeChecks.laidMetH_plain _ _ _ (by kernel_rfl)] at hL;have hglob:WGlobs W:=Z4o hL (List.Mem.head _);refine (walk W u0 y0 S0 A1 c1 s1 S1 m1 q1 A2 c2 s2 S2 m2 q2 hglob).mono fun e W' ⟨he,bel⟩=> ?_;subst he;exact ⟨_,rfl,_,_,_,[],_,[],hW',trodAll_mk1 (shut_bool Tryd.underlying4 _),(trodAll_cons_mk (Below.trod laidOut (by kernel_rfl) (of_decide_eq_true (by kernel_rfl)) k0 bel lt0) (trodAll_cons_mk (Below.trod laidOut (by kernel_rfl) (of_decide_eq_true (by kernel_rfl)) k1 bel lt1) (trodAll_cons_mk (Below.trod laidOut (by kernel_rfl) (of_decide_eq_true (by kernel_rfl)) k2 bel lt2) trodAll_mk0))),rfl,bel.frame _,fun h=>by cases h⟩
theorem lifted (os:Os) (started:os.Started) (H:Type) (enc:TypeId×Value->H):
 ReturnsInHanded {} Tryd.checked os 7 .any (fun w args=>(Rows.expandTwiceSpec.pre enc Tryd.prog Tryd.f7 Rows.expandTwiceRow.domain false w args/\laidMetH Tryd.prog Rows.expandTwiceRow.laid w)/\sizedMet enc Tryd.prog Tryd.f7 (OpenSpec.ofChange Rows.expandTwiceSpec) false w args)
  (Rows.expandTwiceSpec.post enc Tryd.prog Tryd.f7 false true false false):=by
 refine returnsInHanded_of_change_and (C:=Tryd.checked) (X:=fun w _=>laidMetH Tryd.prog Rows.expandTwiceRow.laid w) (fun _ _ _ hh h=>h.of_heap hh) own started (by kernel_rfl) Tryd.func7
  (ChangeSpec.witness_shaped (enc:=enc) (C:=Tryd.checked) (os:=os) (X:=fun w _=>laidMetH Tryd.prog Rows.expandTwiceRow.laid w) false (World.laidAll Tryd.prog os Rows.expandTwiceRow.laid) #[(.agg #[.int .i64 0,.string ByteArray.empty,.string ByteArray.empty,.slice none 0 0,.slice none 0 0]),(.slice none 0 0),(.slice none 0 0)] 8 (World.laidAll_os _ _ _)
   (World.shaped_of_ZipB (by kernel_rfl) (by kernel_rfl)) (by kernel_rfl) (by kernel_rfl) (by kernel_rfl)
   (by rw[MakeChecks.laidMetH_plain _ _ _ (by kernel_rfl)]; exact laidMet_laidAll _ (by kernel_rfl) (by kernel_rfl))) ?_
 intro W base args ds gs before hval hW _ hsz hL _;exact contract H enc W base args ds gs before hval hW hL hsz
theorem proved:Rows.ExpandTwiceSaid:=
 OpenClaim.holds_of_wide 7 Tryd.f7 rfl rfl rfl rfl rfl rfl rfl ⟨rfl,rfl,rfl,rfl,rfl⟩ rfl rfl rfl rfl rfl (by kernel_rfl) Tryd.func7 (by kernel_rfl)
  (of_decide_eq_true (by kernel_rfl)) (by unfold Func.isWrapper; first | (rw[if_pos (by decide+kernel)]; kernel_rfl) | (rw[if_neg (by decide+kernel)]; exact ⟨rfl,rfl⟩))
  (fun os started H enc _=>lifted os started H enc)
theorem card:Rows.ExpandTwiceCardSaid:=
 Claim7.holds_tied_plain_at .later [] [.data] true _ false proved (fun _ h=>by cases h) (by kernel_rfl) (fun _ h=>by cases h) expandTwice_row_tie rfl ⟨rfl,rfl⟩ (by kernel_rfl) rfl
  (fun f fn hf hfn=>by
   obtain rfl:f=7:=Option.some.inj ((show Tryd.prog.funcNamed "pandect/pandectlaw11.ExpandTwice" =some 7 by kernel_rfl).symm.trans hf) |>.symm;obtain rfl:fn=Tryd.f7:=(Option.some.inj (Tryd.func7.symm.trans hfn)).symm;exact ⟨by kernel_rfl,fun j t ht=>by
    rw[Tryd.params7] at ht;have hm:t∈ [25,26,26]:=by simpa using Array.mem_of_getElem? ht
    have hall: ([25,26,26].all fun u=> !Tryd.prog.wantsStandIn u)=true:=by kernel_rfl
    exact (show Tryd.prog.wantsStandIn t=false by simpa using List.all_eq_true.1 hall t hm)⟩)
  (by kernel_rfl)
end
end Go.Proofs.YtfgcocpdaghlnaaDoor.expandTwice
