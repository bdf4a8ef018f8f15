/- ExpandClosed: where what names stand for is closed, so is what comes, and a closed type is put in order alone; for all values that the row lets in, with the program's variable laid as its text lays it. -/
import Derived.Test.YtfgcocpdaghlnaaDoorTie
import Derived.Test.YtfgcocpdaghlnaaDoorCards
import Derived.LaidMore
import Derived.Lay
import Derived.Test.YtfgcocpdaghlnaaDoorK0n10
set_option linter.unusedVariables false
set_option linter.unusedSimpArgs false
set_option linter.unusedSectionVars false
set_option maxRecDepth 100000
set_option maxHeartbeats 16000000
namespace Go.Proofs.YtfgcocpdaghlnaaDoor
namespace Expd
open Shp
theorem Z8f (f:Look) (t:Sh):put f t=none\/(∀k∈keys t,(f k.1 k.2).isSome=true)/\put f t=some (fill f t):=by
 rcases Z54 f t with h | ⟨k,h1,h2⟩
 {exact Or.inr ⟨h,put_some t h⟩}
 {exact Or.inl (put_none t h1 h2)}
theorem Z9q {f:Look} {t u:Sh} (h:put f t=some u): (∀k∈keys t,(f k.1 k.2).isSome=true)/\u=fill f t:=by
 rcases Z8f f t with h1 | ⟨h1,h2⟩
 {rw[h1] at h; cases h}
 {rw[h2] at h; exact ⟨h1,(Option.some.inj h).symm⟩}
theorem Z61 {f:Look} (t:Sh): (∀k∈keys t,∃s,f k.1 k.2=some s/\opened s=false)->opened (fill f t)=false:=by
 induction t using Sh.ind with
 | h t ih=>
  intro h;by_cases hk:t.kind=9
  {obtain ⟨s,h1,h2⟩:=h (t.of_,t.name) (by rw[keys_name hk]; simp);rw[fill_name hk,h1]; exact h2}
  {rw[fill_node hk,Z1s,Z0W];simp only[hk,decide_false,Bool.false_or,List.any_eq_false,Bool.not_eq_true];intro p hp;obtain ⟨q,hq,rfl⟩:=List.mem_map.1 hp;exact ih q hq (fun k hkk=>h k (Z2U hk hq hkk))}
theorem Z92 {env:List Bd} {o n:List UInt8} {s:Sh} (h:find env o n=some s): ∃b∈env,b.of_=o/\b.name=n/\b.sh=s:=by
 induction env with
 | nil=>cases h
 | cons b l ih=>
  unfold find at h;cases e:find l o n with
  | some s'=>
   rw[e] at h;obtain ⟨c,h1,h2⟩:=ih (by rw[e]; exact h);exact ⟨c,by simp[h1],h2⟩
  | none=>
   rw[e] at h;simp only at h;split at h
   {rename_i hb; exact ⟨b,by simp,hb.1,hb.2,Option.some.inj h⟩}
   {cases h}
theorem Z4B (t:Sh):right t=true->opened (sorted t)=opened t:=by
 induction t using Sh.ind with
 | h t ih=>
  intro hr;have hL:=Z0M hr;rw[Z1s,Z1s t,Z0W,Z0W,hL.k];congr 1;rw[Bool.eq_iff_iff,List.any_eq_true,List.any_eq_true];constructor
  {rintro ⟨p,hp,h⟩;obtain ⟨q,hq,rfl⟩:=List.mem_map.1 (hL.ps.mem_iff.1 hp);exact ⟨q,hq,by rw[<-ih q hq (Z05 hr hq)]; exact h⟩}
  {rintro ⟨q,hq,h⟩;exact ⟨sorted q,hL.ps.mem_iff.2 (List.mem_map.2 ⟨q,hq,rfl⟩),by rw[ih q hq (Z05 hr hq)]; exact h⟩}
theorem Z4C {t:Sh} (h:closed t=true):closed (sorted t)=true:=by
 obtain ⟨h1,h2⟩:=(closed_iff t).1 h;exact (closed_iff _).2 ⟨Z1M h1,by rw[Z4B t (Z0C h1).2.2]; exact h2⟩
theorem resolve_closed {env:List Bd} (hc: ∀b∈env,closed b.sh=true) {t:Sh} (h: (resolve env t).2=0):closed (resolve env t).1=true:=by
 obtain ⟨h0,u,h1,h2,h3⟩:=Z3d h;rw[h3];refine Z4C ((closed_iff u).2 ⟨h2, ?_⟩);obtain ⟨h4,rfl⟩:=Z9q h1;refine Z61 t (fun k hk=> ?_);have h5:=h4 k hk;cases e:find env k.1 k.2 with
 | none=>rw[e] at h5; cases h5
 | some s=>
  obtain ⟨b,hb,_,_,rfl⟩:=Z92 e;exact ⟨_,rfl,((closed_iff _).1 (hc b hb)).2⟩
end Expd
end Go.Proofs.YtfgcocpdaghlnaaDoor
namespace Go.Proofs.YtfgcocpdaghlnaaDoor
section
open Go.RowKit Shp
open Expd (Bd)
def closedE (L:List Bd):Bool:=L.all (fun b=>closed b.sh)
theorem Z5t {L:List Bd} {k:Nat} (hk:k < L.length):closedE (L.take (k+1))=(closedE (L.take k)&&closed (L[k]'hk).sh):=by
 unfold closedE;rw[List.take_succ_eq_append_getElem hk,List.all_append];simp
def closedT (t:Sh) (q:Ptr) (x:Sh) (q3:Ptr):Nat->Want
 | 0=> .val (.int .i64 0)
 | 1=> .val (.bool true)
 | 2=> .val (.bool true)
 | 3=> .val (.agg (Y8 x q3))
 | 4=> .val (.agg (Y8 t q))
 | 5=>wantSh (sorted t)
 | 6=> .val (.bool true)
 | 7=> .val (.bool true)
 | 8=> .val (.bool true)
 | 9=> .val (.bool true)
 | 10=> .val (.bool true)
 | 11=> .val (.bool true)
 | _=> .any
theorem Z38 (t:Sh) (q:Ptr) (L:List Bd) (A:Option Addr) (cap:Nat) (w:World) (hq:ShAt w w.heap.size q t) (hL:BdsAt w w.heap.size A L) (hl:L.length<=9223372036854775807) (hg:WGlobs w):
 Y9 6 #[shV t q,.slice A L.length cap] w (.bool true):=by
 have hb0:=Z01 w (.cells (Y8 t q) 25);have HB0:=Y1 hb0;have HB:=Y1 (Z03 w t q);have HQ:=Y1 (hq.next hb0);have HL:=Y1 (hL.next hb0);have HG:=Y1 (hg.next hb0);have HLN:=Y1 hl;obtain ⟨_,⟨c0,c1,c2,c3,c4⟩,_⟩:=HB.out;clear hb0 hq hL hg hl;unfold shV;go_enter Tryd.func6,Tryd.ntmps6
 go_wp2_with fail
 generalize w.alloc (.cells (Y8 t q) 25)=W0 at HB0 HB HQ HL HG c0 c1 c2 c3 c4 ⊢;refine (Z2D L A cap W0 HL.out HLN.out).mono ?_;rintro e W1 ⟨rfl,hb1⟩;have HB1:=Y1 (Z00 HB0.out hb1);have HBX:=Y1 (HB.out.next hb1);have HQ1:=Y1 (HQ.out.next hb1);have HL1:=Y1 (HL.out.next hb1);have HG1:=Y1 (HG.out.next hb1);clear hb1 c0 c1 c2 c3 c4 HB0 HB HQ HL HG;cases hs:smallB L with
 | false=>
  clear hs
  go_wp2_with fail
  refine (Z0a W1 HG1.out).mono ?_;rintro e W2 ⟨rfl,hb2⟩;have HB2:=Y1 (Z00 HB1.out hb2);clear hb2;go_wp2;go_ret;exact ⟨rfl,HB2.out⟩
 | true=>
  have HLN2:=Y1 (Z2C hs);clear hs
  go_wp2_with fail
  go_loopw [5,6] (fun cc ii wr=> ∃k:Nat,k<=L.length/\ii= .int .i64 (k:Int)/\cc= .bool (closedE (L.take k))/\Hid (Below W1.heap.size W1 wr)) (fun _ i _=>L.length - (intOf i).toNat)
  case atStart=>exact ⟨0,Nat.zero_le _,rfl,rfl,Y1 Y2⟩
  case round=>
   obtain ⟨k,hk,rfl,rfl,HBk⟩:=hrel;have hbk:=HBk.out;by_cases hkl:k < L.length
   {have hkl': (k:Int) < (L.length:Int):=by omega
    have h60:=HLN2.out;have HT:=Y1 (Z5t hkl);obtain ⟨g,off,qs,hA,hg,hc⟩:=(HL1.out.keep hbk (Nat.le_refl _)).resolve_left (by omega);subst hA;obtain ⟨x0,x1,⟨z0,z1,z2,z3,z4⟩,hat,_⟩:=hc k hkl;change wr.cell? ⟨g,off+k * 7+3,none⟩=_ at z1;change wr.cell? ⟨g,off+k * 7+4,none⟩=_ at z2;change wr.cell? ⟨g,off+k * 7+5,none⟩=_ at z3;change wr.cell? ⟨g,off+k * 7+6,none⟩=_ at z4;obtain ⟨bk,hbk'⟩: ∃bk,bk=L[k]'hkl:=⟨_,rfl⟩;rw[<-hbk'] at x0 x1 z0 z1 z2 z3 z4 hat HT;have HC:=Y1 (Z1i bk.sh (qs k) wr (hat.of hbk.size (fun _ _ _=>rfl)) (HG1.out.next hbk));clear hc hat hg hbk hbk' x0 x1;cases e1:closedE (L.take k) with
    | false=>
     rw[e1,Bool.false_and] at HT;clear HC e1;go_wp2
     go_roundw
     case rel=>exact ⟨k+1,by omega,by go_num,by rw[HT.out],HBk⟩
     case measure=>simp[intOf]; omega
    | true=>
     rw[e1,Bool.true_and] at HT;clear e1
     go_wp2_with fail
     refine HC.out.mono ?_;rintro e wk ⟨rfl,hb2⟩;have HB2:=Y1 (HBk.out.trans (hb2.mono HBk.out.size));clear hb2 HC z0 z1 z2 z3 z4;go_wp2
     go_roundw
     case rel=>exact ⟨k+1,by omega,by go_num,by rw[HT.out],HB2⟩
     case measure=>simp[intOf]; omega}
   {obtain rfl:k=L.length:=by omega
    have hkl': ¬(L.length:Int) < (L.length:Int):=by omega
    rw[List.take_length];have HQ2:=Y1 (HQ1.out.next hbk);have HG2:=Y1 (HG1.out.next hbk);have HR:=Y1 (Z0S t q L A cap wr HQ2.out (HL1.out.next hbk) (by have:=HLN2.out; omega) HG2.out);have HB2:=Y1 (Z00 HB1.out hbk);obtain ⟨_,⟨c0,c1,c2,c3,c4⟩,_⟩:=HBX.out.next hbk;simp only[Nat.zero_add] at c0 c1 c2 c3 c4;unfold shV at HR;clear hbk
    go_wp2_with fail
    refine HR.out.mono ?_;rintro e w3 ⟨q3,he,hat,hb3⟩;obtain ⟨x,hx⟩: ∃x,x=(Expd.resolve L t).1:=⟨_,rfl⟩;obtain ⟨n,hn⟩: ∃n,n=(Expd.resolve L t).2:=⟨_,rfl⟩;rw[<-hx, <-hn] at he;rw[<-hx] at hat;subst he;have HX:=Y1 hx;have HN:=Y1 hn;have hb4:=Z01 w3 (.cells (Y8 x q3) 25);have HB4:=Y1 (Z00 HB2.out (Z00 hb3 hb4));have HAT:=Y1 (hat.next hb4);have HBT:=Y1 ((HBX.out.next HBk.out).next (Z00 hb3 hb4));have HBXX:=Y1 (Z03 w3 x q3);have HQ4:=Y1 (HQ2.out.next (Z00 hb3 hb4));have HG4:=Y1 (HG2.out.next (Z00 hb3 hb4))
    -- the first test: nothing open is left where nothing open was put in
    have hT1:n=0->closedE L=true->closed x=true:=fun h1 h2=>by
     rw[hx];refine Expd.resolve_closed (fun b hb=> ?_) (by rw[<-hn]; exact h1);unfold closedE at h2;exact List.all_eq_true.1 h2 b hb
    clear hx hn hat hb3 hb4 c0 c1 c2 c3 c4 HR;obtain ⟨W4,hW4⟩: ∃W4,w3.alloc (.cells (Y8 x q3) 25)=W4:=⟨_,rfl⟩;rw[hW4] at HB4 HAT HBT HBXX HQ4 HG4;have HBX5:=HBXX;obtain ⟨_,⟨x0,x1,x2,x3,x4⟩,_⟩:=HBXX.out;obtain ⟨_,⟨c0,c1,c2,c3,c4⟩,_⟩:=HBT.out;simp only[Nat.zero_add] at x0 x1 x2 x3 x4 c0 c1 c2 c3 c4;have HT1:=Y1 hT1;have HX3:Hid (w3.heap.size < W4.heap.size):=Y1 (by rw[<-hW4]; simp);clear hT1;have HCT:=fun (W:World) (h:Below W4.heap.size W4 W)=>Z1i t q W (HQ4.out.next h) (HG4.out.next h);have HCT:=Y1 HCT;clear HBXX x0 x1 x2 x3 x4;by_cases hn0:n=0
    {cases ec:closedE L with
     | true=>
      have hcx:=HT1.out hn0 ec;have HC:=Y1 (Z1i x q3 W4 HAT.out HG4.out);rw[hcx] at HC;have HN0:=Y1 hn0;obtain ⟨_,⟨x0,x1,x2,x3,x4⟩,_⟩:=HBX5.out;simp only[Nat.zero_add] at x0 x1 x2 x3 x4;subst hn0;clear ec hcx
      go_wp2_with fail
      refine HC.out.mono ?_;rintro e W5 ⟨rfl,hb5⟩;have hbA:=Y1 hb5;clear c0 c1 c2 c3 c4 x0 x1 x2 x3 x4 HC;obtain ⟨_,⟨c0,c1,c2,c3,c4⟩,_⟩:=HBT.out.next hb5;simp only[Nat.zero_add] at c0 c1 c2 c3 c4;clear hb5
      go_wp2_with fail
      refine (HCT.out _ hbA.out).mono ?_;rintro e W6 ⟨rfl,hb6⟩;have hbB:=Y1 (hbA.out.trans (hb6.mono (by have:=hbA.out.size; omega)));clear hb6 hbA c0 c1 c2 c3 c4;obtain ⟨_,⟨c0,c1,c2,c3,c4⟩,_⟩:=HBT.out.next hbB.out;simp only[Nat.zero_add] at c0 c1 c2 c3 c4;cases hcl:closed t with
      | true=>
       have HC0:=Y1 ((Expd.closed_iff t).1 hcl).1;have HXS:Hid (x=sorted t):=Y1 (by rw[HX.out,Expd.resolve_self (env:=L) hcl]);have HB6:=hbB;clear hcl
       go_wp2_with fail
       refine Z2Q (rs:= [0,1,2,3,4,5,6,7,8,9,10,11])
        (fun u'=> { tmps:=#[.agg (Y8 t q),.slice A L.length cap,.pointer (some { block:=w.heap.size,off:=0 }),undef,u' 11,.bool true,.int .i64 ↑L.length,.pointer (some { block:=w3.heap.size,off:=0 }),.int .i64 0,.slice A L.length cap,.bool true,.bool false,undef,.int .i64 ↑L.length,.slice A L.length cap,.int .i64 ↑L.length,.bool false,u17,u18,u19,u20,u21,u22,u23,u24,u25,u26,u27,.tuple #[shV x q3,.int .i64 0],.agg (Y8 t q),.slice A L.length cap,.tuple #[shV x q3,.int .i64 0],shV x q3,.int .i64 0,.int .i64 0,.bool true,.bool true,.bool true,.bool true,.bool true,.agg (Y8 x q3),.bool true,.bool false,.bool false,.agg (Y8 t q),.bool true,u' 0,u' 1,u' 2,u' 3,u' 4,u' 5,u' 6,u' 7,u' 8,u' 9,u' 10,undef,undef,undef,undef,undef,undef,undef,undef,undef,undef,undef,undef],defers:= [] })
        (fun j=>([undef,undef,undef,undef,undef,undef,undef,undef,undef,undef,undef,.bool false]:List Value).getD j undef) (closedT t q x q3) (fun W=>Below W6.heap.size W6 W) (by kernel_rfl) (by kernel_rfl) (by kernel_rfl) Y2.drew ?_ ?_
       refine StepsAt.cons _ rfl (fun u' W K' hJ hd hK=> ?_) ?_
       {refine Y0 hK hJ rfl rfl rfl ?_
        try dsimp only
        go_simp}
       refine StepsAt.cons _ rfl (fun u' W K' hJ hd hK=> ?_) ?_
       {have d0:_=_:=hd 0 (by kernel_rfl);refine Y0 hK hJ rfl rfl rfl ?_
        try dsimp only
        go_simp}
       refine StepsAt.cons _ rfl (fun u' W K' hJ hd hK=> ?_) ?_
       {have d1:_=_:=hd 1 (by kernel_rfl);refine Y0 hK hJ rfl rfl rfl ?_
        try dsimp only
        go_simp}
       refine StepsAt.cons _ rfl (fun u' W K' hJ hd hK=> ?_) ?_
       {have dg:_=_:=hd 2 (by kernel_rfl);have hJX:=Z00 HB6.out hJ;obtain ⟨_,⟨y0,y1,y2,y3,y4⟩,_⟩:=HBX5.out.next hJX;simp only[Nat.zero_add] at y0 y1 y2 y3 y4;refine Y0 hK hJ rfl rfl ?_ ?_
        {simp[Region.wanted,yielded,dg]}
        {try dsimp only
         go_simp}}
       refine StepsAt.cons _ rfl (fun u' W K' hJ hd hK=> ?_) ?_
       {have dg:_=_:=hd 2 (by kernel_rfl);have hJX:=Z00 HB6.out hJ;obtain ⟨_,⟨y0,y1,y2,y3,y4⟩,_⟩:=HBT.out.next hJX;simp only[Nat.zero_add] at y0 y1 y2 y3 y4;refine Y0 hK hJ rfl rfl ?_ ?_
        {simp[Region.wanted,yielded,dg]}
        {try dsimp only
         go_simp}}
       refine StepsAt.cons _ rfl (fun u' W K' hJ hd hK=> ?_) ?_
       {have dg:_=_:=hd 2 (by kernel_rfl);have d4:_=_:=hd 4 (by kernel_rfl);refine Z0q (f:=21) (args:=#[.agg (Y8 t q)]) (W':=W) ?_ ?_ ((Z2B t q W (HQ4.out.next (Z00 HB6.out hJ)) (HG4.out.next (Z00 HB6.out hJ)) HC0.out).mono fun e w' ⟨q',he,ha,hb⟩=>⟨_,he,hK.out _ _ ⟨q',rfl,ha⟩ (Z00 hJ hb) hb⟩)
        {simp[Region.wanted,yielded,dg]}
        {try dsimp only
         go_simp}}
       refine StepsAt.cons _ rfl (fun u' W K' hJ hd hK=> ?_) ?_
       {have dg:_=_:=hd 2 (by kernel_rfl);have d3:_=_:=hd 3 (by kernel_rfl);obtain ⟨qa,d5,a5⟩:=hd 5 (by kernel_rfl);refine Z0q (f:=13) (args:=#[.agg (Y8 x q3),.agg (Y8 (sorted t) qa)]) (W':=W) ?_ ?_ ((Z0N x (sorted t) q3 qa W (HAT.out.next (Z00 HB6.out hJ)) a5).mono fun e w' h=>⟨_,h.1,hK.out _ _ (by rw[HXS.out,Z0Q]; rfl) (Z00 hJ h.2) h.2⟩)
        {simp[Region.wanted,yielded,dg]}
        {try dsimp only
         go_simp}}
       refine StepsAt.cons _ rfl (fun u' W K' hJ hd hK=> ?_) ?_
       {have d2:_=_:=hd 2 (by kernel_rfl);have d6:_=_:=hd 6 (by kernel_rfl);refine Y0 hK hJ rfl rfl rfl ?_
        try dsimp only
        go_simp}
       refine StepsAt.cons _ rfl (fun u' W K' hJ hd hK=> ?_) ?_
       {have d7:_=_:=hd 7 (by kernel_rfl);refine Y0 hK hJ rfl rfl rfl ?_
        try dsimp only
        go_simp}
       refine StepsAt.cons _ rfl (fun u' W K' hJ hd hK=> ?_) ?_
       {have dg:_=_:=hd 8 (by kernel_rfl);refine Z0q (f:=10) (args:=#[]) (W':=W) ?_ ?_ ((Z0a W (HG4.out.next (Z00 HB6.out hJ))).mono fun e w' h=>⟨_,h.1,hK.out _ _ rfl (Z00 hJ h.2) h.2⟩)
        {simp[Region.wanted,yielded,dg]}
        {try dsimp only
         go_simp}}
       refine StepsAt.cons _ rfl (fun u' W K' hJ hd hK=> ?_) ?_
       {have d8:_=_:=hd 8 (by kernel_rfl);have d9:_=_:=hd 9 (by kernel_rfl);refine Y0 hK hJ rfl rfl rfl ?_
        try dsimp only
        go_simp}
       refine StepsAt.cons _ rfl (fun u' W K' hJ hd hK=> ?_) StepsAt.nil
       {have d10:_=_:=hd 10 (by kernel_rfl);refine Y0 hK hJ rfl rfl rfl ?_
        try dsimp only
        go_simp}
       intro u' W' hJ' hok
       try dsimp only
       rw[show u' 11= .bool true from hok 11 (by decide)];clear hok;go_wp2;go_ret;exact ⟨rfl,Z00 HB4.out (Z00 HB6.out hJ')⟩
      | false=>
       clear hcl
       go_wp2_with fail
       refine (Z0v t q W6 (HQ4.out.next hbB.out) (HG4.out.next hbB.out)).mono ?_;rintro e W7 ⟨rfl,hb7⟩;have hbC:=Y1 (Z00 hbB.out hb7);clear hb7 hbB c0 c1 c2 c3 c4;obtain ⟨_,⟨c0,c1,c2,c3,c4⟩,_⟩:=HBT.out.next hbC.out;simp only[Nat.zero_add] at c0 c1 c2 c3 c4;by_cases hck:check t=0
       {rw[hck];clear hck
        go_wp2_with fail
        refine (Z0a W7 (HG4.out.next hbC.out)).mono ?_;rintro e W8 ⟨rfl,hb8⟩;have HB8:=Y1 (Z00 HB4.out (Z00 hbC.out hb8));clear hb8;go_wp2;go_ret;exact ⟨rfl,HB8.out⟩}
       {have hnc:=HN.out;rw[Expd.resolve_bad hck] at hnc;exact absurd hnc.symm hck}
     | false=>
      have hbA:=Y1 (Below.refl W4.heap.size W4);subst hn0;clear ec
      go_wp2_with fail
      refine (HCT.out _ hbA.out).mono ?_;rintro e W6 ⟨rfl,hb6⟩;have hbB:=Y1 (hbA.out.trans (hb6.mono (by have:=hbA.out.size; omega)));clear hb6 hbA c0 c1 c2 c3 c4;obtain ⟨_,⟨c0,c1,c2,c3,c4⟩,_⟩:=HBT.out.next hbB.out;simp only[Nat.zero_add] at c0 c1 c2 c3 c4;cases hcl:closed t with
      | true=>
       have HC0:=Y1 ((Expd.closed_iff t).1 hcl).1;have HXS:Hid (x=sorted t):=Y1 (by rw[HX.out,Expd.resolve_self (env:=L) hcl]);have HB6:=hbB;clear hcl
       go_wp2_with fail
       refine Z2Q (rs:= [0,1,2,3,4,5,6,7,8,9,10,11])
        (fun u'=> { tmps:=#[.agg (Y8 t q),.slice A L.length cap,.pointer (some { block:=w.heap.size,off:=0 }),undef,u' 11,.bool false,.int .i64 ↑L.length,.pointer (some { block:=w3.heap.size,off:=0 }),.int .i64 0,.slice A L.length cap,.bool true,.bool false,undef,.int .i64 ↑L.length,.slice A L.length cap,.int .i64 ↑L.length,.bool false,u17,u18,u19,u20,u21,u22,u23,u24,u25,u26,u27,.tuple #[shV x q3,.int .i64 0],.agg (Y8 t q),.slice A L.length cap,.tuple #[shV x q3,.int .i64 0],shV x q3,.int .i64 0,.int .i64 0,.bool true,.bool true,.bool false,.bool false,.bool false,undef,undef,undef,.bool false,.agg (Y8 t q),.bool true,u' 0,u' 1,u' 2,u' 3,u' 4,u' 5,u' 6,u' 7,u' 8,u' 9,u' 10,undef,undef,undef,undef,undef,undef,undef,undef,undef,undef,undef,undef],defers:= [] })
        (fun j=>([undef,undef,undef,undef,undef,undef,undef,undef,undef,undef,undef,.bool false]:List Value).getD j undef) (closedT t q x q3) (fun W=>Below W6.heap.size W6 W) (by kernel_rfl) (by kernel_rfl) (by kernel_rfl) Y2.drew ?_ ?_
       refine StepsAt.cons _ rfl (fun u' W K' hJ hd hK=> ?_) ?_
       {refine Y0 hK hJ rfl rfl rfl ?_
        try dsimp only
        go_simp}
       refine StepsAt.cons _ rfl (fun u' W K' hJ hd hK=> ?_) ?_
       {have d0:_=_:=hd 0 (by kernel_rfl);refine Y0 hK hJ rfl rfl rfl ?_
        try dsimp only
        go_simp}
       refine StepsAt.cons _ rfl (fun u' W K' hJ hd hK=> ?_) ?_
       {have d1:_=_:=hd 1 (by kernel_rfl);refine Y0 hK hJ rfl rfl rfl ?_
        try dsimp only
        go_simp}
       refine StepsAt.cons _ rfl (fun u' W K' hJ hd hK=> ?_) ?_
       {have dg:_=_:=hd 2 (by kernel_rfl);have hJX:=Z00 HB6.out hJ;obtain ⟨_,⟨y0,y1,y2,y3,y4⟩,_⟩:=HBX5.out.next hJX;simp only[Nat.zero_add] at y0 y1 y2 y3 y4;refine Y0 hK hJ rfl rfl ?_ ?_
        {simp[Region.wanted,yielded,dg]}
        {try dsimp only
         go_simp}}
       refine StepsAt.cons _ rfl (fun u' W K' hJ hd hK=> ?_) ?_
       {have dg:_=_:=hd 2 (by kernel_rfl);have hJX:=Z00 HB6.out hJ;obtain ⟨_,⟨y0,y1,y2,y3,y4⟩,_⟩:=HBT.out.next hJX;simp only[Nat.zero_add] at y0 y1 y2 y3 y4;refine Y0 hK hJ rfl rfl ?_ ?_
        {simp[Region.wanted,yielded,dg]}
        {try dsimp only
         go_simp}}
       refine StepsAt.cons _ rfl (fun u' W K' hJ hd hK=> ?_) ?_
       {have dg:_=_:=hd 2 (by kernel_rfl);have d4:_=_:=hd 4 (by kernel_rfl);refine Z0q (f:=21) (args:=#[.agg (Y8 t q)]) (W':=W) ?_ ?_ ((Z2B t q W (HQ4.out.next (Z00 HB6.out hJ)) (HG4.out.next (Z00 HB6.out hJ)) HC0.out).mono fun e w' ⟨q',he,ha,hb⟩=>⟨_,he,hK.out _ _ ⟨q',rfl,ha⟩ (Z00 hJ hb) hb⟩)
        {simp[Region.wanted,yielded,dg]}
        {try dsimp only
         go_simp}}
       refine StepsAt.cons _ rfl (fun u' W K' hJ hd hK=> ?_) ?_
       {have dg:_=_:=hd 2 (by kernel_rfl);have d3:_=_:=hd 3 (by kernel_rfl);obtain ⟨qa,d5,a5⟩:=hd 5 (by kernel_rfl);refine Z0q (f:=13) (args:=#[.agg (Y8 x q3),.agg (Y8 (sorted t) qa)]) (W':=W) ?_ ?_ ((Z0N x (sorted t) q3 qa W (HAT.out.next (Z00 HB6.out hJ)) a5).mono fun e w' h=>⟨_,h.1,hK.out _ _ (by rw[HXS.out,Z0Q]; rfl) (Z00 hJ h.2) h.2⟩)
        {simp[Region.wanted,yielded,dg]}
        {try dsimp only
         go_simp}}
       refine StepsAt.cons _ rfl (fun u' W K' hJ hd hK=> ?_) ?_
       {have d2:_=_:=hd 2 (by kernel_rfl);have d6:_=_:=hd 6 (by kernel_rfl);refine Y0 hK hJ rfl rfl rfl ?_
        try dsimp only
        go_simp}
       refine StepsAt.cons _ rfl (fun u' W K' hJ hd hK=> ?_) ?_
       {have d7:_=_:=hd 7 (by kernel_rfl);refine Y0 hK hJ rfl rfl rfl ?_
        try dsimp only
        go_simp}
       refine StepsAt.cons _ rfl (fun u' W K' hJ hd hK=> ?_) ?_
       {have dg:_=_:=hd 8 (by kernel_rfl);refine Z0q (f:=10) (args:=#[]) (W':=W) ?_ ?_ ((Z0a W (HG4.out.next (Z00 HB6.out hJ))).mono fun e w' h=>⟨_,h.1,hK.out _ _ rfl (Z00 hJ h.2) h.2⟩)
        {simp[Region.wanted,yielded,dg]}
        {try dsimp only
         go_simp}}
       refine StepsAt.cons _ rfl (fun u' W K' hJ hd hK=> ?_) ?_
       {have d8:_=_:=hd 8 (by kernel_rfl);have d9:_=_:=hd 9 (by kernel_rfl);refine Y0 hK hJ rfl rfl rfl ?_
        try dsimp only
        go_simp}
       refine StepsAt.cons _ rfl (fun u' W K' hJ hd hK=> ?_) StepsAt.nil
       {have d10:_=_:=hd 10 (by kernel_rfl);refine Y0 hK hJ rfl rfl rfl ?_
        try dsimp only
        go_simp}
       intro u' W' hJ' hok
       try dsimp only
       rw[show u' 11= .bool true from hok 11 (by decide)];clear hok;go_wp2;go_ret;exact ⟨rfl,Z00 HB4.out (Z00 HB6.out hJ')⟩
      | false=>
       clear hcl
       go_wp2_with fail
       refine (Z0v t q W6 (HQ4.out.next hbB.out) (HG4.out.next hbB.out)).mono ?_;rintro e W7 ⟨rfl,hb7⟩;have hbC:=Y1 (Z00 hbB.out hb7);clear hb7 hbB c0 c1 c2 c3 c4;obtain ⟨_,⟨c0,c1,c2,c3,c4⟩,_⟩:=HBT.out.next hbC.out;simp only[Nat.zero_add] at c0 c1 c2 c3 c4;by_cases hck:check t=0
       {rw[hck];clear hck
        go_wp2_with fail
        refine (Z0a W7 (HG4.out.next hbC.out)).mono ?_;rintro e W8 ⟨rfl,hb8⟩;have HB8:=Y1 (Z00 HB4.out (Z00 hbC.out hb8));clear hb8;go_wp2;go_ret;exact ⟨rfl,HB8.out⟩}
       {have hnc:=HN.out;rw[Expd.resolve_bad hck] at hnc;exact absurd hnc.symm hck}}
    {have hbA:=Y1 (Below.refl W4.heap.size W4);have hn1: (n==0)=false:=by simpa using hn0
     go_wp2_with fail
     refine (HCT.out _ hbA.out).mono ?_;rintro e W6 ⟨rfl,hb6⟩;have hbB:=Y1 (hbA.out.trans (hb6.mono (by have:=hbA.out.size; omega)));clear hb6 hbA c0 c1 c2 c3 c4;obtain ⟨_,⟨c0,c1,c2,c3,c4⟩,_⟩:=HBT.out.next hbB.out;simp only[Nat.zero_add] at c0 c1 c2 c3 c4;cases hcl:closed t with
     | true=>
      have hnc:=HN.out;rw[Expd.resolve_self (env:=L) hcl] at hnc;exact absurd hnc hn0
     | false=>
      clear hcl
      go_wp2_with fail
      refine (Z0v t q W6 (HQ4.out.next hbB.out) (HG4.out.next hbB.out)).mono ?_;rintro e W7 ⟨rfl,hb7⟩;have hbC:=Y1 (Z00 hbB.out hb7);clear hb7 hbB c0 c1 c2 c3 c4;obtain ⟨_,⟨c0,c1,c2,c3,c4⟩,_⟩:=HBT.out.next hbC.out;simp only[Nat.zero_add] at c0 c1 c2 c3 c4;by_cases hck:check t=0
      {rw[hck];clear hck
       go_wp2_with fail
       refine (Z0a W7 (HG4.out.next hbC.out)).mono ?_;rintro e W8 ⟨rfl,hb8⟩;have HB8:=Y1 (Z00 HB4.out (Z00 hbC.out hb8));clear hb8;go_wp2;go_ret;exact ⟨rfl,HB8.out⟩}
      {have hnc:=HN.out;rw[Expd.resolve_bad hck] at hnc;have hnc:n=check t:=hnc;have HCK:=Y1 (Z0v t q W7 (HQ4.out.next hbC.out) (HG4.out.next hbC.out));rw[<-hnc] at HCK ⊢;clear hck hnc
       go_wp2_with fail
       refine HCK.out.mono ?_;rintro e W8 ⟨rfl,hb8⟩;have hbD:=Y1 (Z00 hbC.out hb8);clear hb8 HCK
       go_wp2_with fail
       refine (Z0a W8 (HG4.out.next hbD.out)).mono ?_;rintro e W9 ⟨rfl,hb9⟩;have HB9:=Y1 (Z00 HB4.out (Z00 hbD.out hb9));clear hb9;go_wp2;go_ret;exact ⟨rfl,HB9.out⟩}}}
end
end Go.Proofs.YtfgcocpdaghlnaaDoor
namespace Go.Proofs.YtfgcocpdaghlnaaDoor.expandClosed
section
open Go.ChangeShapes Go.WideShapes Go.ChangeAt Go.RowKit
open Go.ChangeMaps (open_string shut_string)
theorem walk (w:World) (u0:Shp.Sh) (p0:Ptr) (S0:ShAt w w.heap.size p0 u0) (A1:Option Addr) (c1:Nat) (s1:List Expd.Bd) (S1:BdsAt w w.heap.size A1 s1) (m1:s1.length<=9223372036854775807) (q1:s1.length<=c1) (hg:WGlobs w):Y9 6 #[.agg (Y8 u0 p0),.slice A1 s1.length c1] w (.bool true):=Z38 u0 p0 s1 A1 c1 w S0 S1 m1 hg
theorem own:ownKnob Tryd.prog.godebug=none:=by kernel_rfl
theorem laidOut:laidOutB Tryd.prog=true:=by kernel_rfl
theorem contract (H:Type) (enc:TypeId×Value->H) (W:World) (base:Nat) (args:Array Value) (ds gs:List (DataW H)) (before:List MemPlace)
 (hval0: ∀(j:Nat) t v,Tryd.f6.params[j]? =some t->args[j]? =some v->Value.okWide Tryd.prog W .any base t v)
 (hW:DataW.Whole enc Tryd.prog Tryd.f6.params.toList Rows.expandClosedSpec.vars false W args.toList ds gs before) (hL:laidMetH Tryd.prog Rows.expandClosedRow.laid W) (hsz0: (DataW.weightsEach Tryd.prog (Tryd.f6.params.toList++Rows.expandClosedSpec.plain.varTypes Tryd.prog) (ds++gs)).all (· <=reachBytes)=true):
 Calls Tryd.prog 6 args W fun e W'=> ∃v,e= .returned v/\Rows.expandClosedSpec.post enc Tryd.prog Tryd.f6 false true false false W args v W':=by
 have hval: ∀(j:Nat) t v,Tryd.f6.params[j]? =some t->args[j]? =some v->Value.okWide Tryd.prog W .any base t v:=hval0;have hsz: (DataW.weightsEach Tryd.prog (Tryd.f6.params.toList++Rows.expandClosedSpec.plain.varTypes Tryd.prog) (ds++gs)).all (· <=reachBytes)=true:=hsz0
 have hW':=hW;obtain ⟨p,q,hA0,hV,rfl,hfz,hnd⟩:=hW;have hA:DataW.TrodAll enc Tryd.prog W 0 (fun _=>true) true Tryd.f6.params.toList args.toList ds p:=hA0;rw[Tryd.params6] at hA hval hsz;obtain ⟨v0,vs0,d0,ds0,p0,q0,hargs,rfl,rfl,h0,t0⟩:=trodAll_cons hA;obtain ⟨v1,vs1,d1,ds1,p1,q1,rfl,rfl,rfl,h1,t1⟩:=trodAll_cons t0;obtain ⟨rfl,rfl,rfl⟩:=trodAll_nil t1;obtain rfl:args=#[v0,v1]:=by cases args; simp_all
 obtain ⟨rfl,rfl⟩:=trodVars_none hV;have k0:=h0;have lt0: ∀x∈p0,x.block < W.heap.size:=by obtain ⟨m,hm⟩:=k0; exact DataW.trod_lt m _ _ _ hm
 obtain ⟨u0,y0,rfl,S0⟩:=Z3R (hval 0 25 v0 rfl rfl) h0;obtain ⟨A1,n1,c1,rfl⟩:=okWide_slice Tryd.underlying26 (hval 1 26 v1 rfl rfl);have k1:=h1;have lt1: ∀x∈p1,x.block < W.heap.size:=by obtain ⟨m,hm⟩:=k1; exact DataW.trod_lt m _ _ _ hm
 obtain ⟨s1,rfl,S1,m1,q1⟩:=Z2v h1;clear hA0 hval0;rw[MakeChecks.laidMetH_plain _ _ _ (by kernel_rfl)] at hL;have hglob:WGlobs W:=Z4o hL (List.Mem.head _);refine (walk W u0 y0 S0 A1 c1 s1 S1 m1 q1 hglob).mono fun e W' ⟨he,bel⟩=> ?_;subst he;exact ⟨_,rfl,_,_,_,[],_,[],hW',trodAll_mk1 (shut_bool Tryd.underlying4 _),(trodAll_cons_mk (Below.trod laidOut (by kernel_rfl) (of_decide_eq_true (by kernel_rfl)) k0 bel lt0) (trodAll_cons_mk (Below.trod laidOut (by kernel_rfl) (of_decide_eq_true (by kernel_rfl)) k1 bel lt1) trodAll_mk0)),rfl,bel.frame _,fun h=>by cases h⟩
theorem lifted (os:Os) (started:os.Started) (H:Type) (enc:TypeId×Value->H):
 ReturnsInHanded {} Tryd.checked os 6 .any (fun w args=>(Rows.expandClosedSpec.pre enc Tryd.prog Tryd.f6 Rows.expandClosedRow.domain false w args/\laidMetH Tryd.prog Rows.expandClosedRow.laid w)/\sizedMet enc Tryd.prog Tryd.f6 (OpenSpec.ofChange Rows.expandClosedSpec) false w args)
  (Rows.expandClosedSpec.post enc Tryd.prog Tryd.f6 false true false false):=by
 refine returnsInHanded_of_change_and (C:=Tryd.checked) (X:=fun w _=>laidMetH Tryd.prog Rows.expandClosedRow.laid w) (fun _ _ _ hh h=>h.of_heap hh) own started (by kernel_rfl) Tryd.func6
  (ChangeSpec.witness_shaped (enc:=enc) (C:=Tryd.checked) (os:=os) (X:=fun w _=>laidMetH Tryd.prog Rows.expandClosedRow.laid w) false (World.laidAll Tryd.prog os Rows.expandClosedRow.laid) #[(.agg #[.int .i64 0,.string ByteArray.empty,.string ByteArray.empty,.slice none 0 0,.slice none 0 0]),(.slice none 0 0)] 8 (World.laidAll_os _ _ _)
   (World.shaped_of_ZipB (by kernel_rfl) (by kernel_rfl)) (by kernel_rfl) (by kernel_rfl) (by kernel_rfl)
   (by rw[MakeChecks.laidMetH_plain _ _ _ (by kernel_rfl)]; exact laidMet_laidAll _ (by kernel_rfl) (by kernel_rfl))) ?_
 intro W base args ds gs before hval hW _ hsz hL _;exact contract H enc W base args ds gs before hval hW hL hsz
theorem proved:Rows.ExpandClosedSaid:=
 OpenClaim.holds_of_wide 6 Tryd.f6 rfl rfl rfl rfl rfl rfl rfl ⟨rfl,rfl,rfl,rfl,rfl⟩ rfl rfl rfl rfl rfl (by kernel_rfl) Tryd.func6 (by kernel_rfl)
  (of_decide_eq_true (by kernel_rfl)) (by unfold Func.isWrapper; first | (rw[if_pos (by decide+kernel)]; kernel_rfl) | (rw[if_neg (by decide+kernel)]; exact ⟨rfl,rfl⟩))
  (fun os started H enc _=>lifted os started H enc)
theorem card:Rows.ExpandClosedCardSaid:=
 Claim7.holds_tied_plain_at .later [] [.data] true _ false proved (fun _ h=>by cases h) (by kernel_rfl) (fun _ h=>by cases h) expandClosed_row_tie rfl ⟨rfl,rfl⟩ (by kernel_rfl) rfl
  (fun f fn hf hfn=>by
   obtain rfl:f=6:=Option.some.inj ((show Tryd.prog.funcNamed "pandect/pandectlaw11.ExpandClosed" =some 6 by kernel_rfl).symm.trans hf) |>.symm;obtain rfl:fn=Tryd.f6:=(Option.some.inj (Tryd.func6.symm.trans hfn)).symm;exact ⟨by kernel_rfl,fun j t ht=>by
    rw[Tryd.params6] at ht;have hm:t∈ [25,26]:=by simpa using Array.mem_of_getElem? ht
    have hall: ([25,26].all fun u=> !Tryd.prog.wantsStandIn u)=true:=by kernel_rfl
    exact (show Tryd.prog.wantsStandIn t=false by simpa using List.all_eq_true.1 hall t hm)⟩)
  (by kernel_rfl)
end
end Go.Proofs.YtfgcocpdaghlnaaDoor.expandClosed
