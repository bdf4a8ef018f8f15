/- What the proofs of ParsePlaces want, part 30. -/
import Derived.Test.YtkncdbaoaeeoiaaGreatDoorK0n29
set_option linter.unusedVariables false
set_option linter.unusedSimpArgs false
set_option linter.unusedSectionVars false
set_option maxRecDepth 100000
set_option maxHeartbeats 16000000
namespace Pso
open Go.Proofs.YtkncdbaoaeeoiaaGreatDoor (Tk)
open Tms (Tm)
theorem standss_is (l:List Tk) (f:Int): ∀ps:List Tm,standss l f ps=ps.all (stands l f)
 | []=>rfl
 | p::ps=>by simp only[standss,List.all_cons,standss_is l f ps]
def atTok (a:Int) (x:Tk):Bool:=decide (x.at_=a)&& !decide (x.t.kind=0)
theorem any_next {l:List Tk} {i:Nat} {a:Int} (h:i < l.length): (l.take (i+1)).any (atTok a)=((l.take i).any (atTok a)||atTok a (l[i]'h)):=by
 rw[List.take_succ_eq_append_getElem h,List.any_append]; simp
end Pso
namespace Go.Proofs.YtkncdbaoaeeoiaaGreatDoor
open Go.RowKit Tms
open Shp (Sh)
def standsTT (g off i c:Nat) (w:World) (l:List Tk) (x:Tk) (t:Tm):Nat->Want
 | 0=> .val (.bool true)
 | 1=> .val (.bool true)
 | 2=> .val (undef)
 | 3=> .val (undef)
 | 4=> .val (undef)
 | 5=> .val (undef)
 | 6=> .val (undef)
 | 7=> .val (undef)
 | 8=> .val (undef)
 | 9=> .val (undef)
 | 10=> .val (undef)
 | 11=> .val (undef)
 | 12=> .val (undef)
 | 13=> .val (undef)
 | 14=> .val (undef)
 | 15=> .val (undef)
 | 16=> .val (undef)
 | 17=> .val (undef)
 | 18=> .val (.bool true)
 | 19=> .val (.bool true)
 | _=> .any
def standsTM (g off i c:Nat) (w:World) (l:List Tk) (x:Tk) (t:Tm) (k:Bool):Nat->Want
 | 0=> .val (.bool false)
 | 1=> .val (.bool false)
 | 2=> .val (.slice (some ⟨g,off,none⟩) l.length c)
 | 3=> .val (.int .i64 (i:Int))
 | 4=> .val (.pointer (some ⟨g,off+i * 3,none⟩))
 | 5=> .val (.pointer (some ⟨g,off+i * 3+2,none⟩))
 | 6=> .val (.int .i64 t.at_)
 | 7=> .val (.pointer (some ⟨w.heap.size,8,none⟩))
 | 8=> .val (.int .i64 t.at_)
 | 9=> .val (.bool true)
 | 10=> .val (.bool true)
 | 11=> .val (.slice (some ⟨g,off,none⟩) l.length c)
 | 12=> .val (.int .i64 (i:Int))
 | 13=> .val (.pointer (some ⟨g,off+i * 3,none⟩))
 | 14=> .val (.pointer (some ⟨g,off+i * 3,none⟩))
 | 15=> .val (.int .i64 x.t.kind)
 | 16=> .val (.bool k)
 | 17=> .val (.bool k)
 | 18=> .val (.bool k)
 | 19=> .val (.bool k)
 | _=> .any
def standsTN (g off i c:Nat) (w:World) (l:List Tk) (x:Tk) (t:Tm):Nat->Want
 | 0=> .val (.bool false)
 | 1=> .val (.bool false)
 | 2=> .val (.slice (some ⟨g,off,none⟩) l.length c)
 | 3=> .val (.int .i64 (i:Int))
 | 4=> .val (.pointer (some ⟨g,off+i * 3,none⟩))
 | 5=> .val (.pointer (some ⟨g,off+i * 3+2,none⟩))
 | 6=> .val (.int .i64 x.at_)
 | 7=> .val (.pointer (some ⟨w.heap.size,8,none⟩))
 | 8=> .val (.int .i64 t.at_)
 | 9=> .val (.bool false)
 | 10=> .val (.bool false)
 | 11=> .val (undef)
 | 12=> .val (undef)
 | 13=> .val (undef)
 | 14=> .val (undef)
 | 15=> .val (undef)
 | 16=> .val (undef)
 | 17=> .val (.bool false)
 | 18=> .val (.bool false)
 | 19=> .val (.bool false)
 | _=> .any
def standsP (g off n:Nat) (c:Nat) (A:Option Addr) (w:World) (l:List Tk) (x t:Tm) (q:TP) (qs:Nat->TP) (b:Bool):Nat->Want
 | 0=> .val (.pointer (some ⟨w.heap.size,7,none⟩))
 | 1=> .val (.slice (some ⟨g,off,none⟩) t.parts.length q.d)
 | 2=> .val (.int .i64 (n:Int))
 | 3=> .val (.pointer (some ⟨g,off+n * 9,none⟩))
 | 4=> .val (.agg (Y7 x (qs n)))
 | 5=> .val (.slice A l.length c)
 | 6=> .val (.pointer (some ⟨w.heap.size,8,none⟩))
 | 7=> .val (.int .i64 t.at_)
 | 8=> .val (.bool b)
 | 9=> .val (.bool (!b))
 | _=> .any
theorem Zaf (A:Option Addr) (c:Nat) (l:List Tk) (hl:l.length<=5000) (t:Tm): ∀(q:TP) (f:Int) (w:World),TmAt w w.heap.size q t->Tks w w.heap.size A l->
 Calls Tryz.prog 10 #[.agg (Y7 t q),.slice A l.length c,.int .i64 f] w
  fun e w'=>e= .returned (.bool (Pso.stands l f t))/\Below w.heap.size w w':=by
 induction t using Tm.ind with
 | h t ih=>
 intro q f w hq ht;have HM:=Y1 hq.small.m;have HP:=Y1 hq.part;have HT:=Y1 ht;have HD:Hid (Pso.stands l f t=((l.any (Pso.atTok t.at_))&&decide (f<=t.at_)&&t.parts.all (Pso.stands l t.at_))):=Y1 (by rw[Pso.stands_eq,Pso.standss_is]; rfl);have hB:=Z1c w t q;have HB:=Y1 hB;have hb0:=Z01 w (.cells (Y7 t q) 26);have HB0:=Y1 hb0;have IH0:=Y1 ih;clear hB hb0 hq ht ih;go_enter Tryz.func10,Tryz.ntmps10
 go_wp2_with fail
 generalize hW0:w.alloc (.cells (Y7 t q) 26)=W0 at HB HB0 ⊢;clear hW0
 go_loopw [7,8] (fun ok ii wr=> ∃i:Nat,ii= .int .i64 i/\i<=l.length/\ok= .bool ((l.take i).any (Pso.atTok t.at_))/\Below W0.heap.size W0 wr) (fun _ i _=>l.length - (intOf i).toNat)
 case atStart=>exact ⟨0,rfl,Nat.zero_le _,rfl,Below.refl _ _⟩
 case round=>
  obtain ⟨i,rfl,hi,rfl,hb⟩:=hrel;have hbw:Below w.heap.size w wr:=Z00 HB0.out hb;have HBW:=Y1 hbw;have HBX:=Y1 (HB.out.next hb);obtain ⟨_,⟨_,_,_,_,_,_,_,_,c8⟩,_⟩:=HBX.out;simp only[Nat.zero_add] at c8;by_cases hlt:i < l.length
  {have hi1: (i:Int) < (l.length:Int):=by omega
   rcases HT.out with h0 | ⟨g,off,hA,hg,hc⟩
   {omega}
   have hk:=(hc i hlt).keep hg hbw;obtain ⟨k0,_,k2⟩:=hk;have HN:=Y1 (Pso.any_next (a:=t.at_) hlt);obtain ⟨x,hx⟩: ∃x,x=l[i]:=⟨_,rfl⟩;rw[<-hx] at k0 k2 HN;clear hc hx;subst hA;have hgW:g < wr.heap.size:=Nat.lt_of_lt_of_le hg hbw.size;have hbW:=HBX.out.1;have hgW:g < wr.heap.size:=Nat.lt_of_lt_of_le hg hbw.size;have hbW:=HBX.out.1;cases ha: (l.take i).any (Pso.atTok t.at_) with
   | true=>
    rw[ha] at HN
    go_wp2_with fail
    refine Z3I (rs:= [0,1,2,3,4,5,6,7,8,9,10,11,12,13,14,15,16,17,18,19])
     (fun u'=> { tmps:=#[.agg (Y7 t q),.slice (some ⟨g,off,none⟩) l.length c,.int .i64 f,.pointer (some ⟨w.heap.size,0,none⟩),undef,undef,.bool false,u' 19,.int .i64 (i:Int),undef,.int .i64 (i:Int),.slice (some ⟨g,off,none⟩) l.length c,.int .i64 (l.length:Int),.bool true,u14,u15,u' 0,u' 1,u' 2,u' 3,u' 4,u' 5,u' 6,u' 7,u' 8,u' 9,u' 10,u' 11,u' 12,u' 13,u' 14,u' 15,u' 16,u' 17,u' 18,undef,undef,undef,undef,undef,undef,undef,undef,undef,undef,undef,undef,undef,undef,undef,undef,undef,undef,undef,undef,undef,undef,undef,undef,undef],defers:= [] })
     (fun j=>([u16,u17,u18,u19,u20,u21,u22,u23,u24,u25,u26,u27,u28,u29,u30,u31,u32,u33,u34,.bool true]:List Value).getD j undef) (KeepI (standsTT g off i c w l x t) (fun W=>Below wr.heap.size wr W) 19 (.bool true)) (by kernel_rfl) (by kernel_rfl) (by kernel_rfl) ⟨Y2.drew,fun _ h=>(by cases h),fun _=>rfl⟩ ?_ ?_
    refine StepsInv.cons3 _ rfl (fun d u' W K' hs hJ hk hn hd hK=> ?_) ?_
    {have e0:u' 19= .bool true:=hk (by cases hdk:d 19 with | false=>rfl | true=>exact absurd (hs 1 _ rfl (hs 18 _ rfl (hs 19 _ rfl hdk 18 (by kernel_rfl)) 1 (by kernel_rfl)) 0 (by kernel_rfl)) (by rw[hn]; decide));refine Y0 hK hJ rfl rfl rfl ?_
     try dsimp only
     go_simp}
    refine StepsInv.cons3 _ rfl (fun d u' W K' hs hJ hk hn hd hK=> ?_) ?_
    {have d0:_=_:=hd 0 (by kernel_rfl);refine Y0 hK hJ rfl rfl rfl ?_
     try dsimp only
     go_simp}
    refine StepsInv.cons3 _ rfl (fun d u' W K' hs hJ hk hn hd hK=> ?_) ?_
    {have dg:_=_:=hd 1 (by kernel_rfl);exact Z0f (by simp[Region.wanted,yielded,dg,undef]) (hK.out _ _ rfl hJ Y2)}
    refine StepsInv.cons3 _ rfl (fun d u' W K' hs hJ hk hn hd hK=> ?_) ?_
    {have dg:_=_:=hd 1 (by kernel_rfl);exact Z0f (by simp[Region.wanted,yielded,dg,undef]) (hK.out _ _ rfl hJ Y2)}
    refine StepsInv.cons3 _ rfl (fun d u' W K' hs hJ hk hn hd hK=> ?_) ?_
    {have dg:_=_:=hd 1 (by kernel_rfl);exact Z0f (by simp[Region.wanted,yielded,dg,undef]) (hK.out _ _ rfl hJ Y2)}
    refine StepsInv.cons3 _ rfl (fun d u' W K' hs hJ hk hn hd hK=> ?_) ?_
    {have dg:_=_:=hd 1 (by kernel_rfl);exact Z0f (by simp[Region.wanted,yielded,dg,undef]) (hK.out _ _ rfl hJ Y2)}
    refine StepsInv.cons3 _ rfl (fun d u' W K' hs hJ hk hn hd hK=> ?_) ?_
    {have dg:_=_:=hd 1 (by kernel_rfl);exact Z0f (by simp[Region.wanted,yielded,dg,undef]) (hK.out _ _ rfl hJ Y2)}
    refine StepsInv.cons3 _ rfl (fun d u' W K' hs hJ hk hn hd hK=> ?_) ?_
    {have dg:_=_:=hd 1 (by kernel_rfl);exact Z0f (by simp[Region.wanted,yielded,dg,undef]) (hK.out _ _ rfl hJ Y2)}
    refine StepsInv.cons3 _ rfl (fun d u' W K' hs hJ hk hn hd hK=> ?_) ?_
    {have dg:_=_:=hd 1 (by kernel_rfl);exact Z0f (by simp[Region.wanted,yielded,dg,undef]) (hK.out _ _ rfl hJ Y2)}
    refine StepsInv.cons3 _ rfl (fun d u' W K' hs hJ hk hn hd hK=> ?_) ?_
    {have dg:_=_:=hd 1 (by kernel_rfl);exact Z0f (by simp[Region.wanted,yielded,dg,undef]) (hK.out _ _ rfl hJ Y2)}
    refine StepsInv.cons3 _ rfl (fun d u' W K' hs hJ hk hn hd hK=> ?_) ?_
    {have dg:_=_:=hd 1 (by kernel_rfl);exact Z0f (by simp[Region.wanted,yielded,dg,undef]) (hK.out _ _ rfl hJ Y2)}
    refine StepsInv.cons3 _ rfl (fun d u' W K' hs hJ hk hn hd hK=> ?_) ?_
    {have dg:_=_:=hd 10 (by kernel_rfl);exact Z0f (by simp[Region.wanted,yielded,dg,undef]) (hK.out _ _ rfl hJ Y2)}
    refine StepsInv.cons3 _ rfl (fun d u' W K' hs hJ hk hn hd hK=> ?_) ?_
    {have dg:_=_:=hd 10 (by kernel_rfl);exact Z0f (by simp[Region.wanted,yielded,dg,undef]) (hK.out _ _ rfl hJ Y2)}
    refine StepsInv.cons3 _ rfl (fun d u' W K' hs hJ hk hn hd hK=> ?_) ?_
    {have dg:_=_:=hd 10 (by kernel_rfl);exact Z0f (by simp[Region.wanted,yielded,dg,undef]) (hK.out _ _ rfl hJ Y2)}
    refine StepsInv.cons3 _ rfl (fun d u' W K' hs hJ hk hn hd hK=> ?_) ?_
    {have dg:_=_:=hd 10 (by kernel_rfl);exact Z0f (by simp[Region.wanted,yielded,dg,undef]) (hK.out _ _ rfl hJ Y2)}
    refine StepsInv.cons3 _ rfl (fun d u' W K' hs hJ hk hn hd hK=> ?_) ?_
    {have dg:_=_:=hd 10 (by kernel_rfl);exact Z0f (by simp[Region.wanted,yielded,dg,undef]) (hK.out _ _ rfl hJ Y2)}
    refine StepsInv.cons3 _ rfl (fun d u' W K' hs hJ hk hn hd hK=> ?_) ?_
    {have dg:_=_:=hd 10 (by kernel_rfl);exact Z0f (by simp[Region.wanted,yielded,dg,undef]) (hK.out _ _ rfl hJ Y2)}
    refine StepsInv.cons3 _ rfl (fun d u' W K' hs hJ hk hn hd hK=> ?_) ?_
    {have dg:_=_:=hd 1 (by kernel_rfl);exact Z0f (by simp[Region.wanted,yielded,dg,undef]) (hK.out _ _ rfl hJ Y2)}
    refine StepsInv.cons3 _ rfl (fun d u' W K' hs hJ hk hn hd hK=> ?_) ?_
    {have d1:_=_:=hd 1 (by kernel_rfl);have d17:_=_:=hd 17 (by kernel_rfl);refine Y0 hK hJ rfl rfl rfl ?_
     try dsimp only
     go_simp}
    refine StepsInv.cons3 _ rfl (fun d u' W K' hs hJ hk hn hd hK=> ?_) StepsInv.nil
    {have d18:_=_:=hd 18 (by kernel_rfl);refine Y0 hK hJ rfl rfl rfl ?_
     try dsimp only
     go_simp}
    intro dd u' W' hI hdn;have hJ':=hI.1;have hok:=fun j (hj:j < 20)=>hI.2.1 j (hdn j hj);have h19:u' 19= .bool true:=hok 19 (by decide);clear hok
    try dsimp only
    rw[h19];clear h19;go_wp2
    go_roundw
    case rel=>exact ⟨i+1,by go_num,by omega,by rw[HN.out]; rfl,Z00 hb hJ'⟩
    case measure=>simp[intOf]; omega
   | false=>
    rw[ha] at HN;by_cases h1:x.at_=t.at_
    {rw[h1] at k2;obtain ⟨k,hk⟩: ∃k,(x.t.kind !=0)=k:=⟨_,rfl⟩;have HX:Hid (Pso.atTok t.at_ x=k):=Y1 (by rw[<-hk]; by_cases h:x.t.kind=0 <;> simp[Pso.atTok,h1,h]);clear h1
     go_wp2_with fail
     refine Z3I (rs:= [0,1,2,3,4,5,6,7,8,9,10,11,12,13,14,15,16,17,18,19])
      (fun u'=> { tmps:=#[.agg (Y7 t q),.slice (some ⟨g,off,none⟩) l.length c,.int .i64 f,.pointer (some ⟨w.heap.size,0,none⟩),undef,undef,.bool false,u' 19,.int .i64 (i:Int),undef,.int .i64 (i:Int),.slice (some ⟨g,off,none⟩) l.length c,.int .i64 (l.length:Int),.bool true,u14,u15,u' 0,u' 1,u' 2,u' 3,u' 4,u' 5,u' 6,u' 7,u' 8,u' 9,u' 10,u' 11,u' 12,u' 13,u' 14,u' 15,u' 16,u' 17,u' 18,undef,undef,undef,undef,undef,undef,undef,undef,undef,undef,undef,undef,undef,undef,undef,undef,undef,undef,undef,undef,undef,undef,undef,undef,undef],defers:= [] })
      (fun j=>([u16,u17,u18,u19,u20,u21,u22,u23,u24,u25,u26,u27,u28,u29,u30,u31,u32,u33,u34,.bool false]:List Value).getD j undef) (KeepI (standsTM g off i c w l x t k) (fun W=>Below wr.heap.size wr W) 19 (.bool false)) (by kernel_rfl) (by kernel_rfl) (by kernel_rfl) ⟨Y2.drew,fun _ h=>(by cases h),fun _=>rfl⟩ ?_ ?_
     refine StepsInv.cons3 _ rfl (fun d u' W K' hs hJ hk hn hd hK=> ?_) ?_
     {have e0:u' 19= .bool false:=hk (by cases hdk:d 19 with | false=>rfl | true=>exact absurd (hs 1 _ rfl (hs 18 _ rfl (hs 19 _ rfl hdk 18 (by kernel_rfl)) 1 (by kernel_rfl)) 0 (by kernel_rfl)) (by rw[hn]; decide));refine Y0 hK hJ rfl rfl rfl ?_
      try dsimp only
      go_simp}
     refine StepsInv.cons3 _ rfl (fun d u' W K' hs hJ hk hn hd hK=> ?_) ?_
     {have d0:_=_:=hd 0 (by kernel_rfl);refine Y0 hK hJ rfl rfl rfl ?_
      try dsimp only
      go_simp}
     refine StepsInv.cons3 _ rfl (fun d u' W K' hs hJ hk hn hd hK=> ?_) ?_
     {have dg:_=_:=hd 1 (by kernel_rfl);refine Y0 hK hJ rfl rfl ?_ ?_
      {simp[Region.wanted,yielded,dg]}
      {try dsimp only
       go_simp}}
     refine StepsInv.cons3 _ rfl (fun d u' W K' hs hJ hk hn hd hK=> ?_) ?_
     {have dg:_=_:=hd 1 (by kernel_rfl);refine Y0 hK hJ rfl rfl ?_ ?_
      {simp[Region.wanted,yielded,dg]}
      {try dsimp only
       go_simp}}
     refine StepsInv.cons3 _ rfl (fun d u' W K' hs hJ hk hn hd hK=> ?_) ?_
     {have dg:_=_:=hd 1 (by kernel_rfl);have d2:_=_:=hd 2 (by kernel_rfl);have d3:_=_:=hd 3 (by kernel_rfl);refine Y0 hK hJ rfl rfl ?_ ?_
      {simp[Region.wanted,yielded,dg]}
      {try dsimp only
       go_simp}}
     refine StepsInv.cons3 _ rfl (fun d u' W K' hs hJ hk hn hd hK=> ?_) ?_
     {have dg:_=_:=hd 1 (by kernel_rfl);have d4:_=_:=hd 4 (by kernel_rfl);refine Y0 hK hJ rfl rfl ?_ ?_
      {simp[Region.wanted,yielded,dg]}
      {try dsimp only
       go_simp}}
     refine StepsInv.cons3 _ rfl (fun d u' W K' hs hJ hk hn hd hK=> ?_) ?_
     {have dg:_=_:=hd 1 (by kernel_rfl);have d5:_=_:=hd 5 (by kernel_rfl);have y2:=(hJ.cell (p:=⟨g,off+i * 3+2,none⟩) hgW).trans k2;refine Y0 hK hJ rfl rfl ?_ ?_
      {simp[Region.wanted,yielded,dg]}
      {try dsimp only
       go_simp}}
     refine StepsInv.cons3 _ rfl (fun d u' W K' hs hJ hk hn hd hK=> ?_) ?_
     {have dg:_=_:=hd 1 (by kernel_rfl);refine Y0 hK hJ rfl rfl ?_ ?_
      {simp[Region.wanted,yielded,dg]}
      {try dsimp only
       go_simp}}
     refine StepsInv.cons3 _ rfl (fun d u' W K' hs hJ hk hn hd hK=> ?_) ?_
     {have dg:_=_:=hd 1 (by kernel_rfl);have d7:_=_:=hd 7 (by kernel_rfl);have y8:=(hJ.cell (p:=⟨w.heap.size,8,none⟩) hbW).trans c8;refine Y0 hK hJ rfl rfl ?_ ?_
      {simp[Region.wanted,yielded,dg]}
      {try dsimp only
       go_simp}}
     refine StepsInv.cons3 _ rfl (fun d u' W K' hs hJ hk hn hd hK=> ?_) ?_
     {have dg:_=_:=hd 1 (by kernel_rfl);have d6:_=_:=hd 6 (by kernel_rfl);have d8:_=_:=hd 8 (by kernel_rfl);refine Y0 hK hJ rfl rfl ?_ ?_
      {simp[Region.wanted,yielded,dg]}
      {try dsimp only
       go_simp}}
     refine StepsInv.cons3 _ rfl (fun d u' W K' hs hJ hk hn hd hK=> ?_) ?_
     {have dg:_=_:=hd 1 (by kernel_rfl);have d9:_=_:=hd 9 (by kernel_rfl);refine Y0 hK hJ rfl rfl ?_ ?_
      {simp[Region.wanted,yielded,dg]}
      {try dsimp only
       go_simp}}
     refine StepsInv.cons3 _ rfl (fun d u' W K' hs hJ hk hn hd hK=> ?_) ?_
     {have dg:_=_:=hd 10 (by kernel_rfl);refine Y0 hK hJ rfl rfl ?_ ?_
      {simp[Region.wanted,yielded,dg]}
      {try dsimp only
       go_simp}}
     refine StepsInv.cons3 _ rfl (fun d u' W K' hs hJ hk hn hd hK=> ?_) ?_
     {have dg:_=_:=hd 10 (by kernel_rfl);refine Y0 hK hJ rfl rfl ?_ ?_
      {simp[Region.wanted,yielded,dg]}
      {try dsimp only
       go_simp}}
     refine StepsInv.cons3 _ rfl (fun d u' W K' hs hJ hk hn hd hK=> ?_) ?_
     {have dg:_=_:=hd 10 (by kernel_rfl);have d11:_=_:=hd 11 (by kernel_rfl);have d12:_=_:=hd 12 (by kernel_rfl);refine Y0 hK hJ rfl rfl ?_ ?_
      {simp[Region.wanted,yielded,dg]}
      {try dsimp only
       go_simp}}
     refine StepsInv.cons3 _ rfl (fun d u' W K' hs hJ hk hn hd hK=> ?_) ?_
     {have dg:_=_:=hd 10 (by kernel_rfl);have d13:_=_:=hd 13 (by kernel_rfl);refine Y0 hK hJ rfl rfl ?_ ?_
      {simp[Region.wanted,yielded,dg]}
      {try dsimp only
       go_simp}}
     refine StepsInv.cons3 _ rfl (fun d u' W K' hs hJ hk hn hd hK=> ?_) ?_
     {have dg:_=_:=hd 10 (by kernel_rfl);have d14:_=_:=hd 14 (by kernel_rfl);have y0:=(hJ.cell (p:=⟨g,off+i * 3,none⟩) hgW).trans k0;refine Y0 hK hJ rfl rfl ?_ ?_
      {simp[Region.wanted,yielded,dg]}
      {try dsimp only
       go_simp}}
     refine StepsInv.cons3 _ rfl (fun d u' W K' hs hJ hk hn hd hK=> ?_) ?_
     {have dg:_=_:=hd 10 (by kernel_rfl);have d15:_=_:=hd 15 (by kernel_rfl);refine Y0 hK hJ rfl rfl ?_ ?_
      {simp[Region.wanted,yielded,dg]}
      {try dsimp only
       go_simp}}
     refine StepsInv.cons3 _ rfl (fun d u' W K' hs hJ hk hn hd hK=> ?_) ?_
     {have dg:_=_:=hd 1 (by kernel_rfl);have d10:_=_:=hd 10 (by kernel_rfl);have d16:_=_:=hd 16 (by kernel_rfl);refine Y0 hK hJ rfl rfl ?_ ?_
      {simp[Region.wanted,yielded,dg]}
      {try dsimp only
       go_simp}}
     refine StepsInv.cons3 _ rfl (fun d u' W K' hs hJ hk hn hd hK=> ?_) ?_
     {have d1:_=_:=hd 1 (by kernel_rfl);have d17:_=_:=hd 17 (by kernel_rfl);refine Y0 hK hJ rfl rfl rfl ?_
      try dsimp only
      go_simp}
     refine StepsInv.cons3 _ rfl (fun d u' W K' hs hJ hk hn hd hK=> ?_) StepsInv.nil
     {have d18:_=_:=hd 18 (by kernel_rfl);refine Y0 hK hJ rfl rfl rfl ?_
      try dsimp only
      go_simp}
     intro dd u' W' hI hdn;have hJ':=hI.1;have hok:=fun j (hj:j < 20)=>hI.2.1 j (hdn j hj);have h19:u' 19= .bool k:=hok 19 (by decide);clear hok
     try dsimp only
     rw[h19];clear h19;go_wp2
     go_roundw
     case rel=>exact ⟨i+1,by go_num,by omega,by rw[HN.out,HX.out]; rfl,Z00 hb hJ'⟩
     case measure=>simp[intOf]; omega}
    {have HX:Hid (Pso.atTok t.at_ x=false):=Y1 (by simp[Pso.atTok,h1]);have h3: (x.at_==t.at_)=false:=by simpa using h1
     go_wp2_with fail
     refine Z3I (rs:= [0,1,2,3,4,5,6,7,8,9,10,11,12,13,14,15,16,17,18,19])
      (fun u'=> { tmps:=#[.agg (Y7 t q),.slice (some ⟨g,off,none⟩) l.length c,.int .i64 f,.pointer (some ⟨w.heap.size,0,none⟩),undef,undef,.bool false,u' 19,.int .i64 (i:Int),undef,.int .i64 (i:Int),.slice (some ⟨g,off,none⟩) l.length c,.int .i64 (l.length:Int),.bool true,u14,u15,u' 0,u' 1,u' 2,u' 3,u' 4,u' 5,u' 6,u' 7,u' 8,u' 9,u' 10,u' 11,u' 12,u' 13,u' 14,u' 15,u' 16,u' 17,u' 18,undef,undef,undef,undef,undef,undef,undef,undef,undef,undef,undef,undef,undef,undef,undef,undef,undef,undef,undef,undef,undef,undef,undef,undef,undef],defers:= [] })
      (fun j=>([u16,u17,u18,u19,u20,u21,u22,u23,u24,u25,u26,u27,u28,u29,u30,u31,u32,u33,u34,.bool false]:List Value).getD j undef) (KeepI (standsTN g off i c w l x t) (fun W=>Below wr.heap.size wr W) 19 (.bool false)) (by kernel_rfl) (by kernel_rfl) (by kernel_rfl) ⟨Y2.drew,fun _ h=>(by cases h),fun _=>rfl⟩ ?_ ?_
     refine StepsInv.cons3 _ rfl (fun d u' W K' hs hJ hk hn hd hK=> ?_) ?_
     {have e0:u' 19= .bool false:=hk (by cases hdk:d 19 with | false=>rfl | true=>exact absurd (hs 1 _ rfl (hs 18 _ rfl (hs 19 _ rfl hdk 18 (by kernel_rfl)) 1 (by kernel_rfl)) 0 (by kernel_rfl)) (by rw[hn]; decide));refine Y0 hK hJ rfl rfl rfl ?_
      try dsimp only
      go_simp}
     refine StepsInv.cons3 _ rfl (fun d u' W K' hs hJ hk hn hd hK=> ?_) ?_
     {have d0:_=_:=hd 0 (by kernel_rfl);refine Y0 hK hJ rfl rfl rfl ?_
      try dsimp only
      go_simp}
     refine StepsInv.cons3 _ rfl (fun d u' W K' hs hJ hk hn hd hK=> ?_) ?_
     {have dg:_=_:=hd 1 (by kernel_rfl);refine Y0 hK hJ rfl rfl ?_ ?_
      {simp[Region.wanted,yielded,dg]}
      {try dsimp only
       go_simp}}
     refine StepsInv.cons3 _ rfl (fun d u' W K' hs hJ hk hn hd hK=> ?_) ?_
     {have dg:_=_:=hd 1 (by kernel_rfl);refine Y0 hK hJ rfl rfl ?_ ?_
      {simp[Region.wanted,yielded,dg]}
      {try dsimp only
       go_simp}}
     refine StepsInv.cons3 _ rfl (fun d u' W K' hs hJ hk hn hd hK=> ?_) ?_
     {have dg:_=_:=hd 1 (by kernel_rfl);have d2:_=_:=hd 2 (by kernel_rfl);have d3:_=_:=hd 3 (by kernel_rfl);refine Y0 hK hJ rfl rfl ?_ ?_
      {simp[Region.wanted,yielded,dg]}
      {try dsimp only
       go_simp}}
     refine StepsInv.cons3 _ rfl (fun d u' W K' hs hJ hk hn hd hK=> ?_) ?_
     {have dg:_=_:=hd 1 (by kernel_rfl);have d4:_=_:=hd 4 (by kernel_rfl);refine Y0 hK hJ rfl rfl ?_ ?_
      {simp[Region.wanted,yielded,dg]}
      {try dsimp only
       go_simp}}
     refine StepsInv.cons3 _ rfl (fun d u' W K' hs hJ hk hn hd hK=> ?_) ?_
     {have dg:_=_:=hd 1 (by kernel_rfl);have d5:_=_:=hd 5 (by kernel_rfl);have y2:=(hJ.cell (p:=⟨g,off+i * 3+2,none⟩) hgW).trans k2;refine Y0 hK hJ rfl rfl ?_ ?_
      {simp[Region.wanted,yielded,dg]}
      {try dsimp only
       go_simp}}
     refine StepsInv.cons3 _ rfl (fun d u' W K' hs hJ hk hn hd hK=> ?_) ?_
     {have dg:_=_:=hd 1 (by kernel_rfl);refine Y0 hK hJ rfl rfl ?_ ?_
      {simp[Region.wanted,yielded,dg]}
      {try dsimp only
       go_simp}}
     refine StepsInv.cons3 _ rfl (fun d u' W K' hs hJ hk hn hd hK=> ?_) ?_
     {have dg:_=_:=hd 1 (by kernel_rfl);have d7:_=_:=hd 7 (by kernel_rfl);have y8:=(hJ.cell (p:=⟨w.heap.size,8,none⟩) hbW).trans c8;refine Y0 hK hJ rfl rfl ?_ ?_
      {simp[Region.wanted,yielded,dg]}
      {try dsimp only
       go_simp}}
     refine StepsInv.cons3 _ rfl (fun d u' W K' hs hJ hk hn hd hK=> ?_) ?_
     {have dg:_=_:=hd 1 (by kernel_rfl);have d6:_=_:=hd 6 (by kernel_rfl);have d8:_=_:=hd 8 (by kernel_rfl);refine Y0 hK hJ rfl rfl ?_ ?_
      {simp[Region.wanted,yielded,dg]}
      {try dsimp only
       go_simp}}
     refine StepsInv.cons3 _ rfl (fun d u' W K' hs hJ hk hn hd hK=> ?_) ?_
     {have dg:_=_:=hd 1 (by kernel_rfl);have d9:_=_:=hd 9 (by kernel_rfl);refine Y0 hK hJ rfl rfl ?_ ?_
      {simp[Region.wanted,yielded,dg]}
      {try dsimp only
       go_simp}}
     refine StepsInv.cons3 _ rfl (fun d u' W K' hs hJ hk hn hd hK=> ?_) ?_
     {have dg:_=_:=hd 10 (by kernel_rfl);exact Z0f (by simp[Region.wanted,yielded,dg,undef]) (hK.out _ _ rfl hJ Y2)}
     refine StepsInv.cons3 _ rfl (fun d u' W K' hs hJ hk hn hd hK=> ?_) ?_
     {have dg:_=_:=hd 10 (by kernel_rfl);exact Z0f (by simp[Region.wanted,yielded,dg,undef]) (hK.out _ _ rfl hJ Y2)}
     refine StepsInv.cons3 _ rfl (fun d u' W K' hs hJ hk hn hd hK=> ?_) ?_
     {have dg:_=_:=hd 10 (by kernel_rfl);exact Z0f (by simp[Region.wanted,yielded,dg,undef]) (hK.out _ _ rfl hJ Y2)}
     refine StepsInv.cons3 _ rfl (fun d u' W K' hs hJ hk hn hd hK=> ?_) ?_
     {have dg:_=_:=hd 10 (by kernel_rfl);exact Z0f (by simp[Region.wanted,yielded,dg,undef]) (hK.out _ _ rfl hJ Y2)}
     refine StepsInv.cons3 _ rfl (fun d u' W K' hs hJ hk hn hd hK=> ?_) ?_
     {have dg:_=_:=hd 10 (by kernel_rfl);exact Z0f (by simp[Region.wanted,yielded,dg,undef]) (hK.out _ _ rfl hJ Y2)}
     refine StepsInv.cons3 _ rfl (fun d u' W K' hs hJ hk hn hd hK=> ?_) ?_
     {have dg:_=_:=hd 10 (by kernel_rfl);exact Z0f (by simp[Region.wanted,yielded,dg,undef]) (hK.out _ _ rfl hJ Y2)}
     refine StepsInv.cons3 _ rfl (fun d u' W K' hs hJ hk hn hd hK=> ?_) ?_
     {have dg:_=_:=hd 1 (by kernel_rfl);have d10:_=_:=hd 10 (by kernel_rfl);have d16:_=_:=hd 16 (by kernel_rfl);refine Y0 hK hJ rfl rfl ?_ ?_
      {simp[Region.wanted,yielded,dg]}
      {try dsimp only
       go_simp}}
     refine StepsInv.cons3 _ rfl (fun d u' W K' hs hJ hk hn hd hK=> ?_) ?_
     {have d1:_=_:=hd 1 (by kernel_rfl);have d17:_=_:=hd 17 (by kernel_rfl);refine Y0 hK hJ rfl rfl rfl ?_
      try dsimp only
      go_simp}
     refine StepsInv.cons3 _ rfl (fun d u' W K' hs hJ hk hn hd hK=> ?_) StepsInv.nil
     {have d18:_=_:=hd 18 (by kernel_rfl);refine Y0 hK hJ rfl rfl rfl ?_
      try dsimp only
      go_simp}
     intro dd u' W' hI hdn;have hJ':=hI.1;have hok:=fun j (hj:j < 20)=>hI.2.1 j (hdn j hj);have h19:u' 19= .bool false:=hok 19 (by decide);clear hok
     try dsimp only
     rw[h19];clear h19;go_wp2
     go_roundw
     case rel=>exact ⟨i+1,by go_num,by omega,by rw[HN.out,HX.out]; rfl,Z00 hb hJ'⟩
     case measure=>simp[intOf]; omega}}
  {have hie:i=l.length:=by omega
   have HA:Hid ((l.take i).any (Pso.atTok t.at_)=l.any (Pso.atTok t.at_)):=Y1 (by rw[hie,List.take_length]);clear hie;cases ha: (l.take i).any (Pso.atTok t.at_) with
   | false=>
    rw[ha] at HA;go_wp2;go_ret;exact ⟨by rw[HD.out, <-HA.out]; rfl,HBW.out⟩
   | true=>
    rw[ha] at HA;by_cases hf:t.at_ < f
    {have hf2:decide (f<=t.at_)=false:=decide_eq_false (by omega);have HD2:=Y1 hf2;clear hf2;go_wp2;go_ret;exact ⟨by rw[HD.out,HD2.out,Bool.and_false,Bool.false_and]; rfl,HBW.out⟩}
    {have HD2:Hid (Pso.stands l f t=t.parts.all (Pso.stands l t.at_)):=Y1 (by rw[HD.out, <-HA.out,decide_eq_true (show f<=t.at_ by omega)]; rfl);have HB2:=Y1 hb;have HWR:=Y1 hbw;go_wp2;clear hb hbw c8;generalize wr=W1 at HBX HBW HWR HB2 ⊢
     go_loopw [9] (fun ii wr=> ∃i:Nat,ii= .int .i64 i/\i<=t.parts.length/\Hid (∀j (h:j < t.parts.length),j < i->Pso.stands l t.at_ (t.parts[j]'h)=true)/\Below W1.heap.size W1 wr) (fun i _=>t.parts.length - (intOf i).toNat)
     case atStart=>exact ⟨0,rfl,Nat.zero_le _,Y1 (fun j _ hj=>absurd hj (by omega)),Below.refl _ _⟩
     case round=>
      obtain ⟨n,rfl,hi,HN,hb⟩:=hrel;have hm:=HM.out;have HBY:=Y1 (HBX.out.next hb);have hbw:Below w.heap.size w wr:=Z00 HWR.out hb;obtain ⟨hbW,⟨_,_,_,_,_,_,_,c7,c8⟩,_⟩:=HBY.out;simp only[Nat.zero_add] at c7 c8;by_cases hlt:n < t.parts.length
      {have hi1: (n:Int) < (t.parts.length:Int):=by omega
       rcases HP.out with h0 | ⟨g,off,qs,hqP,hg,hc,hr⟩
       {omega}
       obtain ⟨x,hx⟩: ∃x,x=t.parts[n]:=⟨_,rfl⟩;have P9:=(hc n hlt).keep hg hbw;have hgW:g < wr.heap.size:=Nat.lt_of_lt_of_le hg hbw.size;have IH:Hid (∀W,Below wr.heap.size wr W->_):=Y1 (fun W hW=>IH0.out t.parts[n] (List.getElem_mem _) (qs n) t.at_ W ((hr n hlt).next (Z00 hbw hW)) (HT.out.keep (Z00 hbw hW) (Nat.le_refl _) |>.more (Z00 hbw hW).size));rw[<-hx] at P9 IH;have HX:=Y1 hx;rw[hqP] at c7;clear hx hc hr hqP;obtain ⟨b,hb'⟩: ∃b,b=Pso.stands l t.at_ x:=⟨_,rfl⟩;rw[<-hb'] at IH;have HBB:=Y1 hb';clear hb'
       go_wp2_with fail
       refine Z76 (rs:= [0,1,2,3,4,5,6,7,8,9])
        (fun u'=> { tmps:=#[.agg (Y7 t q),.slice A l.length c,.int .i64 f,.pointer (some ⟨w.heap.size,0,none⟩),undef,undef,u6,.bool true,.int .i64 (i:Int),.int .i64 (n:Int),.int .i64 (i:Int),.slice A l.length c,.int .i64 (l.length:Int),.bool false,u14,u15,u16,u17,u18,u19,u20,u21,u22,u23,u24,u25,u26,u27,u28,u29,u30,u31,u32,u33,u34,.bool true,.bool false,.bool false,.pointer (some ⟨w.heap.size,8,none⟩),.int .i64 t.at_,.int .i64 f,.bool false,.bool false,.int .i64 (n:Int),.pointer (some ⟨w.heap.size,7,none⟩),.slice (some ⟨g,off,none⟩) t.parts.length q.d,.int .i64 (t.parts.length:Int),.bool true,u48,u49,u' 0,u' 1,u' 2,u' 3,u' 4,u' 5,u' 6,u' 7,u' 8,u' 9],defers:= [] })
        (fun j=>([u50,u51,u52,u53,u54,u55,u56,u57,u58,u59]:List Value).getD j undef) (standsP g off n c A w l x t q qs b) (fun W=>Below wr.heap.size wr W) (by kernel_rfl) (by kernel_rfl) (by kernel_rfl) Y2.drew ?_ ?_
       refine StepsAt.cons _ rfl (fun u' W K' hJ hd hK=> ?_) ?_
       {refine Y0 hK hJ rfl rfl rfl ?_
        try dsimp only
        go_simp}
       refine StepsAt.cons _ rfl (fun u' W K' hJ hd hK=> ?_) ?_
       {have d0:_=_:=hd 0 (by kernel_rfl);have y7:=(hJ.cell (p:=⟨w.heap.size,7,none⟩) hbW).trans c7;refine Y0 hK hJ rfl rfl rfl ?_
        try dsimp only
        go_simp}
       refine StepsAt.cons _ rfl (fun u' W K' hJ hd hK=> ?_) ?_
       {refine Y0 hK hJ rfl rfl rfl ?_
        try dsimp only
        go_simp}
       refine StepsAt.cons _ rfl (fun u' W K' hJ hd hK=> ?_) ?_
       {have d1:_=_:=hd 1 (by kernel_rfl);have d2:_=_:=hd 2 (by kernel_rfl);refine Y0 hK hJ rfl rfl rfl ?_
        try dsimp only
        go_simp}
       refine StepsAt.cons _ rfl (fun u' W K' hJ hd hK=> ?_) ?_
       {have d3:_=_:=hd 3 (by kernel_rfl);obtain ⟨p0,p1,p2,p3,p4,p5,p6,p7,p8⟩:=P9.keep hgW hJ;refine Y0 hK hJ rfl rfl rfl ?_
        try dsimp only
        go_simp}
       refine StepsAt.cons _ rfl (fun u' W K' hJ hd hK=> ?_) ?_
       {refine Y0 hK hJ rfl rfl rfl ?_
        try dsimp only
        go_simp}
       refine StepsAt.cons _ rfl (fun u' W K' hJ hd hK=> ?_) ?_
       {refine Y0 hK hJ rfl rfl rfl ?_
        try dsimp only
        go_simp}
       refine StepsAt.cons _ rfl (fun u' W K' hJ hd hK=> ?_) ?_
       {have d6:_=_:=hd 6 (by kernel_rfl);have y8:=(hJ.cell (p:=⟨w.heap.size,8,none⟩) hbW).trans c8;refine Y0 hK hJ rfl rfl rfl ?_
        try dsimp only
        go_simp}
       refine StepsAt.cons _ rfl (fun u' W K' hJ hd hK=> ?_) ?_
       {have d4:_=_:=hd 4 (by kernel_rfl);have d5:_=_:=hd 5 (by kernel_rfl);have d7:_=_:=hd 7 (by kernel_rfl);refine Z0M (f:=10) (args:=#[.agg (Y7 x (qs n)),.slice A l.length c,.int .i64 t.at_]) (W':=W) rfl ?_ ((IH.out W hJ).mono fun e w' h=>⟨_,h.1,hK.out _ _ rfl (Z00 hJ h.2) h.2⟩)
        try dsimp only
        go_simp}
       refine StepsAt.cons _ rfl (fun u' W K' hJ hd hK=> ?_) StepsAt.nil
       {have d8:_=_:=hd 8 (by kernel_rfl);refine Y0 hK hJ rfl rfl rfl ?_
        try dsimp only
        go_simp}
       intro u' W' hJ' hok;have h9:u' 9= .bool (!b):=hok 9 (by decide);clear hok
       try dsimp only
       rw[h9];clear h9;have HJ':=Y1 hJ';clear hJ';cases b with
       | true=>
        go_wp2
        go_roundw
        case rel=>exact ⟨n+1,by go_num,by omega,Y1 (fun j hj hji=>by
         rcases Nat.lt_succ_iff_lt_or_eq.1 hji with h | rfl
         {exact HN.out j hj h}
         · rw[<-HX.out]; exact HBB.out.symm),Z00 hb HJ'.out⟩
        case measure=>simp[intOf]; omega
       | false=>
        have HF:Hid (Pso.stands l f t=false):=Y1 (by
         rw[HD2.out];have:t.parts.all (Pso.stands l t.at_)=false:=by
          rw[List.all_eq_false];exact ⟨x,by rw[HX.out]; exact List.getElem_mem _,by rw[<-HBB.out]; decide⟩
         exact this)
        go_wp2;go_ret;exact ⟨by rw[HF.out]; rfl,Z00 hbw HJ'.out⟩}
      {have HF:Hid (Pso.stands l f t=true):=Y1 (by
        rw[HD2.out,List.all_eq_true];intro p hp;obtain ⟨j,hj,rfl⟩:=List.getElem_of_mem hp;exact HN.out j hj (by omega))
       have HWF:=Y1 hbw;go_wp2;go_ret;exact ⟨by rw[HF.out]; rfl,HWF.out⟩}}}
end Go.Proofs.YtkncdbaoaeeoiaaGreatDoor
namespace Lex
theorem Zag {r:List UInt8} {qs:List Int} {a:Nat} (h: ∀p∈qs,okP p=true) (hr:r=esc qs++r.drop a) (h1:one (r.drop a)=none):quoted (34::r)=finish (qs,r.drop a):=by
 have hb:body (34::r).length r=(qs,r.drop a):=by
  conv=>lhs; rw[hr]
  exact Z3z _ h h1 (by rw[<-hr]; simp)
 show finish (body (34::r).length r)=_;rw[hb]
theorem Z8Z (qs:List Int) (p:Int):esc (qs++ [p])=esc qs++escP p:=by simp[esc]
theorem Z1P {r:List UInt8} {qs:List Int} {a:Nat} (h: ∀p∈qs,okP p=true) (hr:r=esc qs++r.drop a) (ha:a=(esc qs).length) {p:Int} {n:Nat} (h1:one (r.drop a)=some (p,n)):
 (∀x∈qs++ [p],okP x=true)/\r=esc (qs++ [p])++r.drop (a+n)/\a+n=(esc (qs++ [p])).length/\a+n<=r.length:=by
 obtain ⟨h2,h3,h4,h5,h6⟩:=Z3W h1;refine ⟨fun x hx=> ?_, ?_, ?_, ?_⟩
 {rcases List.mem_append.1 hx with hx | hx
  {exact h x hx}
  {obtain rfl:x=p:=by simpa using hx
   exact h2}}
 {rw[Z8Z,List.append_assoc];rw[List.drop_drop] at h4;rw[<-h4]; exact hr}
 {rw[Z8Z,List.length_append, <-ha, <-h3]}
 {rw[List.length_drop] at h6; omega}
end Lex
namespace Go.Proofs.YtkncdbaoaeeoiaaGreatDoor
open Go.RowKit
def firstV:Except (Int×Nat) (Lex.Tok×Nat)->Value
 | .ok (t,n)=> .tuple #[.agg #[.int .i64 t.kind,.string ⟨t.text.toArray⟩,.int .i64 0],.int .i64 (n:Int),.agg #[.int .i64 0,.int .i64 0]]
 | .error (e,k)=> .tuple #[.agg #[.int .i64 0,.string ⟨#[]⟩,.int .i64 0],.int .i64 0,.agg #[.int .i64 e,.int .i64 (k:Int)]]
structure R3 (W:World) (h0 h1 h2:Nat):Prop where
 l0:h0 < W.heap.size
 l1:h1 < W.heap.size
 l2:h2 < W.heap.size
 t0:W.cell? ⟨h0,0,none⟩=some (.int .i64 0)
 t1:W.cell? ⟨h0,1,none⟩=some (.string ⟨#[]⟩)
 t2:W.cell? ⟨h0,2,none⟩=some (.int .i64 0)
 f0:W.cell? ⟨h1,0,none⟩=some (.int .i64 0)
 f1:W.cell? ⟨h1,1,none⟩=some (.int .i64 0)
 b0:W.cell? ⟨h2,0,none⟩=some (.int .i64 60)
 b1:W.cell? ⟨h2,1,none⟩=some (.int .i64 0)
 z0:W.frozen? ⟨h0,0,none⟩=false
 z1:W.frozen? ⟨h0,1,none⟩=false
 z2:W.frozen? ⟨h0,2,none⟩=false
 z3:W.frozen? ⟨h1,0,none⟩=false
 z4:W.frozen? ⟨h1,1,none⟩=false
theorem R3.keep {W W':World} {h0 h1 h2 B:Nat} (r:R3 W h0 h1 h2) (hB0:h0 < B) (hB1:h1 < B) (hB2:h2 < B) (hb:Below B W W'):R3 W' h0 h1 h2:=by
 have k: ∀b o,b < B->W'.cell? ⟨b,o,none⟩=W.cell? ⟨b,o,none⟩:=fun b o hbl=>hb.cell (p:=⟨b,o,none⟩) hbl;have f: ∀b o,b < B->W'.frozen? ⟨b,o,none⟩=W.frozen? ⟨b,o,none⟩:=fun b o hbl=>hb.frozen (p:=⟨b,o,none⟩) hbl;exact ⟨Nat.lt_of_lt_of_le r.l0 hb.size,Nat.lt_of_lt_of_le r.l1 hb.size,Nat.lt_of_lt_of_le r.l2 hb.size,(k _ _ hB0).trans r.t0,(k _ _ hB0).trans r.t1,(k _ _ hB0).trans r.t2,(k _ _ hB1).trans r.f0,(k _ _ hB1).trans r.f1,(k _ _ hB2).trans r.b0,(k _ _ hB2).trans r.b1,
  (f _ _ hB0).trans r.z0,(f _ _ hB0).trans r.z1,(f _ _ hB0).trans r.z2,(f _ _ hB1).trans r.z3,(f _ _ hB1).trans r.z4⟩
theorem Z3R (w:World):R3 (((w.alloc (.cells Yd 54)).alloc (.cells Yc 29)).alloc (.cells #[.int .i64 60,.int .i64 0] 29)) w.heap.size (w.heap.size+1) (w.heap.size+1+1):=by
 constructor <;> simp[go_sem]
theorem Z2r (w:World) (a b c:Obj):Below w.heap.size w (((w.alloc a).alloc b).alloc c):=Z03 (Z03 (Z01 w _) _) _
theorem ZfM (w:World) (a b c:Obj): (((w.alloc a).alloc b).alloc c).heap.size=w.heap.size+3:=by simp
def QInv (r:List UInt8) (W0 wr:World) (v:Value) (a:Nat):Prop:= ∃qs:List Int,(∀p∈qs,Lex.okP p=true)/\r=Lex.esc qs++r.drop a/\a=(Lex.esc qs).length/\wr.ownsRow W0.heap.size 5 1 v (Utf.enc qs).length (Lib.byteCells (Utf.enc qs))/\Below W0.heap.size W0 wr
theorem ZaK: ∀qs:List Int,(Utf.enc qs).length<=4 * (Lex.esc qs).length
 | []=>Nat.zero_le _
 | p::qs=>by
  have h1:=ZaK qs;have h2:=Utf.Z0O p;have h3:=Utf.Z0c p;have h4:=Lex.Z7V p;have e1:Lex.esc (p::qs)=Lex.escP p++Lex.esc qs:=by simp[Lex.esc]
  rw[e1,Utf.Z0H,List.length_append,List.length_append]; omega
theorem Z1h (qs:List Int) (p:Int):Lib.byteCells (Utf.enc (qs++ [p]))=Lib.byteCells (Utf.enc qs)++Lib.byteCells (Utf.bytes p):=by rw[Utf.Z1Q,Lib.byteCells_append]
theorem Z90 (r:List UInt8) (hr:r.length<=1000000) (w:World):
 Y9 57 #[.string ⟨(34::r).toArray⟩] w (firstV (Lex.quoted (34::r))):=by
 obtain ⟨i0,hi,hz0,hz1,hz2⟩:=info_parts (P:=Tryz.prog) (e:=5) (z:= .int .u8 0) (size:=1) (bytes:=1) (by kernel_rfl);obtain ⟨l,hl⟩: ∃l:List UInt8,l=34::r:=⟨_,rfl⟩;have hll:l.length=r.length+1:=by rw[hl]; rfl
 have HL:=Y1 hl;have HLL:=Y1 hll;have hz: (⟨l.toArray⟩:ByteArray).size=l.length:=Z07 _;have hl9:l.length<=1000001:=by omega
 rw[<-hl];have HR0:=Y1 (Z3R w);have HB0:=Y1 (Z2r w (.cells Yd 54) (.cells Yc 29) (.cells #[.int .i64 60,.int .i64 0] 29));have hz3:=ZfM w (.cells Yd 54) (.cells Yc 29) (.cells #[.int .i64 60,.int .i64 0] 29);clear hl hll;go_enter Tryz.func57,Tryz.ntmps57
 go_wp2_with fail
 generalize hW: ((w.alloc (.cells Yd 54)).alloc (.cells Yc 29)).alloc (.cells #[.int .i64 60,.int .i64 0] 29)=W0 at HR0 HB0 hz3 ⊢;clear hW;obtain ⟨h2,hh2⟩: ∃h2,h2=w.heap.size+1+1:=⟨_,rfl⟩;rw[<-hh2] at HR0 ⊢;obtain ⟨h1,hh1⟩: ∃h1,h1=w.heap.size+1:=⟨_,rfl⟩;rw[<-hh1] at HR0 ⊢;have n01:w.heap.size≠h1:=by omega
 have n02:w.heap.size≠h2:=by omega
 have n12:h1≠h2:=by omega
 have HZ1:Hid (w.heap.size < h1/\w.heap.size < W0.heap.size/\h1 < W0.heap.size/\h2 < W0.heap.size):=Y1 (by omega);clear hh1 hh2 hz3
 go_loopw [6,7] (fun v ii wr=> ∃a:Nat,ii= .int .i64 ((1+a:Nat):Int)/\1+a<=l.length/\Hid (QInv r W0 wr v a))
  (fun _ ii _=>l.length - (intOf ii).toNat)
 case atStart=>exact ⟨0,rfl,by rw[HLL.out]; omega,Y1 ⟨[],(fun p hp=>by cases hp),rfl,rfl,World.ownsRow_nil _ _ _ _,Below.refl _ _⟩⟩
 case round=>
  obtain ⟨a,rfl,ha,HU⟩:=hrel;obtain ⟨qs,hok,hrq,haq,hown,hb⟩:=HU.out;have hel:=ZaK qs;rw[<-haq] at hel;have HOK:=Y1 hok;have HRQ:=Y1 hrq;have HAQ:=Y1 haq;have HO:=Y1 hown;have HB:=Y1 (HB0.out.trans (hb.mono (Nat.le_of_lt HZ1.out.2.1)));have HBW:=Y1 hb;have hbw:=hb.size;have hcv:=Z39 hown;have HR:=Y1 (HR0.out.keep HZ1.out.2.1 HZ1.out.2.2.1 HZ1.out.2.2.2 hb);obtain ⟨n,hn⟩: ∃n,n=1+a:=⟨_,rfl⟩;rw[<-hn] at ha ⊢;have HN:=Y1 hn;have hnl: (Utf.enc qs).length<=4000000:=by have:=HLL.out; omega
  -- how it ends
  have stop: ∀(R:Except (Int×Nat) (Lex.Tok×Nat)),Lex.one (r.drop a)=none->Lex.finish (qs,r.drop a)=R->Hid (Lex.quoted l=R):=fun R h1 h2=>Y1 (by rw[HL.out]; exact (Lex.Zag HOK.out HRQ.out h1).trans h2);clear hok hrq haq hown hb HU hn hel;by_cases hlt:n < l.length
  {have hi1: (n:Int) < (l.length:Int):=by omega
   have har:a < r.length:=by have:=HN.out; have:=HLL.out; omega
   obtain ⟨c,hc⟩: ∃c,c=r[a]'har:=⟨_,rfl⟩;obtain ⟨q,hq⟩: ∃q,q=r.drop (a+1):=⟨_,rfl⟩;have hdr:r.drop a=c::q:=by rw[hc,hq]; exact List.drop_eq_getElem_cons har
   have hcl:l[n]'hlt=c:=by
    have e:=HN.out;have e2:=HL.out;subst e2;subst e;rw[hc,List.getElem_cons];simp[Nat.add_comm 1 a]
   have hidx: ∀W,(Instr.index 9 (.string ⟨l.toArray⟩) (.int .i64 (n:Int))).run Tryz.prog W= .ok (.int .u8 c.toNat) W:=fun W=>by
    rw[<-hcl]; exact Z0i ⟨l.toArray⟩ n (by omega) W
   have hdn:l.drop n=c::q:=by rw[HL.out,HN.out,Nat.add_comm,List.drop_succ_cons,hdr]
   have HDR:=Y1 hdr;have HDN:=Y1 hdn;have k34: ((c.toNat:Int)==34)=(c==34):=Z0o c 34 (by decide);have k92: ((c.toNat:Int)==92)=(c==92):=Z0o c 92 (by decide);have HON:=Y1 (Lex.Z1T c q);rw[hdr] at stop;clear hc hq hdr hcl hdn;cases e34: (c==34)
   {rw[e34] at k34;have n34:c≠34:=by simpa using e34
    by_cases h32:c.toNat < 32
    {have k32: (c.toNat:Int) < 32:=by omega
     have HF:=stop (.error (60,0)) (by rw[HON.out,if_pos (Or.inr h32)]) (by unfold Lex.finish; simp only; rw[if_neg n34,if_pos (Or.inl h32)]);obtain ⟨l0,l1,l2,t0,t1,t2,f0,f1,b0,b1,z0,z1,z2,z3,z4⟩:=HR.out;clear stop e34 n34 h32
     go_wp2_with fail
     go_region
     all_goals
      go_wp2;refine bodyPost_ret (v:= .tuple #[.agg #[.int .i64 0,.string ⟨#[]⟩,.int .i64 0],.int .i64 0,.agg #[.int .i64 60,.int .i64 0]]) (by simp[results,Tryz.results57,go_sem,t0,t1,t2,f0,f1]) rfl ?_;exact ⟨by rw[HF.out]; rfl,(((((HB.out.setCell (p:=⟨w.heap.size,0,none⟩) (Nat.le_refl _) _).setCell (p:=⟨w.heap.size,1,none⟩) (Nat.le_refl _) _).setCell (p:=⟨w.heap.size,2,none⟩) (Nat.le_refl _) _).setCell (p:=⟨h1,0,none⟩) (Nat.le_of_lt HZ1.out.1) _).setCell (p:=⟨h1,1,none⟩) (Nat.le_of_lt HZ1.out.1) _).drew⟩}
    {have k32: ¬(c.toNat:Int) < 32:=by omega
     cases e92: (c==92)
     {rw[e92] at k92;have n92:c≠92:=by simpa using e92
      have hsl: ∀W,(Instr.slice 9 (.string ⟨l.toArray⟩) (some (.int .i64 (n:Int))) none none).run Tryz.prog W= .ok (.string ⟨(c::q).toArray⟩) W:=fun W=>by
       have:=Z0Z (W:=W) ⟨l.toArray⟩ n (by omega);rw[show (⟨l.toArray⟩:ByteArray).data.toList=l from rfl,HDN.out] at this;exact this
      have hcq: (c::q).length+n=l.length:=by have:=congrArg List.length HDN.out; rw[List.length_drop] at this; omega
      rcases hf:Utf.first (c::q) with ⟨p,k⟩;have hdu:duo (p,k)= .tuple #[.int .i64 p,.int .i64 k]:=rfl;by_cases hk0:k=0
      {have hkd: ((k:Int)==0)=true:=by rw[beq_iff_eq]; omega
       have HF:=stop (.error (30,n)) (by rw[HON.out,if_neg (by rintro (h | h); exact n34 h; exact h32 h),if_neg n92,if_pos (by rw[hf]; exact hk0)]) (by unfold Lex.finish; simp only; rw[if_neg n34,if_neg (by rintro (h | h); exact h32 h; exact n92 h), <-HAQ.out,HN.out,Nat.add_comm]);clear stop e34 n34 h32 e92 n92 hk0 hcq
       go_wp2_with fail
       refine (Z3r ⟨(c::q).toArray⟩ (by rw[Z07]; have:=congrArg List.length HDN.out; rw[List.length_drop] at this; omega) _).mono ?_;rintro e w5 ⟨he,hb5⟩;rw[show (⟨(c::q).toArray⟩:ByteArray).data.toList=c::q from rfl,hf,hdu] at he;subst he;have HR5:=Y1 (HR.out.keep (Nat.lt_of_lt_of_le HZ1.out.2.1 hbw) (Nat.lt_of_lt_of_le HZ1.out.2.2.1 hbw) (Nat.lt_of_lt_of_le HZ1.out.2.2.2 hbw) hb5);have HB5:=Y1 (Z00 HB.out hb5);obtain ⟨l0,l1,l2,t0,t1,t2,f0,f1,b0,b1,z0,z1,z2,z3,z4⟩:=HR5.out;clear hf hdu hb5;go_wp2;refine bodyPost_ret (v:= .tuple #[.agg #[.int .i64 0,.string ⟨#[]⟩,.int .i64 0],.int .i64 0,.agg #[.int .i64 30,.int .i64 (n:Int)]]) (by simp[results,Tryz.results57,go_sem,t0,t1,t2,f0,f1]) rfl ?_;exact ⟨by rw[HF.out]; rfl,((((HB5.out.setCell (p:=⟨w.heap.size,0,none⟩) (Nat.le_refl _) _).setCell (p:=⟨w.heap.size,1,none⟩) (Nat.le_refl _) _).setCell (p:=⟨w.heap.size,2,none⟩) (Nat.le_refl _) _).setCell (p:=⟨h1,0,none⟩) (Nat.le_of_lt HZ1.out.1) _).setCell (p:=⟨h1,1,none⟩) (Nat.le_of_lt HZ1.out.1) _⟩}
      {have hkd: ((k:Int)==0)=false:=by rw[beq_eq_false_iff_ne]; omega
       have hone:Lex.one (r.drop a)=some (p,k):=by rw[HDR.out,HON.out,if_neg (by rintro (h | h); exact n34 h; exact h32 h),if_neg n92,if_neg (by rw[hf]; exact hk0),hf]
       obtain ⟨m1,m2,m3,m4⟩:=Lex.Z1P HOK.out HRQ.out HAQ.out hone;obtain ⟨_,fw,fb,fl⟩:=Utf.Z0E hf hk0;have hbl:=Utf.Z0c p;have HK:=Y1 (And.intro m1 (And.intro m2 (And.intro m3 m4)));have hsl2: ∀W,(Instr.slice 9 (.string ⟨l.toArray⟩) (some (.int .i64 (n:Int))) (some (.int .i64 ((n:Int)+(k:Int)))) none).run Tryz.prog W= .ok (.string ⟨(Utf.bytes p).toArray⟩) W:=fun W=>by
        rw[Z1i ⟨l.toArray⟩ n ((n:Int)+(k:Int)) (by omega) (by omega) W];have e: ((l.drop n).take (((n:Int)+(k:Int)).toNat - n))=Utf.bytes p:=by
         rw[show ((n:Int)+(k:Int)).toNat - n=k by omega,HDN.out,fb,fw, <-hbl,List.take_left]
        exact congrArg (fun b=>Result.ok (Value.string ⟨List.toArray b⟩) W) e
       have hkp:1<=k:=by omega
       have hk4:k<=4:=by have:=(Utf.Z0O p).2; omega
       have hnk:n+k<=l.length:=by omega
       have hbs: (⟨(Utf.bytes p).toArray⟩:ByteArray).size=k:=by rw[Z07,hbl,fw]
       have HBL:Hid ((Utf.bytes p).length=k):=Y1 (by rw[hbl,fw]);have HBS:=Y1 hbs;clear hone m1 m2 m3 m4 stop fw fb fl hbl e34 n34 h32 e92 n92 hk0 hcq hbs
       go_wp2_with fail
       refine (Z3r ⟨(c::q).toArray⟩ (by rw[Z07]; have:=congrArg List.length HDN.out; rw[List.length_drop] at this; omega) _).mono ?_;rintro e w5 ⟨he,hb5⟩;rw[show (⟨(c::q).toArray⟩:ByteArray).data.toList=c::q from rfl,hf,hdu] at he;subst he;have HO5:=Y1 (Z23 HO.out hb5);have HB5:=Y1 (HBW.out.trans (hb5.mono hbw));have hb5s:=HB5.out.size;clear hf hdu hb5
       go_wp2_with (at_builtin; refine Lib.wpList_append_own_string _ rfl _ _ 137 9 rfl W0.heap.size 5 i0 Tryz.underlying137 Tryz.underlying9 hi hz0 hz1 hz2 _ _ _ rfl HO5.out ⟨(Utf.bytes p).toArray⟩ rfl (by rw[HBS.out]; unfold maxLen; omega) (by rw[HBS.out]; omega) hb5s ?_)
       intro v' w3 hown3 hgrow _;have hb3:=HB5.out.grown hgrow hb5s (fun k hk=>(HO5.out.lt k hk).1);have HU3:Hid (QInv r W0 w3 v' (a+k)):=Y1 ⟨_,HK.out.1,HK.out.2.1,HK.out.2.2.1,by rw[Z1h,Utf.Z1Q,List.length_append,HBL.out, <-HBS.out]; exact hown3,hb3⟩;clear hown3 hgrow hb3;go_wp2
       go_roundw
       case rel=>exact ⟨a+k,by rw[HN.out]; go_num,(by have:=HK.out.2.2.2; have:=HN.out; have:=HLL.out; omega),HU3⟩
       case measure=>simp[intOf]; omega}}
     {rw[e92] at k92;have n92:c=92:=by simpa using e92
      cases q with
      | nil=>
       have hnl1: ((n:Int)+1==(l.length:Int))=true:=by rw[beq_iff_eq]; have:=congrArg List.length HDN.out; rw[List.length_drop] at this; simp only[List.length_cons,List.length_nil] at this; omega
       have HF:=stop (.error (60,0)) (by rw[HON.out,if_neg (by rintro (h | h); exact n34 h; exact h32 h),if_pos n92]) (by unfold Lex.finish; simp only; rw[if_neg n34,if_pos (Or.inr n92)]);obtain ⟨l0,l1,l2,t0,t1,t2,f0,f1,b0,b1,z0,z1,z2,z3,z4⟩:=HR.out;clear stop e34 n34 h32 e92 n92
       go_wp2_with fail
       go_region
       all_goals
        go_wp2;refine bodyPost_ret (v:= .tuple #[.agg #[.int .i64 0,.string ⟨#[]⟩,.int .i64 0],.int .i64 0,.agg #[.int .i64 60,.int .i64 0]]) (by simp[results,Tryz.results57,go_sem,t0,t1,t2,f0,f1]) rfl ?_;exact ⟨by rw[HF.out]; rfl,(((((HB.out.setCell (p:=⟨w.heap.size,0,none⟩) (Nat.le_refl _) _).setCell (p:=⟨w.heap.size,1,none⟩) (Nat.le_refl _) _).setCell (p:=⟨w.heap.size,2,none⟩) (Nat.le_refl _) _).setCell (p:=⟨h1,0,none⟩) (Nat.le_of_lt HZ1.out.1) _).setCell (p:=⟨h1,1,none⟩) (Nat.le_of_lt HZ1.out.1) _).drew⟩
      | cons d q2=>
       have hd2:n+1 < l.length:=by have:=congrArg List.length HDN.out; rw[List.length_drop] at this; simp only[List.length_cons] at this; omega
       have hnl1: ((n:Int)+1==(l.length:Int))=false:=by rw[beq_eq_false_iff_ne]; omega
       have hi2: (n:Int)+1 < (l.length:Int):=by omega
       have hidx2: ∀W,(Instr.index 9 (.string ⟨l.toArray⟩) (.int .i64 ((n:Int)+1))).run Tryz.prog W= .ok (.int .u8 d.toNat) W:=fun W=>by
        have h1:=Z0i ⟨l.toArray⟩ (n+1) (by omega) W;have h2:l[n+1]'hd2=d:=by
         have: (l.drop n)[1]? =some d:=by rw[HDN.out]; rfl
         rw[List.getElem?_drop,List.getElem?_eq_getElem hd2] at this;exact Option.some.inj this
        rw[<-h2]; exact h1
       have d110: ((d.toNat:Int)==110)=(d==110):=Z0o d 110 (by decide);have d116: ((d.toNat:Int)==116)=(d==116):=Z0o d 116 (by decide);have d34: ((d.toNat:Int)==34)=(d==34):=Z0o d 34 (by decide);have d92: ((d.toNat:Int)==92)=(d==92):=Z0o d 92 (by decide);have hone0:Lex.one (c::d::q2)=if d=110 then some (10,2) else if d=116 then some (9,2) else if d=34 then some (34,2) else if d=92 then some (92,2) else none:=by rw[HON.out,if_neg (by rintro (h | h); exact n34 h; exact h32 h),if_pos n92]
       have HE:=Y1 hone0;have HFI:Hid (Lex.finish (qs,c::d::q2)= .error (60,0)):=Y1 (by unfold Lex.finish; simp only; rw[if_neg n34,if_pos (Or.inr n92)]);clear e34 n34 h32 e92 n92 hone0;cases g110: (d==110)
       {rw[g110] at d110;cases g116: (d==116)
        {rw[g116] at d116;cases g34: (d==34)
         {rw[g34] at d34;cases g92: (d==92)
          {rw[g92] at d92;have HF:=stop (.error (60,0)) (by rw[HE.out,if_neg (by simpa using g110),if_neg (by simpa using g116),if_neg (by simpa using g34),if_neg (by simpa using g92)]) (HFI.out);obtain ⟨l0,l1,l2,t0,t1,t2,f0,f1,b0,b1,z0,z1,z2,z3,z4⟩:=HR.out;clear stop g110 g116 g34 g92
           go_wp2_with fail
           go_region
           all_goals
            go_wp2;refine bodyPost_ret (v:= .tuple #[.agg #[.int .i64 0,.string ⟨#[]⟩,.int .i64 0],.int .i64 0,.agg #[.int .i64 60,.int .i64 0]]) (by simp[results,Tryz.results57,go_sem,t0,t1,t2,f0,f1]) rfl ?_;exact ⟨by rw[HF.out]; rfl,(((((HB.out.setCell (p:=⟨w.heap.size,0,none⟩) (Nat.le_refl _) _).setCell (p:=⟨w.heap.size,1,none⟩) (Nat.le_refl _) _).setCell (p:=⟨w.heap.size,2,none⟩) (Nat.le_refl _) _).setCell (p:=⟨h1,0,none⟩) (Nat.le_of_lt HZ1.out.1) _).setCell (p:=⟨h1,1,none⟩) (Nat.le_of_lt HZ1.out.1) _).drew⟩}
          {rw[g92] at d92;have HD:Hid (d=92):=Y1 (by simpa using g92);have hone:Lex.one (r.drop a)=some (92,2):=by rw[HDR.out,HE.out,if_neg (by simpa using g110),if_neg (by simpa using g116),if_neg (by simpa using g34),if_pos (by simpa using g92)]
           obtain ⟨k1,k2,k3,k4⟩:=Lex.Z1P HOK.out HRQ.out HAQ.out hone;have HK:=Y1 (And.intro k1 (And.intro k2 (And.intro k3 k4)));clear hone k1 k2 k3 k4 stop g110 g116 g34 g92
           go_wp2_with (at_builtin; refine wpList_append_own _ rfl _ _ 137 rfl W0.heap.size 5 i0 (.int .u8 0) 1 1 Tryz.underlying137 hi hz0 hz1 hz2 rfl (by decide) _ _ _ rfl (HO.out.alloc _) ⟨wr.heap.size,0,none⟩ 1 1 [.int .u8 (d.toNat:Int)] rfl rfl (World.news_of_block (heap_alloc_new wr _)) (by intro u hu; simp at hu; subst hu; rfl) (by unfold maxLen; omega) (by omega) (by simp; omega) ?_)
           intro v' w3 hown3 hgrow _;have hb3:=(HBW.out.alloc hbw (.cells #[.int .u8 (d.toNat:Int)] 5)).grown hgrow (by simp; omega) (fun k hk=>(HO.out.lt k hk).1);have HU3:Hid (QInv r W0 w3 v' (a+2)):=Y1 ⟨_,HK.out.1,HK.out.2.1,HK.out.2.2.1,by rw[Z1h,Utf.Z1Q,List.length_append]; rw[HD.out] at hown3; exact hown3,hb3⟩;clear hown3 hgrow hb3;go_wp2
           go_roundw
           case rel=>exact ⟨a+2,by rw[HN.out]; go_num,(by have:=HK.out.2.2.2; have:=HN.out; have:=HLL.out; omega),HU3⟩
           case measure=>simp[intOf]; omega}}
         {rw[g34] at d34;have HD:Hid (d=34):=Y1 (by simpa using g34);have hone:Lex.one (r.drop a)=some (34,2):=by rw[HDR.out,HE.out,if_neg (by simpa using g110),if_neg (by simpa using g116),if_pos (by simpa using g34)]
          obtain ⟨k1,k2,k3,k4⟩:=Lex.Z1P HOK.out HRQ.out HAQ.out hone;have HK:=Y1 (And.intro k1 (And.intro k2 (And.intro k3 k4)));clear hone k1 k2 k3 k4 stop g110 g116 g34
          go_wp2_with (at_builtin; refine wpList_append_own _ rfl _ _ 137 rfl W0.heap.size 5 i0 (.int .u8 0) 1 1 Tryz.underlying137 hi hz0 hz1 hz2 rfl (by decide) _ _ _ rfl (HO.out.alloc _) ⟨wr.heap.size,0,none⟩ 1 1 [.int .u8 (d.toNat:Int)] rfl rfl (World.news_of_block (heap_alloc_new wr _)) (by intro u hu; simp at hu; subst hu; rfl) (by unfold maxLen; omega) (by omega) (by simp; omega) ?_)
          intro v' w3 hown3 hgrow _;have hb3:=(HBW.out.alloc hbw (.cells #[.int .u8 (d.toNat:Int)] 5)).grown hgrow (by simp; omega) (fun k hk=>(HO.out.lt k hk).1);have HU3:Hid (QInv r W0 w3 v' (a+2)):=Y1 ⟨_,HK.out.1,HK.out.2.1,HK.out.2.2.1,by rw[Z1h,Utf.Z1Q,List.length_append]; rw[HD.out] at hown3; exact hown3,hb3⟩;clear hown3 hgrow hb3;go_wp2
          go_roundw
          case rel=>exact ⟨a+2,by rw[HN.out]; go_num,(by have:=HK.out.2.2.2; have:=HN.out; have:=HLL.out; omega),HU3⟩
          case measure=>simp[intOf]; omega}}
        {rw[g116] at d116;have hone:Lex.one (r.drop a)=some (9,2):=by rw[HDR.out,HE.out,if_neg (by simpa using g110),if_pos (by simpa using g116)]
         obtain ⟨k1,k2,k3,k4⟩:=Lex.Z1P HOK.out HRQ.out HAQ.out hone;have HK:=Y1 (And.intro k1 (And.intro k2 (And.intro k3 k4)));clear hone k1 k2 k3 k4 stop g110 g116 d34 d92
         go_wp2_with (at_builtin; refine wpList_append_own _ rfl _ _ 137 rfl W0.heap.size 5 i0 (.int .u8 0) 1 1 Tryz.underlying137 hi hz0 hz1 hz2 rfl (by decide) _ _ _ rfl (HO.out.alloc _) ⟨wr.heap.size,0,none⟩ 1 1 [.int .u8 9] rfl rfl (World.news_of_block (heap_alloc_new wr _)) (by intro u hu; simp at hu; subst hu; rfl) (by unfold maxLen; omega) (by omega) (by simp; omega) ?_)
         intro v' w3 hown3 hgrow _;have hb3:=(HBW.out.alloc hbw (.cells #[.int .u8 9] 5)).grown hgrow (by simp; omega) (fun k hk=>(HO.out.lt k hk).1);have HU3:Hid (QInv r W0 w3 v' (a+2)):=Y1 ⟨_,HK.out.1,HK.out.2.1,HK.out.2.2.1,by rw[Z1h,Utf.Z1Q,List.length_append]; exact hown3,hb3⟩;clear hown3 hgrow hb3;go_wp2
         go_roundw
         case rel=>exact ⟨a+2,by rw[HN.out]; go_num,(by have:=HK.out.2.2.2; have:=HN.out; have:=HLL.out; omega),HU3⟩
         case measure=>simp[intOf]; omega}}
       {rw[g110] at d110;have hone:Lex.one (r.drop a)=some (10,2):=by rw[HDR.out,HE.out,if_pos (by simpa using g110)]
        obtain ⟨k1,k2,k3,k4⟩:=Lex.Z1P HOK.out HRQ.out HAQ.out hone;have HK:=Y1 (And.intro k1 (And.intro k2 (And.intro k3 k4)));clear hone k1 k2 k3 k4 stop g110 d116 d34 d92
        go_wp2_with (at_builtin; refine wpList_append_own _ rfl _ _ 137 rfl W0.heap.size 5 i0 (.int .u8 0) 1 1 Tryz.underlying137 hi hz0 hz1 hz2 rfl (by decide) _ _ _ rfl (HO.out.alloc _) ⟨wr.heap.size,0,none⟩ 1 1 [.int .u8 10] rfl rfl (World.news_of_block (heap_alloc_new wr _)) (by intro u hu; simp at hu; subst hu; rfl) (by unfold maxLen; omega) (by omega) (by simp; omega) ?_)
        intro v' w3 hown3 hgrow _;have hb3:=(HBW.out.alloc hbw (.cells #[.int .u8 10] 5)).grown hgrow (by simp; omega) (fun k hk=>(HO.out.lt k hk).1);have HU3:Hid (QInv r W0 w3 v' (a+2)):=Y1 ⟨_,HK.out.1,HK.out.2.1,HK.out.2.2.1,by rw[Z1h,Utf.Z1Q,List.length_append]; exact hown3,hb3⟩;clear hown3 hgrow hb3;go_wp2
        go_roundw
        case rel=>exact ⟨a+2,by rw[HN.out]; go_num,(by have:=HK.out.2.2.2; have:=HN.out; have:=HLL.out; omega),HU3⟩
        case measure=>simp[intOf]; omega}}}}
   {rw[e34] at k34;have HF:=stop (.ok (⟨4,Utf.enc qs⟩,n+1)) (by rw[HON.out,if_pos (Or.inl (by simpa using e34))]) (by unfold Lex.finish; simp only; rw[if_pos (by simpa using e34), <-HAQ.out,show a+2=n+1 by have:=HN.out; omega]);obtain ⟨l0,l1,l2,t0,t1,t2,f0,f1,b0,b1,z0,z1,z2,z3,z4⟩:=HR.out;clear stop e34 k92;obtain ⟨T,hT⟩: ∃T,T=Utf.enc qs:=⟨_,rfl⟩;rw[<-hT] at hcv HF;clear hT;go_wp2;refine bodyPost_ret (v:= .tuple #[.agg #[.int .i64 4,.string ⟨T.toArray⟩,.int .i64 0],.int .i64 ((n:Int)+1),.agg #[.int .i64 0,.int .i64 0]]) (by simp[results,Tryz.results57,go_sem,t0,t1,t2,f0,f1]) rfl ?_;exact ⟨by rw[HF.out]; rfl,((((HB.out.setCell (p:=⟨w.heap.size,0,none⟩) (Nat.le_refl _) _).setCell (p:=⟨w.heap.size,1,none⟩) (Nat.le_refl _) _).setCell (p:=⟨w.heap.size,2,none⟩) (Nat.le_refl _) _).setCell (p:=⟨h1,0,none⟩) (Nat.le_of_lt HZ1.out.1) _).setCell (p:=⟨h1,1,none⟩) (Nat.le_of_lt HZ1.out.1) _⟩}}
  {have hi1: ¬(n:Int) < (l.length:Int):=by omega
   have hd0:r.drop a= []:=List.drop_eq_nil_of_le (by have:=HN.out; have:=HLL.out; omega);have HF:=stop (.error (60,0)) (by rw[hd0]; rfl) (by rw[hd0]; rfl);obtain ⟨l0,l1,l2,t0,t1,t2,f0,f1,b0,b1,z0,z1,z2,z3,z4⟩:=HR.out;clear hd0 stop
   go_wp2_with fail
   go_region
   all_goals
    go_wp2;refine bodyPost_ret (v:= .tuple #[.agg #[.int .i64 0,.string ⟨#[]⟩,.int .i64 0],.int .i64 0,.agg #[.int .i64 60,.int .i64 0]]) (by simp[results,Tryz.results57,go_sem,t0,t1,t2,f0,f1]) rfl ?_;exact ⟨by rw[HF.out]; rfl,(((((HB.out.setCell (p:=⟨w.heap.size,0,none⟩) (Nat.le_refl _) _).setCell (p:=⟨w.heap.size,1,none⟩) (Nat.le_refl _) _).setCell (p:=⟨w.heap.size,2,none⟩) (Nat.le_refl _) _).setCell (p:=⟨h1,0,none⟩) (Nat.le_of_lt HZ1.out.1) _).setCell (p:=⟨h1,1,none⟩) (Nat.le_of_lt HZ1.out.1) _).drew⟩}
end Go.Proofs.YtkncdbaoaeeoiaaGreatDoor
