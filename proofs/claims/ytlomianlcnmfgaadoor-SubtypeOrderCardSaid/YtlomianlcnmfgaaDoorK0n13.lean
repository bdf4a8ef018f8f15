/- What the proofs of SubtypeBelows, SubtypeBoth, SubtypeGreatest, SubtypeLeast, SubtypeOrder want, part 13. -/
import Derived.Lib.SmallJoins
import Derived.Test.YtlomianlcnmfgaaDoorK0n12
set_option linter.unusedVariables false
set_option linter.unusedSimpArgs false
set_option linter.unusedSectionVars false
set_option maxRecDepth 100000
set_option maxHeartbeats 16000000
namespace Go.Proofs.YtlomianlcnmfgaaDoor
open Go.RowKit Shp Sub
namespace SubM
theorem Zb0:J true (recT [[97],[98]]) (recT [[98],[99]])=some (recT [[98]]):=by kernel_rfl
theorem Zb1:J false (recT [[98],[99]]) (recT [[97],[98]])=some (recT [[97],[98],[99]]):=by kernel_rfl
theorem Zb2:J true ⟨1,[],[],[],[]⟩ ⟨3,[],[],[],[]⟩=none:=by kernel_rfl
theorem ZbD:Sub.below (recT [[97],[98]]) (recT [[97]])=true:=by kernel_rfl
theorem Zbp:Sub.below (recT [[97]]) (recT [[97],[98]])=false:=by kernel_rfl
theorem Z4A (w:World) (x:List UInt8):Strs (w.alloc (.cells #[.string ⟨x.toArray⟩] 9)) (w.alloc (.cells #[.string ⟨x.toArray⟩] 9)).heap.size (some ⟨w.heap.size,0,none⟩) (strs [x]):=by
 refine Or.inr ⟨w.heap.size,0,rfl,by simp,fun i hi=> ?_⟩;have h2:i < 1:=hi
 match i,h2 with
 | 0,_=>simp[go_sem,strs]
theorem Z6B (w:World) (x y:List UInt8):Strs (w.alloc (.cells #[.string ⟨x.toArray⟩,.string ⟨y.toArray⟩] 9)) (w.alloc (.cells #[.string ⟨x.toArray⟩,.string ⟨y.toArray⟩] 9)).heap.size (some ⟨w.heap.size,0,none⟩) (strs [x,y]):=by
 refine Or.inr ⟨w.heap.size,0,rfl,by simp,fun i hi=> ?_⟩;have h2:i < 2:=hi
 match i,h2 with
 | 0,_=>simp[go_sem,strs]
 | 1,_=>simp[go_sem,strs]
theorem Z9a (w:World) (x y z:List UInt8):Strs (w.alloc (.cells #[.string ⟨x.toArray⟩,.string ⟨y.toArray⟩,.string ⟨z.toArray⟩] 9)) (w.alloc (.cells #[.string ⟨x.toArray⟩,.string ⟨y.toArray⟩,.string ⟨z.toArray⟩] 9)).heap.size (some ⟨w.heap.size,0,none⟩) (strs [x,y,z]):=by
 refine Or.inr ⟨w.heap.size,0,rfl,by simp,fun i hi=> ?_⟩;have h2:i < 3:=hi
 match i,h2 with
 | 0,_=>simp[go_sem,strs]
 | 1,_=>simp[go_sem,strs]
 | 2,_=>simp[go_sem,strs]
theorem Z1J (l:List (List UInt8)) (t:Sh) (ht:t=recT l) (A:Option Addr) (c:Nat) (w:World) (hA:Strs w w.heap.size A (strs l)) (hl:l.length<=1000) (hx: ∀x∈l,x.length<=1000):
 Calls Tryd.prog 22 #[.slice A l.length c] w fun e w'=> ∃q:Ptr,e= .returned (.agg (Y8 t q))/\ShAt w' w'.heap.size q t/\Below w.heap.size w w':=by
 subst ht;exact (Z7J l A c w hA hl hx).mono fun e w' ⟨q,he,hk,hb⟩=>⟨q,he,hk.here,hb⟩
theorem Z5x (W:World) (B:Nat) (t:Sh) (h1:t.names= []) (h2:t.parts= []) (h3:t.of_.length<=9223372036854775807) (h4:t.name.length<=9223372036854775807):ShAt W B noneQ12 t:=
 .mk _ _ 0 0 (fun _=>noneQ12) ⟨h3,h4,by rw[h1]; nofun,by rw[h1]; simp,by rw[h2]; simp,by rw[h1]; exact Nat.le_refl _,by rw[h2]; exact Nat.le_refl _,fun _=>rfl,fun _=>rfl⟩ (Or.inl (by rw[h1]; rfl)) (Or.inl (by rw[h2]; rfl)) (fun i h=>absurd h (by rw[h2]; simp)) (fun i h=>absurd h (by rw[h2]; simp))
theorem Z3x {up:Bool} {a b j:Sh} {w:World} {e:Ending} {w':World} (h:JIs up a b w e w') (hj:J up a b=some j):
 ∃q:Ptr,e= .returned (.tuple #[.agg (Y8 j q),.bool true])/\ShAt w' w'.heap.size q j/\Below w.heap.size w w':=by
 obtain ⟨q,he,hk,hb⟩:=h;rw[hj] at he hk;exact ⟨q,he,hk.here,hb⟩
def wantStrs (l:List (List UInt8)):Want:=⟨fun v W=> ∃A,v= .slice A l.length l.length/\Strs W W.heap.size A (strs l),fun v w w' hb ⟨A,hv,h⟩=>⟨A,hv,h.next hb⟩⟩
def ZbE (a:Sh) (qa:Ptr) (j:Sh) (qj:Ptr) (m:Sh) (qm:Ptr) (k1:Sh):Nat->Want
 | 0=> .val (.agg (Y8 a qa))
 | 1=>wantStrs [[97]]
 | 2=>wantSh k1
 | 3=> .val (.bool true)
 | 4=> .val (.bool true)
 | 5=>wantStrs [[97]]
 | 6=>wantSh k1
 | 7=> .val (.agg (Y8 a qa))
 | 8=> .val (.bool false)
 | 9=> .val (.bool true)
 | 10=> .val (.bool true)
 | 11=> .val (.bool true)
 | 12=> .val (.bool true)
 | 13=> .val (.bool true)
 | 14=> .val (.bool true)
 | 15=> .val (.bool true)
 | 16=> .val (.bool true)
 | 17=> .val (.bool true)
 | 18=> .val (.bool false)
 | 19=> .val (.bool true)
 | 20=> .val (.bool true)
 | 21=> .val (.bool true)
 | 22=> .val (.agg (Y8 j qj))
 | 23=>wantStrs [[98]]
 | 24=>wantSh j
 | 25=> .val (.bool true)
 | 26=> .val (.bool true)
 | 27=> .val (.bool true)
 | 28=> .val (.agg (Y8 m qm))
 | 29=>wantStrs [[97],[98],[99]]
 | 30=>wantSh m
 | 31=> .val (.bool true)
 | 32=> .val (.bool true)
 | 33=> .val (.bool true)
 | _=> .any
theorem Z0a (w:World) (hg:WGlobs w):Y9 10 #[] w (.bool true):=by
 obtain ⟨a,ha⟩: ∃a,a=recT [[97],[98]]:=⟨_,rfl⟩;obtain ⟨b,hb⟩: ∃b,b=recT [[98],[99]]:=⟨_,rfl⟩;have HRA:=Y1 (Z1J [[97],[98]] a ha (some ⟨w.heap.size,0,none⟩) 2 _ (Z6B w [97] [98]) (by decide) (by decide));have HAE:=Y1 ha;have HBE:=Y1 hb;have hb1:=Z02 w (.cells #[.string ⟨#[97]⟩,.string ⟨#[98]⟩] 9);have HB1:=Y1 hb1;have HG:=Y1 hg;clear hg ha hb hb1;go_enter Tryd.func10,Tryd.ntmps10
 go_wp2_with fail
 refine HRA.out.mono ?_;rintro e w1 ⟨qa,rfl,hat,hb2⟩;have HBA:=Y1 (Z00 HB1.out hb2);have HAT:=Y1 hat;have HRB:=Y1 (Z1J [[98],[99]] b HBE.out (some ⟨w1.heap.size,0,none⟩) 2 _ (Z6B w1 [98] [99]) (by decide) (by decide));have HB2:=Y1 (Z02 w1 (.cells #[.string ⟨#[98]⟩,.string ⟨#[99]⟩] 9));clear hat hb2 HRA HB1
 go_wp2_with fail
 refine HRB.out.mono ?_;rintro e w2 ⟨qb,rfl,hat,hb2⟩;have hbw:=Z00 HB2.out hb2;have HBB:=Y1 (Z00 HBA.out hbw);have HAT2:=Y1 (HAT.out.next hbw);have HBT:=Y1 hat;clear hat hb2 hbw HRB HB2 HBA HAT
 go_wp2_with fail
 have hx1:=Z02 w2 (.cells (Y8 a qa) 25);have hx2:=Z02 (w2.alloc (.cells (Y8 a qa) 25)) (.cells (Y8 b qb) 25);have hxs: (w2.alloc (.cells (Y8 a qa) 25)).heap.size=w2.heap.size+1:=by simp
 have hxz: ((w2.alloc (.cells (Y8 a qa) 25)).alloc (.cells (Y8 b qb) 25)).heap.size=w2.heap.size+2:=by simp
 have HXA:=Y1 ((Z03 w2 a qa).next hx2);have hxb:=Z03 (w2.alloc (.cells (Y8 a qa) 25)) b qb;rw[hxs] at hxb;have HXB:=Y1 hxb;have HB3:=Y1 (Z00 HBB.out (Z00 hx1 hx2));have HA3:=Y1 (HAT2.out.next (Z00 hx1 hx2));have HT3:=Y1 (HBT.out.next (Z00 hx1 hx2));clear hx1 hx2 hxs hxb HBB HAT2 HBT;obtain ⟨W3,hW3⟩: ∃W3,(w2.alloc (.cells (Y8 a qa) 25)).alloc (.cells (Y8 b qb) 25)=W3:=⟨_,rfl⟩;rw[hW3] at HXA HXB HB3 HA3 HT3 hxz;have HZ3:=Y1 hxz;have HJ:=Y1 (Z1t a b qa qb W3 HA3.out HT3.out (HG.out.next HB3.out));unfold sv at HJ;rw[hW3];clear hW3 hxz;refine HJ.out.mono ?_;rintro e w4 hj;obtain ⟨j,hjj⟩: ∃j,j=recT [[98]]:=⟨_,rfl⟩;obtain ⟨qj,rfl,hat,hb4⟩:=Z3x hj (j:=j) (by rw[HAE.out,HBE.out,hjj]; exact Zb0);have HJE:=Y1 hjj;have hb5:=Z02 w4 (.cells (Y8 j qj) 25);have HB4:=Y1 (Z00 HB3.out (Z00 hb4 hb5));have HAJ:=Y1 (hat.next hb5);have HA4:=Y1 (HA3.out.next (Z00 hb4 hb5));have HT4:=Y1 (HT3.out.next (Z00 hb4 hb5));have HXJ:=Y1 (Z03 w4 j qj);have HXA4:=Y1 (HXA.out.next (Z00 hb4 hb5));have HXB4:=Y1 (HXB.out.next (Z00 hb4 hb5));clear hat hj hb4 hb5 hjj HJ HXA HXB HA3 HT3 HB3;obtain ⟨W4,hW4⟩: ∃W4,w4.alloc (.cells (Y8 j qj) 25)=W4:=⟨_,rfl⟩;rw[hW4] at HB4 HAJ HA4 HT4 HXJ HXA4 HXB4;obtain ⟨_,⟨a0,a1,a2,a3,a4⟩,_⟩:=HXA4.out;obtain ⟨_,⟨b0,b1,b2,b3,b4⟩,_⟩:=HXB4.out;simp only[Nat.zero_add] at a0 a1 a2 a3 a4 b0 b1 b2 b3 b4;have HM:=Y1 (Z1R b a qb qa W4 HT4.out HA4.out (HG.out.next HB4.out));unfold sv at HM
 go_wp2_with fail
 refine HM.out.mono ?_;rintro e w5 hj;obtain ⟨m,hmm⟩: ∃m,m=recT [[97],[98],[99]]:=⟨_,rfl⟩;obtain ⟨qm,rfl,hat,hb4⟩:=Z3x hj (j:=m) (by rw[HAE.out,HBE.out,hmm]; exact Zb1);have HME:=Y1 hmm;have hb5:=Z02 w5 (.cells (Y8 m qm) 25);have HB5:=Y1 (Z00 HB4.out (Z00 hb4 hb5));have HAM:=Y1 (hat.next hb5);have HA5:=Y1 (HA4.out.next (Z00 hb4 hb5));have HJ5:=Y1 (HAJ.out.next (Z00 hb4 hb5));have HXM:=Y1 (Z03 w5 m qm);have HXA5:=Y1 (HXA4.out.next (Z00 hb4 hb5));have HXJ5:=Y1 (HXJ.out.next (Z00 hb4 hb5));clear hat hj hb4 hb5 hmm HM HXA4 HXB4 HXJ HA4 HT4 HB4 HAJ a0 a1 a2 a3 a4 b0 b1 b2 b3 b4 hW4;obtain ⟨W5,hW5⟩: ∃W5,w5.alloc (.cells (Y8 m qm) 25)=W5:=⟨_,rfl⟩;rw[hW5] at HB5 HAM HA5 HJ5 HXM HXA5 HXJ5;have HN:=Y1 (Z1t ⟨1,[],[],[],[]⟩ ⟨3,[],[],[],[]⟩ noneQ12 noneQ12 W5 (Z5x W5 _ _ rfl rfl (by decide) (by decide)) (Z5x W5 _ _ rfl rfl (by decide) (by decide)) (HG.out.next HB5.out));unfold sv at HN
 go_wp2_with fail
 refine HN.out.mono ?_;rintro e w6 hj;obtain ⟨qn,he,hb4⟩: ∃q:Ptr,e= .returned (.tuple #[.agg #[.int .i64 0,.string ⟨#[]⟩,.string ⟨#[]⟩,.slice q.A 0 q.c,.slice q.P 0 q.d],.bool false])/\Below W5.heap.size W5 w6:=by
  obtain ⟨q,h1, -,h2⟩:=hj;rw[Zb2] at h1;exact ⟨q,h1,h2⟩
 subst he;have hb5:=Z02 w6 (.cells #[.int .i64 0,.string ⟨#[]⟩,.string ⟨#[]⟩,.slice qn.A 0 qn.c,.slice qn.P 0 qn.d] 25);have HB6:=Y1 (Z00 HB5.out (Z00 hb4 hb5));have HA6:=Y1 (HA5.out.next (Z00 hb4 hb5));have HJ6:=Y1 (HJ5.out.next (Z00 hb4 hb5));have HM6:=Y1 (HAM.out.next (Z00 hb4 hb5));have HXA6:=Y1 (HXA5.out.next (Z00 hb4 hb5));have HXJ6:=Y1 (HXJ5.out.next (Z00 hb4 hb5));have HXM6:=Y1 (HXM.out.next (Z00 hb4 hb5));clear hj hb4 hb5 HN HA5 HJ5 HAM HXA5 HXJ5 HXM HB5 hW5;obtain ⟨W6,hW6⟩: ∃W6,w6.alloc (.cells #[.int .i64 0,.string ⟨#[]⟩,.string ⟨#[]⟩,.slice qn.A 0 qn.c,.slice qn.P 0 qn.d] 25)=W6:=⟨_,rfl⟩;rw[hW6] at HB6 HA6 HJ6 HM6 HXA6 HXJ6 HXM6
 go_wp2_with fail
 obtain ⟨k1,hk1⟩: ∃t,t=recT [[97]]:=⟨_,rfl⟩;have HK1:=Y1 hk1;clear hk1 hW6;refine Z0y (rs:= [0,1,2,3,4,5,6,7,8,9,10,11,12,13,14,15,16,17,18,19,20,21,22,23,24,25,26,27,28,29,30,31,32,33])
  (fun u'=> { tmps:=#[u' 33,.pointer (some { block:=w2.heap.size,off:=0 }),.pointer (some { block:=w2.heap.size+1,off:=0 }),.pointer (some { block:=w4.heap.size,off:=0 }),.bool true,.pointer (some { block:=w5.heap.size,off:=0 }),.bool true,.pointer (some { block:=w6.heap.size,off:=0 }),.bool false,.slice (some { block:=w.heap.size,off:=0 }) 2 2,.agg (Y8 a qa),.slice (some { block:=w1.heap.size,off:=0 }) 2 2,.agg (Y8 b qb),.tuple #[.agg (Y8 j qj),.bool true],.agg (Y8 a qa),.agg (Y8 b qb),.tuple #[.agg (Y8 j qj),.bool true],.agg (Y8 j qj),.bool true,.tuple #[.agg (Y8 m qm),.bool true],.agg (Y8 b qb),.agg (Y8 a qa),.tuple #[.agg (Y8 m qm),.bool true],.agg (Y8 m qm),.bool true,.tuple #[.agg #[.int .i64 0,.string { data:=#[] },.string { data:=#[] },.slice qn.A 0 qn.c,.slice qn.P 0 qn.d],.bool false],.agg #[.int .i64 1,.string { data:=#[] },.string { data:=#[] },.slice none 0 0,.slice none 0 0],.agg #[.int .i64 3,.string { data:=#[] },.string { data:=#[] },.slice none 0 0,.slice none 0 0],.tuple #[.agg #[.int .i64 0,.string { data:=#[] },.string { data:=#[] },.slice qn.A 0 qn.c,.slice qn.P 0 qn.d],.bool false],.agg #[.int .i64 0,.string { data:=#[] },.string { data:=#[] },.slice qn.A 0 qn.c,.slice qn.P 0 qn.d],.bool false,u' 0,u' 1,u' 2,u' 3,u' 4,u' 5,u' 6,u' 7,u' 8,u' 9,u' 10,u' 11,u' 12,u' 13,u' 14,u' 15,u' 16,u' 17,u' 18,u' 19,u' 20,u' 21,u' 22,u' 23,u' 24,u' 25,u' 26,u' 27,u' 28,u' 29,u' 30,u' 31,u' 32],defers:= [] })
  (fun j=>([undef,undef,undef,undef,undef,undef,undef,undef,undef,undef,undef,undef,undef,undef,undef,undef,undef,undef,undef,undef,undef,undef,undef,undef,undef,undef,undef,undef,undef,undef,undef,undef,undef,.bool false]:List Value).getD j undef) (ZbE a qa j qj m qm k1) (fun W=>Below W6.heap.size W6 W) (by kernel_rfl) (by kernel_rfl) (by kernel_rfl) Y2.drew ?_ ?_
 refine StepsAt.cons _ rfl (fun u' W K' hJ hd hK=> ?_) ?_
 {obtain ⟨_,⟨y0,y1,y2,y3,y4⟩,_⟩:=HXA6.out.next hJ;simp only[Nat.zero_add] at y0 y1 y2 y3 y4;refine Y0 hK hJ rfl rfl rfl ?_
  try dsimp only
  go_simp}
 refine StepsAt.cons _ rfl (fun u' W K' hJ hd hK=> ?_) ?_
 {refine Z01 (v:= .slice (some ⟨W.heap.size,0,none⟩) 1 1) (W':=W.alloc (.cells #[.string ⟨#[97]⟩] 9)) rfl ?_ (hK.out _ _ ⟨_,rfl,Z4A W [97]⟩ (Z00 hJ (Z02 W (.cells #[.string ⟨#[97]⟩] 9))) (Z02 W (.cells #[.string ⟨#[97]⟩] 9)))
  try dsimp only
  go_simp}
 refine StepsAt.cons _ rfl (fun u' W K' hJ hd hK=> ?_) ?_
 {obtain ⟨A1,d1,s1⟩:=hd 1 (by kernel_rfl);refine Z04 (f:=22) (args:=#[.slice A1 1 1]) (W':=W) rfl ?_ ((Z1J [[97]] k1 HK1.out A1 1 W s1 (by decide) (by decide)).mono fun e w' ⟨q',he,ha,hb⟩=>⟨_,he,hK.out _ _ ⟨q',rfl,ha⟩ (Z00 hJ hb) hb⟩)
  try dsimp only
  go_simp}
 refine StepsAt.cons _ rfl (fun u' W K' hJ hd hK=> ?_) ?_
 {have d0:_=_:=hd 0 (by kernel_rfl);obtain ⟨q2,d2,a2⟩:=hd 2 (by kernel_rfl);refine Z04 (f:=8) (args:=#[.agg (Y8 a qa),.agg (Y8 k1 q2)]) (W':=W) rfl ?_ ((Z07 a k1 qa q2 W (HA6.out.next hJ) a2 (HG.out.next (Z00 HB6.out hJ))).mono fun e w' h=>⟨_,h.1,hK.out _ _ (by rw[HAE.out,HK1.out,ZbD]; rfl) (Z00 hJ h.2) h.2⟩)
  try dsimp only
  go_simp}
 refine StepsAt.cons _ rfl (fun u' W K' hJ hd hK=> ?_) ?_
 {have d3:_=_:=hd 3 (by kernel_rfl);refine Y0 hK hJ rfl rfl rfl ?_
  try dsimp only
  go_simp}
 refine StepsAt.cons _ rfl (fun u' W K' hJ hd hK=> ?_) ?_
 {have dg:_=_:=hd 4 (by kernel_rfl);refine Z01 (v:= .slice (some ⟨W.heap.size,0,none⟩) 1 1) (W':=W.alloc (.cells #[.string ⟨#[97]⟩] 9)) ?_ ?_ (hK.out _ _ ⟨_,rfl,Z4A W [97]⟩ (Z00 hJ (Z02 W (.cells #[.string ⟨#[97]⟩] 9))) (Z02 W (.cells #[.string ⟨#[97]⟩] 9)))
  {simp[Region.wanted,yielded,dg]}
  {try dsimp only
   go_simp}}
 refine StepsAt.cons _ rfl (fun u' W K' hJ hd hK=> ?_) ?_
 {have dg:_=_:=hd 4 (by kernel_rfl);obtain ⟨A5,d5,s5⟩:=hd 5 (by kernel_rfl);refine Z04 (f:=22) (args:=#[.slice A5 1 1]) (W':=W) ?_ ?_ ((Z1J [[97]] k1 HK1.out A5 1 W s5 (by decide) (by decide)).mono fun e w' ⟨q',he,ha,hb⟩=>⟨_,he,hK.out _ _ ⟨q',rfl,ha⟩ (Z00 hJ hb) hb⟩)
  {simp[Region.wanted,yielded,dg]}
  {try dsimp only
   go_simp}}
 refine StepsAt.cons _ rfl (fun u' W K' hJ hd hK=> ?_) ?_
 {have dg:_=_:=hd 4 (by kernel_rfl);obtain ⟨_,⟨y0,y1,y2,y3,y4⟩,_⟩:=HXA6.out.next hJ;simp only[Nat.zero_add] at y0 y1 y2 y3 y4;refine Y0 hK hJ rfl rfl ?_ ?_
  {simp[Region.wanted,yielded,dg]}
  {try dsimp only
   go_simp}}
 refine StepsAt.cons _ rfl (fun u' W K' hJ hd hK=> ?_) ?_
 {have dg:_=_:=hd 4 (by kernel_rfl);obtain ⟨q6,d6,a6⟩:=hd 6 (by kernel_rfl);have d7:_=_:=hd 7 (by kernel_rfl);refine Z04 (f:=8) (args:=#[.agg (Y8 k1 q6),.agg (Y8 a qa)]) (W':=W) ?_ ?_ ((Z07 k1 a q6 qa W a6 (HA6.out.next hJ) (HG.out.next (Z00 HB6.out hJ))).mono fun e w' h=>⟨_,h.1,hK.out _ _ (by rw[HAE.out,HK1.out,Zbp]; rfl) (Z00 hJ h.2) h.2⟩)
  {simp[Region.wanted,yielded,dg]}
  {try dsimp only
   go_simp}}
 refine StepsAt.cons _ rfl (fun u' W K' hJ hd hK=> ?_) ?_
 {have dg:_=_:=hd 4 (by kernel_rfl);have d8:_=_:=hd 8 (by kernel_rfl);refine Y0 hK hJ rfl rfl ?_ ?_
  {simp[Region.wanted,yielded,dg]}
  {try dsimp only
   go_simp}}
 refine StepsAt.cons _ rfl (fun u' W K' hJ hd hK=> ?_) ?_
 {have d4:_=_:=hd 4 (by kernel_rfl);have d9:_=_:=hd 9 (by kernel_rfl);refine Y0 hK hJ rfl rfl rfl ?_
  try dsimp only
  go_simp}
 refine StepsAt.cons _ rfl (fun u' W K' hJ hd hK=> ?_) ?_
 {have d10:_=_:=hd 10 (by kernel_rfl);refine Y0 hK hJ rfl rfl rfl ?_
  try dsimp only
  go_simp}
 refine StepsAt.cons _ rfl (fun u' W K' hJ hd hK=> ?_) ?_
 {have dg:_=_:=hd 11 (by kernel_rfl);refine Y0 hK hJ rfl rfl ?_ ?_
  {simp[Region.wanted,yielded,dg]}
  {try dsimp only
   go_simp}}
 refine StepsAt.cons _ rfl (fun u' W K' hJ hd hK=> ?_) ?_
 {have d11:_=_:=hd 11 (by kernel_rfl);have d12:_=_:=hd 12 (by kernel_rfl);refine Y0 hK hJ rfl rfl rfl ?_
  try dsimp only
  go_simp}
 refine StepsAt.cons _ rfl (fun u' W K' hJ hd hK=> ?_) ?_
 {have d13:_=_:=hd 13 (by kernel_rfl);refine Y0 hK hJ rfl rfl rfl ?_
  try dsimp only
  go_simp}
 refine StepsAt.cons _ rfl (fun u' W K' hJ hd hK=> ?_) ?_
 {have dg:_=_:=hd 14 (by kernel_rfl);refine Y0 hK hJ rfl rfl ?_ ?_
  {simp[Region.wanted,yielded,dg]}
  {try dsimp only
   go_simp}}
 refine StepsAt.cons _ rfl (fun u' W K' hJ hd hK=> ?_) ?_
 {have d14:_=_:=hd 14 (by kernel_rfl);have d15:_=_:=hd 15 (by kernel_rfl);refine Y0 hK hJ rfl rfl rfl ?_
  try dsimp only
  go_simp}
 refine StepsAt.cons _ rfl (fun u' W K' hJ hd hK=> ?_) ?_
 {have d16:_=_:=hd 16 (by kernel_rfl);refine Y0 hK hJ rfl rfl rfl ?_
  try dsimp only
  go_simp}
 refine StepsAt.cons _ rfl (fun u' W K' hJ hd hK=> ?_) ?_
 {have dg:_=_:=hd 17 (by kernel_rfl);refine Y0 hK hJ rfl rfl ?_ ?_
  {simp[Region.wanted,yielded,dg]}
  {try dsimp only
   go_simp}}
 refine StepsAt.cons _ rfl (fun u' W K' hJ hd hK=> ?_) ?_
 {have dg:_=_:=hd 17 (by kernel_rfl);have d18:_=_:=hd 18 (by kernel_rfl);refine Y0 hK hJ rfl rfl ?_ ?_
  {simp[Region.wanted,yielded,dg]}
  {try dsimp only
   go_simp}}
 refine StepsAt.cons _ rfl (fun u' W K' hJ hd hK=> ?_) ?_
 {have d17:_=_:=hd 17 (by kernel_rfl);have d19:_=_:=hd 19 (by kernel_rfl);refine Y0 hK hJ rfl rfl rfl ?_
  try dsimp only
  go_simp}
 refine StepsAt.cons _ rfl (fun u' W K' hJ hd hK=> ?_) ?_
 {have d20:_=_:=hd 20 (by kernel_rfl);refine Y0 hK hJ rfl rfl rfl ?_
  try dsimp only
  go_simp}
 refine StepsAt.cons _ rfl (fun u' W K' hJ hd hK=> ?_) ?_
 {have dg:_=_:=hd 21 (by kernel_rfl);obtain ⟨_,⟨y0,y1,y2,y3,y4⟩,_⟩:=HXJ6.out.next hJ;simp only[Nat.zero_add] at y0 y1 y2 y3 y4;refine Y0 hK hJ rfl rfl ?_ ?_
  {simp[Region.wanted,yielded,dg]}
  {try dsimp only
   go_simp}}
 refine StepsAt.cons _ rfl (fun u' W K' hJ hd hK=> ?_) ?_
 {have dg:_=_:=hd 21 (by kernel_rfl);refine Z01 (v:= .slice (some ⟨W.heap.size,0,none⟩) 1 1) (W':=W.alloc (.cells #[.string ⟨#[98]⟩] 9)) ?_ ?_ (hK.out _ _ ⟨_,rfl,Z4A W [98]⟩ (Z00 hJ (Z02 W (.cells #[.string ⟨#[98]⟩] 9))) (Z02 W (.cells #[.string ⟨#[98]⟩] 9)))
  {simp[Region.wanted,yielded,dg]}
  {try dsimp only
   go_simp}}
 refine StepsAt.cons _ rfl (fun u' W K' hJ hd hK=> ?_) ?_
 {have dg:_=_:=hd 21 (by kernel_rfl);obtain ⟨A23,d23,s23⟩:=hd 23 (by kernel_rfl);refine Z04 (f:=22) (args:=#[.slice A23 1 1]) (W':=W) ?_ ?_ ((Z1J [[98]] j HJE.out A23 1 W s23 (by decide) (by decide)).mono fun e w' ⟨q',he,ha,hb⟩=>⟨_,he,hK.out _ _ ⟨q',rfl,ha⟩ (Z00 hJ hb) hb⟩)
  {simp[Region.wanted,yielded,dg]}
  {try dsimp only
   go_simp}}
 refine StepsAt.cons _ rfl (fun u' W K' hJ hd hK=> ?_) ?_
 {have dg:_=_:=hd 21 (by kernel_rfl);have d22:_=_:=hd 22 (by kernel_rfl);obtain ⟨q24,d24,a24⟩:=hd 24 (by kernel_rfl);refine Z04 (f:=17) (args:=#[.agg (Y8 j qj),.agg (Y8 j q24)]) (W':=W) ?_ ?_ ((Z1j j j qj q24 W (HJ6.out.next hJ) a24).mono fun e w' h=>⟨_,h.1,hK.out _ _ (by rw[Z1l]; rfl) (Z00 hJ h.2) h.2⟩)
  {simp[Region.wanted,yielded,dg]}
  {try dsimp only
   go_simp}}
 refine StepsAt.cons _ rfl (fun u' W K' hJ hd hK=> ?_) ?_
 {have d21:_=_:=hd 21 (by kernel_rfl);have d25:_=_:=hd 25 (by kernel_rfl);refine Y0 hK hJ rfl rfl rfl ?_
  try dsimp only
  go_simp}
 refine StepsAt.cons _ rfl (fun u' W K' hJ hd hK=> ?_) ?_
 {have d26:_=_:=hd 26 (by kernel_rfl);refine Y0 hK hJ rfl rfl rfl ?_
  try dsimp only
  go_simp}
 refine StepsAt.cons _ rfl (fun u' W K' hJ hd hK=> ?_) ?_
 {have dg:_=_:=hd 27 (by kernel_rfl);obtain ⟨_,⟨y0,y1,y2,y3,y4⟩,_⟩:=HXM6.out.next hJ;simp only[Nat.zero_add] at y0 y1 y2 y3 y4;refine Y0 hK hJ rfl rfl ?_ ?_
  {simp[Region.wanted,yielded,dg]}
  {try dsimp only
   go_simp}}
 refine StepsAt.cons _ rfl (fun u' W K' hJ hd hK=> ?_) ?_
 {have dg:_=_:=hd 27 (by kernel_rfl);refine Z01 (v:= .slice (some ⟨W.heap.size,0,none⟩) 3 3) (W':=W.alloc (.cells #[.string ⟨#[97]⟩,.string ⟨#[98]⟩,.string ⟨#[99]⟩] 9)) ?_ ?_ (hK.out _ _ ⟨_,rfl,Z9a W [97] [98] [99]⟩ (Z00 hJ (Z02 W (.cells #[.string ⟨#[97]⟩,.string ⟨#[98]⟩,.string ⟨#[99]⟩] 9))) (Z02 W (.cells #[.string ⟨#[97]⟩,.string ⟨#[98]⟩,.string ⟨#[99]⟩] 9)))
  {simp[Region.wanted,yielded,dg]}
  {try dsimp only
   go_simp}}
 refine StepsAt.cons _ rfl (fun u' W K' hJ hd hK=> ?_) ?_
 {have dg:_=_:=hd 27 (by kernel_rfl);obtain ⟨A29,d29,s29⟩:=hd 29 (by kernel_rfl);refine Z04 (f:=22) (args:=#[.slice A29 3 3]) (W':=W) ?_ ?_ ((Z1J [[97],[98],[99]] m HME.out A29 3 W s29 (by decide) (by decide)).mono fun e w' ⟨q',he,ha,hb⟩=>⟨_,he,hK.out _ _ ⟨q',rfl,ha⟩ (Z00 hJ hb) hb⟩)
  {simp[Region.wanted,yielded,dg]}
  {try dsimp only
   go_simp}}
 refine StepsAt.cons _ rfl (fun u' W K' hJ hd hK=> ?_) ?_
 {have dg:_=_:=hd 27 (by kernel_rfl);have d28:_=_:=hd 28 (by kernel_rfl);obtain ⟨q30,d30,a30⟩:=hd 30 (by kernel_rfl);refine Z04 (f:=17) (args:=#[.agg (Y8 m qm),.agg (Y8 m q30)]) (W':=W) ?_ ?_ ((Z1j m m qm q30 W (HM6.out.next hJ) a30).mono fun e w' h=>⟨_,h.1,hK.out _ _ (by rw[Z1l]; rfl) (Z00 hJ h.2) h.2⟩)
  {simp[Region.wanted,yielded,dg]}
  {try dsimp only
   go_simp}}
 refine StepsAt.cons _ rfl (fun u' W K' hJ hd hK=> ?_) ?_
 {have d27:_=_:=hd 27 (by kernel_rfl);have d31:_=_:=hd 31 (by kernel_rfl);refine Y0 hK hJ rfl rfl rfl ?_
  try dsimp only
  go_simp}
 refine StepsAt.cons _ rfl (fun u' W K' hJ hd hK=> ?_) StepsAt.nil
 {have d32:_=_:=hd 32 (by kernel_rfl);refine Y0 hK hJ rfl rfl rfl ?_
  try dsimp only
  go_simp}
 intro u' W' hJ' hok
 try dsimp only
 rw[show u' 33= .bool true from hok 33 (by decide)];clear hok;go_wp2;go_ret;exact ⟨rfl,Z00 HB6.out hJ'⟩
end SubM
end Go.Proofs.YtlomianlcnmfgaaDoor
namespace Go.Proofs.YtlomianlcnmfgaaDoor
section
open Go.RowKit Shp
theorem Z0x {H:Type} {enc:TypeId×Value->H} {W:World} {base b0:Nat} {held:Bool} {v:Value} {d:DataW H} {p:List MemPlace}
 (hv:Value.okWide Tryd.prog W .any b0 25 v) (h:DataW.Trod enc Tryd.prog W base (fun _=>true) held 25 v d p):
 ∃(t:Sh) (q:Ptr),v= .agg (Y8 t q)/\ShAt W W.heap.size q t:=by
 obtain ⟨cs,rfl,hsz⟩:=Go.WideShapes.okWide_struct Tryd.underlying25 hv;obtain ⟨n,hn⟩:=h;obtain ⟨t,q,hcs,hat⟩:=Z8f n hn;refine ⟨t,q, ?_,hat⟩;congr 1;apply Array.ext';exact hcs
end
end Go.Proofs.YtlomianlcnmfgaaDoor
