/- What the proofs of SubtypeOrder want, part 1. -/
import Derived.Test.YtlomianlcnmfgaaDoorK12n0
import Derived.Test.YtlomianlcnmfgaaDoorK0n13
set_option linter.unusedVariables false
set_option linter.unusedSimpArgs false
set_option linter.unusedSectionVars false
set_option maxRecDepth 100000
set_option maxHeartbeats 16000000
namespace Go.Proofs.YtlomianlcnmfgaaDoor
open Go.RowKit Shp Sub
namespace SubM
def ZbF (a:Sh) (pa:Ptr) (b:Sh) (pb:Ptr) (c:Sh) (pc:Ptr):Nat->Want
 | 0=> .val (.agg (Y8 a pa))
 | 1=> .val (.agg (Y8 a pa))
 | 2=> .val (.bool true)
 | 3=> .val (.bool false)
 | 4=> .val (.bool false)
 | 5=> .val (.agg (Y8 a pa))
 | 6=> .val (.agg (Y8 a pa))
 | 7=>wantSh (sorted a)
 | 8=> .val (.bool true)
 | 9=> .val (.bool false)
 | 10=> .val (.bool false)
 | 11=> .val (.bool false)
 | 12=> .val (.agg (Y8 a pa))
 | 13=> .val (.agg (Y8 b pb))
 | 14=> .val (.bool false)
 | 15=> .val (.bool false)
 | 19=> .val (.bool false)
 | 20=> .val (.bool false)
 | 25=> .val (.bool false)
 | 26=> .val (.bool false)
 | _=> .any
def ZbG (a:Sh) (pa:Ptr) (b:Sh) (pb:Ptr) (c:Sh) (pc:Ptr):Nat->Want
 | 0=> .val (.agg (Y8 a pa))
 | 1=> .val (.agg (Y8 b pb))
 | 2=> .val (.bool false)
 | 3=> .val (.bool false)
 | 7=> .val (.bool false)
 | 8=> .val (.agg (Y8 a pa))
 | 9=> .val (.agg (Y8 b pb))
 | 10=> .val (.bool false)
 | 11=> .val (.bool true)
 | 12=> .val (.bool true)
 | 13=> .val (.bool true)
 | 14=> .val (.bool true)
 | 15=> .val (.bool true)
 | _=> .any
def ZbH (a:Sh) (pa:Ptr) (b:Sh) (pb:Ptr) (c:Sh) (pc:Ptr):Nat->Want
 | 0=> .val (.agg (Y8 a pa))
 | 1=> .val (.agg (Y8 a pa))
 | 2=> .val (.bool true)
 | 3=> .val (.bool false)
 | 4=> .val (.bool false)
 | 5=> .val (.agg (Y8 a pa))
 | 6=> .val (.agg (Y8 a pa))
 | 7=>wantSh (sorted a)
 | 8=> .val (.bool true)
 | 9=> .val (.bool false)
 | 10=> .val (.bool false)
 | 11=> .val (.bool false)
 | 12=> .val (.agg (Y8 a pa))
 | 13=> .val (.agg (Y8 b pb))
 | 14=> .val (.bool true)
 | 15=> .val (.bool true)
 | 16=> .val (.agg (Y8 b pb))
 | 17=> .val (.agg (Y8 c pc))
 | 18=> .val (.bool false)
 | 19=> .val (.bool false)
 | 20=> .val (.bool false)
 | 25=> .val (.bool false)
 | 26=> .val (.bool false)
 | _=> .any
def ZbI (a:Sh) (pa:Ptr) (b:Sh) (pb:Ptr) (c:Sh) (pc:Ptr):Nat->Want
 | 0=> .val (.agg (Y8 a pa))
 | 1=> .val (.agg (Y8 b pb))
 | 2=> .val (.bool true)
 | 3=> .val (.bool true)
 | 4=> .val (.agg (Y8 b pb))
 | 5=> .val (.agg (Y8 a pa))
 | 6=> .val (.bool false)
 | 7=> .val (.bool false)
 | 8=> .val (.agg (Y8 a pa))
 | 9=> .val (.agg (Y8 b pb))
 | 10=> .val (.bool false)
 | 11=> .val (.bool true)
 | 12=> .val (.bool true)
 | 13=> .val (.bool true)
 | 14=> .val (.bool true)
 | 15=> .val (.bool true)
 | _=> .any
def ZbJ (a:Sh) (pa:Ptr) (b:Sh) (pb:Ptr) (c:Sh) (pc:Ptr):Nat->Want
 | 0=> .val (.agg (Y8 a pa))
 | 1=> .val (.agg (Y8 b pb))
 | 2=> .val (.bool true)
 | 3=> .val (.bool true)
 | 4=> .val (.agg (Y8 b pb))
 | 5=> .val (.agg (Y8 a pa))
 | 6=> .val (.bool true)
 | 7=> .val (.bool true)
 | 8=> .val (.agg (Y8 a pa))
 | 9=> .val (.agg (Y8 b pb))
 | 10=> .val (.bool true)
 | 11=> .val (.bool true)
 | 12=> .val (.bool true)
 | 13=> .val (.bool true)
 | 14=> .val (.bool true)
 | 15=> .val (.bool true)
 | _=> .any
def ZbK (a:Sh) (pa:Ptr) (b:Sh) (pb:Ptr) (c:Sh) (pc:Ptr):Nat->Want
 | 0=> .val (.agg (Y8 a pa))
 | 1=> .val (.agg (Y8 a pa))
 | 2=> .val (.bool true)
 | 3=> .val (.bool false)
 | 4=> .val (.bool false)
 | 5=> .val (.agg (Y8 a pa))
 | 6=> .val (.agg (Y8 a pa))
 | 7=>wantSh (sorted a)
 | 8=> .val (.bool true)
 | 9=> .val (.bool false)
 | 10=> .val (.bool false)
 | 11=> .val (.bool false)
 | 12=> .val (.agg (Y8 a pa))
 | 13=> .val (.agg (Y8 b pb))
 | 14=> .val (.bool true)
 | 15=> .val (.bool true)
 | 16=> .val (.agg (Y8 b pb))
 | 17=> .val (.agg (Y8 c pc))
 | 18=> .val (.bool true)
 | 19=> .val (.bool true)
 | 20=> .val (.bool true)
 | 21=> .val (.agg (Y8 a pa))
 | 22=> .val (.agg (Y8 c pc))
 | 23=> .val (.bool true)
 | 24=> .val (.bool false)
 | 25=> .val (.bool false)
 | 26=> .val (.bool false)
 | _=> .any
def ZbL (a:Sh) (pa:Ptr) (b:Sh) (pb:Ptr) (c:Sh) (pc:Ptr):Nat->Want
 | 0=> .val (.agg (Y8 a pa))
 | 1=> .val (.agg (Y8 b pb))
 | 2=> .val (.bool true)
 | 3=> .val (.bool true)
 | 4=> .val (.agg (Y8 b pb))
 | 5=> .val (.agg (Y8 a pa))
 | 6=> .val (.bool false)
 | 7=> .val (.bool false)
 | 8=> .val (.agg (Y8 a pa))
 | 9=> .val (.agg (Y8 b pb))
 | 10=> .val (.bool false)
 | 11=> .val (.bool true)
 | 12=> .val (.bool true)
 | 13=> .val (.bool true)
 | 14=> .val (.bool true)
 | 15=> .val (.bool true)
 | _=> .any
def ZbM (a:Sh) (pa:Ptr) (b:Sh) (pb:Ptr) (c:Sh) (pc:Ptr):Nat->Want
 | 0=> .val (.agg (Y8 a pa))
 | 1=> .val (.agg (Y8 b pb))
 | 2=> .val (.bool true)
 | 3=> .val (.bool true)
 | 4=> .val (.agg (Y8 b pb))
 | 5=> .val (.agg (Y8 a pa))
 | 6=> .val (.bool true)
 | 7=> .val (.bool true)
 | 8=> .val (.agg (Y8 a pa))
 | 9=> .val (.agg (Y8 b pb))
 | 10=> .val (.bool true)
 | 11=> .val (.bool true)
 | 12=> .val (.bool true)
 | 13=> .val (.bool true)
 | 14=> .val (.bool true)
 | 15=> .val (.bool true)
 | _=> .any
theorem subOrder_walk (a:Sh) (pa:Ptr) (b:Sh) (pb:Ptr) (c:Sh) (pc:Ptr) (w:World) (ha:ShAt w w.heap.size pa a) (hb:ShAt w w.heap.size pb b) (hc:ShAt w w.heap.size pc c) (hg:WGlobs w):
 Y9 4 #[.agg (Y8 a pa),.agg (Y8 b pb),.agg (Y8 c pc)] w (.bool true):=by
 have hx1:=Z02 w (.cells (Y8 a pa) 25);obtain ⟨u1,hu1⟩: ∃u1,w.alloc (.cells (Y8 a pa) 25)=u1:=⟨_,rfl⟩;have hs1:u1.heap.size=w.heap.size+1:=by rw[<-hu1]; simp
 have hy1:=Z03 w a pa;rw[hu1] at hx1 hy1;have hx2:=Z02 u1 (.cells (Y8 b pb) 25);obtain ⟨u2,hu2⟩: ∃u2,u1.alloc (.cells (Y8 b pb) 25)=u2:=⟨_,rfl⟩;have hs2:u2.heap.size=w.heap.size+1+1:=by rw[<-hu2]; simp[hs1]
 have hy2:=Z03 u1 b pb;rw[hu2] at hx2 hy2;have hx3:=Z02 u2 (.cells (Y8 c pc) 25);obtain ⟨W1,hu3⟩: ∃u3,u2.alloc (.cells (Y8 c pc) 25)=u3:=⟨_,rfl⟩;have hy3:=Z03 u2 c pc;rw[hu3] at hx3 hy3;rw[hs1] at hy2;rw[hs2] at hy3;have hb23:=Z00 hx2 hx3;have hb13:=Z00 hx1 hb23;have HXa:=Y1 (hy1.next hb23);have HXb:=Y1 (hy2.next hx3);have HXc:=Y1 hy3;have HAa:=Y1 (ha.next hb13);have HAb:=Y1 (hb.next hb13);have HAc:=Y1 (hc.next hb13);have HG:=Y1 (hg.next hb13);have HB1:=Y1 hb13;have HB:=Y1 (Below.refl W1.heap.size W1);clear hx1 hx2 hx3 hy1 hy2 hy3 hb23 hb13 ha hb hc hg;go_enter Tryd.func4,Tryd.ntmps4;obtain ⟨_,⟨a0,a1,a2,a3,a4⟩,_⟩:=HXa.out.next HB.out;simp only[Nat.zero_add] at a0 a1 a2 a3 a4
 go_wp2_with fail
 refine (Z0M a pa _ (HAa.out.next HB.out) (HG.out.next HB.out)).mono ?_;rintro e w1 ⟨rfl,hb1⟩;have HB:=Y1 (Z00 HB.out hb1);clear hb1 a0 a1 a2 a3 a4 hs1 hs2 hu1 hu2 hu3;by_cases ea:check a≠0
 {have hne: (check a !=0)=true:=by simpa using ea
  clear ea
  go_wp2_with fail
  refine (Z0a _ (HG.out.next HB.out)).mono ?_;rintro e w2 ⟨rfl,hb1⟩;have HB:=Y1 (Z00 HB1.out (Z00 HB.out hb1));clear hb1;go_wp2;go_ret;exact ⟨rfl,HB.out⟩}
 {have hca:check a=0:=Decidable.not_not.1 ea;have HCa:=Y1 hca;rw[hca];clear ea hca;obtain ⟨_,⟨b0,b1,b2,b3,b4⟩,_⟩:=HXb.out.next HB.out;simp only[Nat.zero_add] at b0 b1 b2 b3 b4
  go_wp2_with fail
  refine (Z0M b pb _ (HAb.out.next HB.out) (HG.out.next HB.out)).mono ?_;rintro e w3 ⟨rfl,hb1⟩;have HB:=Y1 (Z00 HB.out hb1);clear hb1 b0 b1 b2 b3 b4;by_cases eb:check b≠0
  {have hne: (check b !=0)=true:=by simpa using eb
   clear eb
   go_wp2_with fail
   refine (Z0a _ (HG.out.next HB.out)).mono ?_;rintro e w4 ⟨rfl,hb1⟩;have HB:=Y1 (Z00 HB1.out (Z00 HB.out hb1));clear hb1;go_wp2;go_ret;exact ⟨rfl,HB.out⟩}
  {have hcb:check b=0:=Decidable.not_not.1 eb;have HCb:=Y1 hcb;rw[hcb];clear eb hcb;obtain ⟨_,⟨c0,c1,c2,c3,c4⟩,_⟩:=HXc.out.next HB.out;simp only[Nat.zero_add] at c0 c1 c2 c3 c4
   go_wp2_with fail
   refine (Z0M c pc _ (HAc.out.next HB.out) (HG.out.next HB.out)).mono ?_;rintro e w5 ⟨rfl,hb1⟩;have HB:=Y1 (Z00 HB.out hb1);clear hb1 c0 c1 c2 c3 c4;by_cases ec:check c≠0
   {have hne: (check c !=0)=true:=by simpa using ec
    clear ec
    go_wp2_with fail
    refine (Z0a _ (HG.out.next HB.out)).mono ?_;rintro e w6 ⟨rfl,hb1⟩;have HB:=Y1 (Z00 HB1.out (Z00 HB.out hb1));clear hb1;go_wp2;go_ret;exact ⟨rfl,HB.out⟩}
   {have hcc:check c=0:=Decidable.not_not.1 ec;have HCc:=Y1 hcc;rw[hcc];clear ec hcc;obtain ⟨W3,hW3⟩: ∃W,W=w5:=⟨_,rfl⟩;have HXa:=Y1 (HXa.out.next HB.out);have HXb:=Y1 (HXb.out.next HB.out);have HXc:=Y1 (HXc.out.next HB.out);have HAa:=Y1 (HAa.out.next HB.out);have HAb:=Y1 (HAb.out.next HB.out);have HAc:=Y1 (HAc.out.next HB.out);have HG:=Y1 (HG.out.next HB.out);have HB1:=Y1 (Z00 HB1.out HB.out);clear HB;rw[<-hW3] at HXa HXb HXc HAa HAb HAc HG HB1 ⊢;clear hW3;cases h1:Sub.below a b with
    | false=>
     have H1:=Y1 h1;clear h1
     go_wp2_with fail
     refine Z0y (rs:= [0,1,2,3,4,5,6,7,8,9,10,11,12,13,14,15,16,17,18,19,20,21,22,23,24,25,26])
      (fun u'=> { tmps:=#[.agg (Y8 a pa),.agg (Y8 b pb),.agg (Y8 c pc),.pointer (some { block:=w.heap.size,off:=0 }),.pointer (some { block:=w.heap.size+1,off:=0 }),.pointer (some { block:=w.heap.size+1+1,off:=0 }),.bool false,.agg (Y8 a pa),.int .i64 0,.bool false,.bool false,.agg (Y8 b pb),.int .i64 0,.bool false,.bool false,.bool false,.agg (Y8 c pc),.int .i64 0,.bool false,.bool false,undef,u' 0,u' 1,u' 2,u' 3,u' 4,u' 5,u' 6,u' 7,u' 8,u' 9,u' 10,u' 11,u' 12,u' 13,u' 14,u' 15,u' 16,u' 17,u' 18,u' 19,u' 20,u' 21,u' 22,u' 23,u' 24,u' 25,u' 26,undef,undef,undef,undef,undef,undef,undef,undef,undef,undef,undef,undef,undef,undef,undef],defers:= [] })
      (fun j=>([undef,undef,undef,undef,undef,undef,undef,undef,undef,undef,undef,undef,undef,undef,undef,undef,undef,undef,undef,undef,undef,undef,undef,undef,undef,undef,undef]:List Value).getD j undef) (ZbF a pa b pb c pc) (fun W=>Below W3.heap.size W3 W) (by kernel_rfl) (by kernel_rfl) (by kernel_rfl) Y2.drew ?_ ?_
     refine StepsAt.cons _ rfl (fun u' W K' hJ hd hK=> ?_) ?_
     {obtain ⟨_,⟨y0,y1,y2,y3,y4⟩,_⟩:=HXa.out.next hJ;simp only[Nat.zero_add] at y0 y1 y2 y3 y4;refine Y0 hK hJ rfl rfl rfl ?_
      try dsimp only
      go_simp}
     refine StepsAt.cons _ rfl (fun u' W K' hJ hd hK=> ?_) ?_
     {obtain ⟨_,⟨y0,y1,y2,y3,y4⟩,_⟩:=HXa.out.next hJ;simp only[Nat.zero_add] at y0 y1 y2 y3 y4;refine Y0 hK hJ rfl rfl rfl ?_
      try dsimp only
      go_simp}
     refine StepsAt.cons _ rfl (fun u' W K' hJ hd hK=> ?_) ?_
     {have d0:_=_:=hd 0 (by kernel_rfl);have d1:_=_:=hd 1 (by kernel_rfl);refine Z04 (f:=8) (args:=#[.agg (Y8 a pa),.agg (Y8 a pa)]) (W':=W) rfl ?_ ((Z07 a a pa pa W (HAa.out.next hJ) (HAa.out.next hJ) (HG.out.next hJ)).mono fun e w' h=>⟨_,h.1,hK.out _ _ (by rw[Z3q HCa.out]; rfl) (Z00 hJ h.2) h.2⟩)
      try dsimp only
      go_simp}
     refine StepsAt.cons _ rfl (fun u' W K' hJ hd hK=> ?_) ?_
     {have d2:_=_:=hd 2 (by kernel_rfl);refine Y0 hK hJ rfl rfl rfl ?_
      try dsimp only
      go_simp}
     refine StepsAt.cons _ rfl (fun u' W K' hJ hd hK=> ?_) ?_
     {have d3:_=_:=hd 3 (by kernel_rfl);refine Y0 hK hJ rfl rfl rfl ?_
      try dsimp only
      go_simp}
     refine StepsAt.cons _ rfl (fun u' W K' hJ hd hK=> ?_) ?_
     {have dg:_=_:=hd 4 (by kernel_rfl);obtain ⟨_,⟨y0,y1,y2,y3,y4⟩,_⟩:=HXa.out.next hJ;simp only[Nat.zero_add] at y0 y1 y2 y3 y4;refine Y0 hK hJ rfl rfl ?_ ?_
      {simp[Region.wanted,yielded,dg]}
      {try dsimp only
       go_simp}}
     refine StepsAt.cons _ rfl (fun u' W K' hJ hd hK=> ?_) ?_
     {have dg:_=_:=hd 4 (by kernel_rfl);obtain ⟨_,⟨y0,y1,y2,y3,y4⟩,_⟩:=HXa.out.next hJ;simp only[Nat.zero_add] at y0 y1 y2 y3 y4;refine Y0 hK hJ rfl rfl ?_ ?_
      {simp[Region.wanted,yielded,dg]}
      {try dsimp only
       go_simp}}
     refine StepsAt.cons _ rfl (fun u' W K' hJ hd hK=> ?_) ?_
     {have dg:_=_:=hd 4 (by kernel_rfl);have d6:_=_:=hd 6 (by kernel_rfl);refine Z04 (f:=12) (args:=#[.agg (Y8 a pa)]) (W':=W) ?_ ?_ ((Z1r a pa W (HAa.out.next hJ) (HG.out.next hJ) HCa.out).mono fun e w' ⟨q',he,ha,hb⟩=>⟨_,he,hK.out _ _ ⟨q',rfl,ha⟩ (Z00 hJ hb) hb⟩)
      {simp[Region.wanted,yielded,dg]}
      {try dsimp only
       go_simp}}
     refine StepsAt.cons _ rfl (fun u' W K' hJ hd hK=> ?_) ?_
     {have dg:_=_:=hd 4 (by kernel_rfl);have d5:_=_:=hd 5 (by kernel_rfl);obtain ⟨q7,d7,a7⟩:=hd 7 (by kernel_rfl);refine Z04 (f:=8) (args:=#[.agg (Y8 a pa),.agg (Y8 ((sorted a)) q7)]) (W':=W) ?_ ?_ ((Z07 a (sorted a) pa q7 W (HAa.out.next hJ) a7 (HG.out.next hJ)).mono fun e w' h=>⟨_,h.1,hK.out _ _ (by rw[Z2C HCa.out]; rfl) (Z00 hJ h.2) h.2⟩)
      {simp[Region.wanted,yielded,dg]}
      {try dsimp only
       go_simp}}
     refine StepsAt.cons _ rfl (fun u' W K' hJ hd hK=> ?_) ?_
     {have dg:_=_:=hd 4 (by kernel_rfl);have d8:_=_:=hd 8 (by kernel_rfl);refine Y0 hK hJ rfl rfl ?_ ?_
      {simp[Region.wanted,yielded,dg]}
      {try dsimp only
       go_simp}}
     refine StepsAt.cons _ rfl (fun u' W K' hJ hd hK=> ?_) ?_
     {have d4:_=_:=hd 4 (by kernel_rfl);have d9:_=_:=hd 9 (by kernel_rfl);refine Y0 hK hJ rfl rfl rfl ?_
      try dsimp only
      go_simp}
     refine StepsAt.cons _ rfl (fun u' W K' hJ hd hK=> ?_) ?_
     {have d10:_=_:=hd 10 (by kernel_rfl);refine Y0 hK hJ rfl rfl rfl ?_
      try dsimp only
      go_simp}
     refine StepsAt.cons _ rfl (fun u' W K' hJ hd hK=> ?_) ?_
     {have dg:_=_:=hd 11 (by kernel_rfl);obtain ⟨_,⟨y0,y1,y2,y3,y4⟩,_⟩:=HXa.out.next hJ;simp only[Nat.zero_add] at y0 y1 y2 y3 y4;refine Y0 hK hJ rfl rfl ?_ ?_
      {simp[Region.wanted,yielded,dg]}
      {try dsimp only
       go_simp}}
     refine StepsAt.cons _ rfl (fun u' W K' hJ hd hK=> ?_) ?_
     {have dg:_=_:=hd 11 (by kernel_rfl);obtain ⟨_,⟨y0,y1,y2,y3,y4⟩,_⟩:=HXb.out.next hJ;simp only[Nat.zero_add] at y0 y1 y2 y3 y4;refine Y0 hK hJ rfl rfl ?_ ?_
      {simp[Region.wanted,yielded,dg]}
      {try dsimp only
       go_simp}}
     refine StepsAt.cons _ rfl (fun u' W K' hJ hd hK=> ?_) ?_
     {have dg:_=_:=hd 11 (by kernel_rfl);have d12:_=_:=hd 12 (by kernel_rfl);have d13:_=_:=hd 13 (by kernel_rfl);refine Z04 (f:=8) (args:=#[.agg (Y8 a pa),.agg (Y8 b pb)]) (W':=W) ?_ ?_ ((Z07 a b pa pb W (HAa.out.next hJ) (HAb.out.next hJ) (HG.out.next hJ)).mono fun e w' h=>⟨_,h.1,hK.out _ _ (by rw[H1.out]; rfl) (Z00 hJ h.2) h.2⟩)
      {simp[Region.wanted,yielded,dg]}
      {try dsimp only
       go_simp}}
     refine StepsAt.cons _ rfl (fun u' W K' hJ hd hK=> ?_) ?_
     {have dg:_=_:=hd 11 (by kernel_rfl);have d14:_=_:=hd 14 (by kernel_rfl);refine Y0 hK hJ rfl rfl ?_ ?_
      {simp[Region.wanted,yielded,dg]}
      {try dsimp only
       go_simp}}
     refine StepsAt.cons _ rfl (fun u' W K' hJ hd hK=> ?_) ?_
     {have dg:_=_:=hd 15 (by kernel_rfl);exact Z0e (by simp[Region.wanted,yielded,dg,undef]) (hK.out _ _ trivial hJ Y2)}
     refine StepsAt.cons _ rfl (fun u' W K' hJ hd hK=> ?_) ?_
     {have dg:_=_:=hd 15 (by kernel_rfl);exact Z0e (by simp[Region.wanted,yielded,dg,undef]) (hK.out _ _ trivial hJ Y2)}
     refine StepsAt.cons _ rfl (fun u' W K' hJ hd hK=> ?_) ?_
     {have dg:_=_:=hd 15 (by kernel_rfl);exact Z0e (by simp[Region.wanted,yielded,dg,undef]) (hK.out _ _ trivial hJ Y2)}
     refine StepsAt.cons _ rfl (fun u' W K' hJ hd hK=> ?_) ?_
     {have dg:_=_:=hd 11 (by kernel_rfl);have d15:_=_:=hd 15 (by kernel_rfl);refine Y0 hK hJ rfl rfl ?_ ?_
      {simp[Region.wanted,yielded,dg]}
      {try dsimp only
       go_simp}}
     refine StepsAt.cons _ rfl (fun u' W K' hJ hd hK=> ?_) ?_
     {have dg:_=_:=hd 11 (by kernel_rfl);have d19:_=_:=hd 19 (by kernel_rfl);refine Y0 hK hJ rfl rfl ?_ ?_
      {simp[Region.wanted,yielded,dg]}
      {try dsimp only
       go_simp}}
     refine StepsAt.cons _ rfl (fun u' W K' hJ hd hK=> ?_) ?_
     {have dg:_=_:=hd 20 (by kernel_rfl);exact Z0e (by simp[Region.wanted,yielded,dg,undef]) (hK.out _ _ trivial hJ Y2)}
     refine StepsAt.cons _ rfl (fun u' W K' hJ hd hK=> ?_) ?_
     {have dg:_=_:=hd 20 (by kernel_rfl);exact Z0e (by simp[Region.wanted,yielded,dg,undef]) (hK.out _ _ trivial hJ Y2)}
     refine StepsAt.cons _ rfl (fun u' W K' hJ hd hK=> ?_) ?_
     {have dg:_=_:=hd 20 (by kernel_rfl);exact Z0e (by simp[Region.wanted,yielded,dg,undef]) (hK.out _ _ trivial hJ Y2)}
     refine StepsAt.cons _ rfl (fun u' W K' hJ hd hK=> ?_) ?_
     {have dg:_=_:=hd 20 (by kernel_rfl);exact Z0e (by simp[Region.wanted,yielded,dg,undef]) (hK.out _ _ trivial hJ Y2)}
     refine StepsAt.cons _ rfl (fun u' W K' hJ hd hK=> ?_) ?_
     {have dg:_=_:=hd 11 (by kernel_rfl);have d20:_=_:=hd 20 (by kernel_rfl);refine Y0 hK hJ rfl rfl ?_ ?_
      {simp[Region.wanted,yielded,dg]}
      {try dsimp only
       go_simp}}
     refine StepsAt.cons _ rfl (fun u' W K' hJ hd hK=> ?_) StepsAt.nil
     {have d11:_=_:=hd 11 (by kernel_rfl);have d25:_=_:=hd 25 (by kernel_rfl);refine Y0 hK hJ rfl rfl rfl ?_
      try dsimp only
      go_simp}
     intro z' W4 hJ4 hok
     try dsimp only
     rw[show z' 26= .bool false from hok 26 (by decide)];clear hok;have HB4:=Y1 hJ4;clear hJ4
     go_wp2_with fail
     refine Z0y (rs:= [0,1,2,3,4,5,6,7,8,9,10,11,12,13,14,15])
      (fun u'=> { tmps:=#[.agg (Y8 a pa),.agg (Y8 b pb),.agg (Y8 c pc),.pointer (some { block:=w.heap.size,off:=0 }),.pointer (some { block:=w.heap.size+1,off:=0 }),.pointer (some { block:=w.heap.size+1+1,off:=0 }),u' 15,.agg (Y8 a pa),.int .i64 0,.bool false,.bool false,.agg (Y8 b pb),.int .i64 0,.bool false,.bool false,.bool false,.agg (Y8 c pc),.int .i64 0,.bool false,.bool false,undef,z' 0,z' 1,z' 2,z' 3,z' 4,z' 5,z' 6,z' 7,z' 8,z' 9,z' 10,z' 11,z' 12,z' 13,z' 14,z' 15,z' 16,z' 17,z' 18,z' 19,z' 20,z' 21,z' 22,z' 23,z' 24,z' 25,.bool false,u' 0,u' 1,u' 2,u' 3,u' 4,u' 5,u' 6,u' 7,u' 8,u' 9,u' 10,u' 11,u' 12,u' 13,u' 14],defers:= [] })
      (fun j=>([undef,undef,undef,undef,undef,undef,undef,undef,undef,undef,undef,undef,undef,undef,undef,.bool false]:List Value).getD j undef) (ZbG a pa b pb c pc) (fun W=>Below W4.heap.size W4 W) (by kernel_rfl) (by kernel_rfl) (by kernel_rfl) Y2.drew ?_ ?_
     refine StepsAt.cons _ rfl (fun u' W K' hJ hd hK=> ?_) ?_
     {obtain ⟨_,⟨y0,y1,y2,y3,y4⟩,_⟩:=HXa.out.next (Z00 HB4.out hJ);simp only[Nat.zero_add] at y0 y1 y2 y3 y4;refine Y0 hK hJ rfl rfl rfl ?_
      try dsimp only
      go_simp}
     refine StepsAt.cons _ rfl (fun u' W K' hJ hd hK=> ?_) ?_
     {obtain ⟨_,⟨y0,y1,y2,y3,y4⟩,_⟩:=HXb.out.next (Z00 HB4.out hJ);simp only[Nat.zero_add] at y0 y1 y2 y3 y4;refine Y0 hK hJ rfl rfl rfl ?_
      try dsimp only
      go_simp}
     refine StepsAt.cons _ rfl (fun u' W K' hJ hd hK=> ?_) ?_
     {have d0:_=_:=hd 0 (by kernel_rfl);have d1:_=_:=hd 1 (by kernel_rfl);refine Z04 (f:=8) (args:=#[.agg (Y8 a pa),.agg (Y8 b pb)]) (W':=W) rfl ?_ ((Z07 a b pa pb W (HAa.out.next (Z00 HB4.out hJ)) (HAb.out.next (Z00 HB4.out hJ)) (HG.out.next (Z00 HB4.out hJ))).mono fun e w' h=>⟨_,h.1,hK.out _ _ (by rw[H1.out]; rfl) (Z00 hJ h.2) h.2⟩)
      try dsimp only
      go_simp}
     refine StepsAt.cons _ rfl (fun u' W K' hJ hd hK=> ?_) ?_
     {have d2:_=_:=hd 2 (by kernel_rfl);refine Y0 hK hJ rfl rfl rfl ?_
      try dsimp only
      go_simp}
     refine StepsAt.cons _ rfl (fun u' W K' hJ hd hK=> ?_) ?_
     {have dg:_=_:=hd 3 (by kernel_rfl);exact Z0e (by simp[Region.wanted,yielded,dg,undef]) (hK.out _ _ trivial hJ Y2)}
     refine StepsAt.cons _ rfl (fun u' W K' hJ hd hK=> ?_) ?_
     {have dg:_=_:=hd 3 (by kernel_rfl);exact Z0e (by simp[Region.wanted,yielded,dg,undef]) (hK.out _ _ trivial hJ Y2)}
     refine StepsAt.cons _ rfl (fun u' W K' hJ hd hK=> ?_) ?_
     {have dg:_=_:=hd 3 (by kernel_rfl);exact Z0e (by simp[Region.wanted,yielded,dg,undef]) (hK.out _ _ trivial hJ Y2)}
     refine StepsAt.cons _ rfl (fun u' W K' hJ hd hK=> ?_) ?_
     {have d3:_=_:=hd 3 (by kernel_rfl);refine Y0 hK hJ rfl rfl rfl ?_
      try dsimp only
      go_simp}
     refine StepsAt.cons _ rfl (fun u' W K' hJ hd hK=> ?_) ?_
     {obtain ⟨_,⟨y0,y1,y2,y3,y4⟩,_⟩:=HXa.out.next (Z00 HB4.out hJ);simp only[Nat.zero_add] at y0 y1 y2 y3 y4;refine Y0 hK hJ rfl rfl rfl ?_
      try dsimp only
      go_simp}
     refine StepsAt.cons _ rfl (fun u' W K' hJ hd hK=> ?_) ?_
     {obtain ⟨_,⟨y0,y1,y2,y3,y4⟩,_⟩:=HXb.out.next (Z00 HB4.out hJ);simp only[Nat.zero_add] at y0 y1 y2 y3 y4;refine Y0 hK hJ rfl rfl rfl ?_
      try dsimp only
      go_simp}
     refine StepsAt.cons _ rfl (fun u' W K' hJ hd hK=> ?_) ?_
     {have d8:_=_:=hd 8 (by kernel_rfl);have d9:_=_:=hd 9 (by kernel_rfl);refine Z04 (f:=13) (args:=#[.agg (Y8 a pa),.agg (Y8 b pb)]) (W':=W) rfl ?_ ((Z0N a b pa pb W (HAa.out.next (Z00 HB4.out hJ)) (HAb.out.next (Z00 HB4.out hJ)) (HG.out.next (Z00 HB4.out hJ))).mono fun e w' h=>⟨_,h.1,hK.out _ _ (by rw[<-Z1O HCa.out HCb.out,H1.out]; rfl) (Z00 hJ h.2) h.2⟩)
      try dsimp only
      go_simp}
     refine StepsAt.cons _ rfl (fun u' W K' hJ hd hK=> ?_) ?_
     {have d7:_=_:=hd 7 (by kernel_rfl);have d10:_=_:=hd 10 (by kernel_rfl);refine Y0 hK hJ rfl rfl rfl ?_
      try dsimp only
      go_simp}
     refine StepsAt.cons _ rfl (fun u' W K' hJ hd hK=> ?_) ?_
     {have d11:_=_:=hd 11 (by kernel_rfl);refine Y0 hK hJ rfl rfl rfl ?_
      try dsimp only
      go_simp}
     refine StepsAt.cons _ rfl (fun u' W K' hJ hd hK=> ?_) ?_
     {have dg:_=_:=hd 12 (by kernel_rfl);refine Z04 (f:=10) (args:=#[]) (W':=W) ?_ ?_ ((Z0a W (HG.out.next (Z00 HB4.out hJ))).mono fun e w' h=>⟨_,h.1,hK.out _ _ rfl (Z00 hJ h.2) h.2⟩)
      {simp[Region.wanted,yielded,dg]}
      {try dsimp only
       go_simp}}
     refine StepsAt.cons _ rfl (fun u' W K' hJ hd hK=> ?_) ?_
     {have d12:_=_:=hd 12 (by kernel_rfl);have d13:_=_:=hd 13 (by kernel_rfl);refine Y0 hK hJ rfl rfl rfl ?_
      try dsimp only
      go_simp}
     refine StepsAt.cons _ rfl (fun u' W K' hJ hd hK=> ?_) StepsAt.nil
     {have d14:_=_:=hd 14 (by kernel_rfl);refine Y0 hK hJ rfl rfl rfl ?_
      try dsimp only
      go_simp}
     intro u' W' hJ' hok
     try dsimp only
     rw[show u' 15= .bool true from hok 15 (by decide)];clear hok;go_wp2;go_ret;exact ⟨rfl,Z00 HB1.out (Z00 HB4.out hJ')⟩
    | true=>
     have H1:=Y1 h1;clear h1;cases h1:Sub.below b c with
     | false=>
      have H2:=Y1 h1;clear h1
      go_wp2_with fail
      refine Z0y (rs:= [0,1,2,3,4,5,6,7,8,9,10,11,12,13,14,15,16,17,18,19,20,21,22,23,24,25,26])
       (fun u'=> { tmps:=#[.agg (Y8 a pa),.agg (Y8 b pb),.agg (Y8 c pc),.pointer (some { block:=w.heap.size,off:=0 }),.pointer (some { block:=w.heap.size+1,off:=0 }),.pointer (some { block:=w.heap.size+1+1,off:=0 }),.bool false,.agg (Y8 a pa),.int .i64 0,.bool false,.bool false,.agg (Y8 b pb),.int .i64 0,.bool false,.bool false,.bool false,.agg (Y8 c pc),.int .i64 0,.bool false,.bool false,undef,u' 0,u' 1,u' 2,u' 3,u' 4,u' 5,u' 6,u' 7,u' 8,u' 9,u' 10,u' 11,u' 12,u' 13,u' 14,u' 15,u' 16,u' 17,u' 18,u' 19,u' 20,u' 21,u' 22,u' 23,u' 24,u' 25,u' 26,undef,undef,undef,undef,undef,undef,undef,undef,undef,undef,undef,undef,undef,undef,undef],defers:= [] })
       (fun j=>([undef,undef,undef,undef,undef,undef,undef,undef,undef,undef,undef,undef,undef,undef,undef,undef,undef,undef,undef,undef,undef,undef,undef,undef,undef,undef,undef]:List Value).getD j undef) (ZbH a pa b pb c pc) (fun W=>Below W3.heap.size W3 W) (by kernel_rfl) (by kernel_rfl) (by kernel_rfl) Y2.drew ?_ ?_
      refine StepsAt.cons _ rfl (fun u' W K' hJ hd hK=> ?_) ?_
      {obtain ⟨_,⟨y0,y1,y2,y3,y4⟩,_⟩:=HXa.out.next hJ;simp only[Nat.zero_add] at y0 y1 y2 y3 y4;refine Y0 hK hJ rfl rfl rfl ?_
       try dsimp only
       go_simp}
      refine StepsAt.cons _ rfl (fun u' W K' hJ hd hK=> ?_) ?_
      {obtain ⟨_,⟨y0,y1,y2,y3,y4⟩,_⟩:=HXa.out.next hJ;simp only[Nat.zero_add] at y0 y1 y2 y3 y4;refine Y0 hK hJ rfl rfl rfl ?_
       try dsimp only
       go_simp}
      refine StepsAt.cons _ rfl (fun u' W K' hJ hd hK=> ?_) ?_
      {have d0:_=_:=hd 0 (by kernel_rfl);have d1:_=_:=hd 1 (by kernel_rfl);refine Z04 (f:=8) (args:=#[.agg (Y8 a pa),.agg (Y8 a pa)]) (W':=W) rfl ?_ ((Z07 a a pa pa W (HAa.out.next hJ) (HAa.out.next hJ) (HG.out.next hJ)).mono fun e w' h=>⟨_,h.1,hK.out _ _ (by rw[Z3q HCa.out]; rfl) (Z00 hJ h.2) h.2⟩)
       try dsimp only
       go_simp}
      refine StepsAt.cons _ rfl (fun u' W K' hJ hd hK=> ?_) ?_
      {have d2:_=_:=hd 2 (by kernel_rfl);refine Y0 hK hJ rfl rfl rfl ?_
       try dsimp only
       go_simp}
      refine StepsAt.cons _ rfl (fun u' W K' hJ hd hK=> ?_) ?_
      {have d3:_=_:=hd 3 (by kernel_rfl);refine Y0 hK hJ rfl rfl rfl ?_
       try dsimp only
       go_simp}
      refine StepsAt.cons _ rfl (fun u' W K' hJ hd hK=> ?_) ?_
      {have dg:_=_:=hd 4 (by kernel_rfl);obtain ⟨_,⟨y0,y1,y2,y3,y4⟩,_⟩:=HXa.out.next hJ;simp only[Nat.zero_add] at y0 y1 y2 y3 y4;refine Y0 hK hJ rfl rfl ?_ ?_
       {simp[Region.wanted,yielded,dg]}
       {try dsimp only
        go_simp}}
      refine StepsAt.cons _ rfl (fun u' W K' hJ hd hK=> ?_) ?_
      {have dg:_=_:=hd 4 (by kernel_rfl);obtain ⟨_,⟨y0,y1,y2,y3,y4⟩,_⟩:=HXa.out.next hJ;simp only[Nat.zero_add] at y0 y1 y2 y3 y4;refine Y0 hK hJ rfl rfl ?_ ?_
       {simp[Region.wanted,yielded,dg]}
       {try dsimp only
        go_simp}}
      refine StepsAt.cons _ rfl (fun u' W K' hJ hd hK=> ?_) ?_
      {have dg:_=_:=hd 4 (by kernel_rfl);have d6:_=_:=hd 6 (by kernel_rfl);refine Z04 (f:=12) (args:=#[.agg (Y8 a pa)]) (W':=W) ?_ ?_ ((Z1r a pa W (HAa.out.next hJ) (HG.out.next hJ) HCa.out).mono fun e w' ⟨q',he,ha,hb⟩=>⟨_,he,hK.out _ _ ⟨q',rfl,ha⟩ (Z00 hJ hb) hb⟩)
       {simp[Region.wanted,yielded,dg]}
       {try dsimp only
        go_simp}}
      refine StepsAt.cons _ rfl (fun u' W K' hJ hd hK=> ?_) ?_
      {have dg:_=_:=hd 4 (by kernel_rfl);have d5:_=_:=hd 5 (by kernel_rfl);obtain ⟨q7,d7,a7⟩:=hd 7 (by kernel_rfl);refine Z04 (f:=8) (args:=#[.agg (Y8 a pa),.agg (Y8 ((sorted a)) q7)]) (W':=W) ?_ ?_ ((Z07 a (sorted a) pa q7 W (HAa.out.next hJ) a7 (HG.out.next hJ)).mono fun e w' h=>⟨_,h.1,hK.out _ _ (by rw[Z2C HCa.out]; rfl) (Z00 hJ h.2) h.2⟩)
       {simp[Region.wanted,yielded,dg]}
       {try dsimp only
        go_simp}}
      refine StepsAt.cons _ rfl (fun u' W K' hJ hd hK=> ?_) ?_
      {have dg:_=_:=hd 4 (by kernel_rfl);have d8:_=_:=hd 8 (by kernel_rfl);refine Y0 hK hJ rfl rfl ?_ ?_
       {simp[Region.wanted,yielded,dg]}
       {try dsimp only
        go_simp}}
      refine StepsAt.cons _ rfl (fun u' W K' hJ hd hK=> ?_) ?_
      {have d4:_=_:=hd 4 (by kernel_rfl);have d9:_=_:=hd 9 (by kernel_rfl);refine Y0 hK hJ rfl rfl rfl ?_
       try dsimp only
       go_simp}
      refine StepsAt.cons _ rfl (fun u' W K' hJ hd hK=> ?_) ?_
      {have d10:_=_:=hd 10 (by kernel_rfl);refine Y0 hK hJ rfl rfl rfl ?_
       try dsimp only
       go_simp}
      refine StepsAt.cons _ rfl (fun u' W K' hJ hd hK=> ?_) ?_
      {have dg:_=_:=hd 11 (by kernel_rfl);obtain ⟨_,⟨y0,y1,y2,y3,y4⟩,_⟩:=HXa.out.next hJ;simp only[Nat.zero_add] at y0 y1 y2 y3 y4;refine Y0 hK hJ rfl rfl ?_ ?_
       {simp[Region.wanted,yielded,dg]}
       {try dsimp only
        go_simp}}
      refine StepsAt.cons _ rfl (fun u' W K' hJ hd hK=> ?_) ?_
      {have dg:_=_:=hd 11 (by kernel_rfl);obtain ⟨_,⟨y0,y1,y2,y3,y4⟩,_⟩:=HXb.out.next hJ;simp only[Nat.zero_add] at y0 y1 y2 y3 y4;refine Y0 hK hJ rfl rfl ?_ ?_
       {simp[Region.wanted,yielded,dg]}
       {try dsimp only
        go_simp}}
      refine StepsAt.cons _ rfl (fun u' W K' hJ hd hK=> ?_) ?_
      {have dg:_=_:=hd 11 (by kernel_rfl);have d12:_=_:=hd 12 (by kernel_rfl);have d13:_=_:=hd 13 (by kernel_rfl);refine Z04 (f:=8) (args:=#[.agg (Y8 a pa),.agg (Y8 b pb)]) (W':=W) ?_ ?_ ((Z07 a b pa pb W (HAa.out.next hJ) (HAb.out.next hJ) (HG.out.next hJ)).mono fun e w' h=>⟨_,h.1,hK.out _ _ (by rw[H1.out]; rfl) (Z00 hJ h.2) h.2⟩)
       {simp[Region.wanted,yielded,dg]}
       {try dsimp only
        go_simp}}
      refine StepsAt.cons _ rfl (fun u' W K' hJ hd hK=> ?_) ?_
      {have dg:_=_:=hd 11 (by kernel_rfl);have d14:_=_:=hd 14 (by kernel_rfl);refine Y0 hK hJ rfl rfl ?_ ?_
       {simp[Region.wanted,yielded,dg]}
       {try dsimp only
        go_simp}}
      refine StepsAt.cons _ rfl (fun u' W K' hJ hd hK=> ?_) ?_
      {have dg:_=_:=hd 15 (by kernel_rfl);obtain ⟨_,⟨y0,y1,y2,y3,y4⟩,_⟩:=HXb.out.next hJ;simp only[Nat.zero_add] at y0 y1 y2 y3 y4;refine Y0 hK hJ rfl rfl ?_ ?_
       {simp[Region.wanted,yielded,dg]}
       {try dsimp only
        go_simp}}
      refine StepsAt.cons _ rfl (fun u' W K' hJ hd hK=> ?_) ?_
      {have dg:_=_:=hd 15 (by kernel_rfl);obtain ⟨_,⟨y0,y1,y2,y3,y4⟩,_⟩:=HXc.out.next hJ;simp only[Nat.zero_add] at y0 y1 y2 y3 y4;refine Y0 hK hJ rfl rfl ?_ ?_
       {simp[Region.wanted,yielded,dg]}
       {try dsimp only
        go_simp}}
      refine StepsAt.cons _ rfl (fun u' W K' hJ hd hK=> ?_) ?_
      {have dg:_=_:=hd 15 (by kernel_rfl);have d16:_=_:=hd 16 (by kernel_rfl);have d17:_=_:=hd 17 (by kernel_rfl);refine Z04 (f:=8) (args:=#[.agg (Y8 b pb),.agg (Y8 c pc)]) (W':=W) ?_ ?_ ((Z07 b c pb pc W (HAb.out.next hJ) (HAc.out.next hJ) (HG.out.next hJ)).mono fun e w' h=>⟨_,h.1,hK.out _ _ (by rw[H2.out]; rfl) (Z00 hJ h.2) h.2⟩)
       {simp[Region.wanted,yielded,dg]}
       {try dsimp only
        go_simp}}
      refine StepsAt.cons _ rfl (fun u' W K' hJ hd hK=> ?_) ?_
      {have dg:_=_:=hd 11 (by kernel_rfl);have d15:_=_:=hd 15 (by kernel_rfl);have d18:_=_:=hd 18 (by kernel_rfl);refine Y0 hK hJ rfl rfl ?_ ?_
       {simp[Region.wanted,yielded,dg]}
       {try dsimp only
        go_simp}}
      refine StepsAt.cons _ rfl (fun u' W K' hJ hd hK=> ?_) ?_
      {have dg:_=_:=hd 11 (by kernel_rfl);have d19:_=_:=hd 19 (by kernel_rfl);refine Y0 hK hJ rfl rfl ?_ ?_
       {simp[Region.wanted,yielded,dg]}
       {try dsimp only
        go_simp}}
      refine StepsAt.cons _ rfl (fun u' W K' hJ hd hK=> ?_) ?_
      {have dg:_=_:=hd 20 (by kernel_rfl);exact Z0e (by simp[Region.wanted,yielded,dg,undef]) (hK.out _ _ trivial hJ Y2)}
      refine StepsAt.cons _ rfl (fun u' W K' hJ hd hK=> ?_) ?_
      {have dg:_=_:=hd 20 (by kernel_rfl);exact Z0e (by simp[Region.wanted,yielded,dg,undef]) (hK.out _ _ trivial hJ Y2)}
      refine StepsAt.cons _ rfl (fun u' W K' hJ hd hK=> ?_) ?_
      {have dg:_=_:=hd 20 (by kernel_rfl);exact Z0e (by simp[Region.wanted,yielded,dg,undef]) (hK.out _ _ trivial hJ Y2)}
      refine StepsAt.cons _ rfl (fun u' W K' hJ hd hK=> ?_) ?_
      {have dg:_=_:=hd 20 (by kernel_rfl);exact Z0e (by simp[Region.wanted,yielded,dg,undef]) (hK.out _ _ trivial hJ Y2)}
      refine StepsAt.cons _ rfl (fun u' W K' hJ hd hK=> ?_) ?_
      {have dg:_=_:=hd 11 (by kernel_rfl);have d20:_=_:=hd 20 (by kernel_rfl);refine Y0 hK hJ rfl rfl ?_ ?_
       {simp[Region.wanted,yielded,dg]}
       {try dsimp only
        go_simp}}
      refine StepsAt.cons _ rfl (fun u' W K' hJ hd hK=> ?_) StepsAt.nil
      {have d11:_=_:=hd 11 (by kernel_rfl);have d25:_=_:=hd 25 (by kernel_rfl);refine Y0 hK hJ rfl rfl rfl ?_
       try dsimp only
       go_simp}
      intro z' W4 hJ4 hok
      try dsimp only
      rw[show z' 26= .bool false from hok 26 (by decide)];clear hok;have HB4:=Y1 hJ4;clear hJ4;cases h1:Sub.below b a with
      | false=>
       have H3:=Y1 h1;clear h1
       go_wp2_with fail
       refine Z0y (rs:= [0,1,2,3,4,5,6,7,8,9,10,11,12,13,14,15])
        (fun u'=> { tmps:=#[.agg (Y8 a pa),.agg (Y8 b pb),.agg (Y8 c pc),.pointer (some { block:=w.heap.size,off:=0 }),.pointer (some { block:=w.heap.size+1,off:=0 }),.pointer (some { block:=w.heap.size+1+1,off:=0 }),u' 15,.agg (Y8 a pa),.int .i64 0,.bool false,.bool false,.agg (Y8 b pb),.int .i64 0,.bool false,.bool false,.bool false,.agg (Y8 c pc),.int .i64 0,.bool false,.bool false,undef,z' 0,z' 1,z' 2,z' 3,z' 4,z' 5,z' 6,z' 7,z' 8,z' 9,z' 10,z' 11,z' 12,z' 13,z' 14,z' 15,z' 16,z' 17,z' 18,z' 19,z' 20,z' 21,z' 22,z' 23,z' 24,z' 25,.bool false,u' 0,u' 1,u' 2,u' 3,u' 4,u' 5,u' 6,u' 7,u' 8,u' 9,u' 10,u' 11,u' 12,u' 13,u' 14],defers:= [] })
        (fun j=>([undef,undef,undef,undef,undef,undef,undef,undef,undef,undef,undef,undef,undef,undef,undef,.bool false]:List Value).getD j undef) (ZbI a pa b pb c pc) (fun W=>Below W4.heap.size W4 W) (by kernel_rfl) (by kernel_rfl) (by kernel_rfl) Y2.drew ?_ ?_
       refine StepsAt.cons _ rfl (fun u' W K' hJ hd hK=> ?_) ?_
       {obtain ⟨_,⟨y0,y1,y2,y3,y4⟩,_⟩:=HXa.out.next (Z00 HB4.out hJ);simp only[Nat.zero_add] at y0 y1 y2 y3 y4;refine Y0 hK hJ rfl rfl rfl ?_
        try dsimp only
        go_simp}
       refine StepsAt.cons _ rfl (fun u' W K' hJ hd hK=> ?_) ?_
       {obtain ⟨_,⟨y0,y1,y2,y3,y4⟩,_⟩:=HXb.out.next (Z00 HB4.out hJ);simp only[Nat.zero_add] at y0 y1 y2 y3 y4;refine Y0 hK hJ rfl rfl rfl ?_
        try dsimp only
        go_simp}
       refine StepsAt.cons _ rfl (fun u' W K' hJ hd hK=> ?_) ?_
       {have d0:_=_:=hd 0 (by kernel_rfl);have d1:_=_:=hd 1 (by kernel_rfl);refine Z04 (f:=8) (args:=#[.agg (Y8 a pa),.agg (Y8 b pb)]) (W':=W) rfl ?_ ((Z07 a b pa pb W (HAa.out.next (Z00 HB4.out hJ)) (HAb.out.next (Z00 HB4.out hJ)) (HG.out.next (Z00 HB4.out hJ))).mono fun e w' h=>⟨_,h.1,hK.out _ _ (by rw[H1.out]; rfl) (Z00 hJ h.2) h.2⟩)
        try dsimp only
        go_simp}
       refine StepsAt.cons _ rfl (fun u' W K' hJ hd hK=> ?_) ?_
       {have d2:_=_:=hd 2 (by kernel_rfl);refine Y0 hK hJ rfl rfl rfl ?_
        try dsimp only
        go_simp}
       refine StepsAt.cons _ rfl (fun u' W K' hJ hd hK=> ?_) ?_
       {have dg:_=_:=hd 3 (by kernel_rfl);obtain ⟨_,⟨y0,y1,y2,y3,y4⟩,_⟩:=HXb.out.next (Z00 HB4.out hJ);simp only[Nat.zero_add] at y0 y1 y2 y3 y4;refine Y0 hK hJ rfl rfl ?_ ?_
        {simp[Region.wanted,yielded,dg]}
        {try dsimp only
         go_simp}}
       refine StepsAt.cons _ rfl (fun u' W K' hJ hd hK=> ?_) ?_
       {have dg:_=_:=hd 3 (by kernel_rfl);obtain ⟨_,⟨y0,y1,y2,y3,y4⟩,_⟩:=HXa.out.next (Z00 HB4.out hJ);simp only[Nat.zero_add] at y0 y1 y2 y3 y4;refine Y0 hK hJ rfl rfl ?_ ?_
        {simp[Region.wanted,yielded,dg]}
        {try dsimp only
         go_simp}}
       refine StepsAt.cons _ rfl (fun u' W K' hJ hd hK=> ?_) ?_
       {have dg:_=_:=hd 3 (by kernel_rfl);have d4:_=_:=hd 4 (by kernel_rfl);have d5:_=_:=hd 5 (by kernel_rfl);refine Z04 (f:=8) (args:=#[.agg (Y8 b pb),.agg (Y8 a pa)]) (W':=W) ?_ ?_ ((Z07 b a pb pa W (HAb.out.next (Z00 HB4.out hJ)) (HAa.out.next (Z00 HB4.out hJ)) (HG.out.next (Z00 HB4.out hJ))).mono fun e w' h=>⟨_,h.1,hK.out _ _ (by rw[H3.out]; rfl) (Z00 hJ h.2) h.2⟩)
        {simp[Region.wanted,yielded,dg]}
        {try dsimp only
         go_simp}}
       refine StepsAt.cons _ rfl (fun u' W K' hJ hd hK=> ?_) ?_
       {have d3:_=_:=hd 3 (by kernel_rfl);have d6:_=_:=hd 6 (by kernel_rfl);refine Y0 hK hJ rfl rfl rfl ?_
        try dsimp only
        go_simp}
       refine StepsAt.cons _ rfl (fun u' W K' hJ hd hK=> ?_) ?_
       {obtain ⟨_,⟨y0,y1,y2,y3,y4⟩,_⟩:=HXa.out.next (Z00 HB4.out hJ);simp only[Nat.zero_add] at y0 y1 y2 y3 y4;refine Y0 hK hJ rfl rfl rfl ?_
        try dsimp only
        go_simp}
       refine StepsAt.cons _ rfl (fun u' W K' hJ hd hK=> ?_) ?_
       {obtain ⟨_,⟨y0,y1,y2,y3,y4⟩,_⟩:=HXb.out.next (Z00 HB4.out hJ);simp only[Nat.zero_add] at y0 y1 y2 y3 y4;refine Y0 hK hJ rfl rfl rfl ?_
        try dsimp only
        go_simp}
       refine StepsAt.cons _ rfl (fun u' W K' hJ hd hK=> ?_) ?_
       {have d8:_=_:=hd 8 (by kernel_rfl);have d9:_=_:=hd 9 (by kernel_rfl);refine Z04 (f:=13) (args:=#[.agg (Y8 a pa),.agg (Y8 b pb)]) (W':=W) rfl ?_ ((Z0N a b pa pb W (HAa.out.next (Z00 HB4.out hJ)) (HAb.out.next (Z00 HB4.out hJ)) (HG.out.next (Z00 HB4.out hJ))).mono fun e w' h=>⟨_,h.1,hK.out _ _ (by rw[<-Z1O HCa.out HCb.out,H1.out,H3.out]; rfl) (Z00 hJ h.2) h.2⟩)
        try dsimp only
        go_simp}
       refine StepsAt.cons _ rfl (fun u' W K' hJ hd hK=> ?_) ?_
       {have d7:_=_:=hd 7 (by kernel_rfl);have d10:_=_:=hd 10 (by kernel_rfl);refine Y0 hK hJ rfl rfl rfl ?_
        try dsimp only
        go_simp}
       refine StepsAt.cons _ rfl (fun u' W K' hJ hd hK=> ?_) ?_
       {have d11:_=_:=hd 11 (by kernel_rfl);refine Y0 hK hJ rfl rfl rfl ?_
        try dsimp only
        go_simp}
       refine StepsAt.cons _ rfl (fun u' W K' hJ hd hK=> ?_) ?_
       {have dg:_=_:=hd 12 (by kernel_rfl);refine Z04 (f:=10) (args:=#[]) (W':=W) ?_ ?_ ((Z0a W (HG.out.next (Z00 HB4.out hJ))).mono fun e w' h=>⟨_,h.1,hK.out _ _ rfl (Z00 hJ h.2) h.2⟩)
        {simp[Region.wanted,yielded,dg]}
        {try dsimp only
         go_simp}}
       refine StepsAt.cons _ rfl (fun u' W K' hJ hd hK=> ?_) ?_
       {have d12:_=_:=hd 12 (by kernel_rfl);have d13:_=_:=hd 13 (by kernel_rfl);refine Y0 hK hJ rfl rfl rfl ?_
        try dsimp only
        go_simp}
       refine StepsAt.cons _ rfl (fun u' W K' hJ hd hK=> ?_) StepsAt.nil
       {have d14:_=_:=hd 14 (by kernel_rfl);refine Y0 hK hJ rfl rfl rfl ?_
        try dsimp only
        go_simp}
       intro u' W' hJ' hok
       try dsimp only
       rw[show u' 15= .bool true from hok 15 (by decide)];clear hok;go_wp2;go_ret;exact ⟨rfl,Z00 HB1.out (Z00 HB4.out hJ')⟩
      | true=>
       have H3:=Y1 h1;clear h1
       go_wp2_with fail
       refine Z0y (rs:= [0,1,2,3,4,5,6,7,8,9,10,11,12,13,14,15])
        (fun u'=> { tmps:=#[.agg (Y8 a pa),.agg (Y8 b pb),.agg (Y8 c pc),.pointer (some { block:=w.heap.size,off:=0 }),.pointer (some { block:=w.heap.size+1,off:=0 }),.pointer (some { block:=w.heap.size+1+1,off:=0 }),u' 15,.agg (Y8 a pa),.int .i64 0,.bool false,.bool false,.agg (Y8 b pb),.int .i64 0,.bool false,.bool false,.bool false,.agg (Y8 c pc),.int .i64 0,.bool false,.bool false,undef,z' 0,z' 1,z' 2,z' 3,z' 4,z' 5,z' 6,z' 7,z' 8,z' 9,z' 10,z' 11,z' 12,z' 13,z' 14,z' 15,z' 16,z' 17,z' 18,z' 19,z' 20,z' 21,z' 22,z' 23,z' 24,z' 25,.bool false,u' 0,u' 1,u' 2,u' 3,u' 4,u' 5,u' 6,u' 7,u' 8,u' 9,u' 10,u' 11,u' 12,u' 13,u' 14],defers:= [] })
        (fun j=>([undef,undef,undef,undef,undef,undef,undef,undef,undef,undef,undef,undef,undef,undef,undef,.bool false]:List Value).getD j undef) (ZbJ a pa b pb c pc) (fun W=>Below W4.heap.size W4 W) (by kernel_rfl) (by kernel_rfl) (by kernel_rfl) Y2.drew ?_ ?_
       refine StepsAt.cons _ rfl (fun u' W K' hJ hd hK=> ?_) ?_
       {obtain ⟨_,⟨y0,y1,y2,y3,y4⟩,_⟩:=HXa.out.next (Z00 HB4.out hJ);simp only[Nat.zero_add] at y0 y1 y2 y3 y4;refine Y0 hK hJ rfl rfl rfl ?_
        try dsimp only
        go_simp}
       refine StepsAt.cons _ rfl (fun u' W K' hJ hd hK=> ?_) ?_
       {obtain ⟨_,⟨y0,y1,y2,y3,y4⟩,_⟩:=HXb.out.next (Z00 HB4.out hJ);simp only[Nat.zero_add] at y0 y1 y2 y3 y4;refine Y0 hK hJ rfl rfl rfl ?_
        try dsimp only
        go_simp}
       refine StepsAt.cons _ rfl (fun u' W K' hJ hd hK=> ?_) ?_
       {have d0:_=_:=hd 0 (by kernel_rfl);have d1:_=_:=hd 1 (by kernel_rfl);refine Z04 (f:=8) (args:=#[.agg (Y8 a pa),.agg (Y8 b pb)]) (W':=W) rfl ?_ ((Z07 a b pa pb W (HAa.out.next (Z00 HB4.out hJ)) (HAb.out.next (Z00 HB4.out hJ)) (HG.out.next (Z00 HB4.out hJ))).mono fun e w' h=>⟨_,h.1,hK.out _ _ (by rw[H1.out]; rfl) (Z00 hJ h.2) h.2⟩)
        try dsimp only
        go_simp}
       refine StepsAt.cons _ rfl (fun u' W K' hJ hd hK=> ?_) ?_
       {have d2:_=_:=hd 2 (by kernel_rfl);refine Y0 hK hJ rfl rfl rfl ?_
        try dsimp only
        go_simp}
       refine StepsAt.cons _ rfl (fun u' W K' hJ hd hK=> ?_) ?_
       {have dg:_=_:=hd 3 (by kernel_rfl);obtain ⟨_,⟨y0,y1,y2,y3,y4⟩,_⟩:=HXb.out.next (Z00 HB4.out hJ);simp only[Nat.zero_add] at y0 y1 y2 y3 y4;refine Y0 hK hJ rfl rfl ?_ ?_
        {simp[Region.wanted,yielded,dg]}
        {try dsimp only
         go_simp}}
       refine StepsAt.cons _ rfl (fun u' W K' hJ hd hK=> ?_) ?_
       {have dg:_=_:=hd 3 (by kernel_rfl);obtain ⟨_,⟨y0,y1,y2,y3,y4⟩,_⟩:=HXa.out.next (Z00 HB4.out hJ);simp only[Nat.zero_add] at y0 y1 y2 y3 y4;refine Y0 hK hJ rfl rfl ?_ ?_
        {simp[Region.wanted,yielded,dg]}
        {try dsimp only
         go_simp}}
       refine StepsAt.cons _ rfl (fun u' W K' hJ hd hK=> ?_) ?_
       {have dg:_=_:=hd 3 (by kernel_rfl);have d4:_=_:=hd 4 (by kernel_rfl);have d5:_=_:=hd 5 (by kernel_rfl);refine Z04 (f:=8) (args:=#[.agg (Y8 b pb),.agg (Y8 a pa)]) (W':=W) ?_ ?_ ((Z07 b a pb pa W (HAb.out.next (Z00 HB4.out hJ)) (HAa.out.next (Z00 HB4.out hJ)) (HG.out.next (Z00 HB4.out hJ))).mono fun e w' h=>⟨_,h.1,hK.out _ _ (by rw[H3.out]; rfl) (Z00 hJ h.2) h.2⟩)
        {simp[Region.wanted,yielded,dg]}
        {try dsimp only
         go_simp}}
       refine StepsAt.cons _ rfl (fun u' W K' hJ hd hK=> ?_) ?_
       {have d3:_=_:=hd 3 (by kernel_rfl);have d6:_=_:=hd 6 (by kernel_rfl);refine Y0 hK hJ rfl rfl rfl ?_
        try dsimp only
        go_simp}
       refine StepsAt.cons _ rfl (fun u' W K' hJ hd hK=> ?_) ?_
       {obtain ⟨_,⟨y0,y1,y2,y3,y4⟩,_⟩:=HXa.out.next (Z00 HB4.out hJ);simp only[Nat.zero_add] at y0 y1 y2 y3 y4;refine Y0 hK hJ rfl rfl rfl ?_
        try dsimp only
        go_simp}
       refine StepsAt.cons _ rfl (fun u' W K' hJ hd hK=> ?_) ?_
       {obtain ⟨_,⟨y0,y1,y2,y3,y4⟩,_⟩:=HXb.out.next (Z00 HB4.out hJ);simp only[Nat.zero_add] at y0 y1 y2 y3 y4;refine Y0 hK hJ rfl rfl rfl ?_
        try dsimp only
        go_simp}
       refine StepsAt.cons _ rfl (fun u' W K' hJ hd hK=> ?_) ?_
       {have d8:_=_:=hd 8 (by kernel_rfl);have d9:_=_:=hd 9 (by kernel_rfl);refine Z04 (f:=13) (args:=#[.agg (Y8 a pa),.agg (Y8 b pb)]) (W':=W) rfl ?_ ((Z0N a b pa pb W (HAa.out.next (Z00 HB4.out hJ)) (HAb.out.next (Z00 HB4.out hJ)) (HG.out.next (Z00 HB4.out hJ))).mono fun e w' h=>⟨_,h.1,hK.out _ _ (by rw[<-Z1O HCa.out HCb.out,H1.out,H3.out]; rfl) (Z00 hJ h.2) h.2⟩)
        try dsimp only
        go_simp}
       refine StepsAt.cons _ rfl (fun u' W K' hJ hd hK=> ?_) ?_
       {have d7:_=_:=hd 7 (by kernel_rfl);have d10:_=_:=hd 10 (by kernel_rfl);refine Y0 hK hJ rfl rfl rfl ?_
        try dsimp only
        go_simp}
       refine StepsAt.cons _ rfl (fun u' W K' hJ hd hK=> ?_) ?_
       {have d11:_=_:=hd 11 (by kernel_rfl);refine Y0 hK hJ rfl rfl rfl ?_
        try dsimp only
        go_simp}
       refine StepsAt.cons _ rfl (fun u' W K' hJ hd hK=> ?_) ?_
       {have dg:_=_:=hd 12 (by kernel_rfl);refine Z04 (f:=10) (args:=#[]) (W':=W) ?_ ?_ ((Z0a W (HG.out.next (Z00 HB4.out hJ))).mono fun e w' h=>⟨_,h.1,hK.out _ _ rfl (Z00 hJ h.2) h.2⟩)
        {simp[Region.wanted,yielded,dg]}
        {try dsimp only
         go_simp}}
       refine StepsAt.cons _ rfl (fun u' W K' hJ hd hK=> ?_) ?_
       {have d12:_=_:=hd 12 (by kernel_rfl);have d13:_=_:=hd 13 (by kernel_rfl);refine Y0 hK hJ rfl rfl rfl ?_
        try dsimp only
        go_simp}
       refine StepsAt.cons _ rfl (fun u' W K' hJ hd hK=> ?_) StepsAt.nil
       {have d14:_=_:=hd 14 (by kernel_rfl);refine Y0 hK hJ rfl rfl rfl ?_
        try dsimp only
        go_simp}
       intro u' W' hJ' hok
       try dsimp only
       rw[show u' 15= .bool true from hok 15 (by decide)];clear hok;go_wp2;go_ret;exact ⟨rfl,Z00 HB1.out (Z00 HB4.out hJ')⟩
     | true=>
      have H2:=Y1 h1;clear h1
      go_wp2_with fail
      refine Z0y (rs:= [0,1,2,3,4,5,6,7,8,9,10,11,12,13,14,15,16,17,18,19,20,21,22,23,24,25,26])
       (fun u'=> { tmps:=#[.agg (Y8 a pa),.agg (Y8 b pb),.agg (Y8 c pc),.pointer (some { block:=w.heap.size,off:=0 }),.pointer (some { block:=w.heap.size+1,off:=0 }),.pointer (some { block:=w.heap.size+1+1,off:=0 }),.bool false,.agg (Y8 a pa),.int .i64 0,.bool false,.bool false,.agg (Y8 b pb),.int .i64 0,.bool false,.bool false,.bool false,.agg (Y8 c pc),.int .i64 0,.bool false,.bool false,undef,u' 0,u' 1,u' 2,u' 3,u' 4,u' 5,u' 6,u' 7,u' 8,u' 9,u' 10,u' 11,u' 12,u' 13,u' 14,u' 15,u' 16,u' 17,u' 18,u' 19,u' 20,u' 21,u' 22,u' 23,u' 24,u' 25,u' 26,undef,undef,undef,undef,undef,undef,undef,undef,undef,undef,undef,undef,undef,undef,undef],defers:= [] })
       (fun j=>([undef,undef,undef,undef,undef,undef,undef,undef,undef,undef,undef,undef,undef,undef,undef,undef,undef,undef,undef,undef,undef,undef,undef,undef,undef,undef,undef]:List Value).getD j undef) (ZbK a pa b pb c pc) (fun W=>Below W3.heap.size W3 W) (by kernel_rfl) (by kernel_rfl) (by kernel_rfl) Y2.drew ?_ ?_
      refine StepsAt.cons _ rfl (fun u' W K' hJ hd hK=> ?_) ?_
      {obtain ⟨_,⟨y0,y1,y2,y3,y4⟩,_⟩:=HXa.out.next hJ;simp only[Nat.zero_add] at y0 y1 y2 y3 y4;refine Y0 hK hJ rfl rfl rfl ?_
       try dsimp only
       go_simp}
      refine StepsAt.cons _ rfl (fun u' W K' hJ hd hK=> ?_) ?_
      {obtain ⟨_,⟨y0,y1,y2,y3,y4⟩,_⟩:=HXa.out.next hJ;simp only[Nat.zero_add] at y0 y1 y2 y3 y4;refine Y0 hK hJ rfl rfl rfl ?_
       try dsimp only
       go_simp}
      refine StepsAt.cons _ rfl (fun u' W K' hJ hd hK=> ?_) ?_
      {have d0:_=_:=hd 0 (by kernel_rfl);have d1:_=_:=hd 1 (by kernel_rfl);refine Z04 (f:=8) (args:=#[.agg (Y8 a pa),.agg (Y8 a pa)]) (W':=W) rfl ?_ ((Z07 a a pa pa W (HAa.out.next hJ) (HAa.out.next hJ) (HG.out.next hJ)).mono fun e w' h=>⟨_,h.1,hK.out _ _ (by rw[Z3q HCa.out]; rfl) (Z00 hJ h.2) h.2⟩)
       try dsimp only
       go_simp}
      refine StepsAt.cons _ rfl (fun u' W K' hJ hd hK=> ?_) ?_
      {have d2:_=_:=hd 2 (by kernel_rfl);refine Y0 hK hJ rfl rfl rfl ?_
       try dsimp only
       go_simp}
      refine StepsAt.cons _ rfl (fun u' W K' hJ hd hK=> ?_) ?_
      {have d3:_=_:=hd 3 (by kernel_rfl);refine Y0 hK hJ rfl rfl rfl ?_
       try dsimp only
       go_simp}
      refine StepsAt.cons _ rfl (fun u' W K' hJ hd hK=> ?_) ?_
      {have dg:_=_:=hd 4 (by kernel_rfl);obtain ⟨_,⟨y0,y1,y2,y3,y4⟩,_⟩:=HXa.out.next hJ;simp only[Nat.zero_add] at y0 y1 y2 y3 y4;refine Y0 hK hJ rfl rfl ?_ ?_
       {simp[Region.wanted,yielded,dg]}
       {try dsimp only
        go_simp}}
      refine StepsAt.cons _ rfl (fun u' W K' hJ hd hK=> ?_) ?_
      {have dg:_=_:=hd 4 (by kernel_rfl);obtain ⟨_,⟨y0,y1,y2,y3,y4⟩,_⟩:=HXa.out.next hJ;simp only[Nat.zero_add] at y0 y1 y2 y3 y4;refine Y0 hK hJ rfl rfl ?_ ?_
       {simp[Region.wanted,yielded,dg]}
       {try dsimp only
        go_simp}}
      refine StepsAt.cons _ rfl (fun u' W K' hJ hd hK=> ?_) ?_
      {have dg:_=_:=hd 4 (by kernel_rfl);have d6:_=_:=hd 6 (by kernel_rfl);refine Z04 (f:=12) (args:=#[.agg (Y8 a pa)]) (W':=W) ?_ ?_ ((Z1r a pa W (HAa.out.next hJ) (HG.out.next hJ) HCa.out).mono fun e w' ⟨q',he,ha,hb⟩=>⟨_,he,hK.out _ _ ⟨q',rfl,ha⟩ (Z00 hJ hb) hb⟩)
       {simp[Region.wanted,yielded,dg]}
       {try dsimp only
        go_simp}}
      refine StepsAt.cons _ rfl (fun u' W K' hJ hd hK=> ?_) ?_
      {have dg:_=_:=hd 4 (by kernel_rfl);have d5:_=_:=hd 5 (by kernel_rfl);obtain ⟨q7,d7,a7⟩:=hd 7 (by kernel_rfl);refine Z04 (f:=8) (args:=#[.agg (Y8 a pa),.agg (Y8 ((sorted a)) q7)]) (W':=W) ?_ ?_ ((Z07 a (sorted a) pa q7 W (HAa.out.next hJ) a7 (HG.out.next hJ)).mono fun e w' h=>⟨_,h.1,hK.out _ _ (by rw[Z2C HCa.out]; rfl) (Z00 hJ h.2) h.2⟩)
       {simp[Region.wanted,yielded,dg]}
       {try dsimp only
        go_simp}}
      refine StepsAt.cons _ rfl (fun u' W K' hJ hd hK=> ?_) ?_
      {have dg:_=_:=hd 4 (by kernel_rfl);have d8:_=_:=hd 8 (by kernel_rfl);refine Y0 hK hJ rfl rfl ?_ ?_
       {simp[Region.wanted,yielded,dg]}
       {try dsimp only
        go_simp}}
      refine StepsAt.cons _ rfl (fun u' W K' hJ hd hK=> ?_) ?_
      {have d4:_=_:=hd 4 (by kernel_rfl);have d9:_=_:=hd 9 (by kernel_rfl);refine Y0 hK hJ rfl rfl rfl ?_
       try dsimp only
       go_simp}
      refine StepsAt.cons _ rfl (fun u' W K' hJ hd hK=> ?_) ?_
      {have d10:_=_:=hd 10 (by kernel_rfl);refine Y0 hK hJ rfl rfl rfl ?_
       try dsimp only
       go_simp}
      refine StepsAt.cons _ rfl (fun u' W K' hJ hd hK=> ?_) ?_
      {have dg:_=_:=hd 11 (by kernel_rfl);obtain ⟨_,⟨y0,y1,y2,y3,y4⟩,_⟩:=HXa.out.next hJ;simp only[Nat.zero_add] at y0 y1 y2 y3 y4;refine Y0 hK hJ rfl rfl ?_ ?_
       {simp[Region.wanted,yielded,dg]}
       {try dsimp only
        go_simp}}
      refine StepsAt.cons _ rfl (fun u' W K' hJ hd hK=> ?_) ?_
      {have dg:_=_:=hd 11 (by kernel_rfl);obtain ⟨_,⟨y0,y1,y2,y3,y4⟩,_⟩:=HXb.out.next hJ;simp only[Nat.zero_add] at y0 y1 y2 y3 y4;refine Y0 hK hJ rfl rfl ?_ ?_
       {simp[Region.wanted,yielded,dg]}
       {try dsimp only
        go_simp}}
      refine StepsAt.cons _ rfl (fun u' W K' hJ hd hK=> ?_) ?_
      {have dg:_=_:=hd 11 (by kernel_rfl);have d12:_=_:=hd 12 (by kernel_rfl);have d13:_=_:=hd 13 (by kernel_rfl);refine Z04 (f:=8) (args:=#[.agg (Y8 a pa),.agg (Y8 b pb)]) (W':=W) ?_ ?_ ((Z07 a b pa pb W (HAa.out.next hJ) (HAb.out.next hJ) (HG.out.next hJ)).mono fun e w' h=>⟨_,h.1,hK.out _ _ (by rw[H1.out]; rfl) (Z00 hJ h.2) h.2⟩)
       {simp[Region.wanted,yielded,dg]}
       {try dsimp only
        go_simp}}
      refine StepsAt.cons _ rfl (fun u' W K' hJ hd hK=> ?_) ?_
      {have dg:_=_:=hd 11 (by kernel_rfl);have d14:_=_:=hd 14 (by kernel_rfl);refine Y0 hK hJ rfl rfl ?_ ?_
       {simp[Region.wanted,yielded,dg]}
       {try dsimp only
        go_simp}}
      refine StepsAt.cons _ rfl (fun u' W K' hJ hd hK=> ?_) ?_
      {have dg:_=_:=hd 15 (by kernel_rfl);obtain ⟨_,⟨y0,y1,y2,y3,y4⟩,_⟩:=HXb.out.next hJ;simp only[Nat.zero_add] at y0 y1 y2 y3 y4;refine Y0 hK hJ rfl rfl ?_ ?_
       {simp[Region.wanted,yielded,dg]}
       {try dsimp only
        go_simp}}
      refine StepsAt.cons _ rfl (fun u' W K' hJ hd hK=> ?_) ?_
      {have dg:_=_:=hd 15 (by kernel_rfl);obtain ⟨_,⟨y0,y1,y2,y3,y4⟩,_⟩:=HXc.out.next hJ;simp only[Nat.zero_add] at y0 y1 y2 y3 y4;refine Y0 hK hJ rfl rfl ?_ ?_
       {simp[Region.wanted,yielded,dg]}
       {try dsimp only
        go_simp}}
      refine StepsAt.cons _ rfl (fun u' W K' hJ hd hK=> ?_) ?_
      {have dg:_=_:=hd 15 (by kernel_rfl);have d16:_=_:=hd 16 (by kernel_rfl);have d17:_=_:=hd 17 (by kernel_rfl);refine Z04 (f:=8) (args:=#[.agg (Y8 b pb),.agg (Y8 c pc)]) (W':=W) ?_ ?_ ((Z07 b c pb pc W (HAb.out.next hJ) (HAc.out.next hJ) (HG.out.next hJ)).mono fun e w' h=>⟨_,h.1,hK.out _ _ (by rw[H2.out]; rfl) (Z00 hJ h.2) h.2⟩)
       {simp[Region.wanted,yielded,dg]}
       {try dsimp only
        go_simp}}
      refine StepsAt.cons _ rfl (fun u' W K' hJ hd hK=> ?_) ?_
      {have dg:_=_:=hd 11 (by kernel_rfl);have d15:_=_:=hd 15 (by kernel_rfl);have d18:_=_:=hd 18 (by kernel_rfl);refine Y0 hK hJ rfl rfl ?_ ?_
       {simp[Region.wanted,yielded,dg]}
       {try dsimp only
        go_simp}}
      refine StepsAt.cons _ rfl (fun u' W K' hJ hd hK=> ?_) ?_
      {have dg:_=_:=hd 11 (by kernel_rfl);have d19:_=_:=hd 19 (by kernel_rfl);refine Y0 hK hJ rfl rfl ?_ ?_
       {simp[Region.wanted,yielded,dg]}
       {try dsimp only
        go_simp}}
      refine StepsAt.cons _ rfl (fun u' W K' hJ hd hK=> ?_) ?_
      {have dg:_=_:=hd 20 (by kernel_rfl);obtain ⟨_,⟨y0,y1,y2,y3,y4⟩,_⟩:=HXa.out.next hJ;simp only[Nat.zero_add] at y0 y1 y2 y3 y4;refine Y0 hK hJ rfl rfl ?_ ?_
       {simp[Region.wanted,yielded,dg]}
       {try dsimp only
        go_simp}}
      refine StepsAt.cons _ rfl (fun u' W K' hJ hd hK=> ?_) ?_
      {have dg:_=_:=hd 20 (by kernel_rfl);obtain ⟨_,⟨y0,y1,y2,y3,y4⟩,_⟩:=HXc.out.next hJ;simp only[Nat.zero_add] at y0 y1 y2 y3 y4;refine Y0 hK hJ rfl rfl ?_ ?_
       {simp[Region.wanted,yielded,dg]}
       {try dsimp only
        go_simp}}
      refine StepsAt.cons _ rfl (fun u' W K' hJ hd hK=> ?_) ?_
      {have dg:_=_:=hd 20 (by kernel_rfl);have d21:_=_:=hd 21 (by kernel_rfl);have d22:_=_:=hd 22 (by kernel_rfl);refine Z04 (f:=8) (args:=#[.agg (Y8 a pa),.agg (Y8 c pc)]) (W':=W) ?_ ?_ ((Z07 a c pa pc W (HAa.out.next hJ) (HAc.out.next hJ) (HG.out.next hJ)).mono fun e w' h=>⟨_,h.1,hK.out _ _ (by rw[Z7d H1.out H2.out]; rfl) (Z00 hJ h.2) h.2⟩)
       {simp[Region.wanted,yielded,dg]}
       {try dsimp only
        go_simp}}
      refine StepsAt.cons _ rfl (fun u' W K' hJ hd hK=> ?_) ?_
      {have dg:_=_:=hd 20 (by kernel_rfl);have d23:_=_:=hd 23 (by kernel_rfl);refine Y0 hK hJ rfl rfl ?_ ?_
       {simp[Region.wanted,yielded,dg]}
       {try dsimp only
        go_simp}}
      refine StepsAt.cons _ rfl (fun u' W K' hJ hd hK=> ?_) ?_
      {have dg:_=_:=hd 11 (by kernel_rfl);have d20:_=_:=hd 20 (by kernel_rfl);have d24:_=_:=hd 24 (by kernel_rfl);refine Y0 hK hJ rfl rfl ?_ ?_
       {simp[Region.wanted,yielded,dg]}
       {try dsimp only
        go_simp}}
      refine StepsAt.cons _ rfl (fun u' W K' hJ hd hK=> ?_) StepsAt.nil
      {have d11:_=_:=hd 11 (by kernel_rfl);have d25:_=_:=hd 25 (by kernel_rfl);refine Y0 hK hJ rfl rfl rfl ?_
       try dsimp only
       go_simp}
      intro z' W4 hJ4 hok
      try dsimp only
      rw[show z' 26= .bool false from hok 26 (by decide)];clear hok;have HB4:=Y1 hJ4;clear hJ4;cases h1:Sub.below b a with
      | false=>
       have H3:=Y1 h1;clear h1
       go_wp2_with fail
       refine Z0y (rs:= [0,1,2,3,4,5,6,7,8,9,10,11,12,13,14,15])
        (fun u'=> { tmps:=#[.agg (Y8 a pa),.agg (Y8 b pb),.agg (Y8 c pc),.pointer (some { block:=w.heap.size,off:=0 }),.pointer (some { block:=w.heap.size+1,off:=0 }),.pointer (some { block:=w.heap.size+1+1,off:=0 }),u' 15,.agg (Y8 a pa),.int .i64 0,.bool false,.bool false,.agg (Y8 b pb),.int .i64 0,.bool false,.bool false,.bool false,.agg (Y8 c pc),.int .i64 0,.bool false,.bool false,undef,z' 0,z' 1,z' 2,z' 3,z' 4,z' 5,z' 6,z' 7,z' 8,z' 9,z' 10,z' 11,z' 12,z' 13,z' 14,z' 15,z' 16,z' 17,z' 18,z' 19,z' 20,z' 21,z' 22,z' 23,z' 24,z' 25,.bool false,u' 0,u' 1,u' 2,u' 3,u' 4,u' 5,u' 6,u' 7,u' 8,u' 9,u' 10,u' 11,u' 12,u' 13,u' 14],defers:= [] })
        (fun j=>([undef,undef,undef,undef,undef,undef,undef,undef,undef,undef,undef,undef,undef,undef,undef,.bool false]:List Value).getD j undef) (ZbL a pa b pb c pc) (fun W=>Below W4.heap.size W4 W) (by kernel_rfl) (by kernel_rfl) (by kernel_rfl) Y2.drew ?_ ?_
       refine StepsAt.cons _ rfl (fun u' W K' hJ hd hK=> ?_) ?_
       {obtain ⟨_,⟨y0,y1,y2,y3,y4⟩,_⟩:=HXa.out.next (Z00 HB4.out hJ);simp only[Nat.zero_add] at y0 y1 y2 y3 y4;refine Y0 hK hJ rfl rfl rfl ?_
        try dsimp only
        go_simp}
       refine StepsAt.cons _ rfl (fun u' W K' hJ hd hK=> ?_) ?_
       {obtain ⟨_,⟨y0,y1,y2,y3,y4⟩,_⟩:=HXb.out.next (Z00 HB4.out hJ);simp only[Nat.zero_add] at y0 y1 y2 y3 y4;refine Y0 hK hJ rfl rfl rfl ?_
        try dsimp only
        go_simp}
       refine StepsAt.cons _ rfl (fun u' W K' hJ hd hK=> ?_) ?_
       {have d0:_=_:=hd 0 (by kernel_rfl);have d1:_=_:=hd 1 (by kernel_rfl);refine Z04 (f:=8) (args:=#[.agg (Y8 a pa),.agg (Y8 b pb)]) (W':=W) rfl ?_ ((Z07 a b pa pb W (HAa.out.next (Z00 HB4.out hJ)) (HAb.out.next (Z00 HB4.out hJ)) (HG.out.next (Z00 HB4.out hJ))).mono fun e w' h=>⟨_,h.1,hK.out _ _ (by rw[H1.out]; rfl) (Z00 hJ h.2) h.2⟩)
        try dsimp only
        go_simp}
       refine StepsAt.cons _ rfl (fun u' W K' hJ hd hK=> ?_) ?_
       {have d2:_=_:=hd 2 (by kernel_rfl);refine Y0 hK hJ rfl rfl rfl ?_
        try dsimp only
        go_simp}
       refine StepsAt.cons _ rfl (fun u' W K' hJ hd hK=> ?_) ?_
       {have dg:_=_:=hd 3 (by kernel_rfl);obtain ⟨_,⟨y0,y1,y2,y3,y4⟩,_⟩:=HXb.out.next (Z00 HB4.out hJ);simp only[Nat.zero_add] at y0 y1 y2 y3 y4;refine Y0 hK hJ rfl rfl ?_ ?_
        {simp[Region.wanted,yielded,dg]}
        {try dsimp only
         go_simp}}
       refine StepsAt.cons _ rfl (fun u' W K' hJ hd hK=> ?_) ?_
       {have dg:_=_:=hd 3 (by kernel_rfl);obtain ⟨_,⟨y0,y1,y2,y3,y4⟩,_⟩:=HXa.out.next (Z00 HB4.out hJ);simp only[Nat.zero_add] at y0 y1 y2 y3 y4;refine Y0 hK hJ rfl rfl ?_ ?_
        {simp[Region.wanted,yielded,dg]}
        {try dsimp only
         go_simp}}
       refine StepsAt.cons _ rfl (fun u' W K' hJ hd hK=> ?_) ?_
       {have dg:_=_:=hd 3 (by kernel_rfl);have d4:_=_:=hd 4 (by kernel_rfl);have d5:_=_:=hd 5 (by kernel_rfl);refine Z04 (f:=8) (args:=#[.agg (Y8 b pb),.agg (Y8 a pa)]) (W':=W) ?_ ?_ ((Z07 b a pb pa W (HAb.out.next (Z00 HB4.out hJ)) (HAa.out.next (Z00 HB4.out hJ)) (HG.out.next (Z00 HB4.out hJ))).mono fun e w' h=>⟨_,h.1,hK.out _ _ (by rw[H3.out]; rfl) (Z00 hJ h.2) h.2⟩)
        {simp[Region.wanted,yielded,dg]}
        {try dsimp only
         go_simp}}
       refine StepsAt.cons _ rfl (fun u' W K' hJ hd hK=> ?_) ?_
       {have d3:_=_:=hd 3 (by kernel_rfl);have d6:_=_:=hd 6 (by kernel_rfl);refine Y0 hK hJ rfl rfl rfl ?_
        try dsimp only
        go_simp}
       refine StepsAt.cons _ rfl (fun u' W K' hJ hd hK=> ?_) ?_
       {obtain ⟨_,⟨y0,y1,y2,y3,y4⟩,_⟩:=HXa.out.next (Z00 HB4.out hJ);simp only[Nat.zero_add] at y0 y1 y2 y3 y4;refine Y0 hK hJ rfl rfl rfl ?_
        try dsimp only
        go_simp}
       refine StepsAt.cons _ rfl (fun u' W K' hJ hd hK=> ?_) ?_
       {obtain ⟨_,⟨y0,y1,y2,y3,y4⟩,_⟩:=HXb.out.next (Z00 HB4.out hJ);simp only[Nat.zero_add] at y0 y1 y2 y3 y4;refine Y0 hK hJ rfl rfl rfl ?_
        try dsimp only
        go_simp}
       refine StepsAt.cons _ rfl (fun u' W K' hJ hd hK=> ?_) ?_
       {have d8:_=_:=hd 8 (by kernel_rfl);have d9:_=_:=hd 9 (by kernel_rfl);refine Z04 (f:=13) (args:=#[.agg (Y8 a pa),.agg (Y8 b pb)]) (W':=W) rfl ?_ ((Z0N a b pa pb W (HAa.out.next (Z00 HB4.out hJ)) (HAb.out.next (Z00 HB4.out hJ)) (HG.out.next (Z00 HB4.out hJ))).mono fun e w' h=>⟨_,h.1,hK.out _ _ (by rw[<-Z1O HCa.out HCb.out,H1.out,H3.out]; rfl) (Z00 hJ h.2) h.2⟩)
        try dsimp only
        go_simp}
       refine StepsAt.cons _ rfl (fun u' W K' hJ hd hK=> ?_) ?_
       {have d7:_=_:=hd 7 (by kernel_rfl);have d10:_=_:=hd 10 (by kernel_rfl);refine Y0 hK hJ rfl rfl rfl ?_
        try dsimp only
        go_simp}
       refine StepsAt.cons _ rfl (fun u' W K' hJ hd hK=> ?_) ?_
       {have d11:_=_:=hd 11 (by kernel_rfl);refine Y0 hK hJ rfl rfl rfl ?_
        try dsimp only
        go_simp}
       refine StepsAt.cons _ rfl (fun u' W K' hJ hd hK=> ?_) ?_
       {have dg:_=_:=hd 12 (by kernel_rfl);refine Z04 (f:=10) (args:=#[]) (W':=W) ?_ ?_ ((Z0a W (HG.out.next (Z00 HB4.out hJ))).mono fun e w' h=>⟨_,h.1,hK.out _ _ rfl (Z00 hJ h.2) h.2⟩)
        {simp[Region.wanted,yielded,dg]}
        {try dsimp only
         go_simp}}
       refine StepsAt.cons _ rfl (fun u' W K' hJ hd hK=> ?_) ?_
       {have d12:_=_:=hd 12 (by kernel_rfl);have d13:_=_:=hd 13 (by kernel_rfl);refine Y0 hK hJ rfl rfl rfl ?_
        try dsimp only
        go_simp}
       refine StepsAt.cons _ rfl (fun u' W K' hJ hd hK=> ?_) StepsAt.nil
       {have d14:_=_:=hd 14 (by kernel_rfl);refine Y0 hK hJ rfl rfl rfl ?_
        try dsimp only
        go_simp}
       intro u' W' hJ' hok
       try dsimp only
       rw[show u' 15= .bool true from hok 15 (by decide)];clear hok;go_wp2;go_ret;exact ⟨rfl,Z00 HB1.out (Z00 HB4.out hJ')⟩
      | true=>
       have H3:=Y1 h1;clear h1
       go_wp2_with fail
       refine Z0y (rs:= [0,1,2,3,4,5,6,7,8,9,10,11,12,13,14,15])
        (fun u'=> { tmps:=#[.agg (Y8 a pa),.agg (Y8 b pb),.agg (Y8 c pc),.pointer (some { block:=w.heap.size,off:=0 }),.pointer (some { block:=w.heap.size+1,off:=0 }),.pointer (some { block:=w.heap.size+1+1,off:=0 }),u' 15,.agg (Y8 a pa),.int .i64 0,.bool false,.bool false,.agg (Y8 b pb),.int .i64 0,.bool false,.bool false,.bool false,.agg (Y8 c pc),.int .i64 0,.bool false,.bool false,undef,z' 0,z' 1,z' 2,z' 3,z' 4,z' 5,z' 6,z' 7,z' 8,z' 9,z' 10,z' 11,z' 12,z' 13,z' 14,z' 15,z' 16,z' 17,z' 18,z' 19,z' 20,z' 21,z' 22,z' 23,z' 24,z' 25,.bool false,u' 0,u' 1,u' 2,u' 3,u' 4,u' 5,u' 6,u' 7,u' 8,u' 9,u' 10,u' 11,u' 12,u' 13,u' 14],defers:= [] })
        (fun j=>([undef,undef,undef,undef,undef,undef,undef,undef,undef,undef,undef,undef,undef,undef,undef,.bool false]:List Value).getD j undef) (ZbM a pa b pb c pc) (fun W=>Below W4.heap.size W4 W) (by kernel_rfl) (by kernel_rfl) (by kernel_rfl) Y2.drew ?_ ?_
       refine StepsAt.cons _ rfl (fun u' W K' hJ hd hK=> ?_) ?_
       {obtain ⟨_,⟨y0,y1,y2,y3,y4⟩,_⟩:=HXa.out.next (Z00 HB4.out hJ);simp only[Nat.zero_add] at y0 y1 y2 y3 y4;refine Y0 hK hJ rfl rfl rfl ?_
        try dsimp only
        go_simp}
       refine StepsAt.cons _ rfl (fun u' W K' hJ hd hK=> ?_) ?_
       {obtain ⟨_,⟨y0,y1,y2,y3,y4⟩,_⟩:=HXb.out.next (Z00 HB4.out hJ);simp only[Nat.zero_add] at y0 y1 y2 y3 y4;refine Y0 hK hJ rfl rfl rfl ?_
        try dsimp only
        go_simp}
       refine StepsAt.cons _ rfl (fun u' W K' hJ hd hK=> ?_) ?_
       {have d0:_=_:=hd 0 (by kernel_rfl);have d1:_=_:=hd 1 (by kernel_rfl);refine Z04 (f:=8) (args:=#[.agg (Y8 a pa),.agg (Y8 b pb)]) (W':=W) rfl ?_ ((Z07 a b pa pb W (HAa.out.next (Z00 HB4.out hJ)) (HAb.out.next (Z00 HB4.out hJ)) (HG.out.next (Z00 HB4.out hJ))).mono fun e w' h=>⟨_,h.1,hK.out _ _ (by rw[H1.out]; rfl) (Z00 hJ h.2) h.2⟩)
        try dsimp only
        go_simp}
       refine StepsAt.cons _ rfl (fun u' W K' hJ hd hK=> ?_) ?_
       {have d2:_=_:=hd 2 (by kernel_rfl);refine Y0 hK hJ rfl rfl rfl ?_
        try dsimp only
        go_simp}
       refine StepsAt.cons _ rfl (fun u' W K' hJ hd hK=> ?_) ?_
       {have dg:_=_:=hd 3 (by kernel_rfl);obtain ⟨_,⟨y0,y1,y2,y3,y4⟩,_⟩:=HXb.out.next (Z00 HB4.out hJ);simp only[Nat.zero_add] at y0 y1 y2 y3 y4;refine Y0 hK hJ rfl rfl ?_ ?_
        {simp[Region.wanted,yielded,dg]}
        {try dsimp only
         go_simp}}
       refine StepsAt.cons _ rfl (fun u' W K' hJ hd hK=> ?_) ?_
       {have dg:_=_:=hd 3 (by kernel_rfl);obtain ⟨_,⟨y0,y1,y2,y3,y4⟩,_⟩:=HXa.out.next (Z00 HB4.out hJ);simp only[Nat.zero_add] at y0 y1 y2 y3 y4;refine Y0 hK hJ rfl rfl ?_ ?_
        {simp[Region.wanted,yielded,dg]}
        {try dsimp only
         go_simp}}
       refine StepsAt.cons _ rfl (fun u' W K' hJ hd hK=> ?_) ?_
       {have dg:_=_:=hd 3 (by kernel_rfl);have d4:_=_:=hd 4 (by kernel_rfl);have d5:_=_:=hd 5 (by kernel_rfl);refine Z04 (f:=8) (args:=#[.agg (Y8 b pb),.agg (Y8 a pa)]) (W':=W) ?_ ?_ ((Z07 b a pb pa W (HAb.out.next (Z00 HB4.out hJ)) (HAa.out.next (Z00 HB4.out hJ)) (HG.out.next (Z00 HB4.out hJ))).mono fun e w' h=>⟨_,h.1,hK.out _ _ (by rw[H3.out]; rfl) (Z00 hJ h.2) h.2⟩)
        {simp[Region.wanted,yielded,dg]}
        {try dsimp only
         go_simp}}
       refine StepsAt.cons _ rfl (fun u' W K' hJ hd hK=> ?_) ?_
       {have d3:_=_:=hd 3 (by kernel_rfl);have d6:_=_:=hd 6 (by kernel_rfl);refine Y0 hK hJ rfl rfl rfl ?_
        try dsimp only
        go_simp}
       refine StepsAt.cons _ rfl (fun u' W K' hJ hd hK=> ?_) ?_
       {obtain ⟨_,⟨y0,y1,y2,y3,y4⟩,_⟩:=HXa.out.next (Z00 HB4.out hJ);simp only[Nat.zero_add] at y0 y1 y2 y3 y4;refine Y0 hK hJ rfl rfl rfl ?_
        try dsimp only
        go_simp}
       refine StepsAt.cons _ rfl (fun u' W K' hJ hd hK=> ?_) ?_
       {obtain ⟨_,⟨y0,y1,y2,y3,y4⟩,_⟩:=HXb.out.next (Z00 HB4.out hJ);simp only[Nat.zero_add] at y0 y1 y2 y3 y4;refine Y0 hK hJ rfl rfl rfl ?_
        try dsimp only
        go_simp}
       refine StepsAt.cons _ rfl (fun u' W K' hJ hd hK=> ?_) ?_
       {have d8:_=_:=hd 8 (by kernel_rfl);have d9:_=_:=hd 9 (by kernel_rfl);refine Z04 (f:=13) (args:=#[.agg (Y8 a pa),.agg (Y8 b pb)]) (W':=W) rfl ?_ ((Z0N a b pa pb W (HAa.out.next (Z00 HB4.out hJ)) (HAb.out.next (Z00 HB4.out hJ)) (HG.out.next (Z00 HB4.out hJ))).mono fun e w' h=>⟨_,h.1,hK.out _ _ (by rw[<-Z1O HCa.out HCb.out,H1.out,H3.out]; rfl) (Z00 hJ h.2) h.2⟩)
        try dsimp only
        go_simp}
       refine StepsAt.cons _ rfl (fun u' W K' hJ hd hK=> ?_) ?_
       {have d7:_=_:=hd 7 (by kernel_rfl);have d10:_=_:=hd 10 (by kernel_rfl);refine Y0 hK hJ rfl rfl rfl ?_
        try dsimp only
        go_simp}
       refine StepsAt.cons _ rfl (fun u' W K' hJ hd hK=> ?_) ?_
       {have d11:_=_:=hd 11 (by kernel_rfl);refine Y0 hK hJ rfl rfl rfl ?_
        try dsimp only
        go_simp}
       refine StepsAt.cons _ rfl (fun u' W K' hJ hd hK=> ?_) ?_
       {have dg:_=_:=hd 12 (by kernel_rfl);refine Z04 (f:=10) (args:=#[]) (W':=W) ?_ ?_ ((Z0a W (HG.out.next (Z00 HB4.out hJ))).mono fun e w' h=>⟨_,h.1,hK.out _ _ rfl (Z00 hJ h.2) h.2⟩)
        {simp[Region.wanted,yielded,dg]}
        {try dsimp only
         go_simp}}
       refine StepsAt.cons _ rfl (fun u' W K' hJ hd hK=> ?_) ?_
       {have d12:_=_:=hd 12 (by kernel_rfl);have d13:_=_:=hd 13 (by kernel_rfl);refine Y0 hK hJ rfl rfl rfl ?_
        try dsimp only
        go_simp}
       refine StepsAt.cons _ rfl (fun u' W K' hJ hd hK=> ?_) StepsAt.nil
       {have d14:_=_:=hd 14 (by kernel_rfl);refine Y0 hK hJ rfl rfl rfl ?_
        try dsimp only
        go_simp}
       intro u' W' hJ' hok
       try dsimp only
       rw[show u' 15= .bool true from hok 15 (by decide)];clear hok;go_wp2;go_ret;exact ⟨rfl,Z00 HB1.out (Z00 HB4.out hJ')⟩}}}
end SubM
end Go.Proofs.YtlomianlcnmfgaaDoor
