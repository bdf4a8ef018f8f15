/- SubtypeBoth: join, meet and below say the same; for all values that the row lets in, with the program's variable laid as its text lays it. -/
import Derived.Test.YtlomianlcnmfgaaDoorTie
import Derived.Test.YtlomianlcnmfgaaDoorCards
import Derived.LaidMore
import Derived.Lay
import Derived.Test.YtlomianlcnmfgaaDoorK4n0
import Derived.Test.YtlomianlcnmfgaaDoorK6n0
import Derived.Test.YtlomianlcnmfgaaDoorK0n13
set_option linter.unusedVariables false
set_option linter.unusedSimpArgs false
set_option linter.unusedSectionVars false
set_option maxRecDepth 100000
set_option maxHeartbeats 16000000
namespace Go.Proofs.YtlomianlcnmfgaaDoor
section
open Shp
theorem Z5b {t u:Sh} (h1:check t=0) (h2:check u=0) (h3:sorted t=sorted u):same t u=true:=(Z1m t u).2 ⟨h1,h2,h3⟩
theorem Z7c {t:Sh} (h:check t=0):same t (sorted t)=true:=Z5b h (Z2B h) (Z3z t (Z09 h).2.2).symm
end
end Go.Proofs.YtlomianlcnmfgaaDoor
namespace Sub
section
open Shp Go.Proofs.YtlomianlcnmfgaaDoor
section
variable {a b : Sh} (ra : right a = true) (rb : right b = true) (h : sorted a = sorted b)
include a b ra rb h
theorem Z8z:check a=check b:=by
 have h1:size a=size b:=by rw[<-Z2T a ra,h,Z2T b rb]
 have h2:deep a=deep b:=by rw[<-Z2U a ra,h,Z2U b rb]
 unfold check;rw[h1,h2,ra,rb]
theorem Z3p:whole (some a)=whole (some b):=by
 unfold whole;simp only[Option.bind_some,Z8z ra rb h,h]
end
theorem Z8A {up:Bool} {a b:Sh} (ca:check a=0) (cb:check b=0):whole (bound 40 up a b)=whole (bound 40 up b a):=by
 obtain ⟨_,da,ra⟩:=Z09 ca;obtain ⟨_,db,rb⟩:=Z09 cb;have key: ∀ {a b j:Sh},right a=true->right b=true->deep a<=40->deep b<=40->bound 40 up a b=some j-> ∃k,bound 40 up b a=some k/\V 40 up k j:=fun ra rb da db h=>by
  have hi:=Z1D ra rb da db h;exact Z1v rb ra hi.m hi.l
 cases h:bound 40 up a b with
 | none=>
  cases k:bound 40 up b a with
  | none=>rfl
  | some y=>
   obtain ⟨x,hx,_⟩:=key rb ra db da k;rw[h] at hx; cases hx
 | some x=>
  obtain ⟨y,hy,v⟩:=key ra rb da db h;obtain ⟨x',hx',v'⟩:=key rb ra db da hy;rw[h] at hx'; cases hx';rw[hy];have i1:=Z1D ra rb da db h;have i2:=Z1D rb ra db da hy;exact Z3p i1.r i2.r (V.anti i1.r i2.r v' v)
theorem Z3W (up:Bool) (a b:Sh):J up a b=J up b a:=by
 unfold J;by_cases h:check a=0/\check b=0
 {rw[if_pos h,if_pos ⟨h.2,h.1⟩,Z8A h.1 h.2]}
 {rw[if_neg h,if_neg (fun k=>h ⟨k.2,k.1⟩)]}
theorem Z4Q {up:Bool} {a:Sh} (ca:check a=0):J up a a=some (sorted a):=by
 obtain ⟨_,da,ra⟩:=Z09 ca;obtain ⟨y,hy,v⟩:=Z1v (up:=up) ra ra (V.refl da) (V.refl da);have hi:=Z1D ra ra da da hy;have hs:=V.anti hi.r ra v hi.l;unfold J;rw[if_pos ⟨ca,ca⟩,hy,Z3p hi.r ra hs];unfold whole;simp[ca]
theorem Z7Q {up:Bool} {a b:Sh} (ca:check a=0) (cb:check b=0):V 40 up a b ↔ ∃j,J up a b=some j/\same j b=true:=by
 obtain ⟨_,da,ra⟩:=Z09 ca;obtain ⟨_,db,rb⟩:=Z09 cb;constructor
 {intro h;obtain ⟨y,hy,v⟩:=Z1v ra rb h (V.refl db);have hi:=Z1D ra rb da db hy;have hs:=V.anti hi.r rb v hi.m;refine ⟨sorted b, ?_, ?_⟩
  {unfold J;rw[if_pos ⟨ca,cb⟩,hy,Z3p hi.r rb hs];unfold whole;simp[cb]}
  {rw[Z5m]; exact Z7c cb}}
 {rintro ⟨j,hj,hs⟩;obtain ⟨h1,_,h3⟩:=(Z1m j b).1 hs;have hi:=J_is hj;obtain ⟨_,dj,rj⟩:=Z09 h1;have v1:V 40 up j (sorted j):=V.sorted rj dj;rw[h3] at v1;exact hi.l.trans (v1.trans (V.back rb db))}
section
variable {a b : Sh} (ca : check a = 0) (cb : check b = 0)
include a b ca cb
theorem Z8E:below a b=true ↔ ∃j,J true a b=some j/\same j b=true:=by
 rw[Z0g ca cb,Z7Q ca cb]
theorem Z8F:below a b=true ↔ ∃j,J false a b=some j/\same j a=true:=by
 rw[Z0g ca cb,V.flip_iff,Bool.not_true,Z7Q cb ca,Z3W]
end
end
end Sub
namespace Go.Proofs.YtlomianlcnmfgaaDoor
open Go.RowKit Shp Sub
namespace SubM
theorem Z2r {up:Bool} {a b j:Sh} {ok:Bool} {w:World} {e:Ending} {w':World} (h:JIs up a b w e w') (hj: (J up a b).getD Z0d=j) (ho: (J up a b).isSome=ok):
 ∃q:Ptr,e= .returned (.tuple #[.agg (Y8 j q),.bool ok])/\ShAt w' w'.heap.size q j/\Below w.heap.size w w':=by
 obtain ⟨q,he,hk,hb⟩:=h;rw[hj,ho] at he;rw[hj] at hk;exact ⟨q,he,hk.here,hb⟩
section
variable {a b : Sh} (ca : check a = 0) (cb : check b = 0) {j : Sh} {ok : Bool}
include a b ca cb j ok
theorem Zar (hj: (J true a b).getD Z0d=j) (ho: (J true a b).isSome=ok):Sub.below a b=(ok&&same j b):=by
 rw[Bool.eq_iff_iff,Z8E ca cb];cases h:J true a b with
 | none=>rw[h] at ho; subst ho; simp
 | some x=>rw[h] at ho hj; cases ho; cases hj; simp
theorem Zas (hj: (J false a b).getD Z0d=j) (ho: (J false a b).isSome=ok):Sub.below a b=(ok&&same j a):=by
 rw[Bool.eq_iff_iff,Z8F ca cb];cases h:J false a b with
 | none=>rw[h] at ho; subst ho; simp
 | some x=>rw[h] at ho hj; cases ho; cases hj; simp
end
def ZbN (a:Sh) (pa:Ptr) (j m x:Sh) (ok yes:Bool) (q1 q2 q3 q4 q5 q6:Ptr):Nat->Want
 | 0=> .val (.bool ok)
 | 1=> .val (.bool ok)
 | 2=> .val (.bool false)
 | 3=> .val (.bool false)
 | 4=> .val (.bool yes)
 | 5=> .val (.bool yes)
 | 6=> .val (.bool false)
 | 7=> .val (.bool false)
 | 8=> .val (.bool false)
 | 9=> .val (.bool true)
 | 10=> .val (.bool false)
 | 11=> .val (.bool false)
 | 12=> .val (.bool false)
 | 13=> .val (.bool true)
 | 14=> .val (.bool false)
 | 15=> .val (.bool false)
 | 16=> .val (.bool false)
 | 17=> .val (.agg (Y8 j q1))
 | 18=> .val (.agg (Y8 j q2))
 | 19=> .val (.bool true)
 | 20=> .val (.bool false)
 | 21=> .val (.bool false)
 | 22=> .val (.bool false)
 | 23=> .val (.agg (Y8 m q3))
 | 24=> .val (.agg (Y8 m q4))
 | 25=> .val (.bool true)
 | 26=> .val (.bool false)
 | 27=> .val (.bool false)
 | 28=> .val (.bool false)
 | 29=> .val (.agg (Y8 x q5))
 | 30=> .val (.agg (Y8 a pa))
 | 31=>wantSh x
 | 32=> .val (.bool true)
 | 33=> .val (.bool false)
 | 34=> .val (.bool false)
 | 35=> .val (.bool false)
 | 36=> .val (.agg (Y8 x q6))
 | 37=> .val (.agg (Y8 x q5))
 | 38=> .val (.bool true)
 | 39=> .val (.bool false)
 | 40=> .val (.bool false)
 | _=> .any
theorem subBoth_walk (a:Sh) (pa:Ptr) (b:Sh) (pb:Ptr) (w:World) (ha:ShAt w w.heap.size pa a) (hb:ShAt w w.heap.size pb b) (hg:WGlobs w):
 Y9 7 #[.agg (Y8 a pa),.agg (Y8 b pb)] w (.bool true):=by
 have hx1:=Z02 w (.cells (Y8 a pa) 25);obtain ⟨u1,hu1⟩: ∃u1,w.alloc (.cells (Y8 a pa) 25)=u1:=⟨_,rfl⟩;have hs1:u1.heap.size=w.heap.size+1:=by rw[<-hu1]; simp
 have hy1:=Z03 w a pa;rw[hu1] at hx1 hy1;have hx2:=Z02 u1 (.cells (Y8 b pb) 25);obtain ⟨W1,hu2⟩: ∃u2,u1.alloc (.cells (Y8 b pb) 25)=u2:=⟨_,rfl⟩;have hy2:=Z03 u1 b pb;rw[hu2] at hx2 hy2;rw[hs1] at hy2;have hb12:=Z00 hx1 hx2;have HXa:=Y1 (hy1.next hx2);have HXb:=Y1 hy2;have HAa:=Y1 (ha.next hb12);have HAb:=Y1 (hb.next hb12);have HG:=Y1 (hg.next hb12);have HB1:=Y1 hb12;have HB:=Y1 (Below.refl W1.heap.size W1);clear hx1 hx2 hy1 hy2 hb12 ha hb hg;go_enter Tryd.func7,Tryd.ntmps7;obtain ⟨_,⟨a0,a1,a2,a3,a4⟩,_⟩:=HXa.out.next HB.out;simp only[Nat.zero_add] at a0 a1 a2 a3 a4
 go_wp2_with fail
 refine (Z0M a pa _ (HAa.out.next HB.out) (HG.out.next HB.out)).mono ?_;rintro e w1 ⟨rfl,hb1⟩;have HB:=Y1 (Z00 HB.out hb1);clear hb1 a0 a1 a2 a3 a4 hs1 hu1 hu2;by_cases ea:check a≠0
 {have hne: (check a !=0)=true:=by simpa using ea
  clear ea
  go_wp2_with fail
  refine (Z0a _ (HG.out.next HB.out)).mono ?_;rintro e w2 ⟨rfl,hb1⟩;have HB:=Y1 (Z00 HB1.out (Z00 HB.out hb1));clear hb1;go_wp2;go_ret;exact ⟨rfl,HB.out⟩}
 {have hca:check a=0:=Decidable.not_not.1 ea;have HCa:=Y1 hca;rw[hca];clear ea hca;obtain ⟨_,⟨b0,b1,b2,b3,b4⟩,_⟩:=HXb.out.next HB.out;simp only[Nat.zero_add] at b0 b1 b2 b3 b4
  go_wp2_with fail
  refine (Z0M b pb _ (HAb.out.next HB.out) (HG.out.next HB.out)).mono ?_;rintro e w3 ⟨rfl,hb1⟩;have HB:=Y1 (Z00 HB.out hb1);clear hb1 b0 b1 b2 b3 b4;by_cases eb:check b≠0
  {have hne: (check b !=0)=true:=by simpa using eb
   clear eb
   go_wp2_with fail
   refine (Z0a _ (HG.out.next HB.out)).mono ?_;rintro e w4 ⟨rfl,hb1⟩;have HB:=Y1 (Z00 HB1.out (Z00 HB.out hb1));clear hb1;go_wp2;go_ret;exact ⟨rfl,HB.out⟩}
  {have hcb:check b=0:=Decidable.not_not.1 eb;have HCb:=Y1 hcb;rw[hcb];clear eb hcb;obtain ⟨j,hj⟩: ∃j,(J true a b).getD Z0d=j:=⟨_,rfl⟩;obtain ⟨ok,hok⟩: ∃ok,(J true a b).isSome=ok:=⟨_,rfl⟩;obtain ⟨m,hm⟩: ∃m,(J false a b).getD Z0d=m:=⟨_,rfl⟩;obtain ⟨yes,hyes⟩: ∃yes,(J false a b).isSome=yes:=⟨_,rfl⟩;obtain ⟨x,hxs⟩: ∃x,sorted a=x:=⟨_,rfl⟩;have HJ:=Y1 (And.intro hj hok);have HM:=Y1 (And.intro hm hyes);have HXS:=Y1 hxs;clear hj hok hm hyes hxs;obtain ⟨V0,hW⟩: ∃W,W=w3:=⟨_,rfl⟩;have HXa:=Y1 (HXa.out.next HB.out);have HXb:=Y1 (HXb.out.next HB.out);have HAa:=Y1 (HAa.out.next HB.out);have HAb:=Y1 (HAb.out.next HB.out);have HG:=Y1 (HG.out.next HB.out);have HB1:=Y1 (Z00 HB1.out HB.out);clear HB;rw[<-hW] at HXa HXb HAa HAb HG HB1 ⊢;clear hW;obtain ⟨_,⟨a0,a1,a2,a3,a4⟩,_⟩:=HXa.out;simp only[Nat.zero_add] at a0 a1 a2 a3 a4;obtain ⟨_,⟨b0,b1,b2,b3,b4⟩,_⟩:=HXb.out;simp only[Nat.zero_add] at b0 b1 b2 b3 b4;have HU:=Y1 (Z1t a b pa pb V0 HAa.out HAb.out HG.out);unfold sv at HU
   go_wp2_with fail
   refine HU.out.mono ?_;rintro e v1 hjis;clear HU a0 a1 a2 a3 a4 b0 b1 b2 b3 b4;obtain ⟨q1,rfl,hat,hb1⟩:=Z2r hjis (j:=j) (ok:=ok) (HJ.out.1) (HJ.out.2);have hb2:=Z02 v1 (.cells (Y8 j q1) 25);have hbb:=Z00 hb1 hb2;have HXa:=Y1 (HXa.out.next hbb);have HXb:=Y1 (HXb.out.next hbb);have HAa:=Y1 (HAa.out.next hbb);have HAb:=Y1 (HAb.out.next hbb);have HG:=Y1 (HG.out.next hbb);have HB1:=Y1 (Z00 HB1.out hbb);have HX_1:=Y1 (Z03 v1 j q1);have HA_1:=Y1 (hat.next hb2);clear hjis hat hb1 hb2 hbb;obtain ⟨V1,hW⟩: ∃W,v1.alloc (.cells (Y8 j q1) 25)=W:=⟨_,rfl⟩;rw[hW] at HXa HXb HAa HAb HG HX_1 HA_1 HB1;obtain ⟨_,⟨b0,b1,b2,b3,b4⟩,_⟩:=HXb.out;simp only[Nat.zero_add] at b0 b1 b2 b3 b4;obtain ⟨_,⟨a0,a1,a2,a3,a4⟩,_⟩:=HXa.out;simp only[Nat.zero_add] at a0 a1 a2 a3 a4;have HU:=Y1 (Z1t b a pb pa V1 HAb.out HAa.out HG.out);unfold sv at HU
   go_wp2_with fail
   refine HU.out.mono ?_;rintro e v2 hjis;clear HU b0 b1 b2 b3 b4 a0 a1 a2 a3 a4 hW;obtain ⟨q2,rfl,hat,hb1⟩:=Z2r hjis (j:=j) (ok:=ok) (by rw[Z3W]; exact HJ.out.1) (by rw[Z3W]; exact HJ.out.2);have hb2:=Z02 v2 (.cells (Y8 j q2) 25);have hbb:=Z00 hb1 hb2;have HXa:=Y1 (HXa.out.next hbb);have HXb:=Y1 (HXb.out.next hbb);have HAa:=Y1 (HAa.out.next hbb);have HAb:=Y1 (HAb.out.next hbb);have HG:=Y1 (HG.out.next hbb);have HX_1:=Y1 (HX_1.out.next hbb);have HA_1:=Y1 (HA_1.out.next hbb);have HB1:=Y1 (Z00 HB1.out hbb);have HX_2:=Y1 (Z03 v2 j q2);have HA_2:=Y1 (hat.next hb2);clear hjis hat hb1 hb2 hbb;obtain ⟨V2,hW⟩: ∃W,v2.alloc (.cells (Y8 j q2) 25)=W:=⟨_,rfl⟩;rw[hW] at HXa HXb HAa HAb HG HX_1 HA_1 HX_2 HA_2 HB1;obtain ⟨_,⟨a0,a1,a2,a3,a4⟩,_⟩:=HXa.out;simp only[Nat.zero_add] at a0 a1 a2 a3 a4;obtain ⟨_,⟨b0,b1,b2,b3,b4⟩,_⟩:=HXb.out;simp only[Nat.zero_add] at b0 b1 b2 b3 b4;have HU:=Y1 (Z1R a b pa pb V2 HAa.out HAb.out HG.out);unfold sv at HU
   go_wp2_with fail
   refine HU.out.mono ?_;rintro e v3 hjis;clear HU a0 a1 a2 a3 a4 b0 b1 b2 b3 b4 hW;obtain ⟨q3,rfl,hat,hb1⟩:=Z2r hjis (j:=m) (ok:=yes) (HM.out.1) (HM.out.2);have hb2:=Z02 v3 (.cells (Y8 m q3) 25);have hbb:=Z00 hb1 hb2;have HXa:=Y1 (HXa.out.next hbb);have HXb:=Y1 (HXb.out.next hbb);have HAa:=Y1 (HAa.out.next hbb);have HAb:=Y1 (HAb.out.next hbb);have HG:=Y1 (HG.out.next hbb);have HX_1:=Y1 (HX_1.out.next hbb);have HA_1:=Y1 (HA_1.out.next hbb);have HX_2:=Y1 (HX_2.out.next hbb);have HA_2:=Y1 (HA_2.out.next hbb);have HB1:=Y1 (Z00 HB1.out hbb);have HX_3:=Y1 (Z03 v3 m q3);have HA_3:=Y1 (hat.next hb2);clear hjis hat hb1 hb2 hbb;obtain ⟨V3,hW⟩: ∃W,v3.alloc (.cells (Y8 m q3) 25)=W:=⟨_,rfl⟩;rw[hW] at HXa HXb HAa HAb HG HX_1 HA_1 HX_2 HA_2 HX_3 HA_3 HB1;obtain ⟨_,⟨b0,b1,b2,b3,b4⟩,_⟩:=HXb.out;simp only[Nat.zero_add] at b0 b1 b2 b3 b4;obtain ⟨_,⟨a0,a1,a2,a3,a4⟩,_⟩:=HXa.out;simp only[Nat.zero_add] at a0 a1 a2 a3 a4;have HU:=Y1 (Z1R b a pb pa V3 HAb.out HAa.out HG.out);unfold sv at HU
   go_wp2_with fail
   refine HU.out.mono ?_;rintro e v4 hjis;clear HU b0 b1 b2 b3 b4 a0 a1 a2 a3 a4 hW;obtain ⟨q4,rfl,hat,hb1⟩:=Z2r hjis (j:=m) (ok:=yes) (by rw[Z3W]; exact HM.out.1) (by rw[Z3W]; exact HM.out.2);have hb2:=Z02 v4 (.cells (Y8 m q4) 25);have hbb:=Z00 hb1 hb2;have HXa:=Y1 (HXa.out.next hbb);have HXb:=Y1 (HXb.out.next hbb);have HAa:=Y1 (HAa.out.next hbb);have HAb:=Y1 (HAb.out.next hbb);have HG:=Y1 (HG.out.next hbb);have HX_1:=Y1 (HX_1.out.next hbb);have HA_1:=Y1 (HA_1.out.next hbb);have HX_2:=Y1 (HX_2.out.next hbb);have HA_2:=Y1 (HA_2.out.next hbb);have HX_3:=Y1 (HX_3.out.next hbb);have HA_3:=Y1 (HA_3.out.next hbb);have HB1:=Y1 (Z00 HB1.out hbb);have HX_4:=Y1 (Z03 v4 m q4);have HA_4:=Y1 (hat.next hb2);clear hjis hat hb1 hb2 hbb;obtain ⟨V4,hW⟩: ∃W,v4.alloc (.cells (Y8 m q4) 25)=W:=⟨_,rfl⟩;rw[hW] at HXa HXb HAa HAb HG HX_1 HA_1 HX_2 HA_2 HX_3 HA_3 HX_4 HA_4 HB1;obtain ⟨_,⟨a0,a1,a2,a3,a4⟩,_⟩:=HXa.out;simp only[Nat.zero_add] at a0 a1 a2 a3 a4;have HU:=Y1 (Z1t a a pa pa V4 HAa.out HAa.out HG.out);unfold sv at HU
   go_wp2_with fail
   refine HU.out.mono ?_;rintro e v5 hjis;clear HU a0 a1 a2 a3 a4 hW;obtain ⟨q5,rfl,hat,hb1⟩:=Z2r hjis (j:=x) (ok:=true) (by rw[Z4Q HCa.out]; exact HXS.out) (by rw[Z4Q HCa.out]; rfl);have hb2:=Z02 v5 (.cells (Y8 x q5) 25);have hbb:=Z00 hb1 hb2;have HXa:=Y1 (HXa.out.next hbb);have HXb:=Y1 (HXb.out.next hbb);have HAa:=Y1 (HAa.out.next hbb);have HAb:=Y1 (HAb.out.next hbb);have HG:=Y1 (HG.out.next hbb);have HX_1:=Y1 (HX_1.out.next hbb);have HA_1:=Y1 (HA_1.out.next hbb);have HX_2:=Y1 (HX_2.out.next hbb);have HA_2:=Y1 (HA_2.out.next hbb);have HX_3:=Y1 (HX_3.out.next hbb);have HA_3:=Y1 (HA_3.out.next hbb);have HX_4:=Y1 (HX_4.out.next hbb);have HA_4:=Y1 (HA_4.out.next hbb);have HB1:=Y1 (Z00 HB1.out hbb);have HX_5:=Y1 (Z03 v5 x q5);have HA_5:=Y1 (hat.next hb2);clear hjis hat hb1 hb2 hbb;obtain ⟨V5,hW⟩: ∃W,v5.alloc (.cells (Y8 x q5) 25)=W:=⟨_,rfl⟩;rw[hW] at HXa HXb HAa HAb HG HX_1 HA_1 HX_2 HA_2 HX_3 HA_3 HX_4 HA_4 HX_5 HA_5 HB1;obtain ⟨_,⟨a0,a1,a2,a3,a4⟩,_⟩:=HXa.out;simp only[Nat.zero_add] at a0 a1 a2 a3 a4;have HU:=Y1 (Z1R a a pa pa V5 HAa.out HAa.out HG.out);unfold sv at HU
   go_wp2_with fail
   refine HU.out.mono ?_;rintro e v6 hjis;clear HU a0 a1 a2 a3 a4 hW;obtain ⟨q6,rfl,hat,hb1⟩:=Z2r hjis (j:=x) (ok:=true) (by rw[Z4Q HCa.out]; exact HXS.out) (by rw[Z4Q HCa.out]; rfl);have hb2:=Z02 v6 (.cells (Y8 x q6) 25);have hbb:=Z00 hb1 hb2;have HXa:=Y1 (HXa.out.next hbb);have HXb:=Y1 (HXb.out.next hbb);have HAa:=Y1 (HAa.out.next hbb);have HAb:=Y1 (HAb.out.next hbb);have HG:=Y1 (HG.out.next hbb);have HX_1:=Y1 (HX_1.out.next hbb);have HA_1:=Y1 (HA_1.out.next hbb);have HX_2:=Y1 (HX_2.out.next hbb);have HA_2:=Y1 (HA_2.out.next hbb);have HX_3:=Y1 (HX_3.out.next hbb);have HA_3:=Y1 (HA_3.out.next hbb);have HX_4:=Y1 (HX_4.out.next hbb);have HA_4:=Y1 (HA_4.out.next hbb);have HX_5:=Y1 (HX_5.out.next hbb);have HA_5:=Y1 (HA_5.out.next hbb);have HB1:=Y1 (Z00 HB1.out hbb);have HX_6:=Y1 (Z03 v6 x q6);have HA_6:=Y1 (hat.next hb2);clear hjis hat hb1 hb2 hbb;obtain ⟨V6,hW⟩: ∃W,v6.alloc (.cells (Y8 x q6) 25)=W:=⟨_,rfl⟩;rw[hW] at HXa HXb HAa HAb HG HX_1 HA_1 HX_2 HA_2 HX_3 HA_3 HX_4 HA_4 HX_5 HA_5 HX_6 HA_6 HB1
   go_wp2_with fail
   clear hW;refine Z0y (rs:= [0,1,2,3,4,5,6,7,8,9,10,11,12,13,14,15,16,17,18,19,20,21,22,23,24,25,26,27,28,29,30,31,32,33,34,35,36,37,38,39,40])
    (fun u'=> { tmps:=#[.agg (Y8 a pa),.agg (Y8 b pb),.pointer (some { block:=w.heap.size,off:=0 }),.pointer (some { block:=w.heap.size+1,off:=0 }),.bool false,.pointer (some { block:=v1.heap.size,off:=0 }),.bool ok,.pointer (some { block:=v2.heap.size,off:=0 }),.bool ok,.pointer (some { block:=v3.heap.size,off:=0 }),.bool yes,.pointer (some { block:=v4.heap.size,off:=0 }),.bool yes,.pointer (some { block:=v5.heap.size,off:=0 }),.bool true,.pointer (some { block:=v6.heap.size,off:=0 }),.bool true,undef,.agg (Y8 a pa),.int .i64 0,.bool false,.bool false,.agg (Y8 b pb),.int .i64 0,.bool false,.bool false,undef,.tuple #[.agg (Y8 j q1),.bool ok],.agg (Y8 a pa),.agg (Y8 b pb),.tuple #[.agg (Y8 j q1),.bool ok],.agg (Y8 j q1),.bool ok,.tuple #[.agg (Y8 j q2),.bool ok],.agg (Y8 b pb),.agg (Y8 a pa),.tuple #[.agg (Y8 j q2),.bool ok],.agg (Y8 j q2),.bool ok,.tuple #[.agg (Y8 m q3),.bool yes],.agg (Y8 a pa),.agg (Y8 b pb),.tuple #[.agg (Y8 m q3),.bool yes],.agg (Y8 m q3),.bool yes,.tuple #[.agg (Y8 m q4),.bool yes],.agg (Y8 b pb),.agg (Y8 a pa),.tuple #[.agg (Y8 m q4),.bool yes],.agg (Y8 m q4),.bool yes,.tuple #[.agg (Y8 x q5),.bool true],.agg (Y8 a pa),.agg (Y8 a pa),.tuple #[.agg (Y8 x q5),.bool true],.agg (Y8 x q5),.bool true,.tuple #[.agg (Y8 x q6),.bool true],.agg (Y8 a pa),.agg (Y8 a pa),.tuple #[.agg (Y8 x q6),.bool true],.agg (Y8 x q6),.bool true,u' 0,u' 1,u' 2,u' 3,u' 4,u' 5,u' 6,u' 7,u' 8,u' 9,u' 10,u' 11,u' 12,u' 13,u' 14,u' 15,u' 16,u' 17,u' 18,u' 19,u' 20,u' 21,u' 22,u' 23,u' 24,u' 25,u' 26,u' 27,u' 28,u' 29,u' 30,u' 31,u' 32,u' 33,u' 34,u' 35,u' 36,u' 37,u' 38,u' 39,u' 40,undef,undef,undef,undef,undef,undef,undef,undef,undef,undef,undef,undef,undef,undef,undef,undef,undef,undef,undef,undef,undef,undef,undef,undef],defers:= [] })
    (fun j=>([undef,undef,undef,undef,undef,undef,undef,undef,undef,undef,undef,undef,undef,undef,undef,undef,undef,undef,undef,undef,undef,undef,undef,undef,undef,undef,undef,undef,undef,undef,undef,undef,undef,undef,undef,undef,undef,undef,undef,undef,undef]:List Value).getD j undef) (ZbN a pa j m x ok yes q1 q2 q3 q4 q5 q6) (fun W=>Below V6.heap.size V6 W) (by kernel_rfl) (by kernel_rfl) (by kernel_rfl) Y2.drew ?_ ?_
   refine StepsAt.cons _ rfl (fun u' W K' hJ hd hK=> ?_) ?_
   {refine Y0 hK hJ rfl rfl rfl ?_
    try dsimp only
    go_simp}
   refine StepsAt.cons _ rfl (fun u' W K' hJ hd hK=> ?_) ?_
   {refine Y0 hK hJ rfl rfl rfl ?_
    try dsimp only
    go_simp}
   refine StepsAt.cons _ rfl (fun u' W K' hJ hd hK=> ?_) ?_
   {have d0:_=_:=hd 0 (by kernel_rfl);have d1:_=_:=hd 1 (by kernel_rfl);refine Y0 hK hJ rfl rfl rfl ?_
    try dsimp only
    go_simp}
   refine StepsAt.cons _ rfl (fun u' W K' hJ hd hK=> ?_) ?_
   {have d2:_=_:=hd 2 (by kernel_rfl);refine Y0 hK hJ rfl rfl rfl ?_
    try dsimp only
    go_simp}
   refine StepsAt.cons _ rfl (fun u' W K' hJ hd hK=> ?_) ?_
   {have dg:_=_:=hd 3 (by kernel_rfl);refine Y0 hK hJ rfl rfl ?_ ?_
    {simp[Region.wanted,yielded,dg]}
    {try dsimp only
     go_simp}}
   refine StepsAt.cons _ rfl (fun u' W K' hJ hd hK=> ?_) ?_
   {have dg:_=_:=hd 3 (by kernel_rfl);refine Y0 hK hJ rfl rfl ?_ ?_
    {simp[Region.wanted,yielded,dg]}
    {try dsimp only
     go_simp}}
   refine StepsAt.cons _ rfl (fun u' W K' hJ hd hK=> ?_) ?_
   {have dg:_=_:=hd 3 (by kernel_rfl);have d4:_=_:=hd 4 (by kernel_rfl);have d5:_=_:=hd 5 (by kernel_rfl);refine Y0 hK hJ rfl rfl ?_ ?_
    {simp[Region.wanted,yielded,dg]}
    {try dsimp only
     go_simp}}
   refine StepsAt.cons _ rfl (fun u' W K' hJ hd hK=> ?_) ?_
   {have d3:_=_:=hd 3 (by kernel_rfl);have d6:_=_:=hd 6 (by kernel_rfl);refine Y0 hK hJ rfl rfl rfl ?_
    try dsimp only
    go_simp}
   refine StepsAt.cons _ rfl (fun u' W K' hJ hd hK=> ?_) ?_
   {have d7:_=_:=hd 7 (by kernel_rfl);refine Y0 hK hJ rfl rfl rfl ?_
    try dsimp only
    go_simp}
   refine StepsAt.cons _ rfl (fun u' W K' hJ hd hK=> ?_) ?_
   {have dg:_=_:=hd 8 (by kernel_rfl);refine Y0 hK hJ rfl rfl ?_ ?_
    {simp[Region.wanted,yielded,dg]}
    {try dsimp only
     go_simp}}
   refine StepsAt.cons _ rfl (fun u' W K' hJ hd hK=> ?_) ?_
   {have dg:_=_:=hd 8 (by kernel_rfl);have d9:_=_:=hd 9 (by kernel_rfl);refine Y0 hK hJ rfl rfl ?_ ?_
    {simp[Region.wanted,yielded,dg]}
    {try dsimp only
     go_simp}}
   refine StepsAt.cons _ rfl (fun u' W K' hJ hd hK=> ?_) ?_
   {have d8:_=_:=hd 8 (by kernel_rfl);have d10:_=_:=hd 10 (by kernel_rfl);refine Y0 hK hJ rfl rfl rfl ?_
    try dsimp only
    go_simp}
   refine StepsAt.cons _ rfl (fun u' W K' hJ hd hK=> ?_) ?_
   {have d11:_=_:=hd 11 (by kernel_rfl);refine Y0 hK hJ rfl rfl rfl ?_
    try dsimp only
    go_simp}
   refine StepsAt.cons _ rfl (fun u' W K' hJ hd hK=> ?_) ?_
   {have dg:_=_:=hd 12 (by kernel_rfl);refine Y0 hK hJ rfl rfl ?_ ?_
    {simp[Region.wanted,yielded,dg]}
    {try dsimp only
     go_simp}}
   refine StepsAt.cons _ rfl (fun u' W K' hJ hd hK=> ?_) ?_
   {have dg:_=_:=hd 12 (by kernel_rfl);have d13:_=_:=hd 13 (by kernel_rfl);refine Y0 hK hJ rfl rfl ?_ ?_
    {simp[Region.wanted,yielded,dg]}
    {try dsimp only
     go_simp}}
   refine StepsAt.cons _ rfl (fun u' W K' hJ hd hK=> ?_) ?_
   {have d12:_=_:=hd 12 (by kernel_rfl);have d14:_=_:=hd 14 (by kernel_rfl);refine Y0 hK hJ rfl rfl rfl ?_
    try dsimp only
    go_simp}
   refine StepsAt.cons _ rfl (fun u' W K' hJ hd hK=> ?_) ?_
   {have d15:_=_:=hd 15 (by kernel_rfl);refine Y0 hK hJ rfl rfl rfl ?_
    try dsimp only
    go_simp}
   refine StepsAt.cons _ rfl (fun u' W K' hJ hd hK=> ?_) ?_
   {have dg:_=_:=hd 16 (by kernel_rfl);obtain ⟨_,⟨y0,y1,y2,y3,y4⟩,_⟩:=HX_1.out.next hJ;simp only[Nat.zero_add] at y0 y1 y2 y3 y4;refine Y0 hK hJ rfl rfl ?_ ?_
    {simp[Region.wanted,yielded,dg]}
    {try dsimp only
     go_simp}}
   refine StepsAt.cons _ rfl (fun u' W K' hJ hd hK=> ?_) ?_
   {have dg:_=_:=hd 16 (by kernel_rfl);obtain ⟨_,⟨y0,y1,y2,y3,y4⟩,_⟩:=HX_2.out.next hJ;simp only[Nat.zero_add] at y0 y1 y2 y3 y4;refine Y0 hK hJ rfl rfl ?_ ?_
    {simp[Region.wanted,yielded,dg]}
    {try dsimp only
     go_simp}}
   refine StepsAt.cons _ rfl (fun u' W K' hJ hd hK=> ?_) ?_
   {have dg:_=_:=hd 16 (by kernel_rfl);have d17:_=_:=hd 17 (by kernel_rfl);have d18:_=_:=hd 18 (by kernel_rfl);refine Z04 (f:=17) (args:=#[.agg (Y8 j q1),.agg (Y8 j q2)]) (W':=W) ?_ ?_ ((Z1j j j q1 q2 W (HA_1.out.next hJ) (HA_2.out.next hJ)).mono fun e w' h=>⟨_,h.1,hK.out _ _ (by rw[Z1l]; rfl) (Z00 hJ h.2) h.2⟩)
    {simp[Region.wanted,yielded,dg]}
    {try dsimp only
     go_simp}}
   refine StepsAt.cons _ rfl (fun u' W K' hJ hd hK=> ?_) ?_
   {have dg:_=_:=hd 16 (by kernel_rfl);have d19:_=_:=hd 19 (by kernel_rfl);refine Y0 hK hJ rfl rfl ?_ ?_
    {simp[Region.wanted,yielded,dg]}
    {try dsimp only
     go_simp}}
   refine StepsAt.cons _ rfl (fun u' W K' hJ hd hK=> ?_) ?_
   {have d16:_=_:=hd 16 (by kernel_rfl);have d20:_=_:=hd 20 (by kernel_rfl);refine Y0 hK hJ rfl rfl rfl ?_
    try dsimp only
    go_simp}
   refine StepsAt.cons _ rfl (fun u' W K' hJ hd hK=> ?_) ?_
   {have d21:_=_:=hd 21 (by kernel_rfl);refine Y0 hK hJ rfl rfl rfl ?_
    try dsimp only
    go_simp}
   refine StepsAt.cons _ rfl (fun u' W K' hJ hd hK=> ?_) ?_
   {have dg:_=_:=hd 22 (by kernel_rfl);obtain ⟨_,⟨y0,y1,y2,y3,y4⟩,_⟩:=HX_3.out.next hJ;simp only[Nat.zero_add] at y0 y1 y2 y3 y4;refine Y0 hK hJ rfl rfl ?_ ?_
    {simp[Region.wanted,yielded,dg]}
    {try dsimp only
     go_simp}}
   refine StepsAt.cons _ rfl (fun u' W K' hJ hd hK=> ?_) ?_
   {have dg:_=_:=hd 22 (by kernel_rfl);obtain ⟨_,⟨y0,y1,y2,y3,y4⟩,_⟩:=HX_4.out.next hJ;simp only[Nat.zero_add] at y0 y1 y2 y3 y4;refine Y0 hK hJ rfl rfl ?_ ?_
    {simp[Region.wanted,yielded,dg]}
    {try dsimp only
     go_simp}}
   refine StepsAt.cons _ rfl (fun u' W K' hJ hd hK=> ?_) ?_
   {have dg:_=_:=hd 22 (by kernel_rfl);have d23:_=_:=hd 23 (by kernel_rfl);have d24:_=_:=hd 24 (by kernel_rfl);refine Z04 (f:=17) (args:=#[.agg (Y8 m q3),.agg (Y8 m q4)]) (W':=W) ?_ ?_ ((Z1j m m q3 q4 W (HA_3.out.next hJ) (HA_4.out.next hJ)).mono fun e w' h=>⟨_,h.1,hK.out _ _ (by rw[Z1l]; rfl) (Z00 hJ h.2) h.2⟩)
    {simp[Region.wanted,yielded,dg]}
    {try dsimp only
     go_simp}}
   refine StepsAt.cons _ rfl (fun u' W K' hJ hd hK=> ?_) ?_
   {have dg:_=_:=hd 22 (by kernel_rfl);have d25:_=_:=hd 25 (by kernel_rfl);refine Y0 hK hJ rfl rfl ?_ ?_
    {simp[Region.wanted,yielded,dg]}
    {try dsimp only
     go_simp}}
   refine StepsAt.cons _ rfl (fun u' W K' hJ hd hK=> ?_) ?_
   {have d22:_=_:=hd 22 (by kernel_rfl);have d26:_=_:=hd 26 (by kernel_rfl);refine Y0 hK hJ rfl rfl rfl ?_
    try dsimp only
    go_simp}
   refine StepsAt.cons _ rfl (fun u' W K' hJ hd hK=> ?_) ?_
   {have d27:_=_:=hd 27 (by kernel_rfl);refine Y0 hK hJ rfl rfl rfl ?_
    try dsimp only
    go_simp}
   refine StepsAt.cons _ rfl (fun u' W K' hJ hd hK=> ?_) ?_
   {have dg:_=_:=hd 28 (by kernel_rfl);obtain ⟨_,⟨y0,y1,y2,y3,y4⟩,_⟩:=HX_5.out.next hJ;simp only[Nat.zero_add] at y0 y1 y2 y3 y4;refine Y0 hK hJ rfl rfl ?_ ?_
    {simp[Region.wanted,yielded,dg]}
    {try dsimp only
     go_simp}}
   refine StepsAt.cons _ rfl (fun u' W K' hJ hd hK=> ?_) ?_
   {have dg:_=_:=hd 28 (by kernel_rfl);obtain ⟨_,⟨y0,y1,y2,y3,y4⟩,_⟩:=HXa.out.next hJ;simp only[Nat.zero_add] at y0 y1 y2 y3 y4;refine Y0 hK hJ rfl rfl ?_ ?_
    {simp[Region.wanted,yielded,dg]}
    {try dsimp only
     go_simp}}
   refine StepsAt.cons _ rfl (fun u' W K' hJ hd hK=> ?_) ?_
   {have dg:_=_:=hd 28 (by kernel_rfl);have d30:_=_:=hd 30 (by kernel_rfl);refine Z04 (f:=12) (args:=#[.agg (Y8 a pa)]) (W':=W) ?_ ?_ ((Z1r a pa W (HAa.out.next hJ) (HG.out.next hJ) HCa.out).mono fun e w' ⟨q',he,ha,hb⟩=>⟨_,he,hK.out _ _ ⟨q',by rw[HXS.out],by rw[HXS.out] at ha; exact ha⟩ (Z00 hJ hb) hb⟩)
    {simp[Region.wanted,yielded,dg]}
    {try dsimp only
     go_simp}}
   refine StepsAt.cons _ rfl (fun u' W K' hJ hd hK=> ?_) ?_
   {have dg:_=_:=hd 28 (by kernel_rfl);have d29:_=_:=hd 29 (by kernel_rfl);obtain ⟨q31,d31,a31⟩:=hd 31 (by kernel_rfl);refine Z04 (f:=17) (args:=#[.agg (Y8 x q5),.agg (Y8 x q31)]) (W':=W) ?_ ?_ ((Z1j x x q5 q31 W (HA_5.out.next hJ) a31).mono fun e w' h=>⟨_,h.1,hK.out _ _ (by rw[Z1l]; rfl) (Z00 hJ h.2) h.2⟩)
    {simp[Region.wanted,yielded,dg]}
    {try dsimp only
     go_simp}}
   refine StepsAt.cons _ rfl (fun u' W K' hJ hd hK=> ?_) ?_
   {have dg:_=_:=hd 28 (by kernel_rfl);have d32:_=_:=hd 32 (by kernel_rfl);refine Y0 hK hJ rfl rfl ?_ ?_
    {simp[Region.wanted,yielded,dg]}
    {try dsimp only
     go_simp}}
   refine StepsAt.cons _ rfl (fun u' W K' hJ hd hK=> ?_) ?_
   {have d28:_=_:=hd 28 (by kernel_rfl);have d33:_=_:=hd 33 (by kernel_rfl);refine Y0 hK hJ rfl rfl rfl ?_
    try dsimp only
    go_simp}
   refine StepsAt.cons _ rfl (fun u' W K' hJ hd hK=> ?_) ?_
   {have d34:_=_:=hd 34 (by kernel_rfl);refine Y0 hK hJ rfl rfl rfl ?_
    try dsimp only
    go_simp}
   refine StepsAt.cons _ rfl (fun u' W K' hJ hd hK=> ?_) ?_
   {have dg:_=_:=hd 35 (by kernel_rfl);obtain ⟨_,⟨y0,y1,y2,y3,y4⟩,_⟩:=HX_6.out.next hJ;simp only[Nat.zero_add] at y0 y1 y2 y3 y4;refine Y0 hK hJ rfl rfl ?_ ?_
    {simp[Region.wanted,yielded,dg]}
    {try dsimp only
     go_simp}}
   refine StepsAt.cons _ rfl (fun u' W K' hJ hd hK=> ?_) ?_
   {have dg:_=_:=hd 35 (by kernel_rfl);obtain ⟨_,⟨y0,y1,y2,y3,y4⟩,_⟩:=HX_5.out.next hJ;simp only[Nat.zero_add] at y0 y1 y2 y3 y4;refine Y0 hK hJ rfl rfl ?_ ?_
    {simp[Region.wanted,yielded,dg]}
    {try dsimp only
     go_simp}}
   refine StepsAt.cons _ rfl (fun u' W K' hJ hd hK=> ?_) ?_
   {have dg:_=_:=hd 35 (by kernel_rfl);have d36:_=_:=hd 36 (by kernel_rfl);have d37:_=_:=hd 37 (by kernel_rfl);refine Z04 (f:=17) (args:=#[.agg (Y8 x q6),.agg (Y8 x q5)]) (W':=W) ?_ ?_ ((Z1j x x q6 q5 W (HA_6.out.next hJ) (HA_5.out.next hJ)).mono fun e w' h=>⟨_,h.1,hK.out _ _ (by rw[Z1l]; rfl) (Z00 hJ h.2) h.2⟩)
    {simp[Region.wanted,yielded,dg]}
    {try dsimp only
     go_simp}}
   refine StepsAt.cons _ rfl (fun u' W K' hJ hd hK=> ?_) ?_
   {have dg:_=_:=hd 35 (by kernel_rfl);have d38:_=_:=hd 38 (by kernel_rfl);refine Y0 hK hJ rfl rfl ?_ ?_
    {simp[Region.wanted,yielded,dg]}
    {try dsimp only
     go_simp}}
   refine StepsAt.cons _ rfl (fun u' W K' hJ hd hK=> ?_) StepsAt.nil
   {have d35:_=_:=hd 35 (by kernel_rfl);have d39:_=_:=hd 39 (by kernel_rfl);refine Y0 hK hJ rfl rfl rfl ?_
    try dsimp only
    go_simp}
   intro z' W4 hJ4 hok
   try dsimp only
   rw[show z' 40= .bool false from hok 40 (by decide)];clear hok;have HB:=Y1 hJ4;clear hJ4;obtain ⟨_,⟨a0,a1,a2,a3,a4⟩,_⟩:=HXa.out.next HB.out;simp only[Nat.zero_add] at a0 a1 a2 a3 a4;obtain ⟨_,⟨b0,b1,b2,b3,b4⟩,_⟩:=HXb.out.next HB.out;simp only[Nat.zero_add] at b0 b1 b2 b3 b4;have HU:=Y1 (Z07 a b pa pb W4 (HAa.out.next HB.out) (HAb.out.next HB.out) (HG.out.next HB.out));unfold sv at HU
   go_wp2_with fail
   refine HU.out.mono ?_;rintro e w5 ⟨rfl,hb1⟩;have HB:=Y1 (Z00 HB.out hb1);clear hb1 HU a0 a1 a2 a3 a4 b0 b1 b2 b3 b4;have HF1:=Y1 (Zar HCa.out HCb.out HJ.out.1 HJ.out.2);have HF2:=Y1 (Zas HCa.out HCb.out HM.out.1 HM.out.2);clear HJ HM;generalize Sub.below a b=v at HF1 HF2 ⊢;cases ok with
   | false=>
    have hv:v=false:=by rw[HF1.out]; rfl
    subst hv;cases yes with
    | false=>
     go_wp2_with fail
     refine (Z0a _ (HG.out.next HB.out)).mono ?_;rintro e w6 ⟨rfl,hb1⟩;have HB:=Y1 (Z00 HB1.out (Z00 HB.out hb1));clear hb1;go_wp2;go_ret;exact ⟨rfl,HB.out⟩
    | true=>
     have HS2:Hid (same m a=false):=Y1 (by have:=HF2.out; rw[Bool.true_and] at this; exact this.symm);obtain ⟨_,⟨x0,x1,x2,x3,x4⟩,_⟩:=HX_3.out.next HB.out;simp only[Nat.zero_add] at x0 x1 x2 x3 x4;obtain ⟨_,⟨a0,a1,a2,a3,a4⟩,_⟩:=HXa.out.next HB.out;simp only[Nat.zero_add] at a0 a1 a2 a3 a4;have HU:=Y1 (Z0N m a q3 pa _ (HA_3.out.next HB.out) (HAa.out.next HB.out) (HG.out.next HB.out));rw[HS2.out] at HU
     go_wp2_with fail
     refine HU.out.mono ?_;rintro e w7 ⟨rfl,hb1⟩;have HB:=Y1 (Z00 HB.out hb1);clear hb1 HU x0 x1 x2 x3 x4 a0 a1 a2 a3 a4
     go_wp2_with fail
     refine (Z0a _ (HG.out.next HB.out)).mono ?_;rintro e w8 ⟨rfl,hb1⟩;have HB:=Y1 (Z00 HB1.out (Z00 HB.out hb1));clear hb1;go_wp2;go_ret;exact ⟨rfl,HB.out⟩
   | true=>
    have HS1:Hid (same j b=v):=Y1 (by have:=HF1.out; rw[Bool.true_and] at this; exact this.symm);cases v with
    | false=>
     obtain ⟨_,⟨x0,x1,x2,x3,x4⟩,_⟩:=HX_1.out.next HB.out;simp only[Nat.zero_add] at x0 x1 x2 x3 x4;obtain ⟨_,⟨b0,b1,b2,b3,b4⟩,_⟩:=HXb.out.next HB.out;simp only[Nat.zero_add] at b0 b1 b2 b3 b4;have HU:=Y1 (Z0N j b q1 pb _ (HA_1.out.next HB.out) (HAb.out.next HB.out) (HG.out.next HB.out));rw[HS1.out] at HU
     go_wp2_with fail
     refine HU.out.mono ?_;rintro e w9 ⟨rfl,hb1⟩;have HB:=Y1 (Z00 HB.out hb1);clear hb1 HU x0 x1 x2 x3 x4 b0 b1 b2 b3 b4;cases yes with
     | false=>
      go_wp2_with fail
      refine (Z0a _ (HG.out.next HB.out)).mono ?_;rintro e w10 ⟨rfl,hb1⟩;have HB:=Y1 (Z00 HB1.out (Z00 HB.out hb1));clear hb1;go_wp2;go_ret;exact ⟨rfl,HB.out⟩
     | true=>
      have HS2:Hid (same m a=false):=Y1 (by have:=HF2.out; rw[Bool.true_and] at this; exact this.symm);obtain ⟨_,⟨x0,x1,x2,x3,x4⟩,_⟩:=HX_3.out.next HB.out;simp only[Nat.zero_add] at x0 x1 x2 x3 x4;obtain ⟨_,⟨a0,a1,a2,a3,a4⟩,_⟩:=HXa.out.next HB.out;simp only[Nat.zero_add] at a0 a1 a2 a3 a4;have HU:=Y1 (Z0N m a q3 pa _ (HA_3.out.next HB.out) (HAa.out.next HB.out) (HG.out.next HB.out));rw[HS2.out] at HU
      go_wp2_with fail
      refine HU.out.mono ?_;rintro e w11 ⟨rfl,hb1⟩;have HB:=Y1 (Z00 HB.out hb1);clear hb1 HU x0 x1 x2 x3 x4 a0 a1 a2 a3 a4
      go_wp2_with fail
      refine (Z0a _ (HG.out.next HB.out)).mono ?_;rintro e w12 ⟨rfl,hb1⟩;have HB:=Y1 (Z00 HB1.out (Z00 HB.out hb1));clear hb1;go_wp2;go_ret;exact ⟨rfl,HB.out⟩
    | true=>
     obtain ⟨_,⟨x0,x1,x2,x3,x4⟩,_⟩:=HX_1.out.next HB.out;simp only[Nat.zero_add] at x0 x1 x2 x3 x4;obtain ⟨_,⟨b0,b1,b2,b3,b4⟩,_⟩:=HXb.out.next HB.out;simp only[Nat.zero_add] at b0 b1 b2 b3 b4;have HU:=Y1 (Z0N j b q1 pb _ (HA_1.out.next HB.out) (HAb.out.next HB.out) (HG.out.next HB.out));rw[HS1.out] at HU
     go_wp2_with fail
     refine HU.out.mono ?_;rintro e w13 ⟨rfl,hb1⟩;have HB:=Y1 (Z00 HB.out hb1);clear hb1 HU x0 x1 x2 x3 x4 b0 b1 b2 b3 b4;cases yes with
     | false=>
      exact absurd HF2.out (by simp)
     | true=>
      have HS2:Hid (same m a=true):=Y1 (by have:=HF2.out; rw[Bool.true_and] at this; exact this.symm);obtain ⟨_,⟨x0,x1,x2,x3,x4⟩,_⟩:=HX_3.out.next HB.out;simp only[Nat.zero_add] at x0 x1 x2 x3 x4;obtain ⟨_,⟨a0,a1,a2,a3,a4⟩,_⟩:=HXa.out.next HB.out;simp only[Nat.zero_add] at a0 a1 a2 a3 a4;have HU:=Y1 (Z0N m a q3 pa _ (HA_3.out.next HB.out) (HAa.out.next HB.out) (HG.out.next HB.out));rw[HS2.out] at HU
      go_wp2_with fail
      refine HU.out.mono ?_;rintro e w14 ⟨rfl,hb1⟩;have HB:=Y1 (Z00 HB.out hb1);clear hb1 HU x0 x1 x2 x3 x4 a0 a1 a2 a3 a4
      go_wp2_with fail
      refine (Z0a _ (HG.out.next HB.out)).mono ?_;rintro e w15 ⟨rfl,hb1⟩;have HB:=Y1 (Z00 HB1.out (Z00 HB.out hb1));clear hb1;go_wp2;go_ret;exact ⟨rfl,HB.out⟩}}
end SubM
end Go.Proofs.YtlomianlcnmfgaaDoor
namespace Go.Proofs.YtlomianlcnmfgaaDoor.subtypeBoth
section
open Go.ChangeShapes Go.WideShapes Go.ChangeAt Go.RowKit
open Go.ChangeMaps (open_string shut_string)
theorem walk (w:World) (u0:Shp.Sh) (p0:Ptr) (S0:ShAt w w.heap.size p0 u0) (u1:Shp.Sh) (p1:Ptr) (S1:ShAt w w.heap.size p1 u1) (hg:WGlobs w):Y9 7 #[.agg (Y8 u0 p0),.agg (Y8 u1 p1)] w (.bool true):=SubM.subBoth_walk u0 p0 u1 p1 w S0 S1 hg
theorem own:ownKnob Tryd.prog.godebug=none:=by kernel_rfl
theorem laidOut:laidOutB Tryd.prog=true:=by kernel_rfl
theorem contract (H:Type) (enc:TypeId×Value->H) (W:World) (base:Nat) (args:Array Value) (ds gs:List (DataW H)) (before:List MemPlace)
 (hval0: ∀(j:Nat) t v,Tryd.f7.params[j]? =some t->args[j]? =some v->Value.okWide Tryd.prog W .any base t v)
 (hW:DataW.Whole enc Tryd.prog Tryd.f7.params.toList Rows.subtypeBothSpec.vars false W args.toList ds gs before) (hL:laidMetH Tryd.prog Rows.subtypeBothRow.laid W) (hsz0: (DataW.weightsEach Tryd.prog (Tryd.f7.params.toList++Rows.subtypeBothSpec.plain.varTypes Tryd.prog) (ds++gs)).all (· <=reachBytes)=true):
 Calls Tryd.prog 7 args W fun e W'=> ∃v,e= .returned v/\Rows.subtypeBothSpec.post enc Tryd.prog Tryd.f7 false true false false W args v W':=by
 have hval: ∀(j:Nat) t v,Tryd.f7.params[j]? =some t->args[j]? =some v->Value.okWide Tryd.prog W .any base t v:=hval0;have hsz: (DataW.weightsEach Tryd.prog (Tryd.f7.params.toList++Rows.subtypeBothSpec.plain.varTypes Tryd.prog) (ds++gs)).all (· <=reachBytes)=true:=hsz0
 have hW':=hW;obtain ⟨p,q,hA0,hV,rfl,hfz,hnd⟩:=hW;have hA:DataW.TrodAll enc Tryd.prog W 0 (fun _=>true) true Tryd.f7.params.toList args.toList ds p:=hA0;rw[Tryd.params7] at hA hval hsz;obtain ⟨v0,vs0,d0,ds0,p0,q0,hargs,rfl,rfl,h0,t0⟩:=trodAll_cons hA;obtain ⟨v1,vs1,d1,ds1,p1,q1,rfl,rfl,rfl,h1,t1⟩:=trodAll_cons t0;obtain ⟨rfl,rfl,rfl⟩:=trodAll_nil t1;obtain rfl:args=#[v0,v1]:=by cases args; simp_all
 obtain ⟨rfl,rfl⟩:=trodVars_none hV;have k0:=h0;have lt0: ∀x∈p0,x.block < W.heap.size:=by obtain ⟨m,hm⟩:=k0; exact DataW.trod_lt m _ _ _ hm
 obtain ⟨u0,y0,rfl,S0⟩:=Z0x (hval 0 25 v0 rfl rfl) h0;have k1:=h1;have lt1: ∀x∈p1,x.block < W.heap.size:=by obtain ⟨m,hm⟩:=k1; exact DataW.trod_lt m _ _ _ hm
 obtain ⟨u1,y1,rfl,S1⟩:=Z0x (hval 1 25 v1 rfl rfl) h1;clear hA0 hval0;rw[MakeChecks.laidMetH_plain _ _ _ (by kernel_rfl)] at hL;have hglob:WGlobs W:=Z29 hL (List.Mem.head _);refine (walk W u0 y0 S0 u1 y1 S1 hglob).mono fun e W' ⟨he,bel⟩=> ?_;subst he;exact ⟨_,rfl,_,_,_,[],_,[],hW',trodAll_mk1 (shut_bool Tryd.underlying4 _),(trodAll_cons_mk (Below.trod laidOut (by kernel_rfl) (of_decide_eq_true (by kernel_rfl)) k0 bel lt0) (trodAll_cons_mk (Below.trod laidOut (by kernel_rfl) (of_decide_eq_true (by kernel_rfl)) k1 bel lt1) trodAll_mk0)),rfl,bel.frame _,fun h=>by cases h⟩
theorem lifted (os:Os) (started:os.Started) (H:Type) (enc:TypeId×Value->H):
 ReturnsInHanded {} Tryd.checked os 7 .any (fun w args=>(Rows.subtypeBothSpec.pre enc Tryd.prog Tryd.f7 Rows.subtypeBothRow.domain false w args/\laidMetH Tryd.prog Rows.subtypeBothRow.laid w)/\sizedMet enc Tryd.prog Tryd.f7 (OpenSpec.ofChange Rows.subtypeBothSpec) false w args)
  (Rows.subtypeBothSpec.post enc Tryd.prog Tryd.f7 false true false false):=by
 refine returnsInHanded_of_change_and (C:=Tryd.checked) (X:=fun w _=>laidMetH Tryd.prog Rows.subtypeBothRow.laid w) (fun _ _ _ hh h=>h.of_heap hh) own started (by kernel_rfl) Tryd.func7
  (ChangeSpec.witness_shaped (enc:=enc) (C:=Tryd.checked) (os:=os) (X:=fun w _=>laidMetH Tryd.prog Rows.subtypeBothRow.laid w) false (World.laidAll Tryd.prog os Rows.subtypeBothRow.laid) #[(.agg #[.int .i64 0,.string ByteArray.empty,.string ByteArray.empty,.slice none 0 0,.slice none 0 0]),(.agg #[.int .i64 0,.string ByteArray.empty,.string ByteArray.empty,.slice none 0 0,.slice none 0 0])] 8 (World.laidAll_os _ _ _)
   (World.shaped_of_ZipB (by kernel_rfl) (by kernel_rfl)) (by kernel_rfl) (by kernel_rfl) (by kernel_rfl)
   (by rw[MakeChecks.laidMetH_plain _ _ _ (by kernel_rfl)]; exact laidMet_laidAll _ (by kernel_rfl) (by kernel_rfl))) ?_
 intro W base args ds gs before hval hW _ hsz hL _;exact contract H enc W base args ds gs before hval hW hL hsz
theorem proved:Rows.SubtypeBothSaid:=
 OpenClaim.holds_of_wide 7 Tryd.f7 rfl rfl rfl rfl rfl rfl rfl ⟨rfl,rfl,rfl,rfl,rfl⟩ rfl rfl rfl rfl rfl (by kernel_rfl) Tryd.func7 (by kernel_rfl)
  (of_decide_eq_true (by kernel_rfl)) (by unfold Func.isWrapper; first | (rw[if_pos (by decide+kernel)]; kernel_rfl) | (rw[if_neg (by decide+kernel)]; exact ⟨rfl,rfl⟩))
  (fun os started H enc _=>lifted os started H enc)
theorem card:Rows.SubtypeBothCardSaid:=
 Claim7.holds_tied_plain_at .later [] [.data] true _ false proved (fun _ h=>by cases h) (by kernel_rfl) (fun _ h=>by cases h) subtypeBoth_row_tie rfl ⟨rfl,rfl⟩ (by kernel_rfl) rfl
  (fun f fn hf hfn=>by
   obtain rfl:f=7:=Option.some.inj ((show Tryd.prog.funcNamed "pandect/pandectlaw12.SubtypeBoth" =some 7 by kernel_rfl).symm.trans hf) |>.symm;obtain rfl:fn=Tryd.f7:=(Option.some.inj (Tryd.func7.symm.trans hfn)).symm;exact ⟨by kernel_rfl,fun j t ht=>by
    rw[Tryd.params7] at ht;have hm:t∈ [25,25]:=by simpa using Array.mem_of_getElem? ht
    have hall: ([25,25].all fun u=> !Tryd.prog.wantsStandIn u)=true:=by kernel_rfl
    exact (show Tryd.prog.wantsStandIn t=false by simpa using List.all_eq_true.1 hall t hm)⟩)
  (by kernel_rfl)
end
end Go.Proofs.YtlomianlcnmfgaaDoor.subtypeBoth
