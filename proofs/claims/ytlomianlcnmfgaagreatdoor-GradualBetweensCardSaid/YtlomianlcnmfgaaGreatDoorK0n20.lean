/- What the proofs of GradualBetweens want, part 20. -/
import Derived.Test.YtlomianlcnmfgaaGreatDoorK0n16
import Derived.Test.YtlomianlcnmfgaaGreatDoorK0n17
import Derived.Test.YtlomianlcnmfgaaGreatDoorK0n19
set_option linter.unusedVariables false
set_option linter.unusedSimpArgs false
set_option linter.unusedSectionVars false
set_option maxRecDepth 100000
set_option maxHeartbeats 16000000
namespace Go.Proofs.YtlomianlcnmfgaaGreatDoor
open Go.RowKit Shp Sub
namespace SubM
section
variable {f : Nat} (s t : Sh) (ps pt : Ptr) (n0 : Nat) (w : World) (hs : ShAt w n0 ps s) (hn : n0 <= w.heap.size) (h4 : s.kind = 4 \/ t.kind = 4)
include f s t ps pt n0 w hs hn h4
theorem Z58:
 Calls Tryz.prog 31 #[.agg (Y8 s ps),.agg (Y8 t pt)] w (NIs (Grd.dnamed (f+1) s t) n0 w):=by
 have e0:Grd.dnamed (f+1) s t=s:=by unfold Grd.dnamed; rw[if_pos h4]
 rw[e0];have hb1:=Z01 w (.cells (Y8 s ps) 25);obtain ⟨w1,hw1⟩: ∃w1,w1=w.alloc (.cells (Y8 s ps) 25):=⟨_,rfl⟩;have hs1:w1.heap.size=w.heap.size+1:=by rw[hw1]; simp
 have hb2:=Z01 w1 (.cells (Y8 t pt) 25);obtain ⟨w2,hw2⟩: ∃w2,w2=w1.alloc (.cells (Y8 t pt) 25):=⟨_,rfl⟩;have hs2:w2.heap.size=w.heap.size+2:=by rw[hw2]; simp[hs1]
 have hb3:=Z01 w2 (.cells Yb 25);obtain ⟨w3,hw3⟩: ∃w3,w3=w2.alloc (.cells Yb 25):=⟨_,rfl⟩;have hs3:w3.heap.size=w.heap.size+3:=by rw[hw3]; simp[hs2]
 rw[<-hw1] at hb1;rw[<-hw2] at hb2;rw[<-hw3] at hb3;have hbw:=Z00 hb1 (Z00 hb2 hb3);have hB1:Box5 w1 w.heap.size s ps:=by rw[hw1]; exact Z05 w s ps
 have hB2:Box5 w2 w1.heap.size t pt:=by rw[hw2]; exact Z05 w1 t pt
 have hB13:=(hB1.next hb2).next hb3;have hB23:=hB2.next hb3;rw[hs1] at hB23;have hR:Rc (w.heap.size+2) w3:=by have h:=Z0I hw3; rwa [hs2] at h
 have hu4:Upd (fun _=>False) w w3:=Upd.new hbw;have HF:=Y1 (Z16 (r:=s) (qr:=ps) (rc:=w.heap.size+2) (hi:=w.heap.size+3) (n0:=n0) (w:=w) (W':=w3) hn (by omega) (by omega) hbw (Kept.old (x:=(s,ps)) (Z0a hs hn hu4 (fun _ _ h=>h)) (by omega) (fun b hb=>Or.inl hb)));obtain ⟨_,⟨a0,a1,a2,a3,a4⟩,_⟩:=hB13;obtain ⟨_,⟨b0,b1,b2,b3,b4⟩,_⟩:=hB23;simp only[Nat.zero_add] at a0 a1 a2 a3 a4 b0 b1 b2 b3 b4;obtain ⟨v0,y0⟩:=hR.ex 0 (by omega);obtain ⟨v1,y1⟩:=hR.ex 1 (by omega);obtain ⟨v2,y2⟩:=hR.ex 2 (by omega);obtain ⟨v3,y3⟩:=hR.ex 3 (by omega);obtain ⟨v4,y4⟩:=hR.ex 4 (by omega);have z0:=hR.fz 0;have z1:=hR.fz 1;have z2:=hR.fz 2;have z3:=hR.fz 3;have z4:=hR.fz 4;have HU:=Y1 (RX.lay_at s ps (W:=w3) (g:=w.heap.size+2) hR.ex);have hw1':=hw1.symm;have hw2':=hw2.symm;have hw3':=hw3.symm;clear hw1 hw2 hw3 hb1 hb2 hb3 hbw hB1 hB2 hR hu4 hs hn e0 hs3;by_cases e:t.kind=4
 {have m4': (t.kind==4)=true:=by rw[e]; rfl
  clear h4 e;go_enter Tryz.func31,Tryz.ntmps31;go_wp2;obtain ⟨u0,u1,u2,u3,u4⟩:=HU.out;unfold RX.lay at u0 u1 u2 u3 u4;simp only[Nat.zero_add] at u0 u1 u2 u3 u4;refine bodyPost_ret (v:=sv s ps) (by simp[results,Tryz.results31,go_sem,u0,u1,u2,u3,u4]) rfl ?_;exact HF.out}
 {have m4: (s.kind==4)=true:=by rw[h4.resolve_right e]; rfl
  have m4': (t.kind==4)=false:=by simpa using e
  clear h4 e;go_enter Tryz.func31,Tryz.ntmps31;go_wp2;obtain ⟨u0,u1,u2,u3,u4⟩:=HU.out;unfold RX.lay at u0 u1 u2 u3 u4;simp only[Nat.zero_add] at u0 u1 u2 u3 u4;refine bodyPost_ret (v:=sv s ps) (by simp[results,Tryz.results31,go_sem,u0,u1,u2,u3,u4]) rfl ?_;exact HF.out}
theorem Z5i:
 Calls Tryz.prog 32 #[.agg (Y8 t pt),.agg (Y8 s ps)] w (NIs (Grd.dnamed (f+1) s t) n0 w):=by
 have e0:Grd.dnamed (f+1) s t=s:=by unfold Grd.dnamed; rw[if_pos h4]
 rw[e0];have hb1:=Z01 w (.cells (Y8 t pt) 25);obtain ⟨w1,hw1⟩: ∃w1,w1=w.alloc (.cells (Y8 t pt) 25):=⟨_,rfl⟩;have hs1:w1.heap.size=w.heap.size+1:=by rw[hw1]; simp
 have hb2:=Z01 w1 (.cells (Y8 s ps) 25);obtain ⟨w2,hw2⟩: ∃w2,w2=w1.alloc (.cells (Y8 s ps) 25):=⟨_,rfl⟩;have hs2:w2.heap.size=w.heap.size+2:=by rw[hw2]; simp[hs1]
 have hb3:=Z01 w2 (.cells Yb 25);obtain ⟨w3,hw3⟩: ∃w3,w3=w2.alloc (.cells Yb 25):=⟨_,rfl⟩;have hs3:w3.heap.size=w.heap.size+3:=by rw[hw3]; simp[hs2]
 rw[<-hw1] at hb1;rw[<-hw2] at hb2;rw[<-hw3] at hb3;have hbw:=Z00 hb1 (Z00 hb2 hb3);have hB1:Box5 w1 w.heap.size t pt:=by rw[hw1]; exact Z05 w t pt
 have hB2:Box5 w2 w1.heap.size s ps:=by rw[hw2]; exact Z05 w1 s ps
 have hB13:=(hB1.next hb2).next hb3;have hB23:=hB2.next hb3;rw[hs1] at hB23;have hR:Rc (w.heap.size+2) w3:=by have h:=Z0I hw3; rwa [hs2] at h
 have hu4:Upd (fun _=>False) w w3:=Upd.new hbw;have HF:=Y1 (Z16 (r:=s) (qr:=ps) (rc:=w.heap.size+2) (hi:=w.heap.size+3) (n0:=n0) (w:=w) (W':=w3) hn (by omega) (by omega) hbw (Kept.old (x:=(s,ps)) (Z0a hs hn hu4 (fun _ _ h=>h)) (by omega) (fun b hb=>Or.inl hb)));obtain ⟨_,⟨a0,a1,a2,a3,a4⟩,_⟩:=hB13;obtain ⟨_,⟨b0,b1,b2,b3,b4⟩,_⟩:=hB23;simp only[Nat.zero_add] at a0 a1 a2 a3 a4 b0 b1 b2 b3 b4;obtain ⟨v0,y0⟩:=hR.ex 0 (by omega);obtain ⟨v1,y1⟩:=hR.ex 1 (by omega);obtain ⟨v2,y2⟩:=hR.ex 2 (by omega);obtain ⟨v3,y3⟩:=hR.ex 3 (by omega);obtain ⟨v4,y4⟩:=hR.ex 4 (by omega);have z0:=hR.fz 0;have z1:=hR.fz 1;have z2:=hR.fz 2;have z3:=hR.fz 3;have z4:=hR.fz 4;have HU:=Y1 (RX.lay_at s ps (W:=w3) (g:=w.heap.size+2) hR.ex);have hw1':=hw1.symm;have hw2':=hw2.symm;have hw3':=hw3.symm;clear hw1 hw2 hw3 hb1 hb2 hb3 hbw hB1 hB2 hR hu4 hs hn e0 hs3;by_cases e:t.kind=4
 {have m4': (t.kind==4)=true:=by rw[e]; rfl
  clear h4 e;go_enter Tryz.func32,Tryz.ntmps32;go_wp2;obtain ⟨u0,u1,u2,u3,u4⟩:=HU.out;unfold RX.lay at u0 u1 u2 u3 u4;simp only[Nat.zero_add] at u0 u1 u2 u3 u4;refine bodyPost_ret (v:=sv s ps) (by simp[results,Tryz.results32,go_sem,u0,u1,u2,u3,u4]) rfl ?_;exact HF.out}
 {have m4: (s.kind==4)=true:=by rw[h4.resolve_right e]; rfl
  have m4': (t.kind==4)=false:=by simpa using e
  clear h4 e;go_enter Tryz.func32,Tryz.ntmps32;go_wp2;obtain ⟨u0,u1,u2,u3,u4⟩:=HU.out;unfold RX.lay at u0 u1 u2 u3 u4;simp only[Nat.zero_add] at u0 u1 u2 u3 u4;refine bodyPost_ret (v:=sv s ps) (by simp[results,Tryz.results32,go_sem,u0,u1,u2,u3,u4]) rfl ?_;exact HF.out}
end
theorem dok (f:Nat):DOk f:=by
 induction f with
 | zero=>intro up s t ps pt n0 W h2; have:=h2.da; rw[Z0j] at this; omega
 | succ f hI=>
  intro up s t ps pt n0 W h2 hr hs ht hn;by_cases h4:s.kind=4\/t.kind=4
  {exact ⟨Z58 s t ps pt n0 W hs hn h4,Z5i s t ps pt n0 W hs hn h4⟩}
  rcases hr with h | h | ⟨hk,h6,h7⟩
  {exact absurd (Or.inl h) h4}
  {exact absurd (Or.inr h) h4}
  by_cases k6:s.kind=6\/s.kind=7
  {have hg:=(h6 k6).1;have oa:=(Z0Q s).1 (Z0d h2.ra k6).b;have ob:=(Z0Q t).1 (Z0d h2.rb (hk▸k6)).b;have ho:s.of_=t.of_:=oa.1.trans ob.1.symm;have hm:s.name=t.name:=oa.2.trans ob.2.symm;rcases k6 with k | k
   {exact ⟨Z5P hI up s t ps pt n0 W h2 hg hs ht hn hk ho hm k,Z6Q hI up s t ps pt n0 W h2 hg hs ht hn hk ho hm k⟩}
   {exact ⟨Z5Q hI up s t ps pt n0 W h2 hg hs ht hn hk ho hm k,Z6R hI up s t ps pt n0 W h2 hg hs ht hn hk ho hm k⟩}}
  {obtain ⟨ho,hm,hl,hg⟩:=h7 k6;exact ⟨Z5R hI up s t ps pt n0 W h2 hg hs ht hn hk ho hm (fun h=>h4 (Or.inl h)) k6 hl,Z6S hI up s t ps pt n0 W h2 hg hs ht hn hk ho hm (fun h=>h4 (Or.inl h)) k6 hl⟩}
end SubM
end Go.Proofs.YtlomianlcnmfgaaGreatDoor
namespace Go.Proofs.YtlomianlcnmfgaaGreatDoor
open Go.RowKit Shp Sub
namespace SubM
def NearOk (f:Nat):Prop:=
 ∀(a b:Sh) (pa pb:Ptr) (w:World),Two f a b->ShAt w w.heap.size pa a->ShAt w w.heap.size pb b->
  Y9 56 #[.agg (Y8 a pa),.agg (Y8 b pb)] w (.bool (Grd.hold true f a b))
def gtakeT (v0 v1 v2 v3 v4 v5:Value) (W0:World) (p:Sh) (ok:Bool):Nat->Value->Prop
 | 0,v=>v=v0
 | 1,v=>v=v1
 | 2,v=>v=v2
 | 3,v=>v=v3
 | 4,v=>v=v4
 | 5,v=>v=v5
 | 6,v=> ∃q:Ptr,v= .tuple #[.agg (Y8 p q),.bool ok]/\ShAt W0 W0.heap.size q p
 | 7,v=> ∃q:Ptr,v= .tuple #[.agg (Y8 p q),.bool ok]/\ShAt W0 W0.heap.size q p
 | 8,v=> ∃q:Ptr,v= .agg (Y8 p q)/\ShAt W0 W0.heap.size q p
 | 9,v=>v= .bool ok
 | 12,v=>v= .bool ok
 | _,_=>True
theorem Z6T {a:Sh} {pa:Ptr} {x:List UInt8} {W0 W:World} (ha:ShAt W0 W0.heap.size pa a) (hR:Rec a) {p:Sh} {ok:Bool} (hp: (get a x).getD Z0c=p) (hok: (get a x).isSome=ok) (hJ:Below W0.heap.size W0 W):
 Calls Tryz.prog 57 #[.agg (Y8 a pa),.string ⟨x.toArray⟩] W fun e w'=> ∃q:Ptr,e= .returned (.tuple #[.agg (Y8 p q),.bool ok])/\ShAt W0 W0.heap.size q p/\Below W.heap.size W w':=by
 refine (Z4s a pa x W0.heap.size W hJ.size (ha.keep hJ (Nat.le_refl _)) hR).mono ?_;rintro e w' ⟨q,he,hs,hb⟩;rw[hp,hok] at he;rw[hp] at hs;exact ⟨q,he,hs.of (Nat.le_refl _) (fun g c hg=>(hJ.cell (p:=⟨g,c,none⟩) hg).symm),hb⟩
theorem ZaG {f:Nat} (hI:NearOk f) (a b:Sh) (pa pb:Ptr) (w:World) (h2:Two (f+1) a b) (ha:ShAt w w.heap.size pa a) (hb:ShAt w w.heap.size pb b) (hk:a.kind=b.kind) (ho:a.of_=b.of_) (hn:a.name=b.name) (h6:a.kind=6):
 Y9 56 #[.agg (Y8 a pa),.agg (Y8 b pb)] w (.bool (Grd.hold true (f+1) a b)):=by
 have hx1:=Z01 w (.cells (Y8 a pa) 25);obtain ⟨u1,hu1⟩: ∃u1,w.alloc (.cells (Y8 a pa) 25)=u1:=⟨_,rfl⟩;have hs1:u1.heap.size=w.heap.size+1:=by rw[<-hu1]; simp
 have hy1:=Z05 w a pa;rw[hu1] at hx1 hy1;have hx2:=Z01 u1 (.cells (Y8 b pb) 25);obtain ⟨W1,hu2⟩: ∃u2,u1.alloc (.cells (Y8 b pb) 25)=u2:=⟨_,rfl⟩;have hy2:=Z05 u1 b pb;rw[hu2] at hx2 hy2;rw[hs1] at hy2;have hb12:=Z00 hx1 hx2;have hxa:=hy1.next hx2;have HXa:=Y1 hxa;have HXb:=Y1 hy2;have HAa:=Y1 (ha.next hb12);have HAb:=Y1 (hb.next hb12);have HB1:=Y1 hb12;have H2:=Y1 h2;have HI:=Y1 hI;have HRt:=Y1 (Z0d h2.ra (by left; exact h6));have HRo:=Y1 (Z0d h2.rb (by rw[<-hk]; left; exact h6));have HL:=Y1 (hb.small.l);have HM:=Y1 (hb.small.m);have HL':=Y1 (ha.small.l);have HM':=Y1 (ha.small.m);have HK:=Y1 (And.intro hk h6);obtain ⟨_,⟨a0,a1,a2,a3,a4⟩,_⟩:=hxa;obtain ⟨_,⟨b0,b1,b2,b3,b4⟩,_⟩:=hy2;simp only[Nat.zero_add] at a0 a1 a2 a3 a4 b0 b1 b2 b3 b4;have m4a:=Y3 4 h6 rfl;have m4b: (b.kind==4)=false:=by rw[<-hk,h6]; rfl
 have n1: (a.kind !=b.kind)=false:=by rw[hk]; simp
 have n2: (a.of_ !=b.of_)=false:=by rw[ho]; simp
 have n3: (a.name !=b.name)=false:=by rw[hn]; simp
 have e1: (a.kind==b.kind)=true:=by rw[hk]; simp
 have e2: (a.of_==b.of_)=true:=by rw[ho]; simp
 have e3: (a.name==b.name)=true:=by rw[hn]; simp
 have n6:=Y4 6 h6 rfl;clear hx1 hx2 hy1 hb12 ha hb h2 hI;go_enter Tryz.func56,Tryz.ntmps56;clear hk ho hn h6
 go_wp2_with fail
 clear hs1 hu1 hu2 m4a m4b a0 a1 a2 a3 a4 b0 b1 b2 b3 b4 n1 n2 n3 e1 e2 e3 n6
 go_loopw [5] (fun ii wr=> ∃i:Nat,ii= .int .i64 i/\i<=b.names.length/\Hid (∀j (h1:j < b.names.length) (h2:j < b.parts.length),j < i-> ∃p,get a (b.names[j]'h1)=some p/\Grd.hold true f p (b.parts[j]'h2)=true)/\Below W1.heap.size W1 wr) (fun i _=>b.names.length - (intOf i).toNat)
 case atStart=>exact ⟨0,rfl,Nat.zero_le _,Y1 (fun j _ _ hj=>absurd hj (by omega)),Below.refl _ _⟩
 case round=>
  obtain ⟨i,rfl,hi,HN,hb⟩:=hrel;have hl:=HL.out;have hm:=HM.out;have hl':=HL'.out;have hm':=HM'.out;have HB:=Y1 hb;obtain ⟨_,⟨a0,a1,a2,a3,a4⟩,_⟩:=HXa.out.next hb;obtain ⟨_,⟨b0,b1,b2,b3,b4⟩,_⟩:=HXb.out.next hb;simp only[Nat.zero_add] at a0 a1 a2 a3 a4 b0 b1 b2 b3 b4;by_cases hlt:i < b.names.length
  {have hi1: (i:Int) < (b.names.length:Int):=by omega
   have hip:i < b.parts.length:=by have:=HRo.out.l; omega
   have hi2: (i:Int) < (b.parts.length:Int):=by omega
   rcases (HAb.out.strs.next hb).cell7 with h0 | ⟨g,off,hqA,hg,hc⟩
   {omega}
   have hcx:=hc i hlt;obtain ⟨x,hx⟩: ∃x,x=b.names[i]'hlt:=⟨_,rfl⟩;rw[<-hx] at hcx;have HX:=Y1 hx;rcases HAb.out.part with h0 | ⟨g',off',qs,hqP,hg',hc',hra⟩
   {omega}
   obtain ⟨y,hy⟩: ∃y,y=b.parts[i]'hip:=⟨_,rfl⟩;have hY5:=(hc' i hip).keep hg' hb;have hYA:=(hra i hip).next hb;have hpe:b.parts[i]'hip=y:=hy.symm;rw[hpe] at hY5 hYA;have HY:=Y1 hy;have HY5:=Y1 hY5;have HYA:=Y1 hYA;have HG':=Y1 hg';rw[hqA] at b3;rw[hqP] at b4;have HCX:=Y1 hcx;have HQA:=Y1 hqA;have HQP:=Y1 hqP;have HAt:=Y1 (HAa.out.next hb);have HGX:=Y1 hg;obtain ⟨p,hp⟩: ∃p,(get a x).getD Z0c=p:=⟨_,rfl⟩;obtain ⟨ok,hok⟩: ∃ok,(get a x).isSome=ok:=⟨_,rfl⟩;have HP:=Y1 (And.intro hp hok);clear hp hok hpe hY5 hYA hy hra hc' hc hx hg hg' hcx hb hqA hqP
   go_wp2_with fail
   refine Z21 (rs:= [0,1,2,3,4,5,6,7,8,9,10,11,12])
    (fun u'=> { tmps:=#[.agg (Y8 a pa),.agg (Y8 b pb),.pointer (some { block:=w.heap.size,off:=0 }),.pointer (some { block:=w.heap.size+1,off:=0 }),u4,.int .i64 ↑i,u' 10,u' 12,undef,undef,undef,undef,undef,.pointer (some { block:=w.heap.size,off:=0 }),.int .i64 a.kind,.bool false,.bool false,.pointer (some { block:=w.heap.size+1,off:=0 }),.int .i64 b.kind,.bool false,.bool false,.pointer (some { block:=w.heap.size,off:=0 }),.int .i64 a.kind,.pointer (some { block:=w.heap.size+1,off:=0 }),.int .i64 b.kind,.bool false,.bool false,.pointer (some { block:=w.heap.size,off:=1 }),.string { data:=a.of_.toArray },.pointer (some { block:=w.heap.size+1,off:=1 }),.string { data:=b.of_.toArray },.bool false,.bool false,.bool false,.pointer (some { block:=w.heap.size,off:=2 }),.string { data:=a.name.toArray },.pointer (some { block:=w.heap.size+1,off:=2 }),.string { data:=b.name.toArray },.bool false,.bool false,.pointer (some { block:=w.heap.size,off:=0 }),.int .i64 a.kind,.bool true,.bool true,.int .i64 ↑i,.pointer (some { block:=w.heap.size+1,off:=3 }),.slice (some { block:=g,off:=off }) b.names.length pb.c,.int .i64 ↑b.names.length,.bool true,u49,u50,u' 7,u' 0,u' 1,u' 2,u' 3,u' 4,u' 5,u' 6,u' 8,u' 9,u61,u62,u63,u64,u65,u66,u67,u68,u69,u70,u71,u72,undef,undef,undef,undef,undef,undef,undef,undef,undef,undef,undef,undef,undef,undef,undef,undef,undef,undef,undef,undef,undef,undef,undef,undef,undef,undef,undef,undef,undef,undef,undef,undef,undef,undef,undef,undef,undef,undef,undef,undef,undef,undef,undef,undef,undef,undef,undef,undef,undef,undef,undef,undef,undef,undef,undef,undef,undef,undef,undef,undef,undef,undef,undef,undef,undef,undef,undef,undef,undef,undef,undef,undef,undef,undef,undef,undef,undef,undef,undef,undef,undef,undef,undef,undef,undef],defers:= [] })
    (fun j=>([u52,u53,u54,u55,u56,u57,u58,u51,u59,u60,u6,undef,u7]:List Value).getD j undef) (TakeI wr (gtakeT (.agg (Y8 a pa)) (.pointer (some ⟨w.heap.size+1,3,none⟩)) (.slice (some ⟨g,off,none⟩) b.names.length pb.c) (.int .i64 (i:Int)) (.pointer (some ⟨g,off+i,none⟩)) (.string ⟨x.toArray⟩) wr p ok) p) (by kernel_rfl) (by kernel_rfl) (by kernel_rfl) TakeI.start ?_ ?_
   refine StepsInv.cons _ rfl (fun d u' W K' hI hd hw hK=> ?_) ?_
   {obtain ⟨_,⟨y0,y1,y2,y3,y4⟩,_⟩:=HXa.out.next (Z00 HB.out hI.up);simp only[Nat.zero_add] at y0 y1 y2 y3 y4;refine Z02 (v:=(.agg (Y8 a pa))) (W':=W) rfl ?_ (hK.out _ _ (hI.step (by decide) (by decide) rfl Y2))
    try dsimp only
    go_simp}
   refine StepsInv.cons _ rfl (fun d u' W K' hI hd hw hK=> ?_) ?_
   {refine Z02 (v:=(.pointer (some ⟨w.heap.size+1,3,none⟩))) (W':=W) rfl ?_ (hK.out _ _ (hI.step (by decide) (by decide) rfl Y2))
    try dsimp only
    go_simp}
   refine StepsInv.cons _ rfl (fun d u' W K' hI hd hw hK=> ?_) ?_
   {have d1:u' 1=(.pointer (some ⟨w.heap.size+1,3,none⟩)):=hI.vals 1 (hw 1 (by kernel_rfl));obtain ⟨_,⟨y0,y1,y2,y3,y4⟩,_⟩:=HXb.out.next (Z00 HB.out hI.up);simp only[Nat.zero_add] at y0 y1 y2 y3 y4;rw[HQA.out] at y3;refine Z02 (v:=(.slice (some ⟨g,off,none⟩) b.names.length pb.c)) (W':=W) rfl ?_ (hK.out _ _ (hI.step (by decide) (by decide) rfl Y2))
    try dsimp only
    go_simp}
   refine StepsInv.cons _ rfl (fun d u' W K' hI hd hw hK=> ?_) ?_
   {refine Z02 (v:=(.int .i64 (i:Int))) (W':=W) rfl ?_ (hK.out _ _ (hI.step (by decide) (by decide) rfl Y2))
    try dsimp only
    go_simp}
   refine StepsInv.cons _ rfl (fun d u' W K' hI hd hw hK=> ?_) ?_
   {have d2:u' 2=(.slice (some ⟨g,off,none⟩) b.names.length pb.c):=hI.vals 2 (hw 2 (by kernel_rfl));have d3:u' 3=(.int .i64 (i:Int)):=hI.vals 3 (hw 3 (by kernel_rfl));refine Z02 (v:=(.pointer (some ⟨g,off+i,none⟩))) (W':=W) rfl ?_ (hK.out _ _ (hI.step (by decide) (by decide) rfl Y2))
    try dsimp only
    go_simp}
   refine StepsInv.cons _ rfl (fun d u' W K' hI hd hw hK=> ?_) ?_
   {have d4:u' 4=(.pointer (some ⟨g,off+i,none⟩)):=hI.vals 4 (hw 4 (by kernel_rfl));have hcx:=(hI.up.cell (p:=⟨g,off+i,none⟩) HGX.out).trans HCX.out;refine Z02 (v:=(.string ⟨x.toArray⟩)) (W':=W) rfl ?_ (hK.out _ _ (hI.step (by decide) (by decide) rfl Y2))
    try dsimp only
    go_simp}
   refine StepsInv.cons _ rfl (fun d u' W K' hI hd hw hK=> ?_) ?_
   {have d0:u' 0=(.agg (Y8 a pa)):=hI.vals 0 (hw 0 (by kernel_rfl));have d5:u' 5=(.string ⟨x.toArray⟩):=hI.vals 5 (hw 5 (by kernel_rfl));refine Z0F (f:=57) (args:=#[(.agg (Y8 a pa)),(.string ⟨x.toArray⟩)]) (W':=W) rfl ?_ ((Z6T HAt.out HRt.out HP.out.1 HP.out.2 hI.up).mono fun e w' ⟨q,he,hs,hb⟩=>⟨_,he,hK.out _ _ (hI.step (by decide) (by decide) ⟨q,rfl,hs⟩ hb)⟩)
    try dsimp only
    go_simp}
   refine StepsInv.cons _ rfl (fun d u' W K' hI hd hw hK=> ?_) ?_
   {obtain ⟨q,d6,hs⟩:=hI.vals 6 (hw 6 (by kernel_rfl));refine Z02 (v:= .tuple #[.agg (Y8 p q),.bool ok]) (W':=W) rfl ?_ (hK.out _ _ (hI.step (by decide) (by decide) ⟨q,rfl,hs⟩ Y2))
    try dsimp only
    go_simp}
   refine StepsInv.cons _ rfl (fun d u' W K' hI hd hw hK=> ?_) ?_
   {obtain ⟨q,d7,hs⟩:=hI.vals 7 (hw 7 (by kernel_rfl));refine Z02 (v:= .agg (Y8 p q)) (W':=W) rfl ?_ (hK.out _ _ (hI.step (by decide) (by decide) ⟨q,rfl,hs⟩ Y2))
    try dsimp only
    go_simp}
   refine StepsInv.cons _ rfl (fun d u' W K' hI hd hw hK=> ?_) ?_
   {obtain ⟨q,d7,hs⟩:=hI.vals 7 (hw 7 (by kernel_rfl));refine Z02 (v:= .bool ok) (W':=W) rfl ?_ (hK.out _ _ (hI.step (by decide) (by decide) rfl Y2))
    try dsimp only
    go_simp}
   refine StepsInv.cons _ rfl (fun d u' W K' hI hd hw hK=> ?_) ?_
   {refine Z02 (v:= .pointer (some ⟨W.heap.size,0,none⟩)) (W':=W.alloc (.cells Yb 25)) rfl ?_ (hK.out _ _ (hI.alloc hd (fun _=>trivial)))
    try dsimp only
    go_simp}
   refine StepsInv.cons _ rfl (fun d u' W K' hI hd hw hK=> ?_) ?_
   {obtain ⟨q,d8,hs⟩:=hI.vals 8 (hw 8 (by kernel_rfl));obtain ⟨b',d10,hb1,hr⟩:=hI.al (hw 10 (by kernel_rfl)) hd;obtain ⟨v0,y0⟩:=hr.ex 0 (by omega);obtain ⟨v1,y1⟩:=hr.ex 1 (by omega);obtain ⟨v2,y2⟩:=hr.ex 2 (by omega);obtain ⟨v3,y3⟩:=hr.ex 3 (by omega);obtain ⟨v4,y4⟩:=hr.ex 4 (by omega);have z0:=hr.fz 0;have z1:=hr.fz 1;have z2:=hr.fz 2;have z3:=hr.fz 3;have z4:=hr.fz 4;refine Z0q (W':=RX.lay W b' p q) rfl ?_ (hK.out _ _ (hI.store (hw 10 (by kernel_rfl)) hd (fun _=>trivial) d10 hs));unfold RX.lay
    try dsimp only
    go_simp}
   refine StepsInv.cons _ rfl (fun d u' W K' hI hd hw hK=> ?_) StepsInv.nil
   {have d9:u' 9= .bool ok:=hI.vals 9 (hw 9 (by kernel_rfl));refine Z02 (v:= .bool ok) (W':=W) rfl ?_ (hK.out _ _ (hI.step (by decide) (by decide) rfl Y2))
    try dsimp only
    go_simp}
   intro dd z' W2 hI hdn
   try dsimp only
   obtain ⟨h10,b',q,z10,hb1,hs,hbx⟩:=hI.st (hdn 11 (by decide));rw[z10,show z' 12= .bool ok from hI.vals 12 (hdn 12 (by decide))];have hb3:=hI.up;clear hI hdn h10 z10 hb1;have HB2:=Y1 hb3;have HBX:=Y1 hbx;have HSP:=Y1 (hs.next hb3);have HY5:=Y1 (HY5.out.keep (Nat.lt_of_lt_of_le HG'.out (by have:=HB.out.size; omega)) hb3);have HYA:=Y1 (HYA.out.next hb3);have HBB:=Y1 (Z00 HB.out hb3);clear hb3 hbx hs a0 a1 a2 a3 a4 b0 b1 b2 b3 b4;obtain ⟨_,⟨b0,b1,b2,b3,b4⟩,_⟩:=HXb.out.next HBB.out;simp only[Nat.zero_add] at b0 b1 b2 b3 b4;rw[HQP.out] at b4;cases ok with
   | false=>
    have HF:Hid (Grd.hold true (f+1) a b=false):=Y1 (Grd.nr_none H2.out.ra H2.out.rb HK.out.1 HK.out.2 hlt (by
     rw[<-HX.out];cases hq:get a x with
     | none=>rfl
     | some v=>have:=HP.out.2; rw[hq] at this; cases this))
    go_wp2_with fail
    go_quiet (fail)
    go_wp2;go_ret;exact ⟨by rw[HF.out]; rfl,Z0r (Z00 HB1.out HBB.out) _⟩
   | true=>
    have HG:Hid (get a x=some p):=Y1 (by
     cases hq:get a x with
     | none=>have:=HP.out.2; rw[hq] at this; cases this
     | some v=>have:=HP.out.1; rw[hq] at this; rw[<-this]; rfl)
    have hdr:Below W2.heap.size W2 W2.drew:=Y2.drew;have HD:=Y1 hdr;have HT:Hid (Two f p y):=Y1 (H2.out.part (Z06 HG.out) (by rw[HY.out]; exact List.getElem_mem hip));have HC:=Y1 (HI.out p y q (qs i) W2.drew HT.out (HSP.out.next hdr) (HYA.out.next hdr));obtain ⟨_,⟨x0,x1,x2,x3,x4⟩,_⟩:=HBX.out;obtain ⟨s0,s1,s2,s3,s4⟩:=HY5.out;simp only[Nat.zero_add] at x0 x1 x2 x3 x4;clear hdr
    go_wp2_with fail
    go_still_tail 9,(by kernel_rfl)
    change wpList _ _ _ _ _ W2.drew
    go_wp2_with fail
    refine HC.out.mono ?_;rintro e W3 ⟨rfl,hb4⟩;have HB3:=Y1 (Z00 HBB.out (Z00 HD.out hb4));clear hb4 HC x0 x1 x2 x3 x4 s0 s1 s2 s3 s4;cases hbw:Grd.hold true f p y with
    | false=>
     have HF:Hid (Grd.hold true (f+1) a b=false):=Y1 (Grd.nr_no H2.out.ra H2.out.rb HK.out.1 HK.out.2 hlt hip (p:=p) (by rw[<-HX.out]; exact HG.out) (by rw[<-HY.out]; exact hbw));go_wp2;go_ret;exact ⟨by rw[HF.out]; rfl,Z00 HB1.out HB3.out⟩
    | true=>
     have HE:Hid (∃p,get a (b.names[i]'hlt)=some p/\Grd.hold true f p (b.parts[i]'hip)=true):=Y1 ⟨p,by rw[<-HX.out]; exact HG.out,by rw[<-HY.out]; exact hbw⟩;go_wp2
     go_roundw
     case rel=>exact ⟨i+1,by go_num,by omega,Y1 (fun j h1 h2 hji=>by
      rcases Nat.lt_succ_iff_lt_or_eq.1 hji with h | rfl
      {exact HN.out j h1 h2 h}
      · exact HE.out),HB3.out⟩
     case measure=>simp[intOf]; omega}
  {have hi1: ¬(i:Int) < (b.names.length:Int):=by omega
   have HF:Hid (Grd.hold true (f+1) a b=true):=Y1 (Grd.nr_yes H2.out.ra H2.out.rb HK.out.1 HK.out.2 (fun j h1 h2=>HN.out j h1 h2 (by omega)));clear hb;go_wp2;go_ret;exact ⟨by rw[HF.out]; rfl,Z00 HB1.out HB.out⟩}
end SubM
end Go.Proofs.YtlomianlcnmfgaaGreatDoor
namespace Go.Proofs.YtlomianlcnmfgaaGreatDoor
open Go.RowKit Shp Sub
namespace SubM
theorem ZaH {f:Nat} (hI:NearOk f) (a b:Sh) (pa pb:Ptr) (w:World) (h2:Two (f+1) a b) (ha:ShAt w w.heap.size pa a) (hb:ShAt w w.heap.size pb b) (hk:a.kind=b.kind) (ho:a.of_=b.of_) (hn:a.name=b.name) (h6:a.kind=7):
 Y9 56 #[.agg (Y8 a pa),.agg (Y8 b pb)] w (.bool (Grd.hold true (f+1) a b)):=by
 have hx1:=Z01 w (.cells (Y8 a pa) 25);obtain ⟨u1,hu1⟩: ∃u1,w.alloc (.cells (Y8 a pa) 25)=u1:=⟨_,rfl⟩;have hs1:u1.heap.size=w.heap.size+1:=by rw[<-hu1]; simp
 have hy1:=Z05 w a pa;rw[hu1] at hx1 hy1;have hx2:=Z01 u1 (.cells (Y8 b pb) 25);obtain ⟨W1,hu2⟩: ∃u2,u1.alloc (.cells (Y8 b pb) 25)=u2:=⟨_,rfl⟩;have hy2:=Z05 u1 b pb;rw[hu2] at hx2 hy2;rw[hs1] at hy2;have hb12:=Z00 hx1 hx2;have hxa:=hy1.next hx2;have HXa:=Y1 hxa;have HXb:=Y1 hy2;have HAa:=Y1 (ha.next hb12);have HAb:=Y1 (hb.next hb12);have HB1:=Y1 hb12;have H2:=Y1 h2;have HI:=Y1 hI;have HRt:=Y1 (Z0d h2.rb (by rw[<-hk]; right; exact h6));have HRo:=Y1 (Z0d h2.ra (by right; exact h6));have HL:=Y1 (hb.small.l);have HM:=Y1 (hb.small.m);have HL':=Y1 (ha.small.l);have HM':=Y1 (ha.small.m);have HK:=Y1 (And.intro hk h6);obtain ⟨_,⟨a0,a1,a2,a3,a4⟩,_⟩:=hxa;obtain ⟨_,⟨b0,b1,b2,b3,b4⟩,_⟩:=hy2;simp only[Nat.zero_add] at a0 a1 a2 a3 a4 b0 b1 b2 b3 b4;have m4a:=Y3 4 h6 rfl;have m4b: (b.kind==4)=false:=by rw[<-hk,h6]; rfl
 have n1: (a.kind !=b.kind)=false:=by rw[hk]; simp
 have n2: (a.of_ !=b.of_)=false:=by rw[ho]; simp
 have n3: (a.name !=b.name)=false:=by rw[hn]; simp
 have e1: (a.kind==b.kind)=true:=by rw[hk]; simp
 have e2: (a.of_==b.of_)=true:=by rw[ho]; simp
 have e3: (a.name==b.name)=true:=by rw[hn]; simp
 have n6:=Y3 6 h6 rfl;have n7:=Y4 7 h6 rfl;clear hx1 hx2 hy1 hb12 ha hb h2 hI;go_enter Tryz.func56,Tryz.ntmps56;clear hk ho hn h6
 go_wp2_with fail
 clear hs1 hu1 hu2 m4a m4b a0 a1 a2 a3 a4 b0 b1 b2 b3 b4 n1 n2 n3 e1 e2 e3 n6 n7
 go_loopw [8] (fun ii wr=> ∃i:Nat,ii= .int .i64 i/\i<=a.names.length/\Hid (∀j (h1:j < a.names.length) (h2:j < a.parts.length),j < i-> ∃p,get b (a.names[j]'h1)=some p/\Grd.hold true f (a.parts[j]'h2) p=true)/\Below W1.heap.size W1 wr) (fun i _=>a.names.length - (intOf i).toNat)
 case atStart=>exact ⟨0,rfl,Nat.zero_le _,Y1 (fun j _ _ hj=>absurd hj (by omega)),Below.refl _ _⟩
 case round=>
  obtain ⟨i,rfl,hi,HN,hb⟩:=hrel;have hl:=HL.out;have hm:=HM.out;have hl':=HL'.out;have hm':=HM'.out;have HB:=Y1 hb;obtain ⟨_,⟨a0,a1,a2,a3,a4⟩,_⟩:=HXa.out.next hb;obtain ⟨_,⟨b0,b1,b2,b3,b4⟩,_⟩:=HXb.out.next hb;simp only[Nat.zero_add] at a0 a1 a2 a3 a4 b0 b1 b2 b3 b4;by_cases hlt:i < a.names.length
  {have hi1: (i:Int) < (a.names.length:Int):=by omega
   have hip:i < a.parts.length:=by have:=HRo.out.l; omega
   have hi2: (i:Int) < (a.parts.length:Int):=by omega
   rcases (HAa.out.strs.next hb).cell7 with h0 | ⟨g,off,hqA,hg,hc⟩
   {omega}
   have hcx:=hc i hlt;obtain ⟨x,hx⟩: ∃x,x=a.names[i]'hlt:=⟨_,rfl⟩;rw[<-hx] at hcx;have HX:=Y1 hx;rcases HAa.out.part with h0 | ⟨g',off',qs,hqP,hg',hc',hra⟩
   {omega}
   obtain ⟨y,hy⟩: ∃y,y=a.parts[i]'hip:=⟨_,rfl⟩;have hY5:=(hc' i hip).keep hg' hb;have hYA:=(hra i hip).next hb;have hpe:a.parts[i]'hip=y:=hy.symm;rw[hpe] at hY5 hYA;have HY:=Y1 hy;have HY5:=Y1 hY5;have HYA:=Y1 hYA;have HG':=Y1 hg';rw[hqA] at a3;rw[hqP] at a4;have HCX:=Y1 hcx;have HQA:=Y1 hqA;have HQP:=Y1 hqP;have HAt:=Y1 (HAb.out.next hb);have HGX:=Y1 hg;obtain ⟨p,hp⟩: ∃p,(get b x).getD Z0c=p:=⟨_,rfl⟩;obtain ⟨ok,hok⟩: ∃ok,(get b x).isSome=ok:=⟨_,rfl⟩;have HP:=Y1 (And.intro hp hok);clear hp hok hpe hY5 hYA hy hra hc' hc hx hg hg' hcx hb hqA hqP
   go_wp2_with fail
   refine Z21 (rs:= [0,1,2,3,4,5,6,7,8,9,10,11,12])
    (fun u'=> { tmps:=#[.agg (Y8 a pa),.agg (Y8 b pb),.pointer (some { block:=w.heap.size,off:=0 }),.pointer (some { block:=w.heap.size+1,off:=0 }),u4,undef,undef,undef,.int .i64 ↑i,u' 10,u' 12,undef,undef,.pointer (some { block:=w.heap.size,off:=0 }),.int .i64 a.kind,.bool false,.bool false,.pointer (some { block:=w.heap.size+1,off:=0 }),.int .i64 b.kind,.bool false,.bool false,.pointer (some { block:=w.heap.size,off:=0 }),.int .i64 a.kind,.pointer (some { block:=w.heap.size+1,off:=0 }),.int .i64 b.kind,.bool false,.bool false,.pointer (some { block:=w.heap.size,off:=1 }),.string { data:=a.of_.toArray },.pointer (some { block:=w.heap.size+1,off:=1 }),.string { data:=b.of_.toArray },.bool false,.bool false,.bool false,.pointer (some { block:=w.heap.size,off:=2 }),.string { data:=a.name.toArray },.pointer (some { block:=w.heap.size+1,off:=2 }),.string { data:=b.name.toArray },.bool false,.bool false,.pointer (some { block:=w.heap.size,off:=0 }),.int .i64 a.kind,.bool false,.bool false,undef,undef,undef,undef,undef,undef,undef,undef,undef,undef,undef,undef,undef,undef,undef,undef,undef,undef,undef,undef,undef,undef,undef,undef,undef,undef,undef,undef,undef,.bool true,.bool true,.int .i64 ↑i,.pointer (some { block:=w.heap.size,off:=3 }),.slice (some { block:=g,off:=off }) a.names.length pa.c,.int .i64 ↑a.names.length,.bool true,u80,u81,u' 7,u' 0,u' 1,u' 2,u' 3,u' 4,u' 5,u' 6,u' 8,u' 9,u92,u93,u94,u95,u96,u97,u98,u99,u100,u101,u102,u103,undef,undef,undef,undef,undef,undef,undef,undef,undef,undef,undef,undef,undef,undef,undef,undef,undef,undef,undef,undef,undef,undef,undef,undef,undef,undef,undef,undef,undef,undef,undef,undef,undef,undef,undef,undef,undef,undef,undef,undef,undef,undef,undef,undef,undef,undef,undef,undef,undef,undef,undef,undef,undef,undef],defers:= [] })
    (fun j=>([u83,u84,u85,u86,u87,u88,u89,u82,u90,u91,u9,undef,u10]:List Value).getD j undef) (TakeI wr (gtakeT (.agg (Y8 b pb)) (.pointer (some ⟨w.heap.size,3,none⟩)) (.slice (some ⟨g,off,none⟩) a.names.length pa.c) (.int .i64 (i:Int)) (.pointer (some ⟨g,off+i,none⟩)) (.string ⟨x.toArray⟩) wr p ok) p) (by kernel_rfl) (by kernel_rfl) (by kernel_rfl) TakeI.start ?_ ?_
   refine StepsInv.cons _ rfl (fun d u' W K' hI hd hw hK=> ?_) ?_
   {obtain ⟨_,⟨y0,y1,y2,y3,y4⟩,_⟩:=HXb.out.next (Z00 HB.out hI.up);simp only[Nat.zero_add] at y0 y1 y2 y3 y4;refine Z02 (v:=(.agg (Y8 b pb))) (W':=W) rfl ?_ (hK.out _ _ (hI.step (by decide) (by decide) rfl Y2))
    try dsimp only
    go_simp}
   refine StepsInv.cons _ rfl (fun d u' W K' hI hd hw hK=> ?_) ?_
   {refine Z02 (v:=(.pointer (some ⟨w.heap.size,3,none⟩))) (W':=W) rfl ?_ (hK.out _ _ (hI.step (by decide) (by decide) rfl Y2))
    try dsimp only
    go_simp}
   refine StepsInv.cons _ rfl (fun d u' W K' hI hd hw hK=> ?_) ?_
   {have d1:u' 1=(.pointer (some ⟨w.heap.size,3,none⟩)):=hI.vals 1 (hw 1 (by kernel_rfl));obtain ⟨_,⟨y0,y1,y2,y3,y4⟩,_⟩:=HXa.out.next (Z00 HB.out hI.up);simp only[Nat.zero_add] at y0 y1 y2 y3 y4;rw[HQA.out] at y3;refine Z02 (v:=(.slice (some ⟨g,off,none⟩) a.names.length pa.c)) (W':=W) rfl ?_ (hK.out _ _ (hI.step (by decide) (by decide) rfl Y2))
    try dsimp only
    go_simp}
   refine StepsInv.cons _ rfl (fun d u' W K' hI hd hw hK=> ?_) ?_
   {refine Z02 (v:=(.int .i64 (i:Int))) (W':=W) rfl ?_ (hK.out _ _ (hI.step (by decide) (by decide) rfl Y2))
    try dsimp only
    go_simp}
   refine StepsInv.cons _ rfl (fun d u' W K' hI hd hw hK=> ?_) ?_
   {have d2:u' 2=(.slice (some ⟨g,off,none⟩) a.names.length pa.c):=hI.vals 2 (hw 2 (by kernel_rfl));have d3:u' 3=(.int .i64 (i:Int)):=hI.vals 3 (hw 3 (by kernel_rfl));refine Z02 (v:=(.pointer (some ⟨g,off+i,none⟩))) (W':=W) rfl ?_ (hK.out _ _ (hI.step (by decide) (by decide) rfl Y2))
    try dsimp only
    go_simp}
   refine StepsInv.cons _ rfl (fun d u' W K' hI hd hw hK=> ?_) ?_
   {have d4:u' 4=(.pointer (some ⟨g,off+i,none⟩)):=hI.vals 4 (hw 4 (by kernel_rfl));have hcx:=(hI.up.cell (p:=⟨g,off+i,none⟩) HGX.out).trans HCX.out;refine Z02 (v:=(.string ⟨x.toArray⟩)) (W':=W) rfl ?_ (hK.out _ _ (hI.step (by decide) (by decide) rfl Y2))
    try dsimp only
    go_simp}
   refine StepsInv.cons _ rfl (fun d u' W K' hI hd hw hK=> ?_) ?_
   {have d0:u' 0=(.agg (Y8 b pb)):=hI.vals 0 (hw 0 (by kernel_rfl));have d5:u' 5=(.string ⟨x.toArray⟩):=hI.vals 5 (hw 5 (by kernel_rfl));refine Z0F (f:=57) (args:=#[(.agg (Y8 b pb)),(.string ⟨x.toArray⟩)]) (W':=W) rfl ?_ ((Z6T HAt.out HRt.out HP.out.1 HP.out.2 hI.up).mono fun e w' ⟨q,he,hs,hb⟩=>⟨_,he,hK.out _ _ (hI.step (by decide) (by decide) ⟨q,rfl,hs⟩ hb)⟩)
    try dsimp only
    go_simp}
   refine StepsInv.cons _ rfl (fun d u' W K' hI hd hw hK=> ?_) ?_
   {obtain ⟨q,d6,hs⟩:=hI.vals 6 (hw 6 (by kernel_rfl));refine Z02 (v:= .tuple #[.agg (Y8 p q),.bool ok]) (W':=W) rfl ?_ (hK.out _ _ (hI.step (by decide) (by decide) ⟨q,rfl,hs⟩ Y2))
    try dsimp only
    go_simp}
   refine StepsInv.cons _ rfl (fun d u' W K' hI hd hw hK=> ?_) ?_
   {obtain ⟨q,d7,hs⟩:=hI.vals 7 (hw 7 (by kernel_rfl));refine Z02 (v:= .agg (Y8 p q)) (W':=W) rfl ?_ (hK.out _ _ (hI.step (by decide) (by decide) ⟨q,rfl,hs⟩ Y2))
    try dsimp only
    go_simp}
   refine StepsInv.cons _ rfl (fun d u' W K' hI hd hw hK=> ?_) ?_
   {obtain ⟨q,d7,hs⟩:=hI.vals 7 (hw 7 (by kernel_rfl));refine Z02 (v:= .bool ok) (W':=W) rfl ?_ (hK.out _ _ (hI.step (by decide) (by decide) rfl Y2))
    try dsimp only
    go_simp}
   refine StepsInv.cons _ rfl (fun d u' W K' hI hd hw hK=> ?_) ?_
   {refine Z02 (v:= .pointer (some ⟨W.heap.size,0,none⟩)) (W':=W.alloc (.cells Yb 25)) rfl ?_ (hK.out _ _ (hI.alloc hd (fun _=>trivial)))
    try dsimp only
    go_simp}
   refine StepsInv.cons _ rfl (fun d u' W K' hI hd hw hK=> ?_) ?_
   {obtain ⟨q,d8,hs⟩:=hI.vals 8 (hw 8 (by kernel_rfl));obtain ⟨b',d10,hb1,hr⟩:=hI.al (hw 10 (by kernel_rfl)) hd;obtain ⟨v0,y0⟩:=hr.ex 0 (by omega);obtain ⟨v1,y1⟩:=hr.ex 1 (by omega);obtain ⟨v2,y2⟩:=hr.ex 2 (by omega);obtain ⟨v3,y3⟩:=hr.ex 3 (by omega);obtain ⟨v4,y4⟩:=hr.ex 4 (by omega);have z0:=hr.fz 0;have z1:=hr.fz 1;have z2:=hr.fz 2;have z3:=hr.fz 3;have z4:=hr.fz 4;refine Z0q (W':=RX.lay W b' p q) rfl ?_ (hK.out _ _ (hI.store (hw 10 (by kernel_rfl)) hd (fun _=>trivial) d10 hs));unfold RX.lay
    try dsimp only
    go_simp}
   refine StepsInv.cons _ rfl (fun d u' W K' hI hd hw hK=> ?_) StepsInv.nil
   {have d9:u' 9= .bool ok:=hI.vals 9 (hw 9 (by kernel_rfl));refine Z02 (v:= .bool ok) (W':=W) rfl ?_ (hK.out _ _ (hI.step (by decide) (by decide) rfl Y2))
    try dsimp only
    go_simp}
   intro dd z' W2 hI hdn
   try dsimp only
   obtain ⟨h10,b',q,z10,hb1,hs,hbx⟩:=hI.st (hdn 11 (by decide));rw[z10,show z' 12= .bool ok from hI.vals 12 (hdn 12 (by decide))];have hb3:=hI.up;clear hI hdn h10 z10 hb1;have HB2:=Y1 hb3;have HBX:=Y1 hbx;have HSP:=Y1 (hs.next hb3);have HY5:=Y1 (HY5.out.keep (Nat.lt_of_lt_of_le HG'.out (by have:=HB.out.size; omega)) hb3);have HYA:=Y1 (HYA.out.next hb3);have HBB:=Y1 (Z00 HB.out hb3);clear hb3 hbx hs a0 a1 a2 a3 a4 b0 b1 b2 b3 b4;obtain ⟨_,⟨a0,a1,a2,a3,a4⟩,_⟩:=HXa.out.next HBB.out;simp only[Nat.zero_add] at a0 a1 a2 a3 a4;rw[HQP.out] at a4;cases ok with
   | false=>
    have HF:Hid (Grd.hold true (f+1) a b=false):=Y1 (Grd.nv_none H2.out.ra H2.out.rb HK.out.1 HK.out.2 hlt (by
     rw[<-HX.out];cases hq:get b x with
     | none=>rfl
     | some v=>have:=HP.out.2; rw[hq] at this; cases this))
    go_wp2_with fail
    go_quiet (fail)
    go_wp2;go_ret;exact ⟨by rw[HF.out]; rfl,Z0r (Z00 HB1.out HBB.out) _⟩
   | true=>
    have HG:Hid (get b x=some p):=Y1 (by
     cases hq:get b x with
     | none=>have:=HP.out.2; rw[hq] at this; cases this
     | some v=>have:=HP.out.1; rw[hq] at this; rw[<-this]; rfl)
    have hdr:Below W2.heap.size W2 W2.drew:=Y2.drew;have HD:=Y1 hdr;have HT:Hid (Two f y p):=Y1 (H2.out.part (by rw[HY.out]; exact List.getElem_mem hip) (Z06 HG.out));have HC:=Y1 (HI.out y p (qs i) q W2.drew HT.out (HYA.out.next hdr) (HSP.out.next hdr));obtain ⟨_,⟨x0,x1,x2,x3,x4⟩,_⟩:=HBX.out;obtain ⟨s0,s1,s2,s3,s4⟩:=HY5.out;simp only[Nat.zero_add] at x0 x1 x2 x3 x4;clear hdr
    go_wp2_with fail
    go_still_tail 9,(by kernel_rfl)
    change wpList _ _ _ _ _ W2.drew
    go_wp2_with fail
    refine HC.out.mono ?_;rintro e W3 ⟨rfl,hb4⟩;have HB3:=Y1 (Z00 HBB.out (Z00 HD.out hb4));clear hb4 HC x0 x1 x2 x3 x4 s0 s1 s2 s3 s4;cases hbw:Grd.hold true f y p with
    | false=>
     have HF:Hid (Grd.hold true (f+1) a b=false):=Y1 (Grd.nv_no H2.out.ra H2.out.rb HK.out.1 HK.out.2 hlt hip (p:=p) (by rw[<-HX.out]; exact HG.out) (by rw[<-HY.out]; exact hbw));go_wp2;go_ret;exact ⟨by rw[HF.out]; rfl,Z00 HB1.out HB3.out⟩
    | true=>
     have HE:Hid (∃p,get b (a.names[i]'hlt)=some p/\Grd.hold true f (a.parts[i]'hip) p=true):=Y1 ⟨p,by rw[<-HX.out]; exact HG.out,by rw[<-HY.out]; exact hbw⟩;go_wp2
     go_roundw
     case rel=>exact ⟨i+1,by go_num,by omega,Y1 (fun j h1 h2 hji=>by
      rcases Nat.lt_succ_iff_lt_or_eq.1 hji with h | rfl
      {exact HN.out j h1 h2 h}
      · exact HE.out),HB3.out⟩
     case measure=>simp[intOf]; omega}
  {have hi1: ¬(i:Int) < (a.names.length:Int):=by omega
   have HF:Hid (Grd.hold true (f+1) a b=true):=Y1 (Grd.nv_yes H2.out.ra H2.out.rb HK.out.1 HK.out.2 (fun j h1 h2=>HN.out j h1 h2 (by omega)));clear hb;go_wp2;go_ret;exact ⟨by rw[HF.out]; rfl,Z00 HB1.out HB.out⟩}
end SubM
end Go.Proofs.YtlomianlcnmfgaaGreatDoor
namespace Go.Proofs.YtlomianlcnmfgaaGreatDoor
open Go.RowKit Shp Sub
namespace SubM
section
variable {f : Nat} (a b : Sh) (pa pb : Ptr) (w : World) (h2 : Two (f + 1) a b) (ha : ShAt w w.heap.size pa a) (hb : ShAt w w.heap.size pb b)
include f a b pa pb w h2 ha hb
theorem ZaI (h4:a.kind=4\/b.kind=4):
 Y9 56 #[.agg (Y8 a pa),.agg (Y8 b pb)] w (.bool (Grd.hold true (f+1) a b)):=by
 have hx1:=Z01 w (.cells (Y8 a pa) 25);obtain ⟨u1,hu1⟩: ∃u1,w.alloc (.cells (Y8 a pa) 25)=u1:=⟨_,rfl⟩;have hs1:u1.heap.size=w.heap.size+1:=by rw[<-hu1]; simp
 have hy1:=Z05 w a pa;rw[hu1] at hx1 hy1;have hx2:=Z01 u1 (.cells (Y8 b pb) 25);obtain ⟨W1,hu2⟩: ∃u2,u1.alloc (.cells (Y8 b pb) 25)=u2:=⟨_,rfl⟩;have hy2:=Z05 u1 b pb;rw[hu2] at hx2 hy2;rw[hs1] at hy2;have hb12:=Z00 hx1 hx2;have hxa:=hy1.next hx2;have HXa:=Y1 hxa;have HXb:=Y1 hy2;have HAa:=Y1 (ha.next hb12);have HAb:=Y1 (hb.next hb12);have HB1:=Y1 hb12;have H2:=Y1 h2;have HL:=Y1 (hb.small.l);have HM:=Y1 (hb.small.m);have HL':=Y1 (ha.small.l);have HM':=Y1 (ha.small.m);have hm1:=hb.small.m;have hm2:=ha.small.m;obtain ⟨_,⟨a0,a1,a2,a3,a4⟩,_⟩:=hxa;obtain ⟨_,⟨b0,b1,b2,b3,b4⟩,_⟩:=hy2;simp only[Nat.zero_add] at a0 a1 a2 a3 a4 b0 b1 b2 b3 b4;rw[Grd.nd_any h4];clear hx1 hx2 hy1 hb12 ha hb h2;by_cases e:a.kind=4
 {have m4a: (a.kind==4)=true:=by rw[e]; rfl
  clear h4 e;go_enter Tryz.func56,Tryz.ntmps56;go_wp2;go_ret;exact ⟨rfl,HB1.out⟩}
 {have m4a: (a.kind==4)=false:=by simpa using e
  have m4b: (b.kind==4)=true:=by rw[h4.resolve_left e]; rfl
  clear h4 e;go_enter Tryz.func56,Tryz.ntmps56;go_wp2;go_ret;exact ⟨rfl,HB1.out⟩}
theorem Z9p (h4: ¬(a.kind=4\/b.kind=4)) (hd: ¬(a.kind=b.kind/\a.of_=b.of_/\a.name=b.name)):
 Y9 56 #[.agg (Y8 a pa),.agg (Y8 b pb)] w (.bool (Grd.hold true (f+1) a b)):=by
 have hx1:=Z01 w (.cells (Y8 a pa) 25);obtain ⟨u1,hu1⟩: ∃u1,w.alloc (.cells (Y8 a pa) 25)=u1:=⟨_,rfl⟩;have hs1:u1.heap.size=w.heap.size+1:=by rw[<-hu1]; simp
 have hy1:=Z05 w a pa;rw[hu1] at hx1 hy1;have hx2:=Z01 u1 (.cells (Y8 b pb) 25);obtain ⟨W1,hu2⟩: ∃u2,u1.alloc (.cells (Y8 b pb) 25)=u2:=⟨_,rfl⟩;have hy2:=Z05 u1 b pb;rw[hu2] at hx2 hy2;rw[hs1] at hy2;have hb12:=Z00 hx1 hx2;have hxa:=hy1.next hx2;have HXa:=Y1 hxa;have HXb:=Y1 hy2;have HAa:=Y1 (ha.next hb12);have HAb:=Y1 (hb.next hb12);have HB1:=Y1 hb12;have H2:=Y1 h2;have HL:=Y1 (hb.small.l);have HM:=Y1 (hb.small.m);have HL':=Y1 (ha.small.l);have HM':=Y1 (ha.small.m);have hm1:=hb.small.m;have hm2:=ha.small.m;obtain ⟨_,⟨a0,a1,a2,a3,a4⟩,_⟩:=hxa;obtain ⟨_,⟨b0,b1,b2,b3,b4⟩,_⟩:=hy2;simp only[Nat.zero_add] at a0 a1 a2 a3 a4 b0 b1 b2 b3 b4;rw[Grd.nd_head h2.ra h2.rb h4 hd];have m4a: (a.kind==4)=false:=by simpa using fun h=>h4 (Or.inl h)
 have m4b: (b.kind==4)=false:=by simpa using fun h=>h4 (Or.inr h)
 clear h4;by_cases h1:a.kind=b.kind
 {have n1: (a.kind !=b.kind)=false:=by rw[h1]; simp
  have e1: (a.kind==b.kind)=true:=by rw[h1]; simp
  by_cases h3:a.of_=b.of_
  {have n2: (a.of_ !=b.of_)=false:=by rw[h3]; simp
   have e2: (a.of_==b.of_)=true:=by rw[h3]; simp
   have h4:a.name≠b.name:=fun h4=>hd ⟨h1,h3,h4⟩;have e3: (a.name==b.name)=false:=by simpa using h4
   have n3: (a.name !=b.name)=true:=by unfold bne; rw[e3]; rfl
   clear hx1 hx2 hy1 hb12 ha hb h2 hd h1 h3 h4;go_enter Tryz.func56,Tryz.ntmps56;go_wp2;go_ret;exact ⟨rfl,HB1.out⟩}
  {have e2: (a.of_==b.of_)=false:=by simpa using h3
   have n2: (a.of_ !=b.of_)=true:=by unfold bne; rw[e2]; rfl
   clear hx1 hx2 hy1 hb12 ha hb h2 hd h1 h3;go_enter Tryz.func56,Tryz.ntmps56;go_wp2;go_ret;exact ⟨rfl,HB1.out⟩}}
 {have e1: (a.kind==b.kind)=false:=by simpa using h1
  have n1: (a.kind !=b.kind)=true:=by unfold bne; rw[e1]; rfl
  clear hx1 hx2 hy1 hb12 ha hb h2 hd h1;go_enter Tryz.func56,Tryz.ntmps56;go_wp2;go_ret;exact ⟨rfl,HB1.out⟩}
theorem Z9q (hk:a.kind=b.kind) (ho:a.of_=b.of_) (hn:a.name=b.name) (h4:a.kind≠4) (h5:a.kind≠5) (h6: ¬(a.kind=6\/a.kind=7)) (h8:a.kind≠8):
 Y9 56 #[.agg (Y8 a pa),.agg (Y8 b pb)] w (.bool (Grd.hold true (f+1) a b)):=by
 have hx1:=Z01 w (.cells (Y8 a pa) 25);obtain ⟨u1,hu1⟩: ∃u1,w.alloc (.cells (Y8 a pa) 25)=u1:=⟨_,rfl⟩;have hs1:u1.heap.size=w.heap.size+1:=by rw[<-hu1]; simp
 have hy1:=Z05 w a pa;rw[hu1] at hx1 hy1;have hx2:=Z01 u1 (.cells (Y8 b pb) 25);obtain ⟨W1,hu2⟩: ∃u2,u1.alloc (.cells (Y8 b pb) 25)=u2:=⟨_,rfl⟩;have hy2:=Z05 u1 b pb;rw[hu2] at hx2 hy2;rw[hs1] at hy2;have hb12:=Z00 hx1 hx2;have hxa:=hy1.next hx2;have HXa:=Y1 hxa;have HXb:=Y1 hy2;have HAa:=Y1 (ha.next hb12);have HAb:=Y1 (hb.next hb12);have HB1:=Y1 hb12;have H2:=Y1 h2;have HL:=Y1 (hb.small.l);have HM:=Y1 (hb.small.m);have HL':=Y1 (ha.small.l);have HM':=Y1 (ha.small.m);have hm1:=hb.small.m;have hm2:=ha.small.m;obtain ⟨_,⟨a0,a1,a2,a3,a4⟩,_⟩:=hxa;obtain ⟨_,⟨b0,b1,b2,b3,b4⟩,_⟩:=hy2;simp only[Nat.zero_add] at a0 a1 a2 a3 a4 b0 b1 b2 b3 b4;rw[Grd.np_leaf h2.ra h2.rb hk ho hn h5 h6 h8];have m4a: (a.kind==4)=false:=by simpa using h4
 have m4b: (b.kind==4)=false:=by rw[<-hk]; simpa using h4
 have n1: (a.kind !=b.kind)=false:=by rw[hk]; simp
 have n2: (a.of_ !=b.of_)=false:=by rw[ho]; simp
 have n3: (a.name !=b.name)=false:=by rw[hn]; simp
 have e1: (a.kind==b.kind)=true:=by rw[hk]; simp
 have e2: (a.of_==b.of_)=true:=by rw[ho]; simp
 have e3: (a.name==b.name)=true:=by rw[hn]; simp
 have k5: (a.kind==5)=false:=by simpa using h5
 have k6: (a.kind==6)=false:=by simpa using fun h=>h6 (Or.inl h)
 have k7: (a.kind==7)=false:=by simpa using fun h=>h6 (Or.inr h)
 have k8: (a.kind==8)=false:=by simpa using h8
 clear hx1 hx2 hy1 hb12 ha hb h2 hk ho hn h4 h5 h6 h8;go_enter Tryz.func56,Tryz.ntmps56;go_wp2;go_ret;exact ⟨rfl,HB1.out⟩
end
section
variable {f : Nat} (hI : NearOk f) (a b : Sh) (pa pb : Ptr) (w : World) (h2 : Two (f + 1) a b) (ha : ShAt w w.heap.size pa a) (hb : ShAt w w.heap.size pb b) (hk : a.kind = b.kind) (ho : a.of_ = b.of_) (hn : a.name = b.name)
include f hI a b pa pb w h2 ha hb hk ho hn
theorem Z9r (h5:a.kind=5):
 Y9 56 #[.agg (Y8 a pa),.agg (Y8 b pb)] w (.bool (Grd.hold true (f+1) a b)):=by
 have hx1:=Z01 w (.cells (Y8 a pa) 25);obtain ⟨u1,hu1⟩: ∃u1,w.alloc (.cells (Y8 a pa) 25)=u1:=⟨_,rfl⟩;have hs1:u1.heap.size=w.heap.size+1:=by rw[<-hu1]; simp
 have hy1:=Z05 w a pa;rw[hu1] at hx1 hy1;have hx2:=Z01 u1 (.cells (Y8 b pb) 25);obtain ⟨W1,hu2⟩: ∃u2,u1.alloc (.cells (Y8 b pb) 25)=u2:=⟨_,rfl⟩;have hy2:=Z05 u1 b pb;rw[hu2] at hx2 hy2;rw[hs1] at hy2;have hb12:=Z00 hx1 hx2;have hxa:=hy1.next hx2;have HXa:=Y1 hxa;have HXb:=Y1 hy2;have HAa:=Y1 (ha.next hb12);have HAb:=Y1 (hb.next hb12);have HB1:=Y1 hb12;have H2:=Y1 h2;have HL:=Y1 (hb.small.l);have HM:=Y1 (hb.small.m);have HL':=Y1 (ha.small.l);have HM':=Y1 (ha.small.m);have hm1:=hb.small.m;have hm2:=ha.small.m;obtain ⟨_,⟨a0,a1,a2,a3,a4⟩,_⟩:=hxa;obtain ⟨_,⟨b0,b1,b2,b3,b4⟩,_⟩:=hy2;simp only[Nat.zero_add] at a0 a1 a2 a3 a4 b0 b1 b2 b3 b4;have h4:a.kind≠4:=by omega
 have la:=Grd.list_one h2.ra h5;have lb:=Grd.list_one h2.rb (by rw[<-hk]; exact h5);have ia:0 < a.parts.length:=by omega
 have ib:0 < b.parts.length:=by omega
 have ia': (0:Int) < (a.parts.length:Int):=by omega
 have ib': (0:Int) < (b.parts.length:Int):=by omega
 rw[Grd.np_list h2.ra h2.rb hk ho hn h5 ia ib];have m4a: (a.kind==4)=false:=by simpa using h4
 have m4b: (b.kind==4)=false:=by rw[<-hk]; simpa using h4
 have n1: (a.kind !=b.kind)=false:=by rw[hk]; simp
 have n2: (a.of_ !=b.of_)=false:=by rw[ho]; simp
 have n3: (a.name !=b.name)=false:=by rw[hn]; simp
 have e1: (a.kind==b.kind)=true:=by rw[hk]; simp
 have e2: (a.of_==b.of_)=true:=by rw[ho]; simp
 have e3: (a.name==b.name)=true:=by rw[hn]; simp
 have k5:=Y4 5 h5 rfl;have k6:=Y3 6 h5 rfl;have k7:=Y3 7 h5 rfl;have k8:=Y3 8 h5 rfl;have hT:Two f (a.parts[0]'ia) (b.parts[0]'ib):=h2.part (List.getElem_mem ia) (List.getElem_mem ib);rcases HAa.out.part with h0 | ⟨g,off,qs,hqP,hg,hc,hra⟩
 {omega}
 rcases HAb.out.part with h0 | ⟨g',off',qs',hqP',hg',hc',hra'⟩
 {omega}
 have hX5:=hc 0 ia;have hXA:=hra 0 ia;have hY5:=hc' 0 ib;have hYA:=hra' 0 ib;obtain ⟨x,hx⟩: ∃x,x=a.parts[0]'ia:=⟨_,rfl⟩;obtain ⟨y,hy⟩: ∃y,y=b.parts[0]'ib:=⟨_,rfl⟩;rw[<-hx] at hX5 hXA hT ⊢;rw[<-hy] at hY5 hYA hT ⊢;obtain ⟨qx,hqx⟩: ∃z,z=qs 0:=⟨_,rfl⟩;obtain ⟨qy,hqy⟩: ∃z,z=qs' 0:=⟨_,rfl⟩;rw[<-hqx] at hX5 hXA;rw[<-hqy] at hY5 hYA;have hdr:Below W1.heap.size W1 W1.drew:=Y2.drew;have HD:=Y1 hdr;have HC:=Y1 (hI x y qx qy W1.drew hT (hXA.next hdr) (hYA.next hdr));obtain ⟨x0,x1,x2,x3,x4⟩:=hX5;obtain ⟨y0,y1,y2,y3,y4⟩:=hY5;simp only[Nat.zero_mul,Nat.add_zero] at x0 x1 x2 x3 x4 y0 y1 y2 y3 y4;have PA:=Y1 hqP;have PB:=Y1 hqP';clear hx1 hx2 hy1 hb12 ha hb h2 hk ho hn h4 h5 la lb hx hy hqx hqy hdr hc hra hc' hra' hg hg' hXA hYA hT hI hqP hqP';go_enter Tryz.func56,Tryz.ntmps56
 go_wp2_with fail
 rw[PA.out] at a4;rw[PB.out] at b4
 go_still_tail 8,(by kernel_rfl)
 change wpList _ _ _ _ _ W1.drew
 go_wp2_with fail
 refine HC.out.mono ?_;rintro e W3 ⟨rfl,hb4⟩;have HB3:=Y1 (Z00 HB1.out (Z00 HD.out hb4));clear hb4 HC x0 x1 x2 x3 x4 y0 y1 y2 y3 y4;go_wp2;go_ret;exact ⟨rfl,HB3.out⟩
theorem ZaJ (h8:a.kind=8):
 Y9 56 #[.agg (Y8 a pa),.agg (Y8 b pb)] w (.bool (Grd.hold true (f+1) a b)):=by
 have hx1:=Z01 w (.cells (Y8 a pa) 25);obtain ⟨u1,hu1⟩: ∃u1,w.alloc (.cells (Y8 a pa) 25)=u1:=⟨_,rfl⟩;have hs1:u1.heap.size=w.heap.size+1:=by rw[<-hu1]; simp
 have hy1:=Z05 w a pa;rw[hu1] at hx1 hy1;have hx2:=Z01 u1 (.cells (Y8 b pb) 25);obtain ⟨W1,hu2⟩: ∃u2,u1.alloc (.cells (Y8 b pb) 25)=u2:=⟨_,rfl⟩;have hy2:=Z05 u1 b pb;rw[hu2] at hx2 hy2;rw[hs1] at hy2;have hb12:=Z00 hx1 hx2;have hxa:=hy1.next hx2;have HXa:=Y1 hxa;have HXb:=Y1 hy2;have HAa:=Y1 (ha.next hb12);have HAb:=Y1 (hb.next hb12);have HB1:=Y1 hb12;have H2:=Y1 h2;have HL:=Y1 (hb.small.l);have HM:=Y1 (hb.small.m);have HL':=Y1 (ha.small.l);have HM':=Y1 (ha.small.m);have hm1:=hb.small.m;have hm2:=ha.small.m;obtain ⟨_,⟨a0,a1,a2,a3,a4⟩,_⟩:=hxa;obtain ⟨_,⟨b0,b1,b2,b3,b4⟩,_⟩:=hy2;simp only[Nat.zero_add] at a0 a1 a2 a3 a4 b0 b1 b2 b3 b4;have h4:a.kind≠4:=by omega
 have h6: ¬(a.kind=6\/a.kind=7):=by omega
 have la:=Grd.fun_one h2.ra h8;obtain ⟨k,hkl⟩: ∃k,a.parts.length=k+1:=⟨a.parts.length - 1,by omega⟩;have h44: ¬(a.kind=4\/b.kind=4):=by omega
 have m4a: (a.kind==4)=false:=by simpa using h4
 have m4b: (b.kind==4)=false:=by rw[<-hk]; simpa using h4
 have n1: (a.kind !=b.kind)=false:=by rw[hk]; simp
 have n2: (a.of_ !=b.of_)=false:=by rw[ho]; simp
 have n3: (a.name !=b.name)=false:=by rw[hn]; simp
 have e1: (a.kind==b.kind)=true:=by rw[hk]; simp
 have e2: (a.of_==b.of_)=true:=by rw[ho]; simp
 have e3: (a.name==b.name)=true:=by rw[hn]; simp
 have k6:=Y3 6 h8 rfl;have k7:=Y3 7 h8 rfl;have k8:=Y4 8 h8 rfl;have hsub: (a.parts.length:Int) - 1=(k:Int):=by omega
 have kw:IntKind.i64.wrap (k:Int)=(k:Int):=IntWalk.i64_in _ (by omega);have kw1:IntKind.i64.wrap ((k:Int)+1)=(k:Int)+1:=IntWalk.i64_in _ (by omega);have HI:=Y1 hI;have HK:=Y1 (And.intro h44 (And.intro hk (And.intro ho (And.intro hn h6))));have HKL:=Y1 hkl;by_cases hpl:a.parts.length=b.parts.length
 {have HPL:=Y1 hpl;have n5: ((b.parts.length:Int) !=(k:Int)+1)=false:=by simp; omega
  have ia:k < a.parts.length:=by omega
  have ib:k < b.parts.length:=by omega
  have ia': (k:Int) < (a.parts.length:Int):=by omega
  have ib': (k:Int) < (b.parts.length:Int):=by omega
  have hT:Two f (a.parts[k]'ia) (b.parts[k]'ib):=h2.part (List.getElem_mem ia) (List.getElem_mem ib);rcases HAa.out.part with h0 | ⟨g,off,qs,hqP,hg,hc,hra⟩
  {omega}
  rcases HAb.out.part with h0 | ⟨g',off',qs',hqP',hg',hc',hra'⟩
  {omega}
  have hX5:=hc k ia;have hXA:=hra k ia;have hY5:=hc' k ib;have hYA:=hra' k ib;obtain ⟨x,hx⟩: ∃x,x=a.parts[k]'ia:=⟨_,rfl⟩;obtain ⟨y,hy⟩: ∃y,y=b.parts[k]'ib:=⟨_,rfl⟩;rw[<-hx] at hX5 hXA hT;rw[<-hy] at hY5 hYA hT;obtain ⟨qx,hqx⟩: ∃z,z=qs k:=⟨_,rfl⟩;obtain ⟨qy,hqy⟩: ∃z,z=qs' k:=⟨_,rfl⟩;rw[<-hqx] at hX5 hXA;rw[<-hqy] at hY5 hYA;have hdr:Below W1.heap.size W1 W1.drew:=Y2.drew;have HD:=Y1 hdr;have HC:=Y1 (hI x y qx qy W1.drew hT (hXA.next hdr) (hYA.next hdr));obtain ⟨x0,x1,x2,x3,x4⟩:=hX5;obtain ⟨y0,y1,y2,y3,y4⟩:=hY5;have PA:=Y1 hqP;have PB:=Y1 hqP';have HX:=Y1 hx;have HY:=Y1 hy;have HIA:=Y1 ia;have HIB:=Y1 ib;clear hx1 hx2 hy1 hb12 ha hb h2 hk ho hn h4 h44 h6 h8 la hx hy hqx hqy hdr hc hra hc' hra' hg hg' hXA hYA hT hI hpl hkl hqP hqP';go_enter Tryz.func56,Tryz.ntmps56
  go_wp2_with fail
  rw[PA.out] at a4;rw[PB.out] at b4
  go_still_tail 17,(by kernel_rfl)
  change wpList _ _ _ _ _ W1.drew
  go_wp2_with fail
  refine HC.out.mono ?_;rintro e W3 ⟨rfl,hb4⟩;have HB3:=Y1 (Z00 HD.out hb4);clear hb4 HC x0 x1 x2 x3 x4 y0 y1 y2 y3 y4 a0 a1 a2 a3 a4 b0 b1 b2 b3 b4 hu1 hu2 hs1;cases hbw:Grd.hold true f x y with
  | false=>
   have HF:Hid (Grd.hold true (f+1) a b=false):=Y1 (Grd.np_last H2.out.ra H2.out.rb HK.out.1 HK.out.2.2.2.2 HIA.out HIB.out HKL.out.symm (by rw[<-HX.out, <-HY.out]; exact hbw));go_wp2;go_ret;exact ⟨by rw[HF.out]; rfl,Z00 HB1.out HB3.out⟩
  | true=>
   have HLAST:Hid (Grd.hold true f (a.parts[k]'HIA.out) (b.parts[k]'HIB.out)=true):=Y1 (by rw[<-HX.out, <-HY.out]; exact hbw);clear hbw;clear m4a m4b n1 n2 n3 e1 e2 e3 n5 k6 k7 k8
   go_wp2_with fail
   go_loopw [12] (fun ii wr=> ∃i:Nat,ii= .int .i64 i/\i<=k/\Hid (∀j (h1:j < a.parts.length) (h2:j < b.parts.length),j < i->Grd.hold true f (b.parts[j]'h2) (a.parts[j]'h1)=true)/\Below W1.heap.size W1 wr) (fun i _=>k - (intOf i).toNat)
   case atStart=>exact ⟨0,rfl,Nat.zero_le _,Y1 (fun j _ _ hj=>absurd hj (by omega)),HB3.out⟩
   case round=>
    obtain ⟨i,rfl,hi,HN,hb⟩:=hrel;have HBR:=Y1 hb;have hkl:=HKL.out;have hpl:=HPL.out;by_cases hlt:i < k
    {have hi1: (i:Int) < (k:Int):=by omega
     have ja:i < a.parts.length:=by omega
     have jb:i < b.parts.length:=by omega
     have ja': (i:Int) < (a.parts.length:Int):=by omega
     have jb': (i:Int) < (b.parts.length:Int):=by omega
     obtain ⟨_,⟨a0,a1,a2,a3,a4⟩,_⟩:=HXa.out.next hb;obtain ⟨_,⟨b0,b1,b2,b3,b4⟩,_⟩:=HXb.out.next hb;simp only[Nat.zero_add] at a0 a1 a2 a3 a4 b0 b1 b2 b3 b4;rcases (HAa.out.next hb).part with h0 | ⟨g2,off2,rs,hrP,hg,hc,hra⟩
     {omega}
     rcases (HAb.out.next hb).part with h0 | ⟨g3,off3,rs',hrP',hg',hc',hra'⟩
     {omega}
     have hX5:=hc i ja;have hXA:=hra i ja;have hY5:=hc' i jb;have hYA:=hra' i jb;have hT:Two f (b.parts[i]'jb) (a.parts[i]'ja):=(H2.out.part (List.getElem_mem ja) (List.getElem_mem jb)).swap;obtain ⟨x,hx⟩: ∃x,x=a.parts[i]'ja:=⟨_,rfl⟩;obtain ⟨y,hy⟩: ∃y,y=b.parts[i]'jb:=⟨_,rfl⟩;rw[<-hx] at hX5 hXA hT;rw[<-hy] at hY5 hYA hT;obtain ⟨rx,hrx⟩: ∃z,z=rs i:=⟨_,rfl⟩;obtain ⟨ry,hry⟩: ∃z,z=rs' i:=⟨_,rfl⟩;rw[<-hrx] at hX5 hXA;rw[<-hry] at hY5 hYA;have hdr:Below wr.heap.size wr wr.drew:=Y2.drew;have HD2:=Y1 hdr;have HC:=Y1 (HI.out y x ry rx wr.drew hT (hYA.next hdr) (hXA.next hdr));obtain ⟨x0,x1,x2,x3,x4⟩:=hX5;obtain ⟨y0,y1,y2,y3,y4⟩:=hY5;rw[hrP] at a4;rw[hrP'] at b4;have HX:=Y1 hx;have HY:=Y1 hy;have HJA:=Y1 ja;have HJB:=Y1 jb;clear hx hy hrx hry hdr hc hra hc' hra' hg hg' hXA hYA hT hrP hrP' hkl hpl hb
     go_wp2_with fail
     go_still_tail 10,(by kernel_rfl)
     change wpList _ _ _ _ _ wr.drew
     go_wp2_with fail
     refine HC.out.mono ?_;rintro e W4 ⟨rfl,hb4⟩;have HB4:=Y1 (Z00 HBR.out (Z00 HD2.out hb4));clear hb4 HC x0 x1 x2 x3 x4 y0 y1 y2 y3 y4 a0 a1 a2 a3 a4 b0 b1 b2 b3 b4;cases hbw:Grd.hold true f y x with
     | false=>
      have HF:Hid (Grd.hold true (f+1) a b=false):=Y1 (Grd.np_more H2.out.ra H2.out.rb HK.out.1 HK.out.2.2.2.2 HJA.out HJB.out (by have:=HKL.out; omega) (by rw[<-HX.out, <-HY.out]; exact hbw));go_wp2;go_ret;exact ⟨by rw[HF.out]; rfl,Z00 HB1.out HB4.out⟩
     | true=>
      have HE:Hid (Grd.hold true f (b.parts[i]'HJB.out) (a.parts[i]'HJA.out)=true):=Y1 (by rw[<-HX.out, <-HY.out]; exact hbw);clear hbw;go_wp2
      go_roundw
      case rel=>exact ⟨i+1,by go_num,by omega,Y1 (fun j h1 h2 hji=>by
       rcases Nat.lt_succ_iff_lt_or_eq.1 hji with h | rfl
       {exact HN.out j h1 h2 h}
       · exact HE.out),HB4.out⟩
      case measure=>simp[intOf]; omega}
    {have hi1: ¬(i:Int) < (k:Int):=by omega
     have HF:Hid (Grd.hold true (f+1) a b=true):=Y1 (Grd.np_yes H2.out.ra H2.out.rb HK.out.2.1 HK.out.2.2.1 HK.out.2.2.2.1 HK.out.2.2.2.2 hpl (fun j h1 h2=>by
      by_cases e:j+1=a.parts.length
      {rw[if_pos e];obtain rfl:j=k:=by omega
       exact HLAST.out}
      · rw[if_neg e]; exact HN.out j h1 h2 (by omega)))
     clear hb hkl hpl;go_wp2;go_ret;exact ⟨by rw[HF.out]; rfl,Z00 HB1.out HBR.out⟩}}
 {have n5: ((b.parts.length:Int) !=(k:Int)+1)=true:=by simp; omega
  have HF:Hid (Grd.hold true (f+1) a b=false):=Y1 (Grd.np_len h2.ra h2.rb h44 h6 hpl);clear hx1 hx2 hy1 hb12 ha hb h2 hk ho hn h4 h44 h6 h8 la hI hpl hkl;go_enter Tryz.func56,Tryz.ntmps56
  go_wp2_with fail
  go_quiet (fail)
  go_wp2;go_ret;exact ⟨by rw[HF.out]; rfl,Z0r HB1.out _⟩}
end
theorem Z9s (f:Nat):NearOk f:=by
 induction f with
 | zero=>intro a b pa pb w h; have:=h.da; rw[Z0j] at this; omega
 | succ f hI=>
  intro a b pa pb w h2 ha hb;by_cases h4:a.kind=4\/b.kind=4
  {exact ZaI a b pa pb w h2 ha hb h4}
  by_cases hd:a.kind=b.kind/\a.of_=b.of_/\a.name=b.name
  {obtain ⟨hk,ho,hn⟩:=hd;by_cases h6:a.kind=6
   {exact ZaG hI a b pa pb w h2 ha hb hk ho hn h6}
   by_cases h7:a.kind=7
   {exact ZaH hI a b pa pb w h2 ha hb hk ho hn h7}
   by_cases h8:a.kind=8
   {exact ZaJ hI a b pa pb w h2 ha hb hk ho hn h8}
   by_cases h5:a.kind=5
   {exact Z9r hI a b pa pb w h2 ha hb hk ho hn h5}
   exact Z9q a b pa pb w h2 ha hb hk ho hn (fun h=>h4 (Or.inl h)) h5 (fun h=>h.elim h6 h7) h8}
  {exact Z9p a b pa pb w h2 ha hb h4 hd}
end SubM
end Go.Proofs.YtlomianlcnmfgaaGreatDoor
