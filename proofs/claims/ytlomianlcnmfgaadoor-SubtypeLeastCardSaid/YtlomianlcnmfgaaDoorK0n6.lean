/- What the proofs of SubtypeBelows, SubtypeBoth, SubtypeGreatest, SubtypeLeast, SubtypeOrder want, part 6. -/
import Derived.WalkSmall
import Derived.MakeChecks
import Derived.Lib.LaidTab
import Derived.Test.YtlomianlcnmfgaaDoorK0n5
set_option linter.unusedVariables false
set_option linter.unusedSimpArgs false
set_option linter.unusedSectionVars false
set_option maxRecDepth 100000
set_option maxHeartbeats 16000000
namespace Go.Proofs.YtlomianlcnmfgaaDoor
open Go.RowKit Shp Sub
namespace SubM
structure TakesP (n0 N:Nat) (a b:Sh) (fn:Nat) (cs:List Value) (step:Nat->Bool) (K:Bool->Nat->World->Prop):Prop where
 keep: ∀ok k W W',K ok k W->Upd (fun x=>N<=x/\x < N+2) W W'->K ok k W'
 call: ∀k (hk:k < a.parts.length) (hk2:k < b.parts.length) W (x y:Ptr),N+2<=W.heap.size->K true k W->ShAt W n0 x (a.parts[k]'hk)->ShAt W n0 y (b.parts[k]'hk2)->
  Calls Tryd.prog fn (sv (a.parts[k]'hk) x::sv (b.parts[k]'hk2) y:: .bool (decide (k+1=a.parts.length))::cs).toArray W fun e W'=>e= .returned (.bool (step k))/\K (step k) (k+1) W'/\Upd (fun x=>n0<=x/\ ¬(N<=x/\x < N+2)) W W'
structure P2 (n0 N:Nat) (a b:Sh) (pa pb:Ptr) (w:World) (K:Bool->Nat->World->Prop) (k:Nat) (W:World):Prop where
 ba:Box5 W N a pa
 bb:Box5 W (N+1) b pb
 up:Upd (fun x=>n0<=x) w W
 sz:N+2<=W.heap.size
 k:K true k W
section
variable {n0 : Nat} {a b : Sh} {pa pb : Ptr} {w : World} {K : Bool -> Nat -> World -> Prop} {k : Nat} {W W' : World} {fn : Nat} {cs : List Value} {step : Nat -> Bool}
theorem P2.upd (h:P2 n0 w.heap.size a b pa pb w K k W) (hn:n0<=w.heap.size) (hu:Upd (fun x=>n0<=x/\ ¬(w.heap.size<=x/\x < w.heap.size+2)) W W') {k':Nat} (hk:K true k' W'):P2 n0 w.heap.size a b pa pb w K k' W':=
 ⟨Z1n h.ba hu (by omega),Z1n h.bb hu (by omega),h.up.trans (hu.mono (fun x _ hx=>hx.1)),Nat.le_trans h.sz hu.size,hk⟩
theorem P2.new (h:P2 n0 w.heap.size a b pa pb w K k W) (hT:TakesP n0 w.heap.size a b fn cs step K) (hn:n0<=w.heap.size) (hb:Below W.heap.size W W'):P2 n0 w.heap.size a b pa pb w K k W':=
 h.upd hn (Upd.new hb) (hT.keep _ _ _ _ h.k (Upd.new hb))
end
def headEq (a b:Sh):Bool:=decide (a.of_=b.of_/\a.name=b.name/\a.parts.length=b.parts.length)
theorem Z37 (a b:Sh) (pa pb:Ptr) (n0:Nat) (w:World) (ha:ShAt w n0 pa a) (hb:ShAt w n0 pb b) (hn:n0<=w.heap.size) (la:a.parts.length<=1000)
 (fn:Nat) (hen: ∀args W,(callFunc fn args).run Tryd.prog W= .ok (.enter fn args) W) (cs:List Value) (step:Nat->Bool) (K:Bool->Nat->World->Prop)
 (hT:TakesP n0 w.heap.size a b fn cs step K) (h0:K true 0 w):
 Calls Tryd.prog 36 #[sv a pa,sv b pb,.func (.func fn) #[] cs.toArray] w fun e w'=>e= .returned (.bool (headEq a b&&(List.range a.parts.length).all step))/\
  (∃D,K (!headEq a b||(List.range a.parts.length).all step) D w'/\((headEq a b&&(List.range a.parts.length).all step)=true->D=a.parts.length))/\Upd (fun x=>n0<=x) w w':=by
 obtain ⟨Aa,ca,Pa,da⟩:=pa;obtain ⟨Ab,cb,Pb,db⟩:=pb;have hb1:=Z02 w (.cells #[.int .i64 a.kind,.string ⟨a.of_.toArray⟩,.string ⟨a.name.toArray⟩,.slice Aa a.names.length ca,.slice Pa a.parts.length da] 25);obtain ⟨w1,hw1⟩: ∃w1,w1=w.alloc (.cells #[.int .i64 a.kind,.string ⟨a.of_.toArray⟩,.string ⟨a.name.toArray⟩,.slice Aa a.names.length ca,.slice Pa a.parts.length da] 25):=⟨_,rfl⟩;have hb2:=Z02 w1 (.cells #[.int .i64 b.kind,.string ⟨b.of_.toArray⟩,.string ⟨b.name.toArray⟩,.slice Ab b.names.length cb,.slice Pb b.parts.length db] 25);obtain ⟨w2,hw2⟩: ∃w2,w2=w1.alloc (.cells #[.int .i64 b.kind,.string ⟨b.of_.toArray⟩,.string ⟨b.name.toArray⟩,.slice Ab b.names.length cb,.slice Pb b.parts.length db] 25):=⟨_,rfl⟩;have hs1:w1.heap.size=w.heap.size+1:=by rw[hw1]; simp
 have hs2:w2.heap.size=w.heap.size+2:=by rw[hw2]; simp[hs1]
 rw[<-hw1] at hb1;rw[<-hw2] at hb2;have hB1:Box5 w1 w.heap.size a ⟨Aa,ca,Pa,da⟩:=by rw[hw1]; exact Z03 w a ⟨Aa,ca,Pa,da⟩
 have hB2:Box5 w2 w1.heap.size b ⟨Ab,cb,Pb,db⟩:=by rw[hw2]; exact Z03 w1 b ⟨Ab,cb,Pb,db⟩
 have hBA:=hB1.next hb2;rw[hs1] at hB2;have hU:Upd (fun x=>w.heap.size<=x/\x < w.heap.size+2) w w2:=Upd.new (Z00 hb1 hb2);have hP2:P2 n0 w.heap.size a b ⟨Aa,ca,Pa,da⟩ ⟨Ab,cb,Pb,db⟩ w K 0 w2:=⟨hBA,hB2,hU.mono (fun x _ h=>by omega),by omega,hT.keep _ _ _ _ h0 hU⟩;have HP2:=Y1 hP2;have HSA:=Y1 ha;have HSB:=Y1 hb;have HN:=Y1 hn;have HLA:=Y1 la;have HT:=Y1 hT;have ns:=ha.small;have nt:=hb.small;have o1:=ns.o;have o2:=ns.n;have o3:=nt.o;have o4:=nt.n;obtain ⟨_,⟨a0,a1,a2,a3,a4⟩,_⟩:=hBA;obtain ⟨_,⟨b0,b1,b2,b3,b4⟩,_⟩:=hB2;simp only[Nat.zero_add] at a0 a1 a2 a3 a4 b0 b1 b2 b3 b4;have hw1':=hw1.symm;have hw2':=hw2.symm;clear hw1 hw2 hb1 hb2 hB1 hP2 hU ha hb hn la hT h0 ns nt;unfold sv
 try dsimp only
 cases hh:headEq a b with
 | false=>
  have HF:Hid ((∃D,K (!false||(List.range a.parts.length).all step) D w2/\((false&&(List.range a.parts.length).all step)=true->D=a.parts.length))/\Upd (fun x=>n0<=x) w w2):=Y1 ⟨⟨0,HP2.out.k,nofun⟩,HP2.out.up⟩;clear HP2 HSA HSB HN HLA HT;have hh': ¬(a.of_=b.of_/\a.name=b.name/\a.parts.length=b.parts.length):=of_decide_eq_false hh;clear hh;by_cases e1:a.of_=b.of_
  {by_cases e2:a.name=b.name
   {have e3:a.parts.length≠b.parts.length:=fun e=>hh' ⟨e1,e2,e⟩;have n1: (a.of_ !=b.of_)=false:=by rw[e1]; simp
    have m1: (a.of_==b.of_)=true:=by rw[e1]; simp
    have n2: (a.name !=b.name)=false:=by rw[e2]; simp
    have m2: (a.name==b.name)=true:=by rw[e2]; simp
    have n3: ((a.parts.length:Int) !=(b.parts.length:Int))=true:=by simp; omega
    have m3: ((a.parts.length:Int)==(b.parts.length:Int))=false:=by simp; omega
    clear e1 e2 e3 hh';go_enter Tryd.func36,Tryd.ntmps36;go_wp2;go_ret;exact ⟨rfl,HF.out⟩}
   {have n1: (a.of_ !=b.of_)=false:=by rw[e1]; simp
    have m1: (a.of_==b.of_)=true:=by rw[e1]; simp
    have n2: (a.name !=b.name)=true:=by simpa using e2
    have m2: (a.name==b.name)=false:=by simpa using e2
    clear e1 e2 hh';go_enter Tryd.func36,Tryd.ntmps36;go_wp2;go_ret;exact ⟨rfl,HF.out⟩}}
  {have n1: (a.of_ !=b.of_)=true:=by simpa using e1
   have m1: (a.of_==b.of_)=false:=by simpa using e1
   clear e1 hh';go_enter Tryd.func36,Tryd.ntmps36;go_wp2;go_ret;exact ⟨rfl,HF.out⟩}
 | true=>
  obtain ⟨e1,e2,e3⟩:a.of_=b.of_/\a.name=b.name/\a.parts.length=b.parts.length:=of_decide_eq_true hh;have HE3:=Y1 e3;have n1: (a.of_ !=b.of_)=false:=by rw[e1]; simp
  have m1: (a.of_==b.of_)=true:=by rw[e1]; simp
  have n2: (a.name !=b.name)=false:=by rw[e2]; simp
  have m2: (a.name==b.name)=true:=by rw[e2]; simp
  have n3: ((a.parts.length:Int) !=(b.parts.length:Int))=false:=by rw[e3]; simp
  have m3: ((a.parts.length:Int)==(b.parts.length:Int))=true:=by rw[e3]; simp
  simp only[Bool.true_and,Bool.not_true,Bool.false_or];clear e1 e2 e3 hh;obtain ⟨st,hst⟩: ∃st,st=(List.range a.parts.length).all step:=⟨_,rfl⟩;have HST:=Y1 hst;rw[<-hst];clear hst;go_enter Tryd.func36,Tryd.ntmps36
  go_wp2_with fail
  go_loopw [33] (fun ii wr=> ∃k:Nat,k<=a.parts.length/\ii= .int .i64 (k:Int)/\Hid ((List.range k).all step=true)/\Hid (P2 n0 w.heap.size a b ⟨Aa,ca,Pa,da⟩ ⟨Ab,cb,Pb,db⟩ w K k wr)) (fun i _=>a.parts.length - (intOf i).toNat)
  case atStart=>exact ⟨0,Nat.zero_le _,rfl,Y1 (by simp),HP2⟩
  case round=>
   obtain ⟨k,hk,rfl,HSS,HP⟩:=hrel;have hla:=HLA.out;clear a0 a1 a2 a3 a4 b0 b1 b2 b3 b4 n1 n2 n3 m1 m2 m3 o1 o2 o3 o4;by_cases hlt:k < a.parts.length
   {have hi1: (k:Int) < (a.parts.length:Int):=by omega
    have hk2:k < b.parts.length:=by rw[<-HE3.out]; exact hlt
    have hi2: (k:Int) < (b.parts.length:Int):=by omega
    have hn0:=HN.out;have hpa:=Z3u (Z0s HSA.out hn0 HP.out.up (fun x hx hs=>by omega));have hpb:=Z3u (Z0s HSB.out hn0 HP.out.up (fun x hx hs=>by omega));obtain ⟨ga,oa,ra,hpa⟩:=hpa;obtain ⟨gb,ob,rb,hpb⟩:=hpb;rcases hpa with h | ⟨rfl,hga,h5a⟩
    {omega}
    rcases hpb with h | ⟨rfl,hgb,h5b⟩
    {omega}
    obtain ⟨p,hp⟩: ∃p,p=a.parts[k]'hlt:=⟨_,rfl⟩;obtain ⟨q,hq⟩: ∃q,q=b.parts[k]'hk2:=⟨_,rfl⟩;obtain ⟨⟨x0,x1,x2,x3,x4⟩,hsx⟩:=h5a k hlt;obtain ⟨⟨y0,y1,y2,y3,y4⟩,hsy⟩:=h5b k hk2;have hwn:n0<=wr.heap.size:=by have:=HP.out.up.size; omega
    have hcall:=HT.out.call k hlt hk2;rw[<-hp] at x0 x1 x2 x3 x4 hsx hcall;rw[<-hq] at y0 y1 y2 y3 y4 hsy hcall;have HC:=Y1 hcall;have HWN:=Y1 hwn;have HSX:=Y1 hsx;have HSY:=Y1 hsy;have hbw:=Z02 wr (.cells (Y8 p (ra k)) 25);have HPN:=Y1 (HP.out.new HT.out hn0 hbw.drew);have HBW:=Y1 hbw;have HBX:=Y1 (Z03 wr p (ra k));obtain ⟨_,⟨a0,a1,a2,a3,a4⟩,_⟩:=HP.out.ba.next hbw;obtain ⟨_,⟨b0,b1,b2,b3,b4⟩,_⟩:=HP.out.bb.next hbw;obtain ⟨_,⟨c0,c1,c2,c3,c4⟩,_⟩:=HBX.out;have hgaW:ga < wr.heap.size:=by omega
    have hgbW:gb < wr.heap.size:=by omega
    have hwW:w.heap.size+1 < wr.heap.size:=by have:=HP.out.sz; omega
    simp only[Nat.zero_add] at a0 a1 a2 a3 a4 b0 b1 b2 b3 b4 c0 c1 c2 c3 c4;obtain ⟨y0,y1,y2,y3,y4⟩:=(show Sh5 wr gb (ob+k * 5) q (rb k) from ⟨y0,y1,y2,y3,y4⟩).keep hgbW hbw;obtain ⟨w3,hw3⟩: ∃w3,w3=wr.alloc (.cells (Y8 p (ra k)) 25):=⟨_,rfl⟩;rw[<-hw3] at hbw HPN HBW HBX a0 a1 a2 a3 a4 b0 b1 b2 b3 b4 c0 c1 c2 c3 c4 y0 y1 y2 y3 y4;have hw3':=hw3.symm;clear hw3 hcall hsx hsy hwn hp hq h5a h5b hbw
    go_wp2_with fail
    go_still_tail 13,(by kernel_rfl)
    change wpList _ _ _ _ _ w3.drew
    go_wp2_with fail
    rw[show ((k:Int)==(a.parts.length:Int) - 1)=decide (k+1=a.parts.length) from by rw[Bool.eq_iff_iff,beq_iff_eq,decide_eq_true_eq]; omega];have hu3:Upd (fun x=>n0<=x/\ ¬(w.heap.size<=x/\x < w.heap.size+2)) wr w3.drew:=Upd.new HBW.out.drew;refine (HC.out w3.drew (ra k) (rb k) HPN.out.sz HPN.out.k (Z0s HSX.out HWN.out hu3 (fun x h1 h2=>by omega)) (Z0s HSY.out HWN.out hu3 (fun x h1 h2=>by omega))).mono ?_;rintro e W2 ⟨rfl,hk2',hu2⟩;have HK2:=Y1 hk2';have HU2:=Y1 hu2;clear hk2' hu2 hu3 HC a0 a1 a2 a3 a4 b0 b1 b2 b3 b4 c0 c1 c2 c3 c4 y0 y1 y2 y3 y4 x0 x1 x2 x3 x4;cases hs:step k with
    | false=>
     have HALL:Hid (st=false):=Y1 (by
      rw[HST.out,Bool.eq_false_iff];intro h;have:=List.all_eq_true.1 h k (List.mem_range.2 hlt);rw[hs] at this; cases this)
     rw[hs] at HK2;clear hs;go_wp2;go_ret;rw[HALL.out];exact ⟨rfl,⟨_,HK2.out,nofun⟩,HPN.out.up.trans (HU2.out.mono (fun x _ h=>h.1))⟩
    | true=>
     rw[hs] at HK2;have HP4:=Y1 (HPN.out.upd HN.out HU2.out HK2.out);have HSS2:Hid ((List.range (k+1)).all step=true):=Y1 (by rw[List.range_succ,List.all_append,HSS.out]; simp[hs]);clear hs HK2 HU2;go_wp2
     go_roundw
     case rel=>exact ⟨k+1,by omega,by go_num,HSS2,HP4⟩
     case measure=>simp[intOf]; omega}
   {obtain rfl:k=a.parts.length:=by omega
    have hi1: ¬(a.parts.length:Int) < (a.parts.length:Int):=by omega
    have HALL:Hid (st=true):=Y1 (by rw[HST.out]; exact HSS.out);clear HSS;go_wp2;go_ret;rw[HALL.out];exact ⟨rfl,⟨_,HP.out.k,fun _=>rfl⟩,HP.out.up⟩}
end SubM
end Go.Proofs.YtlomianlcnmfgaaDoor
namespace Go.Proofs.YtlomianlcnmfgaaDoor
open Go.RowKit Shp Sub
namespace SubM
def placeStep (g:Sh->Sh->Bool) (a b:Sh) (k:Nat):Bool:=
 match a.parts[k]?,b.parts[k]? with
 | some p,some q=>if k+1=a.parts.length then g p q else g q p
 | some _,none=>true
 | none,_=>true
theorem Z5G (g:Sh->Sh->Bool) (a b:Sh): (headEq a b&&(List.range a.parts.length).all (placeStep g a b))=(decide (a.of_=b.of_/\a.name=b.name)&&placesAll g a.parts b.parts):=by
 rw[Bool.eq_iff_iff,Bool.and_eq_true,Bool.and_eq_true,Z3A,List.all_eq_true];unfold headEq;rw[decide_eq_true_eq,decide_eq_true_eq];constructor
 {rintro ⟨⟨h1,h2,h3⟩,h4⟩;refine ⟨⟨h1,h2⟩,h3,fun i p q hp hq=> ?_⟩;have:=h4 i (List.mem_range.2 (List.getElem?_eq_some_iff.1 hp).1);unfold placeStep at this;rw[hp,hq] at this;exact this}
 {rintro ⟨⟨h1,h2⟩,h3,h4⟩;refine ⟨⟨h1,h2,h3⟩,fun i hi=> ?_⟩;have hi:=List.mem_range.1 hi;unfold placeStep;rw[List.getElem?_eq_getElem hi,List.getElem?_eq_getElem (show i < b.parts.length by omega)];exact h4 i _ _ (List.getElem?_eq_getElem hi) (List.getElem?_eq_getElem (by omega))}
structure Two (f:Nat) (a b:Sh):Prop where
 ra:right a=true
 rb:right b=true
 da:deep a<=f
 db:deep b<=f
 sa:size a<=400
 sb:size b<=400
theorem Two.part {f:Nat} {a b p q:Sh} (h:Two (f+1) a b) (hp:p∈a.parts) (hq:q∈b.parts):Two f p q:=by
 obtain ⟨ra,rb,da,db,sa,sb⟩:=h;have h1:=Z0P hp;have h2:=Z0P hq;have h3:=Z24 hp;have h4:=Z24 hq;rw[Z0q] at da db;rw[size_eq] at sa sb;exact ⟨Z05 ra hp,Z05 rb hq,by omega,by omega,by omega,by omega⟩
theorem Two.swap {f:Nat} {a b:Sh} (h:Two f a b):Two f b a:=⟨h.rb,h.ra,h.db,h.da,h.sb,h.sa⟩
theorem Two.la {f:Nat} {a b:Sh} (h:Two f a b):a.parts.length<=1000:=by have:=h.sa; have:=Z11 a.parts; rw[size_eq] at *; omega
def BelowOk (f:Nat):Prop:=
 ∀(a b:Sh) (pa pb:Ptr) (n0:Nat) (w:World),Two f a b->ShAt w n0 pa a->ShAt w n0 pb b->n0<=w.heap.size->
  Y9 19 #[sv a pa,sv b pb] w (.bool (bw f a b))
section
variable {f : Nat} {a b : Sh}
section
variable (hI : BelowOk f) (n0 : Nat) (nm : List UInt8) (o1 o2 : Option Sh) (x y : Value) (W : World) (h : ∀ p q, o1 = some p -> o2 = some q -> Two f p q) (hn : n0 <= W.heap.size) (hx : At W n0 o1 x) (hy : At W n0 o2 y)
include hI n0 nm o1 o2 x y W h hn hx hy
theorem Z7o:
 Calls Tryd.prog 34 (.string ⟨nm.toArray⟩::x::y:: []).toArray W fun e W'=>e= .returned (.bool (stepNarrow (bw f) (nm,o1,o2)))/\Below W.heap.size W W':=by
 cases o2 with
 | none=>
  have hy':y= .pointer none:=hy;subst hy';have HB:=Y1 (Below.refl W.heap.size W).drew;have hx': ∃p,x= .pointer p:=by
   cases o1 with
   | none=>exact ⟨none,hx⟩
   | some _=>obtain ⟨g,o,q,h1,_⟩:=hx; exact ⟨_,h1⟩
  obtain ⟨p,rfl⟩:=hx';have hr:stepNarrow (bw f) (nm,o1,none)=true:=by cases o1 <;> rfl
  rw[hr];clear hx h hI hn hr;go_enter Tryd.func34,Tryd.ntmps34
  go_wp2_with fail
  go_quiet (fail)
  go_wp2;go_ret;exact ⟨rfl,Z0l Y2 _⟩
 | some q=>
  obtain ⟨g,off,qy,rfl,hg,h5,hs⟩:=hy;cases o1 with
  | none=>
   have hx':x= .pointer none:=hx;subst hx';have hr:stepNarrow (bw f) (nm,none,some q)=false:=rfl;rw[hr];clear h hI hn hr hg h5 hs;go_enter Tryd.func34,Tryd.ntmps34
   go_wp2_with fail
   go_quiet (fail)
   go_wp2;go_ret;exact ⟨rfl,Z0l Y2 _⟩
  | some p=>
   obtain ⟨g',off',qx,rfl,hg',h5',hs'⟩:=hx;have hr:stepNarrow (bw f) (nm,some p,some q)=bw f p q:=rfl;rw[hr];obtain ⟨x0,x1,x2,x3,x4⟩:=h5';obtain ⟨y0,y1,y2,y3,y4⟩:=h5;have hu:Upd (fun _=>False) W W.drew:=(Upd.refl _ W).drew;have HC:=Y1 (hI p q qx qy n0 W.drew (h p q rfl rfl) (Z0s hs' hn hu (fun _ _ h=>h)) (Z0s hs hn hu (fun _ _ h=>h)) hn);have HZ:Hid (Below W.heap.size W W.drew):=Y1 (Below.refl _ W).drew;unfold sv at HC;clear h hI hn hr hg hg' hs hs' hu;go_enter Tryd.func34,Tryd.ntmps34
   go_wp2_with fail
   go_still_tail 12,(by kernel_rfl)
   change wpList _ _ _ _ _ W.drew
   go_wp2_with fail
   refine HC.out.mono ?_;rintro e W2 ⟨rfl,hb2⟩;have HB2:=Y1 (Z00 HZ.out hb2);clear hb2 HC;go_wp2;go_ret;exact ⟨rfl,HB2.out⟩
theorem Z7p:
 Calls Tryd.prog 35 (.string ⟨nm.toArray⟩::x::y:: []).toArray W fun e W'=>e= .returned (.bool (stepWide (bw f) (nm,o1,o2)))/\Below W.heap.size W W':=by
 cases o1 with
 | none=>
  have hx':x= .pointer none:=hx;subst hx';have hy': ∃p,y= .pointer p:=by
   cases o2 with
   | none=>exact ⟨none,hy⟩
   | some _=>obtain ⟨g,o,q,h1,_⟩:=hy; exact ⟨_,h1⟩
  obtain ⟨p,rfl⟩:=hy';have hr:stepWide (bw f) (nm,none,o2)=true:=by cases o2 <;> rfl
  rw[hr];clear hy h hI hn hr;go_enter Tryd.func35,Tryd.ntmps35
  go_wp2_with fail
  go_quiet (fail)
  go_wp2;go_ret;exact ⟨rfl,Z0l Y2 _⟩
 | some p=>
  obtain ⟨g,off,qx,rfl,hg,h5,hs⟩:=hx;cases o2 with
  | none=>
   have hy':y= .pointer none:=hy;subst hy';have hr:stepWide (bw f) (nm,some p,none)=false:=rfl;rw[hr];clear h hI hn hr hg h5 hs;go_enter Tryd.func35,Tryd.ntmps35
   go_wp2_with fail
   go_quiet (fail)
   go_wp2;go_ret;exact ⟨rfl,Z0l Y2 _⟩
  | some q=>
   obtain ⟨g',off',qy,rfl,hg',h5',hs'⟩:=hy;have hr:stepWide (bw f) (nm,some p,some q)=bw f p q:=rfl;rw[hr];obtain ⟨x0,x1,x2,x3,x4⟩:=h5;obtain ⟨y0,y1,y2,y3,y4⟩:=h5';have hu:Upd (fun _=>False) W W.drew:=(Upd.refl _ W).drew;have HC:=Y1 (hI p q qx qy n0 W.drew (h p q rfl rfl) (Z0s hs hn hu (fun _ _ h=>h)) (Z0s hs' hn hu (fun _ _ h=>h)) hn);have HZ:Hid (Below W.heap.size W W.drew):=Y1 (Below.refl _ W).drew;unfold sv at HC;clear h hI hn hr hg hg' hs hs' hu;go_enter Tryd.func35,Tryd.ntmps35
   go_wp2_with fail
   go_still_tail 12,(by kernel_rfl)
   change wpList _ _ _ _ _ W.drew
   go_wp2_with fail
   refine HC.out.mono ?_;rintro e W2 ⟨rfl,hb2⟩;have HB2:=Y1 (Z00 HZ.out hb2);clear hb2 HC;go_wp2;go_ret;exact ⟨rfl,HB2.out⟩
end
theorem Z7q (hI:BelowOk f) (n0:Nat) (p q:Sh) (x y:Ptr) (l:Bool) (W:World) (h:Two f p q) (hn:n0<=W.heap.size) (hx:ShAt W n0 x p) (hy:ShAt W n0 y q):
 Calls Tryd.prog 37 (sv p x::sv q y:: .bool l:: []).toArray W fun e W'=>e= .returned (.bool (if l=true then bw f p q else bw f q p))/\Below W.heap.size W W':=by
 have hb1:=Z02 W (.cells (Y8 p x) 25);obtain ⟨w1,hw1⟩: ∃w1,w1=W.alloc (.cells (Y8 p x) 25):=⟨_,rfl⟩;have hb2:=Z02 w1 (.cells (Y8 q y) 25);obtain ⟨w2,hw2⟩: ∃w2,w2=w1.alloc (.cells (Y8 q y) 25):=⟨_,rfl⟩;have hs1:w1.heap.size=W.heap.size+1:=by rw[hw1]; simp
 rw[<-hw1] at hb1;rw[<-hw2] at hb2;have hB1:Box5 w1 W.heap.size p x:=by rw[hw1]; exact Z03 W p x
 have hB2:Box5 w2 w1.heap.size q y:=by rw[hw2]; exact Z03 w1 q y
 have hBA:=hB1.next hb2;rw[hs1] at hB2;have hu:Upd (fun _=>False) W w2:=Upd.new (Z00 hb1 hb2);have hx2:=Z0s hx hn hu (fun _ _ h=>h);have hy2:=Z0s hy hn hu (fun _ _ h=>h);have hn2:n0<=w2.heap.size:=by have:=hu.size; omega
 have HA:=Y1 (hI p q x y n0 w2 h hx2 hy2 hn2);have HB:=Y1 (hI q p y x n0 w2 h.swap hy2 hx2 hn2);have HW:=Y1 (Z00 hb1 hb2);obtain ⟨_,⟨a0,a1,a2,a3,a4⟩,_⟩:=hBA;obtain ⟨_,⟨b0,b1,b2,b3,b4⟩,_⟩:=hB2;simp only[Nat.zero_add] at a0 a1 a2 a3 a4 b0 b1 b2 b3 b4;have hw1':=hw1.symm;have hw2':=hw2.symm;clear hw1 hw2 hb1 hb2 hB1 hu hx2 hy2 hx hy hn h hI;unfold sv at HA HB ⊢;cases l with
 | true=>
  go_enter Tryd.func37,Tryd.ntmps37
  go_wp2_with fail
  refine HA.out.mono ?_;rintro e W3 ⟨rfl,hb3⟩;have HB3:=Y1 (Z00 HW.out hb3);clear hb3 a0 a1 a2 a3 a4 b0 b1 b2 b3 b4 HA HB;go_wp2;go_ret;exact ⟨rfl,HB3.out⟩
 | false=>
  go_enter Tryd.func37,Tryd.ntmps37
  go_wp2_with fail
  refine HB.out.mono ?_;rintro e W3 ⟨rfl,hb3⟩;have HB3:=Y1 (Z00 HW.out hb3);clear hb3 a0 a1 a2 a3 a4 b0 b1 b2 b3 b4 HA HB;go_wp2;go_ret;exact ⟨rfl,HB3.out⟩
end
theorem Z7r (f:Nat):BelowOk f:=by
 induction f with
 | zero=>intro a b pa pb n0 w h; have:=h.da; rw[Z0q] at this; omega
 | succ f hI=>
  intro a b pa pb n0 w h ha hb hn;have hb1:=Z02 w (.cells (Y8 a pa) 25);obtain ⟨w1,hw1⟩: ∃w1,w1=w.alloc (.cells (Y8 a pa) 25):=⟨_,rfl⟩;have hb2:=Z02 w1 (.cells (Y8 b pb) 25);obtain ⟨w2,hw2⟩: ∃w2,w2=w1.alloc (.cells (Y8 b pb) 25):=⟨_,rfl⟩;have hs1:w1.heap.size=w.heap.size+1:=by rw[hw1]; simp
  rw[<-hw1] at hb1;rw[<-hw2] at hb2;have hB1:Box5 w1 w.heap.size a pa:=by rw[hw1]; exact Z03 w a pa
  have hB2:Box5 w2 w1.heap.size b pb:=by rw[hw2]; exact Z03 w1 b pb
  have hBA:=hB1.next hb2;rw[hs1] at hB2;have hbw:=Z00 hb1 hb2;have hu:Upd (fun _=>False) w w2:=Upd.new hbw;have HA:=Y1 (Z0s ha hn hu (fun _ _ h=>h));have HB:=Y1 (Z0s hb hn hu (fun _ _ h=>h));have HN:Hid (n0<=w2.heap.size):=Y1 (by have:=hu.size; omega);have HW:=Y1 hbw;have H2:=Y1 h;have HI:=Y1 hI;obtain ⟨_,⟨a0,a1,a2,a3,a4⟩,_⟩:=hBA;obtain ⟨_,⟨b0,b1,b2,b3,b4⟩,_⟩:=hB2;simp only[Nat.zero_add] at a0 a1 a2 a3 a4 b0 b1 b2 b3 b4;have hw1':=hw1.symm;have hw2':=hw2.symm;have hwz:w.heap.size<=w2.heap.size:=hbw.size
  -- what the closures keep
  have keepN: ∀(ok:Bool) (done:List Cl) W W',Below w.heap.size w W->Upd (fun x=>w2.heap.size<=x/\x < w2.heap.size+3) W W'->Below w.heap.size w W':=fun _ _ W W' h1 h2=>h1.trans (h2.below h1.size (fun x hx=>by omega));have keepP: ∀(ok:Bool) (k:Nat) W W',Below w.heap.size w W->Upd (fun x=>w2.heap.size<=x/\x < w2.heap.size+2) W W'->Below w.heap.size w W':=fun _ _ W W' h1 h2=>h1.trans (h2.below h1.size (fun x hx=>by omega));have HKN:=Y1 keepN;have HKP:=Y1 keepP;clear hw1 hw2 hb1 hb2 hB1 hu ha hb hn h hI hbw keepN keepP;unfold sv;by_cases hk:a.kind=b.kind
  {have m0: (a.kind !=b.kind)=false:=by rw[hk]; simp
   have n0': (a.kind==b.kind)=true:=by rw[hk]; simp
   by_cases h6:a.kind=6
   {have HR:Hid (bw (f+1) a b=(calls a b).all (stepNarrow (bw f))):=Y1 (by rw[show bw (f+1) a b=_ from rfl]; conv=>lhs; unfold bw; rw[if_neg (fun h=>h hk),if_pos h6]);have HRa:=Y1 (Z0n (Z08 H2.out.ra) (Or.inl h6));have HRb:=Y1 (Z0n (Z08 H2.out.rb) (Or.inl (hk▸h6)));have m6:=Y4 6 h6 rfl;have hT:Takes n0 w2.heap.size a b 34 [] (stepNarrow (bw f)) (fun _ _ W=>Below w.heap.size w W):=by
     refine ⟨HKN.out,fun done c rest W x y hcut hsz hK hx hy=> ?_⟩;obtain ⟨nm,o1,o2⟩:=c;have hm: (nm,o1,o2)∈calls a b:=by rw[hcut]; simp
     obtain ⟨e1,e2,_⟩:=(Z0p HRa.out HRb.out).1 hm;refine (Z7o HI.out n0 nm o1 o2 x y W (fun p q hp hq=> ?_) (by have:=HN.out; omega) hx hy).mono ?_
     {rw[e1] at hp; rw[e2] at hq;exact H2.out.part (Z06 hp) (Z06 hq)}
     {rintro e W' ⟨rfl,hb⟩;exact ⟨rfl,hK.trans (hb.mono hK.size),Upd.new hb⟩}
    have HE:=Y1 (Z1z a b pa pb n0 w2 HRa.out HRb.out HA.out HB.out HN.out (by have:=H2.out.la; rw[<-HRa.out.l] at this; exact this) (by have:=H2.out.swap.la; rw[<-HRb.out.l] at this; exact this) 34 (enters_of Tryd.func34 (by kernel_rfl) rfl) [] _ _ hT HW.out);unfold sv at HE;rw[HR.out];clear hT hk h6;go_enter Tryd.func19,Tryd.ntmps19
    go_wp2_with fail
    refine HE.out.mono ?_;rintro e W3 ⟨rfl,⟨_,hK,_⟩,_⟩;have HK:=Y1 hK;clear hK HE a0 a1 a2 a3 a4 b0 b1 b2 b3 b4;go_wp2;go_ret;exact ⟨rfl,HK.out⟩}
   {have m6: (a.kind==6)=false:=by simpa using h6
    by_cases h7:a.kind=7
    {have HR:Hid (bw (f+1) a b=(calls a b).all (stepWide (bw f))):=Y1 (by conv=>lhs; unfold bw; rw[if_neg (fun h=>h hk),if_neg h6,if_pos h7]);have HRa:=Y1 (Z0n (Z08 H2.out.ra) (Or.inr h7));have HRb:=Y1 (Z0n (Z08 H2.out.rb) (Or.inr (hk▸h7)));have m7:=Y4 7 h7 rfl;have hT:Takes n0 w2.heap.size a b 35 [] (stepWide (bw f)) (fun _ _ W=>Below w.heap.size w W):=by
      refine ⟨HKN.out,fun done c rest W x y hcut hsz hK hx hy=> ?_⟩;obtain ⟨nm,o1,o2⟩:=c;have hm: (nm,o1,o2)∈calls a b:=by rw[hcut]; simp
      obtain ⟨e1,e2,_⟩:=(Z0p HRa.out HRb.out).1 hm;refine (Z7p HI.out n0 nm o1 o2 x y W (fun p q hp hq=> ?_) (by have:=HN.out; omega) hx hy).mono ?_
      {rw[e1] at hp; rw[e2] at hq;exact H2.out.part (Z06 hp) (Z06 hq)}
      {rintro e W' ⟨rfl,hb⟩;exact ⟨rfl,hK.trans (hb.mono hK.size),Upd.new hb⟩}
     have HE:=Y1 (Z1z a b pa pb n0 w2 HRa.out HRb.out HA.out HB.out HN.out (by have:=H2.out.la; rw[<-HRa.out.l] at this; exact this) (by have:=H2.out.swap.la; rw[<-HRb.out.l] at this; exact this) 35 (enters_of Tryd.func35 (by kernel_rfl) rfl) [] _ _ hT HW.out);unfold sv at HE;rw[HR.out];clear hT hk h6 h7;go_enter Tryd.func19,Tryd.ntmps19
     go_wp2_with fail
     refine HE.out.mono ?_;rintro e W3 ⟨rfl,⟨_,hK,_⟩,_⟩;have HK:=Y1 hK;clear hK HE a0 a1 a2 a3 a4 b0 b1 b2 b3 b4;go_wp2;go_ret;exact ⟨rfl,HK.out⟩}
    {have m7: (a.kind==7)=false:=by simpa using h7
     have HR:Hid (bw (f+1) a b=(headEq a b&&(List.range a.parts.length).all (placeStep (bw f) a b))):=Y1 (by rw[Z5G]; conv=>lhs; unfold bw; rw[if_neg (fun h=>h hk),if_neg h6,if_neg h7]);have hT:TakesP n0 w2.heap.size a b 37 [] (placeStep (bw f) a b) (fun _ _ W=>Below w.heap.size w W):=by
      refine ⟨HKP.out,fun k hk hk2 W x y hsz hK hx hy=> ?_⟩;refine (Z7q HI.out n0 _ _ x y _ W (H2.out.part (List.getElem_mem _) (List.getElem_mem _)) (by have:=HN.out; omega) hx hy).mono ?_;rintro e W' ⟨rfl,hb⟩;refine ⟨?_,hK.trans (hb.mono hK.size),Upd.new hb⟩;unfold placeStep;rw[List.getElem?_eq_getElem hk,List.getElem?_eq_getElem hk2];simp only[decide_eq_true_eq]
     have HE:=Y1 (Z37 a b pa pb n0 w2 HA.out HB.out HN.out H2.out.la 37 (enters_of Tryd.func37 (by kernel_rfl) rfl) [] _ _ hT HW.out);unfold sv at HE;rw[HR.out];clear hT hk h6 h7;go_enter Tryd.func19,Tryd.ntmps19
     go_wp2_with fail
     refine HE.out.mono ?_;rintro e W3 ⟨rfl,⟨_,hK,_⟩,_⟩;have HK:=Y1 hK;clear hK HE a0 a1 a2 a3 a4 b0 b1 b2 b3 b4;go_wp2;go_ret;exact ⟨rfl,HK.out⟩}}}
  {have m0: (a.kind !=b.kind)=true:=by simpa using hk
   have n0': (a.kind==b.kind)=false:=by simpa using hk
   have HR:Hid (bw (f+1) a b=false):=Y1 (by unfold bw; rw[if_pos hk]);rw[HR.out];clear hk;go_enter Tryd.func19,Tryd.ntmps19;go_wp2;go_ret;exact ⟨rfl,HW.out⟩}
end SubM
end Go.Proofs.YtlomianlcnmfgaaDoor
namespace Go.Proofs.YtlomianlcnmfgaaDoor
section
open Go.RowKit Shp Go.Sort
structure Swi (w wi:World) (ps:List Sh) (qs:Nat->Ptr) (Fs Fs':Nat->List Nat) (i:Nat):Prop where
 up:UpF ((List.range ps.length).flatMap Fs) w wi
 pm: ∀j,j < ps.length->(Fs' j).Perm (Fs j)
 lo: ∀j (h:j < ps.length),j < i->Own wi (qs j) (sorted (ps[j]'h)) (Fs' j)
 hi: ∀j (h:j < ps.length),i<=j->Own wi (qs j) (ps[j]'h) (Fs' j)
theorem Swi.start {w wi:World} {ps:List Sh} {qs:Nat->Ptr} {Fs:Nat->List Nat} (hr: ∀j (h:j < ps.length),Own w (qs j) (ps[j]'h) (Fs j)) (hb:Below w.heap.size w wi):Swi w wi ps qs Fs Fs 0:=
 ⟨(UpF.refl _ _).below hb,fun j _=>List.Perm.refl _,fun j _ h=>absurd h (by omega),fun j h _=>Z1I (hr j h) hb⟩
theorem Swi.below {w wi w2:World} {ps:List Sh} {qs:Nat->Ptr} {Fs Fs':Nat->List Nat} {i:Nat} (h:Swi w wi ps qs Fs Fs' i) (hb:Below wi.heap.size wi w2):Swi w w2 ps qs Fs Fs' i:=
 ⟨h.up.below hb,h.pm,fun j hj hl=>Z1I (h.lo j hj hl) hb,fun j hj hl=>Z1I (h.hi j hj hl) hb⟩
theorem Swi.step {w wi w2:World} {ps:List Sh} {qs:Nat->Ptr} {Fs Fs':Nat->List Nat} {i:Nat} {F':List Nat} (h:Swi w wi ps qs Fs Fs' i) (hi:i < ps.length)
 (hdis: ∀i j,i < ps.length->j < ps.length->i≠j-> ∀b∈Fs i,b∉Fs j) (hu:UpF (Fs' i) wi w2) (hp:F'.Perm (Fs' i)) (ho:Own w2 (qs i) (sorted (ps[i]'hi)) F'): ∃Fs2,Swi w w2 ps qs Fs Fs2 (i+1):=by
 have hfar: ∀j,j < ps.length->j≠i-> ∀b∈Fs' j,b∉Fs' i:=fun j hj hne b hb hb2=>
  hdis j i hj hi hne b ((h.pm j hj).mem_iff.1 hb) ((h.pm i hi).mem_iff.1 hb2)
 refine ⟨fun j=>if j=i then F' else Fs' j,h.up.next hu (fun x hx=>List.mem_flatMap.2 ⟨i,List.mem_range.2 hi,(h.pm i hi).mem_iff.1 hx⟩),fun j hj=> ?_,fun j hj hl=> ?_,fun j hj hl=> ?_⟩
 {by_cases e:j=i
  {subst e; simp only[if_true]; exact hp.trans (h.pm j hj)}
  {simp only[if_neg e]; exact h.pm j hj}}
 {by_cases e:j=i
  {subst e; simp only[if_true]; exact ho}
  {simp only[if_neg e];have ho2:=h.lo j hj (by omega);exact ho2.of (fun b hb=>hu.same (ho2.lt b hb) (hfar j hj e b hb)) hu.size}}
 {have e:j≠i:=by omega
  simp only[if_neg e];have ho2:=h.hi j hj (by omega);exact ho2.of (fun b hb=>hu.same (ho2.lt b hb) (hfar j hj e b hb)) hu.size}
def half (t:Sh):Sh:=⟨t.kind,t.of_,t.name,t.names,t.parts.map sorted⟩
theorem Z4X {t:Sh} {q:Ptr} (h:Small t q):Small (half t) q:=by
 obtain ⟨h1,h2,h3,h4,h5,h6,h7,h8,h9⟩:=h;exact ⟨h1,h2,h3,h4,by simpa[half] using h5,h6,by simpa[half] using h7,h8,h9⟩
theorem Swi.halfs {w wi:World} {t:Sh} {qs:Nat->Ptr} {Fs Fs':Nat->List Nat} (h:Swi w wi t.parts qs Fs Fs' t.parts.length): ∀i (hi:i < (half t).parts.length),Own wi (qs i) ((half t).parts[i]'hi) (Fs' i):=fun i hi=>by
 have hi2:i < t.parts.length:=by simpa[half] using hi
 have:=h.lo i hi2 hi2;simpa[half] using this
theorem Z5s {n:Nat} {Fs Fs':Nat->List Nat} (h: ∀j,j < n->(Fs' j).Perm (Fs j)): ((List.range n).flatMap Fs').Perm ((List.range n).flatMap Fs):=by
 induction n with
 | zero=>exact List.Perm.refl _
 | succ n ih=>
  rw[List.range_succ,List.flatMap_append,List.flatMap_append];refine (ih fun j hj=>h j (by omega)).append ?_;simpa using h n (by omega)
theorem Za2 {w wi w2:World} {t:Sh} {q:Ptr} {FN FP:List Nat} {qs:Nat->Ptr} {Fs Fs':Nat->List Nat} (hr:right t=true) (hs:Small t q) (h0:t.names.length=0)
 (hn:t.names.length=0/\FN= []\/ ∃b,q.A=some ⟨b,0,none⟩/\FN= [b]/\TxR w b t.names) (hp:t.parts.length=0/\FP= []\/ ∃b,q.P=some ⟨b,0,none⟩/\FP= [b]/\PaR w b t.parts qs)
 (hnd: (FN++FP++(List.range t.parts.length).flatMap Fs).Nodup) (h:Swi w wi t.parts qs Fs Fs' t.parts.length) (hb:Below wi.heap.size wi w2):
 UpF (FN++FP++(List.range t.parts.length).flatMap Fs) w w2/\ ∃F',F'.Perm (FN++FP++(List.range t.parts.length).flatMap Fs)/\Own w2 q (sorted t) F':=by
 have h2:=h.below hb;obtain ⟨n1,n2,n3,_,_⟩:=Z2R hnd;have hU:UpF (FN++FP++(List.range t.parts.length).flatMap Fs) w w2:=(UpF.refl _ w).next h2.up (fun x hx=>List.mem_append_right _ hx);have hnil:t.names= []:=List.eq_nil_of_length_eq_zero h0;have hso:sorted t=half t:=by rw[Z0j,if_pos hnil]; unfold half; rw[hnil]
 have hin: ∀b∈FP,b∉(List.range t.parts.length).flatMap Fs:=fun b hb hb2=>by
  obtain ⟨j,hj,hb2⟩:=List.mem_flatMap.1 hb2;exact n3 b hb j (List.mem_range.1 hj) hb2
 have hin2: ∀b∈FN,b∉(List.range t.parts.length).flatMap Fs:=fun b hb hb2=>by
  obtain ⟨j,hj,hb2⟩:=List.mem_flatMap.1 hb2;exact n2 b hb j (List.mem_range.1 hj) hb2
 refine ⟨hU,FN++FP++(List.range t.parts.length).flatMap Fs',(Z5s h2.pm).append_left _, ?_⟩;rw[hso];refine .mk q _ _ FN FP qs Fs' (Z4X hs) ?_ ?_ (Swi.halfs h2) (by simp[half])
 {rcases hn with h | ⟨b,h1,rfl,h3⟩
  {exact Or.inl h}
  {exact Or.inr ⟨b,h1,rfl,h3.of (h2.up.same h3.lt (hin2 b (by simp))) h2.up.size⟩}}
 {rcases hp with h | ⟨b,h1,rfl,h3⟩
  {exact Or.inl (by simpa[half] using h)}
  {refine Or.inr ⟨b,h1,rfl,Nat.lt_of_lt_of_le h3.lt h2.up.size,fun i hi=> ?_,fun k=>((h2.up.same h3.lt (hin b (by simp))).2 k).trans (h3.fz k)⟩;have hi2:i < t.parts.length:=by simpa[half] using hi
   have hm:t.parts[i]∈t.parts:=List.getElem_mem hi2;have:=Z4P (Z05 hr hm) ((h3.at_ i hi2).of (h2.up.same h3.lt (hin b (by simp))).1);simpa[half] using this}}
theorem Za3 {t:Sh} (hl:t.names.length=t.parts.length) (qs:Nat->Ptr) (Fs:Nat->List Nat): (els t qs Fs).toList.map (fun x=>((x.n,x.t):Fld))=t.names.zip t.parts:=by
 apply List.ext_getElem
 {simp[els,hl]}
 {intro i h1 h2;have h3:i < t.names.length:=by simpa[els] using h1
  have h4:i < t.parts.length:=by omega
  simp[els,h3,h4]}
theorem Za4 {w wi:World} {t:Sh} {q:Ptr} {FN FP:List Nat} {qs:Nat->Ptr} {Fs Fs':Nat->List Nat} (hr:right t=true) (hs:Small t q) (h0:t.names.length≠0)
 (hn:t.names.length=0/\FN= []\/ ∃b,q.A=some ⟨b,0,none⟩/\FN= [b]/\TxR w b t.names) (hp:t.parts.length=0/\FP= []\/ ∃b,q.P=some ⟨b,0,none⟩/\FP= [b]/\PaR w b t.parts qs)
 (hnd: (FN++FP++(List.range t.parts.length).flatMap Fs).Nodup) (h:Swi w wi t.parts qs Fs Fs' t.parts.length):
 ∃bn bp,q.A=some ⟨bn,0,none⟩/\q.P=some ⟨bp,0,none⟩/\(half t).names.length=(half t).parts.length/\TxR wi bn (half t).names/\PaR wi bp (half t).parts qs/\bn≠bp/\
  ∀(d':Array El) (w2:World),PermIn 0 (half t).names.length (els (half t) qs Fs') d'->SortedIn ltEl 0 (half t).names.length d'->FSt wi bn bp (half t).names.length d' w2->
   UpF (FN++FP++(List.range t.parts.length).flatMap Fs) w w2/\ ∃F',F'.Perm (FN++FP++(List.range t.parts.length).flatMap Fs)/\Own w2 q (sorted t) F':=by
 obtain ⟨hl,hnn⟩:=(Z2i hr).resolve_left (fun e=>h0 (by rw[e]; rfl));rcases hn with ⟨hn,_⟩ | ⟨bn,hA,rfl,hT⟩
 {omega}
 rcases hp with ⟨hp,_⟩ | ⟨bp,hP,rfl,hPa⟩
 {omega}
 obtain ⟨n1,n2,n3,_,_⟩:=Z2R hnd;have hbnp:bn≠bp:=fun e=>n1 bn (by simp) (by simp[e]);have hinP:bp∉(List.range t.parts.length).flatMap Fs:=fun hb2=>by
  obtain ⟨j,hj,hb2⟩:=List.mem_flatMap.1 hb2;exact n3 bp (by simp) j (List.mem_range.1 hj) hb2
 have hinN:bn∉(List.range t.parts.length).flatMap Fs:=fun hb2=>by
  obtain ⟨j,hj,hb2⟩:=List.mem_flatMap.1 hb2;exact n2 bn (by simp) j (List.mem_range.1 hj) hb2
 have hlh: (half t).names.length=(half t).parts.length:=by simpa[half] using hl
 refine ⟨bn,bp,hA,hP,hlh,hT.of (h.up.same hT.lt hinN) h.up.size,⟨Nat.lt_of_lt_of_le hPa.lt h.up.size,fun i hi=> ?_,fun k=>((h.up.same hPa.lt hinP).2 k).trans (hPa.fz k)⟩,hbnp, ?_⟩
 {have hi2:i < t.parts.length:=by simpa[half] using hi
  have hm:t.parts[i]∈t.parts:=List.getElem_mem hi2;have:=Z4P (Z05 hr hm) ((hPa.at_ i hi2).of (h.up.same hPa.lt hinP).1);simpa[half] using this}
 {intro d' w2 hpm hso hf;have hpl:=Z8u hpm (Z3o _ _ _);have hown: ∀i (hi:i < (half t).parts.length),Own w2 (qs i) ((half t).parts[i]'hi) (Fs' i):=fun i hi=>by
   have hi2:i < t.parts.length:=by simpa[half] using hi
   have ho:=h.halfs i hi;refine ho.of (fun b hb=> ?_) hf.up.size;have hbF:b∈Fs i:=(h.pm i hi2).mem_iff.1 hb;have hb1:b≠bn:=fun e=>n2 bn (by simp) i hi2 (e▸hbF);have hb2:b≠bp:=fun e=>n3 bp (by simp) i hi2 (e▸hbF);have hbl:=hf.up.block b (ho.lt b hb) hb1 hb2;exact ⟨fun k=>World.cell?_of_block (w:=wi) hbl,fun k=>World.frozen?_of_block (w:=wi) hbl⟩
  obtain ⟨o1,o2⟩:=ZaO (N:=(half t).names.length) hA hP (Z4X hs) rfl hlh.symm hf hpl hown;have hsorted:sorted t=⟨(half t).kind,(half t).of_,(half t).name,d'.toList.map El.n,d'.toList.map El.t⟩:=by
   have hfst: (t.names.zip (t.parts.map sorted)).map Prod.fst=t.names:=List.map_fst_zip (by rw[List.length_map,hl]; exact Nat.le_refl _);have hu: (d'.toList.map fun x=>((x.n,x.t):Fld))=sortF (t.names.zip (t.parts.map sorted)):=by
    refine Z1M ?_ (Z66 hso hf.size) (by rw[hfst]; exact hnn);have:=hpl.map (fun x=>((x.n,x.t):Fld))
    rwa [Za3 hlh] at this
   rw[Z0j,if_neg (fun e=>h0 (by rw[e]; rfl)), <-hu];simp[half,List.map_map,Function.comp_def]
  refine ⟨?_,_, ?_,by rw[hsorted]; exact o1⟩
  {have hU1:UpF ([bn]++ [bp]++(List.range t.parts.length).flatMap Fs) w wi:=(UpF.refl _ w).next h.up (fun x hx=>List.mem_append_right _ hx);exact hU1.next (hf.up.upF (F:= [bn]++ [bp]) (by simp) (by simp)) (fun x hx=>List.mem_append_left _ hx)}
  {refine o2.trans ?_;have:=(Z5s h.pm).append_left ([bn]++ [bp]);simpa[half] using this}}
theorem Box5.same {W W':World} {g:Nat} {t:Sh} {q:Ptr} (h:Box5 W g t q) (hs:Z0I W W' g) (hz:W.heap.size<=W'.heap.size):Box5 W' g t q:=by
 obtain ⟨h0,h1,f0,f1,f2,f3,f4⟩:=h;exact ⟨Nat.lt_of_lt_of_le h0 hz,h1.of hs.1,(hs.2 _).trans f0,(hs.2 _).trans f1,(hs.2 _).trans f2,(hs.2 _).trans f3,(hs.2 _).trans f4⟩
theorem Swi.box {w wi:World} {t:Sh} {q:Ptr} {qs:Nat->Ptr} {Fs Fs':Nat->List Nat} {i g:Nat} (h:Swi w wi t.parts qs Fs Fs' i) (hb:Box5 w g t q) (hg:g∉(List.range t.parts.length).flatMap Fs):Box5 wi g t q:=
 hb.same (h.up.same hb.1 hg) h.up.size
theorem Z4Y (t:Sh): ∀(q:Ptr) (F:List Nat) (w:World),Own w q t F->F.Nodup->right t=true->size t<=400->
 Calls Tryd.prog 27 #[.agg (Y8 t q)] w
  fun e w'=>e= .returned (.tuple #[])/\UpF F w w'/\ ∃F',F'.Perm F/\Own w' q (sorted t) F':=by
 induction t using Sh.ind with
 | h t ih=>
 intro q F w hO hnd hr hz;have hb0:=Z02 w (.cells (Y8 t q) 25);have HB:=Y1 (Z03 w t q);have HM:=Y1 hO.small;have hlt:=hO.lt;obtain ⟨FN,FP,qs,Fs,hn,hp,hrr,rfl⟩:=(Z1I hO hb0).inv;obtain ⟨n1,n2,n3,n4,n5⟩:=Z2R hnd;have hg:w.heap.size∉(List.range t.parts.length).flatMap Fs:=fun hm=>by
  have:=hlt w.heap.size (List.mem_append_right _ hm);omega
 have HG:=Y1 hg;have HS0:=Y1 (Swi.start hrr Y2);have HN:=Y1 hn;have HP:=Y1 hp;have HND:=Y1 hnd;have HD:=Y1 n5;have HN4:=Y1 n4;have HN3:=Y1 n3;have HR:=Y1 hr;have HZ:Hid (size t=1+sizes t.parts):=Y1 (size_eq t);have HB0:=Y1 hb0;have hlen:=Z11 t.parts;have hpl:t.parts.length<=400:=by have:=HZ.out; omega
 clear hb0 hO hlt hn hp hrr hnd n1 n2 n3 n4 n5 hr hg hlen;go_enter Tryd.func27,Tryd.ntmps27
 go_wp2_with fail
 generalize w.alloc (.cells (Y8 t q) 25)=W0 at HB HS0 HN HP HB0 ⊢
 go_loopw [7] (fun ii wr=> ∃i:Nat,ii= .int .i64 i/\i<=t.parts.length/\Hid (∃Fs',Swi W0 wr t.parts qs Fs Fs' i)) (fun i _=>t.parts.length - (intOf i).toNat)
 case atStart=>exact ⟨0,rfl,Nat.zero_le _,Y1 ⟨_,HS0.out⟩⟩
 case round=>
  obtain ⟨i,rfl,hi,HSW⟩:=hrel;by_cases hlt:i < t.parts.length
  {obtain ⟨Fs',hsw⟩:=HSW.out;rcases HP.out with ⟨h0,_⟩ | ⟨bp,hqP,hFP,hPa⟩
   {omega}
   {obtain ⟨x,hx⟩: ∃x,x=t.parts[i]:=⟨_,rfl⟩;have hxr:right x=true:=by rw[hx]; exact Z05 HR.out (List.getElem_mem _)
    have hxz:size x<=400:=by
     have:=Z24 (List.getElem_mem hlt);have:=HZ.out;rw[hx]; omega
    have hinP:bp∉(List.range t.parts.length).flatMap Fs:=fun hb2=>by
     obtain ⟨j,hj,hb2⟩:=List.mem_flatMap.1 hb2;exact HN3.out bp (by rw[hFP]; simp) j (List.mem_range.1 hj) hb2
    obtain ⟨p0,p1,p2,p3,p4⟩:=(hPa.at_ i hlt).of (hsw.up.same hPa.lt hinP).1;have hbx:=Z02 wr (.cells (Y8 x (qs i)) 25);have hsw2:=hsw.below hbx;have hox:=hsw2.hi i hlt (Nat.le_refl _);rw[<-hx] at p0 p1 p2 p3 p4 hox;have IH:=Y1 (ih t.parts[i] (List.getElem_mem _) (qs i) (Fs' i) (wr.alloc (.cells (Y8 x (qs i)) 25)) (by rw[<-hx]; exact hox) (((hsw.pm i hlt).nodup_iff).2 (HN4.out i hlt)) (by rw[<-hx]; exact hxr) (by rw[<-hx]; exact hxz));rw[<-hx] at IH;have HX:=Y1 hx;have HSW2:=Y1 hsw2;clear hx hsw hsw2 hox hbx hinP hPa hFP hxr hxz ih HSW;have hi1: (i:Int) < (t.parts.length:Int):=by omega
    rw[hqP];clear hqP
    go_wp2_with fail
    refine IH.out.mono ?_;rintro e w2 ⟨rfl,hu,F',hF',ho'⟩;have HS3:Hid (∃Fs2,Swi W0 w2 t.parts qs Fs Fs2 (i+1)):=Y1 (HSW2.out.step hlt HD.out hu hF' (by rw[<-HX.out]; exact ho'));clear hu hF' ho' IH HSW2;go_wp2
    go_roundw
    case rel=>exact ⟨i+1,by go_num,by omega,HS3⟩
    case measure=>simp[intOf]; omega}}
  {obtain ⟨Fs',hsw⟩:=HSW.out;have hie:i=t.parts.length:=by omega
   subst hie;have hi1: ¬(t.parts.length:Int) < (t.parts.length:Int):=by omega
   obtain ⟨_,⟨b0,b1,b2,b3,b4⟩,_⟩:=hsw.box HB.out HG.out;have HSW3:=Y1 hsw;clear hsw HSW hlt
   go_wp2_with fail
   by_cases h0:t.names.length=0
   {refine (Z79 t q wr h0).mono ?_;rintro e w2 ⟨rfl,hb2⟩;obtain ⟨r1,r2⟩:=Za2 HR.out HM.out h0 HN.out HP.out HND.out HSW3.out hb2;have HR1:=Y1 (((UpF.refl _ w).below HB0.out).next r1 (fun x hx=>hx));have HR2:=Y1 r2;clear r1 r2 hb2 HSW3;go_wp2
    go_end0
    exact ⟨rfl,HR1.out,HR2.out⟩}
   {obtain ⟨bn,bp,hA,hP,hl,hT,hPa,hne,hall⟩:=Za4 HR.out HM.out h0 HN.out HP.out HND.out HSW3.out;have hw:=Z8t (half t) q qs Fs' bn bp wr hA hP hl (by
     have: (half t).parts.length=t.parts.length:=by simp[half]
     omega) hT hPa hne
    have hkk: (half t).parts.length=t.parts.length:=by simp[half]
    have e1: (half t).kind=t.kind:=rfl;have e2: (half t).of_=t.of_:=rfl;have e3: (half t).name=t.name:=rfl;have e4: (half t).names.length=t.names.length:=rfl;rw[hkk,e1,e2,e3,e4] at hw;refine hw.mono ?_;rintro e w2 ⟨rfl,d',hpm,hso,hf⟩;obtain ⟨r1,r2⟩:=hall d' w2 hpm hso hf;have HR1:=Y1 (((UpF.refl _ w).below HB0.out).next r1 (fun x hx=>hx));have HR2:=Y1 r2;clear r1 r2 hpm hso hf hw hall HSW3 hA hP hl hT hPa hne hkk e1 e2 e3 e4;go_wp2
    go_end0
    exact ⟨rfl,HR1.out,HR2.out⟩}}
end
section
open Go.RowKit
def wordsC:Array Value:=#[.string ⟨#[]⟩,.string ⟨#[73,110,116]⟩,.string ⟨#[66,111,111,108]⟩,.string ⟨#[84,101,120,116]⟩,.string ⟨#[65,110,121]⟩]
theorem Z4y:Tryd.prog.globalNamed "pandect/shape.words" =some 0:=by kernel_rfl
def WGlobs (w:World):Prop:=w.var? Tryd.prog "pandect/shape.words" =some wordsC
theorem WGlobs.cell {w:World} (h:WGlobs w) (i:Nat):w.cell? ⟨0,i,none⟩=wordsC[i]? :=World.var?_cell Z4y h i
theorem WGlobs.lt {w:World} (h:WGlobs w):0 < w.heap.size:=Z2f ((WGlobs.cell h 0).trans (by rfl:wordsC[0]? =some (.string ⟨#[]⟩)))
theorem WGlobs.next {w w':World} (h:WGlobs w) (hb:Below w.heap.size w w'):WGlobs w':=var?_below hb Z4y (WGlobs.lt h) h
theorem Z3C {P:Program} {w:World}: ∀ {l:List (String×DataW Unit)} {ps:List MemPlace},DataW.LaidVars P w l ps-> ∀x∈l,
 ∃g t cs fuel p,P.globalNamed x.1=some g/\(P.globals[g]?).map (·.type)=some t/\w.var? P x.1=some cs/\DataW.trod (fun _=>()) P w 0 (fun _=>true) false fuel t cs.toList=some (x.2,p)
 | [],_,_,x,hx=>by simp at hx
 | (n,d)::r,ps,h,x,hx=>by
  obtain ⟨g,t,cs,fuel,p,q,h1,h2,h3,h4,h5,_⟩:=h;rcases List.mem_cons.1 hx with rfl | hx
  {exact ⟨g,t,cs,fuel,p,h1,h2,h3,h4⟩}
  {exact Z3C h5 x hx}
theorem Z29 {L:List (String×DataW Unit)} {W:World} (h:laidMet Tryd.prog L W) (m4: ("pandect/shape.words",Rows.laid_pandect_shape_words)∈L):WGlobs W:=by
 unfold WGlobs;obtain ⟨ps,hv,_,_⟩:=h;obtain ⟨g1,t1,cs,f1,p1,a1,b1,c1,d1⟩:=Z3C hv _ m4;obtain rfl:=Option.some.inj (Z4y.symm.trans a1);have ht: (Tryd.prog.globals[0]?).map (·.type)=some 105:=by kernel_rfl
 obtain rfl:=Option.some.inj (ht.symm.trans b1);rw[c1];congr 1;have hc1:Tryd.prog.cellsOf 9=1:=by kernel_rfl
 obtain ⟨xs,m,_,hx,hsz,hl,he⟩:=DataW.trod_array Tryd.underlying105 d1;rw[hc1] at he;have hc6:Tryd.prog.cellsOf 105=5:=by kernel_rfl
 rw[hc6] at hsz;have hx1:=(Prod.mk.inj hx).1;apply Array.ext'
 match xs,hl,hx1 with
 | [y0,y1,y2,y3,y4],_,hx1=>
  obtain ⟨L,hL⟩: ∃L,L=cs.toList:=⟨_,rfl⟩;rw[<-hL] at hsz he ⊢;clear hL
  match L,hsz with
  | [k0,k1,k2,k3,k4],_=>
   have e0:=he 0 (by omega);have e1:=he 1 (by omega);have e2:=he 2 (by omega);have e3:=he 3 (by omega);have e4:=he 4 (by omega);simp only[List.getElem?_cons_zero,List.getElem?_cons_succ,Nat.mul_one,List.drop_zero,List.drop_succ_cons,List.take_succ_cons,List.take_zero] at e0 e1 e2 e3 e4;obtain ⟨x0,h0,rfl,_⟩:=DataW.trod_string Tryd.underlying9 e0;obtain ⟨x1,h1,rfl,_⟩:=DataW.trod_string Tryd.underlying9 e1;obtain ⟨x2,h2,rfl,_⟩:=DataW.trod_string Tryd.underlying9 e2;obtain ⟨x3,h3,rfl,_⟩:=DataW.trod_string Tryd.underlying9 e3;obtain ⟨x4,h4,rfl,_⟩:=DataW.trod_string Tryd.underlying9 e4;simp at h0 h1 h2 h3 h4;simp[Rows.laid_pandect_shape_words] at hx1;obtain ⟨z0,z1,z2,z3,z4⟩:=hx1;have key: ∀(x:ByteArray) (l:List UInt8),l=x.data.toList->x=⟨l.toArray⟩:=fun x l h=>by rw[h]
   rw[h0,h1,h2,h3,h4];have k0:=key x0 [] (by simp[z0]);have k1:=key x1 [73,110,116] (by simp[<-z1]);have k2:=key x2 [66,111,111,108] (by simp[<-z2]);have k3:=key x3 [84,101,120,116] (by simp[<-z3]);have k4:=key x4 [65,110,121] (by simp[<-z4]);rw[k0,k1,k2,k3,k4]; rfl
end
section
open Go.RowKit Shp
def wordB (s:List UInt8):Bool:= []==s|| [73,110,116]==s|| [66,111,111,108]==s|| [84,101,120,116]==s|| [65,110,121]==s
def NotYet (s:List UInt8) (i:Int):Prop:=((1:Int)<=i->(([]:List UInt8)==s)=false)/\((2:Int)<=i->([73,110,116]==s)=false)/\((3:Int)<=i->([66,111,111,108]==s)=false)/\((4:Int)<=i->([84,101,120,116]==s)=false)/\((5:Int)<=i->([65,110,121]==s)=false)
theorem Z6r (s:List UInt8) (w:World) (hg:WGlobs w):
 Calls Tryd.prog 74 #[.string ⟨s.toArray⟩] w fun e w'=>e= .returned (.bool (wordB s))/\w=w':=by
 have c0:w.cell? ⟨0,0,none⟩=some (.string ⟨#[]⟩):=hg.cell 0;have c1:w.cell? ⟨0,1,none⟩=some (.string ⟨#[73,110,116]⟩):=hg.cell 1;have c2:w.cell? ⟨0,2,none⟩=some (.string ⟨#[66,111,111,108]⟩):=hg.cell 2;have c3:w.cell? ⟨0,3,none⟩=some (.string ⟨#[84,101,120,116]⟩):=hg.cell 3;have c4:w.cell? ⟨0,4,none⟩=some (.string ⟨#[65,110,121]⟩):=hg.cell 4;clear hg;have i0: ∀W,(Instr.index 105 (.agg #[.string ⟨#[]⟩,.string ⟨#[73,110,116]⟩,.string ⟨#[66,111,111,108]⟩,.string ⟨#[84,101,120,116]⟩,.string ⟨#[65,110,121]⟩]) (.int .i64 0)).run Tryd.prog W= .ok (.string ⟨#[]⟩) W:=fun W=>by kernel_rfl
 have i1: ∀W,(Instr.index 105 (.agg #[.string ⟨#[]⟩,.string ⟨#[73,110,116]⟩,.string ⟨#[66,111,111,108]⟩,.string ⟨#[84,101,120,116]⟩,.string ⟨#[65,110,121]⟩]) (.int .i64 1)).run Tryd.prog W= .ok (.string ⟨#[73,110,116]⟩) W:=fun W=>by kernel_rfl
 have i2: ∀W,(Instr.index 105 (.agg #[.string ⟨#[]⟩,.string ⟨#[73,110,116]⟩,.string ⟨#[66,111,111,108]⟩,.string ⟨#[84,101,120,116]⟩,.string ⟨#[65,110,121]⟩]) (.int .i64 2)).run Tryd.prog W= .ok (.string ⟨#[66,111,111,108]⟩) W:=fun W=>by kernel_rfl
 have i3: ∀W,(Instr.index 105 (.agg #[.string ⟨#[]⟩,.string ⟨#[73,110,116]⟩,.string ⟨#[66,111,111,108]⟩,.string ⟨#[84,101,120,116]⟩,.string ⟨#[65,110,121]⟩]) (.int .i64 3)).run Tryd.prog W= .ok (.string ⟨#[84,101,120,116]⟩) W:=fun W=>by kernel_rfl
 have i4: ∀W,(Instr.index 105 (.agg #[.string ⟨#[]⟩,.string ⟨#[73,110,116]⟩,.string ⟨#[66,111,111,108]⟩,.string ⟨#[84,101,120,116]⟩,.string ⟨#[65,110,121]⟩]) (.int .i64 4)).run Tryd.prog W= .ok (.string ⟨#[65,110,121]⟩) W:=fun W=>by kernel_rfl
 go_enter Tryd.func74,Tryd.ntmps74
 go_wp2_with fail
 go_loopw [6] (fun ii wr=> ∃i:Int,ii= .int .i64 i/\0<=i/\i<=5/\Hid (NotYet s i)/\w=wr)
  (fun i _=>(5 - intOf i).toNat)
 case atStart=>exact ⟨0,rfl,by omega,by omega,Y1 ⟨fun h=>absurd h (by omega),fun h=>absurd h (by omega),fun h=>absurd h (by omega),fun h=>absurd h (by omega),fun h=>absurd h (by omega)⟩,rfl⟩
 case round=>
  obtain ⟨i,rfl,hi0,hi,HN,rfl⟩:=hrel;clear c0 c1 c2 c3 c4;have hc:i=0\/i=1\/i=2\/i=3\/i=4\/i=5:=by omega
  rcases hc with rfl | rfl | rfl | rfl | rfl | rfl
  {cases hq: (([]:List UInt8)==s)
   {have HN2:Hid (NotYet s 1):=Y1 (show ((1:Int)<=1->(([]:List UInt8)==s)=false)/\((2:Int)<=1->([73,110,116]==s)=false)/\((3:Int)<=1->([66,111,111,108]==s)=false)/\((4:Int)<=1->([84,101,120,116]==s)=false)/\((5:Int)<=1->([65,110,121]==s)=false) from ⟨fun _=>hq,fun h=>absurd h (by omega),fun h=>absurd h (by omega),fun h=>absurd h (by omega),fun h=>absurd h (by omega)⟩);have hqe:s.isEmpty=false:=by cases s <;> simp_all
    go_wp2
    go_roundw
    case rel=>exact ⟨1,rfl,by omega,by omega,HN2,trivial⟩
    case measure=>simp[intOf]}
   {have HF:Hid (wordB s=true):=Y1 (by unfold wordB; rw[hq]; simp);have hqe:s.isEmpty=true:=by cases s <;> simp_all
    go_wp2;go_ret;exact ⟨by rw[HF.out]; rfl,rfl⟩}}
  {cases hq: ([73,110,116]==s)
   {have HN2:Hid (NotYet s 2):=Y1 (show ((1:Int)<=2->(([]:List UInt8)==s)=false)/\((2:Int)<=2->([73,110,116]==s)=false)/\((3:Int)<=2->([66,111,111,108]==s)=false)/\((4:Int)<=2->([84,101,120,116]==s)=false)/\((5:Int)<=2->([65,110,121]==s)=false) from ⟨fun _=>HN.out.1 (by omega),fun _=>hq,fun h=>absurd h (by omega),fun h=>absurd h (by omega),fun h=>absurd h (by omega)⟩);go_wp2
    go_roundw
    case rel=>exact ⟨2,rfl,by omega,by omega,HN2,trivial⟩
    case measure=>simp[intOf]}
   {have HF:Hid (wordB s=true):=Y1 (by unfold wordB; rw[hq]; simp);go_wp2;go_ret;exact ⟨by rw[HF.out]; rfl,rfl⟩}}
  {cases hq: ([66,111,111,108]==s)
   {have HN2:Hid (NotYet s 3):=Y1 (show ((1:Int)<=3->(([]:List UInt8)==s)=false)/\((2:Int)<=3->([73,110,116]==s)=false)/\((3:Int)<=3->([66,111,111,108]==s)=false)/\((4:Int)<=3->([84,101,120,116]==s)=false)/\((5:Int)<=3->([65,110,121]==s)=false) from ⟨fun _=>HN.out.1 (by omega),fun _=>HN.out.2.1 (by omega),fun _=>hq,fun h=>absurd h (by omega),fun h=>absurd h (by omega)⟩);go_wp2
    go_roundw
    case rel=>exact ⟨3,rfl,by omega,by omega,HN2,trivial⟩
    case measure=>simp[intOf]}
   {have HF:Hid (wordB s=true):=Y1 (by unfold wordB; rw[hq]; simp);go_wp2;go_ret;exact ⟨by rw[HF.out]; rfl,rfl⟩}}
  {cases hq: ([84,101,120,116]==s)
   {have HN2:Hid (NotYet s 4):=Y1 (show ((1:Int)<=4->(([]:List UInt8)==s)=false)/\((2:Int)<=4->([73,110,116]==s)=false)/\((3:Int)<=4->([66,111,111,108]==s)=false)/\((4:Int)<=4->([84,101,120,116]==s)=false)/\((5:Int)<=4->([65,110,121]==s)=false) from ⟨fun _=>HN.out.1 (by omega),fun _=>HN.out.2.1 (by omega),fun _=>HN.out.2.2.1 (by omega),fun _=>hq,fun h=>absurd h (by omega)⟩);go_wp2
    go_roundw
    case rel=>exact ⟨4,rfl,by omega,by omega,HN2,trivial⟩
    case measure=>simp[intOf]}
   {have HF:Hid (wordB s=true):=Y1 (by unfold wordB; rw[hq]; simp);go_wp2;go_ret;exact ⟨by rw[HF.out]; rfl,rfl⟩}}
  {cases hq: ([65,110,121]==s)
   {have HN2:Hid (NotYet s 5):=Y1 (show ((1:Int)<=5->(([]:List UInt8)==s)=false)/\((2:Int)<=5->([73,110,116]==s)=false)/\((3:Int)<=5->([66,111,111,108]==s)=false)/\((4:Int)<=5->([84,101,120,116]==s)=false)/\((5:Int)<=5->([65,110,121]==s)=false) from ⟨fun _=>HN.out.1 (by omega),fun _=>HN.out.2.1 (by omega),fun _=>HN.out.2.2.1 (by omega),fun _=>HN.out.2.2.2.1 (by omega),fun _=>hq⟩);go_wp2
    go_roundw
    case rel=>exact ⟨5,rfl,by omega,by omega,HN2,trivial⟩
    case measure=>simp[intOf]}
   {have HF:Hid (wordB s=true):=Y1 (by unfold wordB; rw[hq]; simp);go_wp2;go_ret;exact ⟨by rw[HF.out]; rfl,rfl⟩}}
  {have HF:Hid (wordB s=false):=Y1 (by
    unfold wordB;obtain ⟨h0,h1,h2,h3,h4⟩:=HN.out;rw[h0 (by omega),h1 (by omega),h2 (by omega),h3 (by omega),h4 (by omega)]; rfl)
   go_wp2;go_ret;exact ⟨by rw[HF.out]; rfl,rfl⟩}
theorem Z0G {l:List UInt8} {b:Bool} (h: (l== [])=b):l.isEmpty=b:=by cases l <;> simp_all
theorem Z1o {l:List (List UInt8)}: ((l.length:Int)==0)=decide (l.length=0):=by rw[Bool.eq_iff_iff]; simp
end
end Go.Proofs.YtlomianlcnmfgaaDoor
