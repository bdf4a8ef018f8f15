/- What the proofs of SubtypeBoth, SubtypeGreatest, SubtypeLeast, SubtypeOrder want, part 8. -/
import Derived.Test.YthajhofgjhfjeaaDoorK0n7
set_option linter.unusedVariables false
set_option linter.unusedSimpArgs false
set_option linter.unusedSectionVars false
set_option maxRecDepth 100000
set_option maxHeartbeats 16000000
namespace Go.Proofs.YthajhofgjhfjeaaDoor
open Go.RowKit Shp Sub
namespace SubM
def placeStep (g:Sh->Sh->Bool) (a b:Sh) (k:Nat):Bool:=
 match a.parts[k]?,b.parts[k]? with
 | some p,some q=>if k+1=a.parts.length then g p q else g q p
 | some _,none=>true
 | none,_=>true
theorem Zbu (g:Sh->Sh->Bool) (a b:Sh): (headEq a b&&(List.range a.parts.length).all (placeStep g a b))=(decide (a.of_=b.of_/\a.name=b.name)&&placesAll g a.parts b.parts):=by
 rw[Bool.eq_iff_iff,Bool.and_eq_true,Bool.and_eq_true,ZaW,List.all_eq_true];unfold headEq;rw[decide_eq_true_eq,decide_eq_true_eq];constructor
 {rintro ⟨⟨h1,h2,h3⟩,h4⟩;refine ⟨⟨h1,h2⟩,h3,fun i p q hp hq=> ?_⟩;have:=h4 i (List.mem_range.2 (List.getElem?_eq_some_iff.1 hp).1);unfold placeStep at this;rw[hp,hq] at this;exact this}
 {rintro ⟨⟨h1,h2⟩,h3,h4⟩;refine ⟨⟨h1,h2,h3⟩,fun i hi=> ?_⟩;have hi:=List.mem_range.1 hi;unfold placeStep;rw[List.getElem?_eq_getElem hi,List.getElem?_eq_getElem (show i < b.parts.length by omega)];exact h4 i _ _ (List.getElem?_eq_getElem hi) (List.getElem?_eq_getElem (by omega))}
structure Two (f:Nat) (a b:Sh):Prop where
 ra:right a=true
 rb:right b=true
 da:deep a<=f
 db:deep b<=f
 sa:size a<=400
 sb:size b<=400
theorem Two.part {f:Nat} {a b p q:Sh} (h:Two (f+1) a b) (hp:p∈a.parts) (hq:q∈b.parts):Two f p q:=by
 obtain ⟨ra,rb,da,db,sa,sb⟩:=h;have h1:=Z2N hp;have h2:=Z2N hq;have h3:=Z1O hp;have h4:=Z1O hq;rw[Z0T] at da db;rw[size_eq] at sa sb;exact ⟨Z05 ra hp,Z05 rb hq,by omega,by omega,by omega,by omega⟩
theorem Two.swap {f:Nat} {a b:Sh} (h:Two f a b):Two f b a:=⟨h.rb,h.ra,h.db,h.da,h.sb,h.sa⟩
theorem Two.la {f:Nat} {a b:Sh} (h:Two f a b):a.parts.length<=1000:=by have:=h.sa; have:=Z0P a.parts; rw[size_eq] at *; omega
def BelowOk (f:Nat):Prop:=
 ∀(a b:Sh) (pa pb:Ptr) (n0:Nat) (w:World),Two f a b->ShAt w n0 pa a->ShAt w n0 pb b->n0<=w.heap.size->
  Y9 19 #[sv a pa,sv b pb] w (.bool (bw f a b))
section
variable {f : Nat} {a b : Sh}
section
variable (hI : BelowOk f) (n0 : Nat) (nm : List UInt8) (o1 o2 : Option Sh) (x y : Value) (W : World) (h : ∀ p q, o1 = some p -> o2 = some q -> Two f p q) (hn : n0 <= W.heap.size) (hx : At W n0 o1 x) (hy : At W n0 o2 y)
include hI n0 nm o1 o2 x y W h hn hx hy
theorem ZbT:
 Calls Tryd.prog 34 (.string ⟨nm.toArray⟩::x::y:: []).toArray W fun e W'=>e= .returned (.bool (stepNarrow (bw f) (nm,o1,o2)))/\Below W.heap.size W W':=by
 cases o2 with
 | none=>
  have hy':y= .pointer none:=hy;subst hy';have HB:=Y1 (Below.refl W.heap.size W).drew;have hx': ∃p,x= .pointer p:=by
   cases o1 with
   | none=>exact ⟨none,hx⟩
   | some _=>obtain ⟨g,o,q,h1,_⟩:=hx; exact ⟨_,h1⟩
  obtain ⟨p,rfl⟩:=hx';have hr:stepNarrow (bw f) (nm,o1,none)=true:=by cases o1 <;> rfl
  rw[hr];clear hx h hI hn hr;go_enter Tryd.func34,Tryd.ntmps34
  go_wp2_with fail
  go_quiet (fail)
  go_wp2;go_ret;exact ⟨rfl,Z0K Y2 _⟩
 | some q=>
  obtain ⟨g,off,qy,rfl,hg,h5,hs⟩:=hy;cases o1 with
  | none=>
   have hx':x= .pointer none:=hx;subst hx';have hr:stepNarrow (bw f) (nm,none,some q)=false:=rfl;rw[hr];clear h hI hn hr hg h5 hs;go_enter Tryd.func34,Tryd.ntmps34
   go_wp2_with fail
   go_quiet (fail)
   go_wp2;go_ret;exact ⟨rfl,Z0K Y2 _⟩
  | some p=>
   obtain ⟨g',off',qx,rfl,hg',h5',hs'⟩:=hx;have hr:stepNarrow (bw f) (nm,some p,some q)=bw f p q:=rfl;rw[hr];obtain ⟨x0,x1,x2,x3,x4⟩:=h5';obtain ⟨y0,y1,y2,y3,y4⟩:=h5;have hu:Upd (fun _=>False) W W.drew:=(Upd.refl _ W).drew;have HC:=Y1 (hI p q qx qy n0 W.drew (h p q rfl rfl) (Za8 hs' hn hu (fun _ _ h=>h)) (Za8 hs hn hu (fun _ _ h=>h)) hn);have HZ:Hid (Below W.heap.size W W.drew):=Y1 (Below.refl _ W).drew;unfold sv at HC;clear h hI hn hr hg hg' hs hs' hu;go_enter Tryd.func34,Tryd.ntmps34
   go_wp2_with fail
   go_still_tail 12,(by kernel_rfl)
   change wpList _ _ _ _ _ W.drew
   go_wp2_with fail
   refine HC.out.mono ?_;rintro e W2 ⟨rfl,hb2⟩;have HB2:=Y1 (Z00 HZ.out hb2);clear hb2 HC;go_wp2;go_ret;exact ⟨rfl,HB2.out⟩
theorem ZbU:
 Calls Tryd.prog 35 (.string ⟨nm.toArray⟩::x::y:: []).toArray W fun e W'=>e= .returned (.bool (stepWide (bw f) (nm,o1,o2)))/\Below W.heap.size W W':=by
 cases o1 with
 | none=>
  have hx':x= .pointer none:=hx;subst hx';have hy': ∃p,y= .pointer p:=by
   cases o2 with
   | none=>exact ⟨none,hy⟩
   | some _=>obtain ⟨g,o,q,h1,_⟩:=hy; exact ⟨_,h1⟩
  obtain ⟨p,rfl⟩:=hy';have hr:stepWide (bw f) (nm,none,o2)=true:=by cases o2 <;> rfl
  rw[hr];clear hy h hI hn hr;go_enter Tryd.func35,Tryd.ntmps35
  go_wp2_with fail
  go_quiet (fail)
  go_wp2;go_ret;exact ⟨rfl,Z0K Y2 _⟩
 | some p=>
  obtain ⟨g,off,qx,rfl,hg,h5,hs⟩:=hx;cases o2 with
  | none=>
   have hy':y= .pointer none:=hy;subst hy';have hr:stepWide (bw f) (nm,some p,none)=false:=rfl;rw[hr];clear h hI hn hr hg h5 hs;go_enter Tryd.func35,Tryd.ntmps35
   go_wp2_with fail
   go_quiet (fail)
   go_wp2;go_ret;exact ⟨rfl,Z0K Y2 _⟩
  | some q=>
   obtain ⟨g',off',qy,rfl,hg',h5',hs'⟩:=hy;have hr:stepWide (bw f) (nm,some p,some q)=bw f p q:=rfl;rw[hr];obtain ⟨x0,x1,x2,x3,x4⟩:=h5;obtain ⟨y0,y1,y2,y3,y4⟩:=h5';have hu:Upd (fun _=>False) W W.drew:=(Upd.refl _ W).drew;have HC:=Y1 (hI p q qx qy n0 W.drew (h p q rfl rfl) (Za8 hs hn hu (fun _ _ h=>h)) (Za8 hs' hn hu (fun _ _ h=>h)) hn);have HZ:Hid (Below W.heap.size W W.drew):=Y1 (Below.refl _ W).drew;unfold sv at HC;clear h hI hn hr hg hg' hs hs' hu;go_enter Tryd.func35,Tryd.ntmps35
   go_wp2_with fail
   go_still_tail 12,(by kernel_rfl)
   change wpList _ _ _ _ _ W.drew
   go_wp2_with fail
   refine HC.out.mono ?_;rintro e W2 ⟨rfl,hb2⟩;have HB2:=Y1 (Z00 HZ.out hb2);clear hb2 HC;go_wp2;go_ret;exact ⟨rfl,HB2.out⟩
end
theorem ZbV (hI:BelowOk f) (n0:Nat) (p q:Sh) (x y:Ptr) (l:Bool) (W:World) (h:Two f p q) (hn:n0<=W.heap.size) (hx:ShAt W n0 x p) (hy:ShAt W n0 y q):
 Calls Tryd.prog 37 (sv p x::sv q y:: .bool l:: []).toArray W fun e W'=>e= .returned (.bool (if l=true then bw f p q else bw f q p))/\Below W.heap.size W W':=by
 have hb1:=Z01 W (.cells (Y8 p x) 25);obtain ⟨w1,hw1⟩: ∃w1,w1=W.alloc (.cells (Y8 p x) 25):=⟨_,rfl⟩;have hb2:=Z01 w1 (.cells (Y8 q y) 25);obtain ⟨w2,hw2⟩: ∃w2,w2=w1.alloc (.cells (Y8 q y) 25):=⟨_,rfl⟩;have hs1:w1.heap.size=W.heap.size+1:=by rw[hw1]; simp
 rw[<-hw1] at hb1;rw[<-hw2] at hb2;have hB1:Box5 w1 W.heap.size p x:=by rw[hw1]; exact Z03 W p x
 have hB2:Box5 w2 w1.heap.size q y:=by rw[hw2]; exact Z03 w1 q y
 have hBA:=hB1.next hb2;rw[hs1] at hB2;have hu:Upd (fun _=>False) W w2:=Upd.new (Z00 hb1 hb2);have hx2:=Za8 hx hn hu (fun _ _ h=>h);have hy2:=Za8 hy hn hu (fun _ _ h=>h);have hn2:n0<=w2.heap.size:=by have:=hu.size; omega
 have HA:=Y1 (hI p q x y n0 w2 h hx2 hy2 hn2);have HB:=Y1 (hI q p y x n0 w2 h.swap hy2 hx2 hn2);have HW:=Y1 (Z00 hb1 hb2);obtain ⟨_,⟨a0,a1,a2,a3,a4⟩,_⟩:=hBA;obtain ⟨_,⟨b0,b1,b2,b3,b4⟩,_⟩:=hB2;simp only[Nat.zero_add] at a0 a1 a2 a3 a4 b0 b1 b2 b3 b4;have hw1':=hw1.symm;have hw2':=hw2.symm;clear hw1 hw2 hb1 hb2 hB1 hu hx2 hy2 hx hy hn h hI;unfold sv at HA HB ⊢;cases l with
 | true=>
  go_enter Tryd.func37,Tryd.ntmps37
  go_wp2_with fail
  refine HA.out.mono ?_;rintro e W3 ⟨rfl,hb3⟩;have HB3:=Y1 (Z00 HW.out hb3);clear hb3 a0 a1 a2 a3 a4 b0 b1 b2 b3 b4 HA HB;go_wp2;go_ret;exact ⟨rfl,HB3.out⟩
 | false=>
  go_enter Tryd.func37,Tryd.ntmps37
  go_wp2_with fail
  refine HB.out.mono ?_;rintro e W3 ⟨rfl,hb3⟩;have HB3:=Y1 (Z00 HW.out hb3);clear hb3 a0 a1 a2 a3 a4 b0 b1 b2 b3 b4 HA HB;go_wp2;go_ret;exact ⟨rfl,HB3.out⟩
end
theorem ZbW (f:Nat):BelowOk f:=by
 induction f with
 | zero=>intro a b pa pb n0 w h; have:=h.da; rw[Z0T] at this; omega
 | succ f hI=>
  intro a b pa pb n0 w h ha hb hn;have hb1:=Z01 w (.cells (Y8 a pa) 25);obtain ⟨w1,hw1⟩: ∃w1,w1=w.alloc (.cells (Y8 a pa) 25):=⟨_,rfl⟩;have hb2:=Z01 w1 (.cells (Y8 b pb) 25);obtain ⟨w2,hw2⟩: ∃w2,w2=w1.alloc (.cells (Y8 b pb) 25):=⟨_,rfl⟩;have hs1:w1.heap.size=w.heap.size+1:=by rw[hw1]; simp
  rw[<-hw1] at hb1;rw[<-hw2] at hb2;have hB1:Box5 w1 w.heap.size a pa:=by rw[hw1]; exact Z03 w a pa
  have hB2:Box5 w2 w1.heap.size b pb:=by rw[hw2]; exact Z03 w1 b pb
  have hBA:=hB1.next hb2;rw[hs1] at hB2;have hbw:=Z00 hb1 hb2;have hu:Upd (fun _=>False) w w2:=Upd.new hbw;have HA:=Y1 (Za8 ha hn hu (fun _ _ h=>h));have HB:=Y1 (Za8 hb hn hu (fun _ _ h=>h));have HN:Hid (n0<=w2.heap.size):=Y1 (by have:=hu.size; omega);have HW:=Y1 hbw;have H2:=Y1 h;have HI:=Y1 hI;obtain ⟨_,⟨a0,a1,a2,a3,a4⟩,_⟩:=hBA;obtain ⟨_,⟨b0,b1,b2,b3,b4⟩,_⟩:=hB2;simp only[Nat.zero_add] at a0 a1 a2 a3 a4 b0 b1 b2 b3 b4;have hw1':=hw1.symm;have hw2':=hw2.symm;have hwz:w.heap.size<=w2.heap.size:=hbw.size
  -- what the closures keep
  have keepN: ∀(ok:Bool) (done:List Cl) W W',Below w.heap.size w W->Upd (fun x=>w2.heap.size<=x/\x < w2.heap.size+3) W W'->Below w.heap.size w W':=fun _ _ W W' h1 h2=>h1.trans (h2.below h1.size (fun x hx=>by omega));have keepP: ∀(ok:Bool) (k:Nat) W W',Below w.heap.size w W->Upd (fun x=>w2.heap.size<=x/\x < w2.heap.size+2) W W'->Below w.heap.size w W':=fun _ _ W W' h1 h2=>h1.trans (h2.below h1.size (fun x hx=>by omega));have HKN:=Y1 keepN;have HKP:=Y1 keepP;clear hw1 hw2 hb1 hb2 hB1 hu ha hb hn h hI hbw keepN keepP;unfold sv;by_cases hk:a.kind=b.kind
  {have m0: (a.kind !=b.kind)=false:=by rw[hk]; simp
   have n0': (a.kind==b.kind)=true:=by rw[hk]; simp
   by_cases h6:a.kind=6
   {have HR:Hid (bw (f+1) a b=(calls a b).all (stepNarrow (bw f))):=Y1 (by rw[show bw (f+1) a b=_ from rfl]; conv=>lhs; unfold bw; rw[if_neg (fun h=>h hk),if_pos h6]);have HRa:=Y1 (Za4 (Z1c H2.out.ra) (Or.inl h6));have HRb:=Y1 (Za4 (Z1c H2.out.rb) (Or.inl (hk▸h6)));have m6:=Y4 6 h6 rfl;have hT:Takes n0 w2.heap.size a b 34 [] (stepNarrow (bw f)) (fun _ _ W=>Below w.heap.size w W):=by
     refine ⟨HKN.out,fun done c rest W x y hcut hsz hK hx hy=> ?_⟩;obtain ⟨nm,o1,o2⟩:=c;have hm: (nm,o1,o2)∈calls a b:=by rw[hcut]; simp
     obtain ⟨e1,e2,_⟩:=(Za5 HRa.out HRb.out).1 hm;refine (ZbT HI.out n0 nm o1 o2 x y W (fun p q hp hq=> ?_) (by have:=HN.out; omega) hx hy).mono ?_
     {rw[e1] at hp; rw[e2] at hq;exact H2.out.part (Z9Z hp) (Z9Z hq)}
     {rintro e W' ⟨rfl,hb⟩;exact ⟨rfl,hK.trans (hb.mono hK.size),Upd.new hb⟩}
    have HE:=Y1 (Zap a b pa pb n0 w2 HRa.out HRb.out HA.out HB.out HN.out (by have:=H2.out.la; rw[<-HRa.out.l] at this; exact this) (by have:=H2.out.swap.la; rw[<-HRb.out.l] at this; exact this) 34 (enters_of Tryd.func34 (by kernel_rfl) rfl) [] _ _ hT HW.out);unfold sv at HE;rw[HR.out];clear hT hk h6;go_enter Tryd.func19,Tryd.ntmps19
    go_wp2_with fail
    refine HE.out.mono ?_;rintro e W3 ⟨rfl,⟨_,hK,_⟩,_⟩;have HK:=Y1 hK;clear hK HE a0 a1 a2 a3 a4 b0 b1 b2 b3 b4;go_wp2;go_ret;exact ⟨rfl,HK.out⟩}
   {have m6: (a.kind==6)=false:=by simpa using h6
    by_cases h7:a.kind=7
    {have HR:Hid (bw (f+1) a b=(calls a b).all (stepWide (bw f))):=Y1 (by conv=>lhs; unfold bw; rw[if_neg (fun h=>h hk),if_neg h6,if_pos h7]);have HRa:=Y1 (Za4 (Z1c H2.out.ra) (Or.inr h7));have HRb:=Y1 (Za4 (Z1c H2.out.rb) (Or.inr (hk▸h7)));have m7:=Y4 7 h7 rfl;have hT:Takes n0 w2.heap.size a b 35 [] (stepWide (bw f)) (fun _ _ W=>Below w.heap.size w W):=by
      refine ⟨HKN.out,fun done c rest W x y hcut hsz hK hx hy=> ?_⟩;obtain ⟨nm,o1,o2⟩:=c;have hm: (nm,o1,o2)∈calls a b:=by rw[hcut]; simp
      obtain ⟨e1,e2,_⟩:=(Za5 HRa.out HRb.out).1 hm;refine (ZbU HI.out n0 nm o1 o2 x y W (fun p q hp hq=> ?_) (by have:=HN.out; omega) hx hy).mono ?_
      {rw[e1] at hp; rw[e2] at hq;exact H2.out.part (Z9Z hp) (Z9Z hq)}
      {rintro e W' ⟨rfl,hb⟩;exact ⟨rfl,hK.trans (hb.mono hK.size),Upd.new hb⟩}
     have HE:=Y1 (Zap a b pa pb n0 w2 HRa.out HRb.out HA.out HB.out HN.out (by have:=H2.out.la; rw[<-HRa.out.l] at this; exact this) (by have:=H2.out.swap.la; rw[<-HRb.out.l] at this; exact this) 35 (enters_of Tryd.func35 (by kernel_rfl) rfl) [] _ _ hT HW.out);unfold sv at HE;rw[HR.out];clear hT hk h6 h7;go_enter Tryd.func19,Tryd.ntmps19
     go_wp2_with fail
     refine HE.out.mono ?_;rintro e W3 ⟨rfl,⟨_,hK,_⟩,_⟩;have HK:=Y1 hK;clear hK HE a0 a1 a2 a3 a4 b0 b1 b2 b3 b4;go_wp2;go_ret;exact ⟨rfl,HK.out⟩}
    {have m7: (a.kind==7)=false:=by simpa using h7
     have HR:Hid (bw (f+1) a b=(headEq a b&&(List.range a.parts.length).all (placeStep (bw f) a b))):=Y1 (by rw[Zbu]; conv=>lhs; unfold bw; rw[if_neg (fun h=>h hk),if_neg h6,if_neg h7]);have hT:TakesP n0 w2.heap.size a b 37 [] (placeStep (bw f) a b) (fun _ _ W=>Below w.heap.size w W):=by
      refine ⟨HKP.out,fun k hk hk2 W x y hsz hK hx hy=> ?_⟩;refine (ZbV HI.out n0 _ _ x y _ W (H2.out.part (List.getElem_mem _) (List.getElem_mem _)) (by have:=HN.out; omega) hx hy).mono ?_;rintro e W' ⟨rfl,hb⟩;refine ⟨?_,hK.trans (hb.mono hK.size),Upd.new hb⟩;unfold placeStep;rw[List.getElem?_eq_getElem hk,List.getElem?_eq_getElem hk2];simp only[decide_eq_true_eq]
     have HE:=Y1 (ZaQ a b pa pb n0 w2 HA.out HB.out HN.out H2.out.la 37 (enters_of Tryd.func37 (by kernel_rfl) rfl) [] _ _ hT HW.out);unfold sv at HE;rw[HR.out];clear hT hk h6 h7;go_enter Tryd.func19,Tryd.ntmps19
     go_wp2_with fail
     refine HE.out.mono ?_;rintro e W3 ⟨rfl,⟨_,hK,_⟩,_⟩;have HK:=Y1 hK;clear hK HE a0 a1 a2 a3 a4 b0 b1 b2 b3 b4;go_wp2;go_ret;exact ⟨rfl,HK.out⟩}}}
  {have m0: (a.kind !=b.kind)=true:=by simpa using hk
   have n0': (a.kind==b.kind)=false:=by simpa using hk
   have HR:Hid (bw (f+1) a b=false):=Y1 (by unfold bw; rw[if_pos hk]);rw[HR.out];clear hk;go_enter Tryd.func19,Tryd.ntmps19;go_wp2;go_ret;exact ⟨rfl,HW.out⟩}
end SubM
end Go.Proofs.YthajhofgjhfjeaaDoor
namespace Go.Proofs.YthajhofgjhfjeaaDoor
open Go.RowKit Shp Sub
namespace SubM
def bfn (up:Bool):Nat:=if up=true then 30 else 32
theorem ZaL (up:Bool): ∀args W,(callFunc (bfn up) args).run Tryd.prog W= .ok (.enter (bfn up) args) W:=by
 cases up
 {exact enters_of Tryd.func32 (by kernel_rfl) rfl}
 {exact enters_of Tryd.func30 (by kernel_rfl) rfl}
def BIs (f:Nat) (up:Bool) (a b:Sh) (n0:Nat) (w:World) (e:Ending) (w':World):Prop:=
 ∃(t:Sh) (q:Ptr),e= .returned (.tuple #[sv t q,.bool (bound f up a b).isSome])/\Below w.heap.size w w'/\ ∀j,bound f up a b=some j->t=j/\Kept (fun b=>b < n0\/w.heap.size<=b) w' (j,q)
def BoundOk (f:Nat):Prop:=
 ∀(up:Bool) (a b:Sh) (pa pb:Ptr) (n0:Nat) (w:World),Two f a b->ShAt w n0 pa a->ShAt w n0 pb b->n0<=w.heap.size->Calls Tryd.prog (bfn up) #[sv a pa,sv b pb] w (BIs f up a b n0 w)
structure RX where
 f:Nat
 up:Bool
 a:Sh
 b:Sh
 pa:Ptr
 pb:Ptr
 ga:Nat
 oa:Nat
 gb:Nat
 ob:Nat
 pf:Nat
 n0:Nat
 W0:World
namespace RX
variable (X : RX)
def val (j:Nat):Option Value:=match j with
 | 0=>some (.func (.func (bfn X.up)) #[] #[])
 | 1 | 2=>some (.pointer (some ⟨X.ga,X.oa,none⟩))
 | 3=>some (sv X.a X.pa)
 | 4 | 5=>some (.pointer (some ⟨X.gb,X.ob,none⟩))
 | 6=>some (sv X.b X.pb)
 | _=>none
structure Good:Prop where
 two:Two X.f X.a X.b
 hn:X.n0<=X.W0.heap.size
 gan:X.ga < X.n0
 gbn:X.gb < X.n0
 a5:Sh5 X.W0 X.ga X.oa X.a X.pa
 b5:Sh5 X.W0 X.gb X.ob X.b X.pb
 sa:ShAt X.W0 X.n0 X.pa X.a
 sb:ShAt X.W0 X.n0 X.pb X.b
 fc:X.W0.cell? ⟨X.pf,0,none⟩=some (.func (.func (bfn X.up)) #[] #[])
 fl:X.pf < X.W0.heap.size
 ok:BoundOk X.f
structure RI (d:Nat->Bool) (u:Nat->Value) (W:World):Prop where
 vals: ∀j,d j=true-> ∀v,X.val j=some v->u j=v
 up:Below X.W0.heap.size X.W0 W
 al:d 11=true-> ∃g,u 11= .pointer (some ⟨g,0,none⟩)/\X.W0.heap.size<=g/\g < W.heap.size/\(∀j,W.frozen? ⟨g,j,none⟩=false)/\ ∀j,j < 5-> ∃v,W.cell? ⟨g,j,none⟩=some v
 ca:d 7=true-> ∃(t:Sh) (q:Ptr) (W2:World) (s:Nat),u 7= .tuple #[sv t q,.bool (bound X.f X.up X.a X.b).isSome]/\X.W0.heap.size<=s/\s<=W2.heap.size/\
  (∀j,bound X.f X.up X.a X.b=some j->t=j/\Kept (fun b=>b < X.n0\/s<=b) W2 (j,q))/\
  (d 8=true->u 8=u 7)/\(d 9=true->u 9=sv t q)/\(d 10=true->u 10= .bool (bound X.f X.up X.a X.b).isSome)/\
  Upd (fun b=>d 11=true/\u 11= .pointer (some ⟨b,0,none⟩)) W2 W/\(∀g,d 11=true->u 11= .pointer (some ⟨g,0,none⟩)->g < s\/W2.heap.size<=g)/\(d 12=true-> ∀g,u 11= .pointer (some ⟨g,0,none⟩)->Sh5 W g 0 t q)/\(d 13=true->u 13= .bool (bound X.f X.up X.a X.b).isSome)
variable {X : RX} {d : Nat -> Bool} {u : Nat -> Value} {W W' : World}
theorem RI.vals' (h:X.RI d u W) {i:Nat} {v:Value} (hv: ∀v',X.val i=some v'->v=v'): ∀j,also d i j=true-> ∀v',X.val j=some v'->upd u i v j=v':=fun j hj v' hv'=>by
 by_cases hij:j=i
 {subst hij; rw[Z2p]; exact hv v' hv'}
 {rw[Za3 d hij] at hj; rw[Z15 u v hij]; exact h.vals j hj v' hv'}
theorem Good.start (h:X.Good):X.RI (fun _=>false) u X.W0.drew:=⟨nofun,Y2.drew,nofun,nofun⟩
theorem RI.pure (h:X.RI d u W) {i:Nat} (hi:i < 7) {v:Value} (hv: ∀v',X.val i=some v'->v=v'):X.RI (also d i) (upd u i v) W:=by
 have k: ∀j,7<=j->also d i j=d j/\upd u i v j=u j:=fun j hj=>⟨Za3 d (by omega),Z15 u v (by omega)⟩;refine ⟨h.vals' hv,h.up, ?_, ?_⟩
 {rw[(k 11 (by omega)).1,(k 11 (by omega)).2]; exact h.al}
 {rw[(k 7 (by omega)).1,(k 7 (by omega)).2,(k 8 (by omega)).1,(k 8 (by omega)).2,(k 9 (by omega)).1,(k 9 (by omega)).2,(k 10 (by omega)).1,(k 10 (by omega)).2,(k 11 (by omega)).1,(k 11 (by omega)).2,(k 12 (by omega)).1,(k 13 (by omega)).1,(k 13 (by omega)).2];exact h.ca}
def lay (W:World) (g:Nat) (t:Sh) (q:Ptr):World:=
 ((((W.setCell ⟨g,0,none⟩ (.int .i64 t.kind)).setCell ⟨g,1,none⟩ (.string ⟨t.of_.toArray⟩)).setCell ⟨g,2,none⟩ (.string ⟨t.name.toArray⟩)).setCell ⟨g,3,none⟩ (.slice q.A t.names.length q.c)).setCell ⟨g,4,none⟩ (.slice q.P t.parts.length q.d)
theorem lay_upd (W:World) (g:Nat) (t:Sh) (q:Ptr):Upd (fun b=>b=g) W (lay W g t q):=
 Upd.set (Upd.set (Upd.set (Upd.set (Upd.set (Upd.refl (fun b=>b=g) W) ⟨g,0,none⟩ (fun _=>rfl) _) ⟨g,1,none⟩ (fun _=>rfl) _) ⟨g,2,none⟩ (fun _=>rfl) _) ⟨g,3,none⟩ (fun _=>rfl) _) ⟨g,4,none⟩ (fun _=>rfl) _
theorem ZcH (W:World) (g:Nat) (t:Sh) (q:Ptr): (lay W g t q).heap.size=W.heap.size:=by simp[lay,World.setCell]
theorem ZcZ (W:World) (g:Nat) (t:Sh) (q:Ptr) (j:Nat): (lay W g t q).frozen? ⟨g,j,none⟩=W.frozen? ⟨g,j,none⟩:=by
 unfold lay; rw[World.frozen?_setCell,World.frozen?_setCell,World.frozen?_setCell,World.frozen?_setCell,World.frozen?_setCell]
theorem soc {W:World} {b x y:Nat} {v:Value} (h:x≠y): (W.setCell ⟨b,x,none⟩ v).cell? ⟨b,y,none⟩=W.cell? ⟨b,y,none⟩:=World.cell?_setCell_other _ _ _ _ (fun e=>by have:=congrArg Addr.off e; simp at this; omega)
theorem lay_at {W:World} {g:Nat} (t:Sh) (q:Ptr) (h: ∀j,j < 5-> ∃v,W.cell? ⟨g,j,none⟩=some v):Sh5 (lay W g t q) g 0 t q:=by
 obtain ⟨v0,h0⟩:=h 0 (by omega);obtain ⟨v1,h1⟩:=h 1 (by omega);obtain ⟨v2,h2⟩:=h 2 (by omega);obtain ⟨v3,h3⟩:=h 3 (by omega);obtain ⟨v4,h4⟩:=h 4 (by omega);unfold lay Sh5;simp only[Nat.zero_add];refine ⟨?_, ?_, ?_, ?_, ?_⟩
 {rw[soc (by omega),soc (by omega),soc (by omega),soc (by omega)]; exact World.cell?_setCell_same _ _ _ h0}
 {rw[soc (by omega),soc (by omega),soc (by omega)]; exact World.cell?_setCell_same _ _ _ (by rw[soc (by omega)]; exact h1)}
 {rw[soc (by omega),soc (by omega)]; exact World.cell?_setCell_same _ _ _ (by rw[soc (by omega),soc (by omega)]; exact h2)}
 {rw[soc (by omega)]; exact World.cell?_setCell_same _ _ _ (by rw[soc (by omega),soc (by omega),soc (by omega)]; exact h3)}
 {exact World.cell?_setCell_same _ _ _ (by rw[soc (by omega),soc (by omega),soc (by omega),soc (by omega)]; exact h4)}
section
variable (h : X.RI d u W)
include h
theorem RI.look (hX:X.Good):Sh5 W X.ga X.oa X.a X.pa/\Sh5 W X.gb X.ob X.b X.pb/\W.cell? ⟨X.pf,0,none⟩=some (.func (.func (bfn X.up)) #[] #[]):=
 ⟨hX.a5.keep (by have:=hX.gan; have:=hX.hn; omega) h.up,hX.b5.keep (by have:=hX.gbn; have:=hX.hn; omega) h.up,(h.up.cell (p:=⟨X.pf,0,none⟩) hX.fl).trans hX.fc⟩
theorem RI.call (hX:X.Good) (h7:d 7=false) (hd: ∀j,j=8\/j=9\/j=10\/j=12\/j=13->d j=false) {e:Ending} (hb:BIs X.f X.up X.a X.b X.n0 W e W'): ∃v,e= .returned v/\X.RI (also d 7) (upd u 7 v) W':=by
 obtain ⟨t,q,rfl,hbl,hj⟩:=hb;have k: ∀j,j≠7->also d 7 j=d j/\ ∀v,upd u 7 v j=u j:=fun j hj=>⟨Za3 d hj,fun v=>Z15 u v hj⟩;refine ⟨_,rfl,h.vals' (fun v' h=>by cases h),Z00 h.up hbl, ?_,fun _=>⟨t,q,W',W.heap.size,Z2p _ _ _,h.up.size,hbl.size,hj, ?_, ?_, ?_, ?_, ?_, ?_, ?_⟩⟩
 {rw[(k 11 (by omega)).1,(k 11 (by omega)).2];intro h11;obtain ⟨g,e,g1,g2,g3,g4⟩:=h.al h11;exact ⟨g,e,g1,Nat.lt_of_lt_of_le g2 hbl.size,fun j=>(hbl.frozen (p:=⟨g,j,none⟩) g2).trans (g3 j),fun j hj=>by
   obtain ⟨v,hv⟩:=g4 j hj;exact ⟨v,(hbl.cell (p:=⟨g,j,none⟩) g2).trans hv⟩⟩}
 {rw[(k 8 (by omega)).1,hd 8 (by omega)]; nofun}
 {rw[(k 9 (by omega)).1,hd 9 (by omega)]; nofun}
 {rw[(k 10 (by omega)).1,hd 10 (by omega)]; nofun}
 {exact Upd.refl _ _}
 {rw[(k 11 (by omega)).1,(k 11 (by omega)).2];intro g h11 e;obtain ⟨g',e',_,g2,_⟩:=h.al h11;rw[e'] at e;simp only[Value.pointer.injEq,Option.some.injEq,Addr.mk.injEq,and_true] at e;omega}
 {rw[(k 12 (by omega)).1,hd 12 (by omega)]; nofun}
 {rw[(k 13 (by omega)).1,hd 13 (by omega)]; nofun}
theorem RI.read (h7:d 7=true) {i:Nat} (hi:i=8\/i=9\/i=10\/i=13) {v:Value} (hd:d i=false) (hv: ∀t q,u 7= .tuple #[sv t q,.bool (bound X.f X.up X.a X.b).isSome]->
 (i=8->v=u 7)/\(i=9->v=sv t q)/\(i=10->v= .bool (bound X.f X.up X.a X.b).isSome)/\(i=13->v= .bool (bound X.f X.up X.a X.b).isSome)):X.RI (also d i) (upd u i v) W:=by
 have k: ∀j,j≠i->also d i j=d j/\upd u i v j=u j:=fun j hj=>⟨Za3 d hj,Z15 u v hj⟩;refine ⟨h.vals' (fun v' h=>by rcases hi with rfl | rfl | rfl | rfl <;> cases h),h.up, ?_, ?_⟩
 {rw[(k 11 (by omega)).1,(k 11 (by omega)).2]; exact h.al}
 {rw[(k 7 (by omega)).1,(k 7 (by omega)).2,(k 11 (by omega)).1,(k 11 (by omega)).2,(k 12 (by omega)).1];intro _;obtain ⟨t,q,W2,s,e7,s1,s2,hj,e8,e9,e10,hu,hg,h12,h13⟩:=h.ca h7;obtain ⟨v8,v9,v10,v13⟩:=hv t q e7;refine ⟨t,q,W2,s,e7,s1,s2,hj,fun hd=> ?_,fun hd=> ?_,fun hd=> ?_,hu,hg,h12,fun hd=> ?_⟩
  {by_cases e:i=8
   {rw[<-e,Z2p]; exact v8 e}
   {rw[(k 8 (Ne.symm e)).1] at hd; rw[(k 8 (Ne.symm e)).2]; exact e8 hd}}
  {by_cases e:i=9
   {rw[<-e,Z2p]; exact v9 e}
   {rw[(k 9 (Ne.symm e)).1] at hd; rw[(k 9 (Ne.symm e)).2]; exact e9 hd}}
  {by_cases e:i=10
   {rw[<-e,Z2p]; exact v10 e}
   {rw[(k 10 (Ne.symm e)).1] at hd; rw[(k 10 (Ne.symm e)).2]; exact e10 hd}}
  {by_cases e:i=13
   {rw[<-e,Z2p]; exact v13 e}
   {rw[(k 13 (Ne.symm e)).1] at hd; rw[(k 13 (Ne.symm e)).2]; exact h13 hd}}}
end
theorem RI.alloc (h:X.RI d u W) (hX:X.Good) (h11:d 11=false) (h12:d 12=false):X.RI (also d 11) (upd u 11 (.pointer (some ⟨W.heap.size,0,none⟩))) (W.alloc (.cells Yb 25)):=by
 have hb:=Z01 W (.cells Yb 25);have k: ∀j,j≠11->also d 11 j=d j/\ ∀v,upd u 11 v j=u j:=fun j hj=>⟨Za3 d hj,fun v=>Z15 u v hj⟩;refine ⟨h.vals' (fun v' h=>by cases h),Z00 h.up hb,fun _=>⟨W.heap.size,Z2p _ _ _,h.up.size,by simp,fun j=>by simp[go_sem],fun j hj=> ?_⟩, ?_⟩
 {rcases j with _ | _ | _ | _ | _ | j
  {exact ⟨.int .i64 0,by simp[go_sem]⟩}
  {exact ⟨.string ⟨#[]⟩,by simp[go_sem]⟩}
  {exact ⟨.string ⟨#[]⟩,by simp[go_sem]⟩}
  {exact ⟨.slice none 0 0,by simp[go_sem]⟩}
  {exact ⟨.slice none 0 0,by simp[go_sem]⟩}
  {omega}}
 {rw[(k 7 (by omega)).1,(k 7 (by omega)).2,(k 8 (by omega)).1,(k 8 (by omega)).2,(k 9 (by omega)).1,(k 9 (by omega)).2,(k 10 (by omega)).1,(k 10 (by omega)).2,(k 12 (by omega)).1,(k 13 (by omega)).1,(k 13 (by omega)).2,Zab,Z2p,h12];intro h7;obtain ⟨t,q,W2,s,e7,s1,s2,hj,e8,e9,e10,hu,hg,_,h13⟩:=h.ca h7;refine ⟨t,q,W2,s,e7,s1,s2,hj,e8,e9,e10, ?_,fun g _ e=> ?_,nofun,h13⟩
  {exact (hu.mono (fun b _ hb=>by rw[h11] at hb; exact absurd hb.1 (by decide))).trans (Upd.new hb)}
  {simp only[Value.pointer.injEq,Option.some.injEq,Addr.mk.injEq,and_true] at e;have:=hu.size;omega}}
theorem RI.store (h:X.RI d u W) (h7:d 7=true) (h11:d 11=true) {g:Nat} (hg:u 11= .pointer (some ⟨g,0,none⟩)) {t:Sh} {q:Ptr} (ht:u 7= .tuple #[sv t q,.bool (bound X.f X.up X.a X.b).isSome])
 (hsv: ∀t' q',sv t' q'=sv t q->t'.kind=t.kind/\t'.of_=t.of_/\t'.name=t.name/\q'.A=q.A/\t'.names.length=t.names.length/\q'.c=q.c/\q'.P=q.P/\t'.parts.length=t.parts.length/\q'.d=q.d):X.RI (also d 12) (upd u 12 undef) (lay W g t q):=by
 have k: ∀j,j≠12->also d 12 j=d j/\ ∀v,upd u 12 v j=u j:=fun j hj=>⟨Za3 d hj,fun v=>Z15 u v hj⟩;obtain ⟨g',e',g1,g2,g3,g4⟩:=h.al h11;obtain rfl:g'=g:=by rw[hg] at e'; simp at e'; exact e'.symm
 have hu:=lay_upd W g' t q;refine ⟨h.vals' (fun v' h=>by cases h),h.up.trans (hu.below h.up.size (fun b hb=>by omega)), ?_, ?_⟩
 {rw[(k 11 (by omega)).1,(k 11 (by omega)).2];intro _;have hl:=lay_at t q g4;obtain ⟨l0,l1,l2,l3,l4⟩:=hl;simp only[Nat.zero_add] at l0 l1 l2 l3 l4;refine ⟨g',hg,g1,by rw[ZcH]; exact g2,fun j=>(ZcZ W g' t q j).trans (g3 j),fun j hj=> ?_⟩;rcases j with _ | _ | _ | _ | _ | j
  {exact ⟨_,l0⟩}
  {exact ⟨_,l1⟩}
  {exact ⟨_,l2⟩}
  {exact ⟨_,l3⟩}
  {exact ⟨_,l4⟩}
  {omega}}
 {rw[(k 7 (by omega)).1,(k 7 (by omega)).2,(k 8 (by omega)).1,(k 8 (by omega)).2,(k 9 (by omega)).1,(k 9 (by omega)).2,(k 10 (by omega)).1,(k 10 (by omega)).2,(k 11 (by omega)).1,(k 11 (by omega)).2,(k 13 (by omega)).1,(k 13 (by omega)).2];intro _;obtain ⟨t',q',W2,s,e7,s1,s2,hj,e8,e9,e10,hu2,hgs,_,h13⟩:=h.ca h7;refine ⟨t',q',W2,s,e7,s1,s2,hj,e8,e9,e10,hu2.trans (hu.mono (fun b _ hb=>⟨h11,by rw[hb,hg]⟩)),hgs,fun _ g2 e=> ?_,h13⟩;obtain rfl:g'=g2:=by rw[hg] at e; simpa using e
  have e72:sv t' q'=sv t q:=by
   rw[ht] at e7;simp only[Value.tuple.injEq] at e7;have:=congrArg (fun a:Array Value=>a[0]?) e7;simp at this;simp[sv];exact ⟨this.1.symm,this.2.1.symm,this.2.2.1.symm,⟨this.2.2.2.1.1.symm,this.2.2.2.1.2.1.symm,this.2.2.2.1.2.2.symm⟩,this.2.2.2.2.1.symm,this.2.2.2.2.2.1.symm,this.2.2.2.2.2.2.symm⟩
  obtain ⟨c1,c2,c3,c4,c5,c6,c7,c8,c9⟩:=hsv t' q' e72;obtain ⟨l0,l1,l2,l3,l4⟩:=lay_at t q g4;exact ⟨by rw[c1]; exact l0,by rw[c2]; exact l1,by rw[c3]; exact l2,by rw[c4,c5,c6]; exact l3,by rw[c7,c8,c9]; exact l4⟩}
end RX
end SubM
end Go.Proofs.YthajhofgjhfjeaaDoor
namespace Go.Proofs.YthajhofgjhfjeaaDoor
open Go.RowKit Shp Sub
namespace SubM
theorem Zcw {t' t:Sh} {q' q:Ptr} (h:sv t' q'=sv t q):t'.kind=t.kind/\t'.of_=t.of_/\t'.name=t.name/\q'.A=q.A/\t'.names.length=t.names.length/\q'.c=q.c/\q'.P=q.P/\t'.parts.length=t.parts.length/\q'.d=q.d:=by
 simp[sv] at h;exact ⟨h.1,h.2.1,h.2.2.1,h.2.2.2.1.1,h.2.2.2.1.2.1,h.2.2.2.1.2.2,h.2.2.2.2.1,h.2.2.2.2.2.1,h.2.2.2.2.2.2⟩
theorem Kept.move {S S' T:Nat->Prop} {W W':World} {x:El} (h:Kept S W x) (hu:Upd T W W') (hd: ∀b,b < W.heap.size->S b-> ¬T b/\S' b):Kept S' W' x:=fun W2 h1 h2=>
 h W2 (Nat.le_trans hu.size h1) (fun b hb hs=>(h2 b (Nat.lt_of_lt_of_le hb hu.size) (hd b hb hs).2).trans (hu.block b hb (hd b hb hs).1))
structure KNs (w0:World) (n0 gm hi pf:Nat) (fv:Value) (k:Int) (ok:Bool) (L:List Fld) (l:List El) (AN:Option Addr) (cN:Nat) (AP:Option Addr) (cP:Nat) (W:World):Prop where
 mm:Mk w0 gm hi k [] [] (L.map Prod.fst) l AN cN AP cP W
 eq:l.map Prod.fst=L.map Prod.snd
 kp:ok=true-> ∀x∈l,Kept (Free n0 hi AN AP) W x
 fc:W.cell? ⟨pf,0,none⟩=some fv
def KN (w0:World) (n0 gm hi pf:Nat) (fv:Value) (k:Int) (ok:Bool) (L:List Fld) (W:World):Prop:= ∃l AN cN AP cP,KNs w0 n0 gm hi pf fv k ok L l AN cN AP cP W
section
variable {w0 W W' : World} {n0 gm hi pf : Nat} {fv : Value} {k : Int} {ok : Bool} {L : List Fld} {l : List El} {AN AP : Option Addr} {cN cP : Nat}
theorem KNs.len (h:KNs w0 n0 gm hi pf fv k ok L l AN cN AP cP W):l.length=L.length:=by have:=congrArg List.length h.eq; simpa using this
theorem KNs.new (h:KNs w0 n0 gm hi pf fv k ok L l AN cN AP cP W) (hpf:pf < hi) (hb:Below W.heap.size W W'):KNs w0 n0 gm hi pf fv k ok L l AN cN AP cP W':=
 ⟨h.mm.new hb,h.eq,fun ho x hx=>(h.kp ho x hx).upd (T:=fun _=>False) (Upd.new hb) (fun _ _ _ h=>h),(hb.cell (p:=⟨pf,0,none⟩) (Nat.lt_of_lt_of_le hpf h.mm.hw)).trans h.fc⟩
theorem KNs.mid {T:Nat->Prop} (h:KNs w0 n0 gm hi pf fv k ok L l AN cN AP cP W) (hu:Upd T W W') (hT: ∀b,T b->gm < b/\pf < b/\b < hi) (hn:n0<=gm) (hpf:pf < hi):KNs w0 n0 gm hi pf fv k ok L l AN cN AP cP W':=by
 have hg:=h.mm.gh;refine ⟨h.mm.upd hu (fun b hb ht=> ?_) (fun ht=> ?_) (fun b hb ht=> ?_) (fun b hb ht=> ?_),h.eq,fun ho x hx=>(h.kp ho x hx).upd hu (fun b hb hf ht=> ?_),(hu.cell (Nat.lt_of_lt_of_le hpf h.mm.hw) (fun ht=> ?_)).trans h.fc⟩
 {have:=(hT b ht).1; have:=h.mm.lo; omega}
 {have:=(hT gm ht).1; omega}
 {have:=(hT b ht).2.2; have:=(Za0 h.mm.rN b hb).1; omega}
 {have:=(hT b ht).2.2; have:=(Za0 h.mm.rP b hb).1; omega}
 {have:=hT b ht;rcases hf with hf | hf
  {omega}
  {have:=hf.1; omega}}
 {have:=(hT pf ht).2.1; omega}
theorem KN.mid {T:Nat->Prop} (h:KN w0 n0 gm hi pf fv k ok L W) (hu:Upd T W W') (hT: ∀b,T b->gm < b/\pf < b/\b < hi) (hn:n0<=gm) (hpf:pf < hi):KN w0 n0 gm hi pf fv k ok L W':=by
 obtain ⟨l,AN,cN,AP,cP,h⟩:=h;exact ⟨l,AN,cN,AP,cP,h.mid hu hT hn hpf⟩
section
variable (h : KNs w0 n0 gm hi pf fv k ok L l AN cN AP cP W)
include h
theorem KNs.put (hn:n0<=gm) (hpf:pf < hi) (hpg:pf≠gm) {nm:List UInt8} {t:Sh} {q:Ptr} {ok':Bool} (hok:ok'=true->ok=true) (hkp:ok'=true->Kept (Free n0 hi AN AP) W (t,q))
 {AN' AP':Option Addr} {cN' cP':Nat} (hm:Mk w0 gm hi k [] [] (L.map Prod.fst++ [nm]) (l++ [(t,q)]) AN' cN' AP' cP' W') (hp:PutOk W gm AN AP AN' AP' W'):KN w0 n0 gm hi pf fv k ok' (L++ [(nm,t)]) W':=by
 obtain ⟨hu,h1,h2⟩:=hp;have hg:=h.mm.gh;have key: ∀x,Kept (Free n0 hi AN AP) W x->Kept (Free n0 hi AN' AP') W' x:=fun x hx=>hx.move hu (fun b hb hf=>by
  refine ⟨fun ht=> ?_, ?_⟩
  {rcases hf with hf | ⟨hf,f1,f2⟩
   {rcases ht with ht | ht | ht
    {omega}
    {have:=(Za0 h.mm.rN b ht).1; omega}
    {have:=(Za0 h.mm.rP b ht).1; omega}}
   {rcases ht with ht | ht | ht
    {omega}
    {exact f1 ht}
    {exact f2 ht}}}
  · rcases hf with hf | ⟨hf,f1,f2⟩
    {exact Or.inl hf}
    · exact Or.inr ⟨hf,fun e=>(h1 b e).elim f1 (fun h=>by omega),fun e=>(h2 b e).elim f2 (fun h=>by omega)⟩)
 refine ⟨l++ [(t,q)],AN',cN',AP',cP',⟨by rw[List.map_append]; exact hm,by rw[List.map_append,List.map_append,h.eq]; rfl,fun ho x hx=> ?_, ?_⟩⟩
 {rcases List.mem_append.1 hx with hx | hx
  {exact key x (h.kp (hok ho) x hx)}
  {rw[List.mem_singleton.1 hx]; exact key _ (hkp ho)}}
 {refine (hu.cell (Nat.lt_of_lt_of_le hpf h.mm.hw) (fun ht=> ?_)).trans h.fc;rcases ht with ht | ht | ht
  {exact hpg ht}
  {have:=(Za0 h.mm.rN pf ht).1; omega}
  {have:=(Za0 h.mm.rP pf ht).1; omega}}
theorem KNs.turn {AN' AP':Option Addr} (hp:PutOk W gm AN AP AN' AP' W'):Upd (fun b=>b=gm\/hi<=b) W W':=
 hp.1.mono (fun b _ hb=>by
  rcases hb with hb | hb | hb
  {exact Or.inl hb}
  {exact Or.inr (Za0 h.mm.rN b hb).1}
  · exact Or.inr (Za0 h.mm.rP b hb).1)
end
end
theorem Zcx {f:Nat} (hI:BoundOk f) (up:Bool) (w0:World) (n0 gm hi pf:Nat) (k:Int) (L:List Fld) (nm:List UInt8) (o1 o2:Option Sh) (x y:Value) (W:World) (h2: ∀p q,o1=some p->o2=some q->Two f p q)
 (hn:n0<=gm) (hpf:pf < hi) (hpg:pf≠gm) (hL:L.length<=900) (hx:At W n0 o1 x) (hy:At W n0 o2 y) (hk:KN w0 n0 gm hi pf (.func (.func (bfn up)) #[] #[]) k true L W):
 Calls Tryd.prog 67 (.string ⟨nm.toArray⟩::x::y:: .pointer (some ⟨pf,0,none⟩):: .pointer (some ⟨gm,0,none⟩):: []).toArray W fun e W'=>e= .returned (.bool true)/\
  KN w0 n0 gm hi pf (.func (.func (bfn up)) #[] #[]) k true (L++(narrowStep (bound f up) (nm,o1,o2)).toList) W'/\Upd (fun b=>b=gm\/hi<=b) W W':=by
 cases o1 with
 | none=>
  have hx':x= .pointer none:=hx;subst hx';have hr:narrowStep (bound f up) (nm,none,o2)=none:=by cases o2 <;> rfl
  rw[hr];have HK:=Y1 hk;have hy': ∃p,y= .pointer p:=by
   cases o2 with
   | none=>exact ⟨none,hy⟩
   | some _=>obtain ⟨g,o,q,h1,_⟩:=hy; exact ⟨_,h1⟩
  obtain ⟨p,rfl⟩:=hy';clear hy h2 hI hr hk;go_enter Tryd.func67,Tryd.ntmps67;go_wp2;go_ret;exact ⟨rfl,by simpa using HK.out,Upd.refl _ _⟩
 | some p=>
  obtain ⟨ga,oa,qx,rfl,hga,h5a,hsa⟩:=hx;cases o2 with
  | none=>
   have hy':y= .pointer none:=hy;subst hy';have hr:narrowStep (bound f up) (nm,some p,none)=none:=rfl;rw[hr];have HK:=Y1 hk;clear h2 hI hr hk h5a hsa;go_enter Tryd.func67,Tryd.ntmps67;go_wp2;go_ret;exact ⟨rfl,by simpa using HK.out,Upd.refl _ _⟩
  | some q=>
   obtain ⟨gb,ob,qy,rfl,hgb,h5b,hsb⟩:=hy;obtain ⟨l,AN,cN,AP,cP,hks⟩:=hk;have hX:RX.Good ⟨f,up,p,q,qx,qy,ga,oa,gb,ob,pf,n0,W⟩:=⟨h2 p q rfl rfl,by have:=hks.mm.gh; have:=hks.mm.hw; show n0<=W.heap.size; omega,hga,hgb,h5a,h5b,hsa,hsb,hks.fc,Nat.lt_of_lt_of_le hpf hks.mm.hw,hI⟩;have HX:=Y1 hX;have HKS:=Y1 hks;have HL:=Y1 hL;clear hX hks hI h2 h5a h5b hsa hsb hL hga hgb;go_enter Tryd.func67,Tryd.ntmps67
   go_wp2_with fail
   refine ZaO (rs:= [0,1,2,3,4,5,6,7,8,9,10,11,12,13])
    (fun u=> { tmps:=#[.string ⟨nm.toArray⟩,.pointer (some ⟨ga,oa,none⟩),.pointer (some ⟨gb,ob,none⟩),.pointer (some ⟨pf,0,none⟩),.pointer (some ⟨gm,0,none⟩),undef,undef,undef,.bool false,u 11,u 13,.pointer (some ⟨ga,oa,none⟩),.bool false,.bool false,.pointer (some ⟨gb,ob,none⟩),.bool false,.bool false,u 8,u 0,u 1,u 2,u 3,u 4,u 5,u 6,u 7,u 9,u 10,undef,undef,undef,undef],defers:= [] })
    (fun j=>undef) (RX.RI ⟨f,up,p,q,qx,qy,ga,oa,gb,ob,pf,n0,W⟩) (by kernel_rfl) (by kernel_rfl) (by kernel_rfl) HX.out.start ?_ ?_
   refine StepsInv.cons2 _ rfl (fun d u W1 K' hs hI hd hw hK=> ?_) ?_
   {obtain ⟨_,_,c0⟩:=hI.look HX.out
    try dsimp only at c0
    refine Z02 (v:= .func (.func (bfn up)) #[] #[]) (W':=W1) rfl ?_ (hK.out _ _ (hI.pure (by decide) (fun v' h=>by cases h; rfl)));go_simp}
   refine StepsInv.cons2 _ rfl (fun d u W1 K' hs hI hd hw hK=> ?_) ?_
   {refine Z02 (v:= .pointer (some ⟨ga,oa,none⟩)) (W':=W1) rfl ?_ (hK.out _ _ (hI.pure (by decide) (fun v' h=>by cases h; rfl)));go_simp}
   refine StepsInv.cons2 _ rfl (fun d u W1 K' hs hI hd hw hK=> ?_) ?_
   {have d1:u 1= .pointer (some ⟨ga,oa,none⟩):=hI.vals 1 (hw 1 (by kernel_rfl)) _ rfl;refine Z02 (v:= .pointer (some ⟨ga,oa,none⟩)) (W':=W1) rfl ?_ (hK.out _ _ (hI.pure (by decide) (fun v' h=>by cases h; rfl)));go_simp}
   refine StepsInv.cons2 _ rfl (fun d u W1 K' hs hI hd hw hK=> ?_) ?_
   {have d2:u 2= .pointer (some ⟨ga,oa,none⟩):=hI.vals 2 (hw 2 (by kernel_rfl)) _ rfl;obtain ⟨⟨c0,c1,c2,c3,c4⟩,_,_⟩:=hI.look HX.out
    try dsimp only at c0 c1 c2 c3 c4
    refine Z02 (v:= .agg (Y8 p qx)) (W':=W1) rfl ?_ (hK.out _ _ (hI.pure (by decide) (fun v' h=>by cases h; rfl)));go_simp}
   refine StepsInv.cons2 _ rfl (fun d u W1 K' hs hI hd hw hK=> ?_) ?_
   {refine Z02 (v:= .pointer (some ⟨gb,ob,none⟩)) (W':=W1) rfl ?_ (hK.out _ _ (hI.pure (by decide) (fun v' h=>by cases h; rfl)));go_simp}
   refine StepsInv.cons2 _ rfl (fun d u W1 K' hs hI hd hw hK=> ?_) ?_
   {have d4:u 4= .pointer (some ⟨gb,ob,none⟩):=hI.vals 4 (hw 4 (by kernel_rfl)) _ rfl;refine Z02 (v:= .pointer (some ⟨gb,ob,none⟩)) (W':=W1) rfl ?_ (hK.out _ _ (hI.pure (by decide) (fun v' h=>by cases h; rfl)));go_simp}
   refine StepsInv.cons2 _ rfl (fun d u W1 K' hs hI hd hw hK=> ?_) ?_
   {have d5:u 5= .pointer (some ⟨gb,ob,none⟩):=hI.vals 5 (hw 5 (by kernel_rfl)) _ rfl;obtain ⟨_,⟨c0,c1,c2,c3,c4⟩,_⟩:=hI.look HX.out
    try dsimp only at c0 c1 c2 c3 c4
    refine Z02 (v:= .agg (Y8 q qy)) (W':=W1) rfl ?_ (hK.out _ _ (hI.pure (by decide) (fun v' h=>by cases h; rfl)));go_simp}
   refine StepsInv.cons2 _ rfl (fun d u W1 K' hs hI hd hw hK=> ?_) ?_
   {have d0:u 0= .func (.func (bfn up)) #[] #[]:=hI.vals 0 (hw 0 (by kernel_rfl)) _ rfl;have d3:u 3= .agg (Y8 p qx):=hI.vals 3 (hw 3 (by kernel_rfl)) _ rfl;have d6:u 6= .agg (Y8 q qy):=hI.vals 6 (hw 6 (by kernel_rfl)) _ rfl;have hen:=ZaL up;have h8:d 8=false:=Za2 hs rfl (by kernel_rfl) hd;have h9:d 9=false:=Za2 hs rfl (by kernel_rfl) h8;have h10:d 10=false:=Za2 hs rfl (by kernel_rfl) h8;have h12:d 12=false:=Za2 hs rfl (by kernel_rfl) h9;have h13:d 13=false:=Za2 hs rfl (by kernel_rfl) h10;have hup:=hI.up;have hx0:=HX.out;have hu:Upd (fun _=>False) W W1:=Upd.new hup;refine Z0q (f:=bfn up) (args:=#[.agg (Y8 p qx),.agg (Y8 q qy)]) (W':=W1) rfl ?_ ((hx0.ok up p q qx qy n0 W1 hx0.two (Za8 hx0.sa hx0.hn hu (fun _ _ h=>h)) (Za8 hx0.sb hx0.hn hu (fun _ _ h=>h)) (Nat.le_trans hx0.hn hu.size)).mono fun e w' hb=> ?_)
    {go_simp}
    {obtain ⟨v,he,hr⟩:=hI.call HX.out hd (fun j hj=>by rcases hj with rfl | rfl | rfl | rfl | rfl <;> assumption) hb;exact ⟨v,he,hK.out _ _ hr⟩}}
   refine StepsInv.cons2 _ rfl (fun d u W1 K' hs hI hd hw hK=> ?_) ?_
   {have w7:=hw 7 (by kernel_rfl);obtain ⟨t,qt,W2,s,e7,_⟩:=hI.ca w7
    try dsimp only at e7
    refine Z02 (v:= .tuple #[.agg (Y8 t qt),.bool (bound f up p q).isSome]) (W':=W1) rfl ?_ (hK.out _ _ (hI.read w7 (by decide) hd (fun t' q' h=>⟨fun _=>e7.symm,nofun,nofun,nofun⟩)));go_simp}
   refine StepsInv.cons2 _ rfl (fun d u W1 K' hs hI hd hw hK=> ?_) ?_
   {have w8:=hw 8 (by kernel_rfl);have w7:d 7=true:=hs 8 _ rfl w8 7 (by kernel_rfl);obtain ⟨t,qt,W2,s,e7,_,_,_,e8,_⟩:=hI.ca w7
    try dsimp only at e7
    have d8:=(e8 w8).trans e7;refine Z02 (v:= .agg (Y8 t qt)) (W':=W1) rfl ?_ (hK.out _ _ (hI.read w7 (by decide) hd (fun t' q' h=>⟨nofun,fun _=>by rw[e7] at h; simp only[Value.tuple.injEq] at h; have:=congrArg (fun a:Array Value=>a[0]?) h; simpa using this,nofun,nofun⟩)));go_simp}
   refine StepsInv.cons2 _ rfl (fun d u W1 K' hs hI hd hw hK=> ?_) ?_
   {have w8:=hw 8 (by kernel_rfl);have w7:d 7=true:=hs 8 _ rfl w8 7 (by kernel_rfl);obtain ⟨t,qt,W2,s,e7,_,_,_,e8,_⟩:=hI.ca w7
    try dsimp only at e7
    have d8:=(e8 w8).trans e7;refine Z02 (v:= .bool (bound f up p q).isSome) (W':=W1) rfl ?_ (hK.out _ _ (hI.read w7 (by decide) hd (fun t' q' h=>⟨nofun,nofun,fun _=>rfl,nofun⟩)));go_simp}
   refine StepsInv.cons2 _ rfl (fun d u W1 K' hs hI hd hw hK=> ?_) ?_
   {have h12:d 12=false:=Za2 hs rfl (by kernel_rfl) hd;refine Z02 (v:= .pointer (some ⟨W1.heap.size,0,none⟩)) (W':=W1.alloc (.cells Yb 25)) rfl ?_ (hK.out _ _ (hI.alloc HX.out hd h12));go_simp}
   refine StepsInv.cons2 _ rfl (fun d u W1 K' hs hI hd hw hK=> ?_) ?_
   {have w11:=hw 11 (by kernel_rfl);have w9:=hw 9 (by kernel_rfl);have w7:=hw 7 (by kernel_rfl);obtain ⟨t,qt,W2,s,e7,_,_,_,_,e9,_⟩:=hI.ca w7
    try dsimp only at e7
    have d9:=e9 w9;obtain ⟨g,e11,g1,g2,g3,g4⟩:=hI.al w11;have hst:=hI.store w7 w11 e11 e7 (fun t' q' h=>Zcw h);refine Z8i (W':=RX.lay W1 g t qt) rfl ?_ (hK.out undef _ hst);obtain ⟨v0,x0⟩:=g4 0 (by omega);obtain ⟨v1,x1⟩:=g4 1 (by omega);obtain ⟨v2,x2⟩:=g4 2 (by omega);obtain ⟨v3,x3⟩:=g4 3 (by omega);obtain ⟨v4,x4⟩:=g4 4 (by omega);have y0:=g3 0;have y1:=g3 1;have y2:=g3 2;have y3:=g3 3;have y4:=g3 4;unfold sv at d9;go_simp;rfl}
   refine StepsInv.cons2 _ rfl (fun d u W1 K' hs hI hd hw hK=> ?_) StepsInv.nil
   {have w10:=hw 10 (by kernel_rfl);have w8:d 8=true:=hs 10 _ rfl w10 8 (by kernel_rfl);have w7:d 7=true:=hs 8 _ rfl w8 7 (by kernel_rfl);obtain ⟨t,qt,W2,s,e7,_,_,_,_,_,e10,_⟩:=hI.ca w7
    try dsimp only at e7
    have d10:=e10 w10
    try dsimp only at d10
    refine Z02 (v:= .bool (bound f up p q).isSome) (W':=W1) rfl ?_ (hK.out _ _ (hI.read w7 (by decide) hd (fun t' q' h=>⟨nofun,nofun,nofun,fun _=>rfl⟩)));go_simp}
   {intro d u W1 hI hd;have w7:=hd 7 (by show 7 < 14; omega);have w11:=hd 11 (by show 11 < 14; omega);have w13:=hd 13 (by show 13 < 14; omega);obtain ⟨g,e11,g1,g2,g3,g4⟩:=hI.al w11;obtain ⟨t,qt,W2,s,e7,s1,s2,hj,_,_,_,hu,hgs,h12,h13⟩:=hI.ca w7
    try dsimp only at g1 s1 hj h13
    have d13:=h13 w13;obtain ⟨x0,x1,x2,x3,x4⟩:=h12 (hd 12 (by show 12 < 14; omega)) g e11;simp only[Nat.zero_add] at x0 x1 x2 x3 x4;have hup:=hI.up
    try dsimp only at hup
    have hK1:=HKS.out.new hpf hup;have hkp: ∀j,bound f up p q=some j->t=j/\Kept (Free n0 hi AN AP) W1 (j,qt):=fun j hb=>by
     obtain ⟨e1,e2⟩:=hj j hb;refine ⟨e1,e2.move hu (fun b hb hf=>⟨fun ht=> ?_, ?_⟩)⟩
     {have hz:=HX.out.hn
      try dsimp only at hz
      rw[e11] at ht;have e3:g=b:=by simpa using ht.2
      rcases hgs g w11 e11 with h | h
      {rcases hf with hf | hf <;> omega}
      {omega}}
     {rcases hf with hf | hf
      {exact Or.inl hf}
      {have hw:=HKS.out.mm.hw;exact Or.inr ⟨by omega,fun e=>by have:=(Za0 HKS.out.mm.rN b e).2; omega,fun e=>by have:=(Za0 HKS.out.mm.rP b e).2; omega⟩}}
    have HK1:=Y1 hK1;have HKP:=Y1 hkp;have HUP:=Y1 hup;rw[e11,d13];clear hI hd hj hu hgs h12 h13 hup hK1 hkp g3 g4 e7 w7 w11 w13;cases hb:bound f up p q with
    | none=>
     have HR:Hid (narrowStep (bound f up) (nm,some p,some q)=none):=Y1 (by show (bound f up p q).map _=_; rw[hb]; rfl);simp only[Option.isSome_none];clear hb d13;go_wp2;go_ret;rw[HR.out];refine ⟨rfl, ?_,Upd.new HUP.out⟩;rw[show L++(none:Option Fld).toList=L from by simp];exact ⟨_,_,_,_,_,HK1.out⟩
    | some j=>
     have HR:Hid (narrowStep (bound f up) (nm,some p,some q)=some (nm,j)):=Y1 (by show (bound f up p q).map _=_; rw[hb]; rfl);simp only[Option.isSome_some];obtain ⟨rfl,hkk⟩:=HKP.out j hb;have HKK:=Y1 hkk;have hlen:=HK1.out.len;have hL0:=HL.out;have HPW:=Y1 (Zbb w0 gm hi k [] [] (L.map Prod.fst) l AN cN AP cP nm t qt W1 HK1.out.mm (by rw[List.length_map]; omega) (by omega));unfold sv at HPW;clear hb d13 hkk hlen hL0 HKP
     go_wp2_with fail
     refine HPW.out.mono ?_;rintro e W3 ⟨rfl,AN',cN',AP',cP',hm,hp⟩;have HKN:=Y1 (HK1.out.put hn hpf hpg (nm:=nm) (t:=t) (q:=qt) (ok':=true) (fun _=>rfl) (fun _=>HKK.out) hm hp);have HUD:Hid (Upd (fun b=>b=gm\/hi<=b) W W3):=Y1 ((Upd.new HUP.out).trans (HK1.out.turn hp));clear hm hp HPW x0 x1 x2 x3 x4;go_wp2;go_ret;rw[HR.out];exact ⟨rfl,HKN.out,HUD.out⟩}
end SubM
end Go.Proofs.YthajhofgjhfjeaaDoor
