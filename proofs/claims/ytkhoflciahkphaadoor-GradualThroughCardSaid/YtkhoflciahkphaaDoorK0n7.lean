/- What the proofs of GradualAlike, GradualMoves, GradualPlain, GradualThrough, GradualWitness want, part 7. -/
import Derived.WalkSmall
import Derived.MakeChecks
import Derived.Lib.LaidTab
import Derived.Test.YtkhoflciahkphaaDoorK0n6
set_option linter.unusedVariables false
set_option linter.unusedSimpArgs false
set_option linter.unusedSectionVars false
set_option maxRecDepth 100000
set_option maxHeartbeats 16000000
namespace Go.Proofs.YtkhoflciahkphaaDoor
open Go.RowKit Shp Sub
namespace SubM
abbrev fv (i0 i1:Nat):Value:= .func (.func 52) #[] #[.pointer (some ⟨i0,0,none⟩),.pointer (some ⟨i1,0,none⟩)]
abbrev rv (i0 i1:Nat):Value:= .agg #[fv i0 i1]
structure Rl (w:Bool) (W:World) (n0 i0 i1:Nat):Prop where
 l0:i0 < n0
 l1:i1 < n0
 c0:W.cell? ⟨i0,0,none⟩=some (.int .i64 (if w=true then 6 else 0))
 c1:W.cell? ⟨i1,0,none⟩=some (.int .i64 (if w=true then 7 else 0))
theorem Rl.upd {w:Bool} {S:Nat->Prop} {a b:World} {n0 i0 i1:Nat} (h:Rl w a n0 i0 i1) (hn:n0<=a.heap.size) (hu:Upd S a b) (hS: ∀x,x < n0-> ¬S x):Rl w b n0 i0 i1:=
 ⟨h.l0,h.l1,(hu.cell (by have:=h.l0; omega) (hS _ h.l0)).trans h.c0,(hu.cell (by have:=h.l1; omega) (hS _ h.l1)).trans h.c1⟩
theorem Rl.new {w:Bool} {a b:World} {n0 i0 i1:Nat} (h:Rl w a n0 i0 i1) (hn:n0<=a.heap.size) (hb:Below a.heap.size a b):Rl w b n0 i0 i1:=h.upd (S:=fun _=>False) hn (Upd.new hb) (fun _ _ h=>h)
theorem Z9T: ∀args W,(callFunc 52 args).run Tryd.prog W= .ok (.enter 52 args) W:=enters_of Tryd.func52 (by kernel_rfl) rfl
theorem Z4A (w:Bool) (k:Int) (f:Bool) (W:World) (n0 i0 i1:Nat) (h:Rl w W n0 i0 i1):
 Calls Tryd.prog 52 #[.int .i64 k,.bool f,.pointer (some ⟨i0,0,none⟩),.pointer (some ⟨i1,0,none⟩)] W fun e W'=>e= .returned (.bool (Grd.al w k f))/\Below W.heap.size W W':=by
 obtain ⟨h1,h2,c0,c1⟩:=h;have HB:=Y1 (Below.refl W.heap.size W);cases f with
 | true=>
  rw[show Grd.al w k true=(k==(if w=true then 6 else 0)) from rfl];generalize (if w=true then (6:Int) else 0)=F at c0;clear h1 h2 c1;go_enter Tryd.func52,Tryd.ntmps52;go_wp2;go_ret;exact ⟨rfl,HB.out⟩
 | false=>
  rw[show Grd.al w k false=(k==(if w=true then 7 else 0)) from rfl];generalize (if w=true then (7:Int) else 0)=F at c1;clear h1 h2 c0;go_enter Tryd.func52,Tryd.ntmps52;go_wp2;go_ret;exact ⟨rfl,HB.out⟩
def HoldOk (w:Bool) (f:Nat):Prop:=
 ∀(a b:Sh) (pa pb:Ptr) (n0 i0 i1:Nat) (W:World),Two f a b->ShAt W n0 pa a->ShAt W n0 pb b->n0<=W.heap.size->Rl w W n0 i0 i1->
  Calls Tryd.prog 35 #[rv i0 i1,sv a pa,sv b pb] W fun e W'=>e= .returned (.bool (Grd.hold w f a b))/\Below W.heap.size W W'
section
variable {w : Bool} {f : Nat}
theorem Z8c (hI:HoldOk w f) (k:Int) (n0 i0 i1 gr ga:Nat) (nm:List UInt8) (o1 o2:Option Sh) (x y:Value) (W:World) (h: ∀p q,o1=some p->o2=some q->Two f p q) (hn:n0<=W.heap.size) (hx:At W n0 o1 x) (hy:At W n0 o2 y) (hr:Rl w W n0 i0 i1)
 (cr:W.cell? ⟨gr,0,none⟩=some (fv i0 i1)) (ca:W.cell? ⟨ga,0,none⟩=some (.int .i64 k)):
 Calls Tryd.prog 53 (.string ⟨nm.toArray⟩::x::y:: .pointer (some ⟨gr,0,none⟩):: .pointer (some ⟨ga,0,none⟩):: []).toArray W fun e W'=>e= .returned (.bool (Grd.hstep (Grd.al w k) (Grd.hold w f) (nm,o1,o2)))/\Below W.heap.size W W':=by
 have hen:=Z9T;cases o1 with
 | none=>
  have hx':x= .pointer none:=hx;subst hx';have hy': ∃p,y= .pointer p:=by
   cases o2 with
   | none=>exact ⟨none,hy⟩
   | some _=>obtain ⟨g,o,q,h1,_⟩:=hy; exact ⟨_,h1⟩
  obtain ⟨p,rfl⟩:=hy';have hs:Grd.hstep (Grd.al w k) (Grd.hold w f) (nm,none,o2)=Grd.al w k false:=by cases o2 <;> rfl
  rw[hs];have HC:=Y1 (Z4A w k false W n0 i0 i1 hr);clear hy h hI hn hs hr hx;go_enter Tryd.func53,Tryd.ntmps53
  go_wp2_with fail
  refine HC.out.mono ?_;rintro e W2 ⟨rfl,hb2⟩;have HB2:=Y1 hb2;clear hb2 HC;go_wp2;go_ret;exact ⟨rfl,HB2.out⟩
 | some p=>
  obtain ⟨g,off,qx,rfl,hg,h5,hs⟩:=hx;cases o2 with
  | none=>
   have hy':y= .pointer none:=hy;subst hy';have hst:Grd.hstep (Grd.al w k) (Grd.hold w f) (nm,some p,none)=Grd.al w k true:=rfl;rw[hst];have HC:=Y1 (Z4A w k true W n0 i0 i1 hr);clear h hI hn hst hg h5 hs hr hy;go_enter Tryd.func53,Tryd.ntmps53
   go_wp2_with fail
   refine HC.out.mono ?_;rintro e W2 ⟨rfl,hb2⟩;have HB2:=Y1 hb2;clear hb2 HC;go_wp2;go_ret;exact ⟨rfl,HB2.out⟩
  | some q=>
   obtain ⟨g',off',qy,rfl,hg',h5',hs'⟩:=hy;have hst:Grd.hstep (Grd.al w k) (Grd.hold w f) (nm,some p,some q)=Grd.hold w f p q:=rfl;rw[hst];obtain ⟨x0,x1,x2,x3,x4⟩:=h5;obtain ⟨y0,y1,y2,y3,y4⟩:=h5';have hu:Upd (fun _=>False) W W.drew:=(Upd.refl _ W).drew;have HC:=Y1 (hI p q qx qy n0 i0 i1 W.drew (h p q rfl rfl) (Z0f hs hn hu (fun _ _ h=>h)) (Z0f hs' hn hu (fun _ _ h=>h)) hn (hr.upd hn hu (fun _ _ h=>h)));have HZ:Hid (Below W.heap.size W W.drew):=Y1 (Below.refl _ W).drew;unfold sv at HC;clear h hI hn hst hg hg' hs hs' hu hr ca;go_enter Tryd.func53,Tryd.ntmps53
   go_wp2_with fail
   go_still_tail 7,(by kernel_rfl)
   change wpList _ _ _ _ _ W.drew
   go_wp2_with fail
   refine HC.out.mono ?_;rintro e W2 ⟨rfl,hb2⟩;have HB2:=Y1 (Z00 HZ.out hb2);clear hb2 HC;go_wp2;go_ret;exact ⟨rfl,HB2.out⟩
theorem Z8d (hI:HoldOk w f) (n0 i0 i1 gr:Nat) (p q:Sh) (x y:Ptr) (l:Bool) (W:World) (h:Two f p q) (hn:n0<=W.heap.size) (hx:ShAt W n0 x p) (hy:ShAt W n0 y q) (hr:Rl w W n0 i0 i1)
 (cr:W.cell? ⟨gr,0,none⟩=some (fv i0 i1)) (gl:gr < W.heap.size):
 Calls Tryd.prog 54 (sv p x::sv q y:: .bool l:: .pointer (some ⟨gr,0,none⟩):: []).toArray W fun e W'=>e= .returned (.bool (if l=true then Grd.hold w f p q else Grd.hold w f q p))/\Below W.heap.size W W':=by
 have hb1:=Z01 W (.cells (Y8 p x) 25);obtain ⟨w1,hw1⟩: ∃w1,w1=W.alloc (.cells (Y8 p x) 25):=⟨_,rfl⟩;have hb2:=Z01 w1 (.cells (Y8 q y) 25);obtain ⟨w2,hw2⟩: ∃w2,w2=w1.alloc (.cells (Y8 q y) 25):=⟨_,rfl⟩;have hs1:w1.heap.size=W.heap.size+1:=by rw[hw1]; simp
 rw[<-hw1] at hb1;rw[<-hw2] at hb2;have hB1:Box5 w1 W.heap.size p x:=by rw[hw1]; exact Z02 W p x
 have hB2:Box5 w2 w1.heap.size q y:=by rw[hw2]; exact Z02 w1 q y
 have hBA:=hB1.next hb2;rw[hs1] at hB2;have hbw:=Z00 hb1 hb2;have hu:Upd (fun _=>False) W w2:=Upd.new hbw;have hx2:=Z0f hx hn hu (fun _ _ h=>h);have hy2:=Z0f hy hn hu (fun _ _ h=>h);have hn2:n0<=w2.heap.size:=by have:=hu.size; omega
 have hr2:=hr.upd hn hu (fun _ _ h=>h);have HA:=Y1 (hI p q x y n0 i0 i1 w2 h hx2 hy2 hn2 hr2);have HB:=Y1 (hI q p y x n0 i0 i1 w2 h.swap hy2 hx2 hn2 hr2);have cr2:w2.cell? ⟨gr,0,none⟩=some (fv i0 i1):=(hbw.cell (p:=⟨gr,0,none⟩) gl).trans cr;have HW:=Y1 hbw;obtain ⟨_,⟨a0,a1,a2,a3,a4⟩,_⟩:=hBA;obtain ⟨_,⟨b0,b1,b2,b3,b4⟩,_⟩:=hB2;simp only[Nat.zero_add] at a0 a1 a2 a3 a4 b0 b1 b2 b3 b4;have hw1':=hw1.symm;have hw2':=hw2.symm;clear hw1 hw2 hb1 hb2 hB1 hu hx2 hy2 hx hy hn h hI hr hr2 hbw cr;unfold sv at HA HB ⊢;cases l with
 | true=>
  go_enter Tryd.func54,Tryd.ntmps54
  go_wp2_with fail
  refine HA.out.mono ?_;rintro e W3 ⟨rfl,hb3⟩;have HB3:=Y1 (Z00 HW.out hb3);clear hb3 a0 a1 a2 a3 a4 b0 b1 b2 b3 b4 HA HB cr2;go_wp2;go_ret;exact ⟨rfl,HB3.out⟩
 | false=>
  go_enter Tryd.func54,Tryd.ntmps54
  go_wp2_with fail
  refine HB.out.mono ?_;rintro e W3 ⟨rfl,hb3⟩;have HB3:=Y1 (Z00 HW.out hb3);clear hb3 a0 a1 a2 a3 a4 b0 b1 b2 b3 b4 HA HB cr2;go_wp2;go_ret;exact ⟨rfl,HB3.out⟩
end
theorem Z9d (w:Bool) (f:Nat):HoldOk w f:=by
 induction f with
 | zero=>intro a b pa pb n0 i0 i1 W h; have:=h.da; rw[Z0d] at this; omega
 | succ f hI=>
  intro a b pa pb n0 i0 i1 W h ha hb hn hr;have hbr:=Z01 W (.cells #[fv i0 i1] 37);obtain ⟨w0,hw0⟩: ∃w0,w0=W.alloc (.cells #[fv i0 i1] 37):=⟨_,rfl⟩;have cr0:w0.cell? ⟨W.heap.size,0,none⟩=some (fv i0 i1):=by rw[hw0]; simp[go_sem]
  have hs0:w0.heap.size=W.heap.size+1:=by rw[hw0]; simp
  rw[<-hw0] at hbr;have hb1:=Z01 w0 (.cells (Y8 a pa) 25);obtain ⟨w1,hw1⟩: ∃w1,w1=w0.alloc (.cells (Y8 a pa) 25):=⟨_,rfl⟩;have hb2:=Z01 w1 (.cells (Y8 b pb) 25);obtain ⟨w2,hw2⟩: ∃w2,w2=w1.alloc (.cells (Y8 b pb) 25):=⟨_,rfl⟩;have hs1:w1.heap.size=W.heap.size+2:=by rw[hw1]; simp[hs0]
  rw[<-hw1] at hb1;rw[<-hw2] at hb2;have hB1:Box5 w1 w0.heap.size a pa:=by rw[hw1]; exact Z02 w0 a pa
  have hB2:Box5 w2 w1.heap.size b pb:=by rw[hw2]; exact Z02 w1 b pb
  have hBA:=hB1.next hb2;rw[hs0] at hBA;rw[hs1] at hB2;have hbw:=Z00 hbr (Z00 hb1 hb2);have cr2:w2.cell? ⟨W.heap.size,0,none⟩=some (fv i0 i1):=((Z00 hb1 hb2).cell (p:=⟨W.heap.size,0,none⟩) (by rw[hs0]; exact Nat.lt_succ_self _)).trans cr0;have hu:Upd (fun _=>False) W w2:=Upd.new hbw;have HA:=Y1 (Z0f ha hn hu (fun _ _ h=>h));have HB:=Y1 (Z0f hb hn hu (fun _ _ h=>h));have HN:Hid (n0<=w2.heap.size):=Y1 (by have:=hu.size; omega);have HRL:=Y1 (hr.upd hn hu (fun _ _ h=>h));have HW:=Y1 hbw;have H2:=Y1 h;have HI:=Y1 hI;have HCR:=Y1 cr2;have HBA:=Y1 hBA;have hz2:w2.heap.size=W.heap.size+3:=by rw[hw2]; simp[hs1]
  have HZ2:=Y1 hz2;obtain ⟨_,⟨a0,a1,a2,a3,a4⟩,_⟩:=hBA;obtain ⟨_,⟨b0,b1,b2,b3,b4⟩,_⟩:=hB2;simp only[Nat.zero_add] at a0 a1 a2 a3 a4 b0 b1 b2 b3 b4;have hw0':=hw0.symm;have hw1':=hw1.symm;have hw2':=hw2.symm;have hwz:W.heap.size<=w2.heap.size:=hbw.size
  -- what the closures keep: all that lay there ahead
  have keepN: ∀(ok:Bool) (done:List Cl) W1 W',Below w2.heap.size w2 W1->Upd (fun x=>w2.heap.size<=x/\x < w2.heap.size+3) W1 W'->Below w2.heap.size w2 W':=fun _ _ W1 W' h1 h2=>h1.trans (h2.below h1.size (fun x hx=>by omega));have keepP: ∀(ok:Bool) (k:Nat) W1 W',Below w2.heap.size w2 W1->Upd (fun x=>w2.heap.size<=x/\x < w2.heap.size+2) W1 W'->Below w2.heap.size w2 W':=fun _ _ W1 W' h1 h2=>h1.trans (h2.below h1.size (fun x hx=>by omega));have HKN:=Y1 keepN;have HKP:=Y1 keepP;clear hw0 hw1 hw2 hbr hb1 hb2 hB1 hu ha hb hn h hI hbw keepN keepP hr cr0 hz2;unfold sv;by_cases h4:a.kind=4
  {have HR:Hid (Grd.hold w (f+1) a b=true):=Y1 (by unfold Grd.hold; rw[if_pos (Or.inl h4)]);have m4:=Y4 4 h4 rfl;rw[HR.out];clear h4 cr2;go_enter Tryd.func35,Tryd.ntmps35;go_wp2;go_ret;exact ⟨rfl,HW.out⟩}
  have m4: (a.kind==4)=false:=by simpa using h4
  by_cases h4b:b.kind=4
  {have HR:Hid (Grd.hold w (f+1) a b=true):=Y1 (by unfold Grd.hold; rw[if_pos (Or.inr h4b)]);have m4b:=Y4 4 h4b rfl;rw[HR.out];clear h4 h4b cr2;go_enter Tryd.func35,Tryd.ntmps35;go_wp2;go_ret;exact ⟨rfl,HW.out⟩}
  have m4b: (b.kind==4)=false:=by simpa using h4b
  have hor: ¬(a.kind=4\/b.kind=4):=fun h=>h.elim h4 h4b;by_cases hk:a.kind=b.kind
  {have m0: (a.kind !=b.kind)=false:=by rw[hk]; simp
   by_cases h67:a.kind=6\/a.kind=7
   {have HR:Hid (Grd.hold w (f+1) a b=(calls a b).all (Grd.hstep (Grd.al w a.kind) (Grd.hold w f))):=Y1 (by conv=>lhs; unfold Grd.hold; rw[if_neg hor,if_neg (fun h=>h hk),if_pos h67]);have HRa:=Y1 (Z0s (Z08 H2.out.ra) h67);have HRb:=Y1 (Z0s (Z08 H2.out.rb) (hk▸h67));have hT:Takes n0 w2.heap.size a b 53 [.pointer (some ⟨W.heap.size,0,none⟩),.pointer (some ⟨W.heap.size+1,0,none⟩)] (Grd.hstep (Grd.al w a.kind) (Grd.hold w f)) (fun _ _ W1=>Below w2.heap.size w2 W1):=by
     refine ⟨HKN.out,fun done c rest W1 x y hcut hsz hK hx hy=> ?_⟩;obtain ⟨nm,o1,o2⟩:=c;have hm: (nm,o1,o2)∈calls a b:=by rw[hcut]; simp
     obtain ⟨e1,e2,_⟩:=(Z0c HRa.out HRb.out).1 hm;have hcr:W1.cell? ⟨W.heap.size,0,none⟩=some (fv i0 i1):=(hK.cell (p:=⟨W.heap.size,0,none⟩) (by show W.heap.size < w2.heap.size; rw[HZ2.out]; omega)).trans HCR.out;have hca:W1.cell? ⟨W.heap.size+1,0,none⟩=some (.int .i64 a.kind):=(hK.cell (p:=⟨W.heap.size+1,0,none⟩) (by show W.heap.size+1 < w2.heap.size; rw[HZ2.out]; omega)).trans (by
      obtain ⟨_,⟨a0,_⟩,_⟩:=HBA.out;simpa using a0)
     have hrl:Rl w W1 n0 i0 i1:=HRL.out.upd (S:=fun _=>False) HN.out (Upd.new hK) (fun _ _ h=>h);refine (Z8c HI.out a.kind n0 i0 i1 _ _ nm o1 o2 x y W1 (fun p q hp hq=> ?_) (by have:=HN.out; omega) hx hy hrl hcr hca).mono ?_
     {rw[e1] at hp; rw[e2] at hq;exact H2.out.part (Z06 hp) (Z06 hq)}
     {rintro e W' ⟨rfl,hb⟩;exact ⟨rfl,hK.trans (hb.mono hK.size),Upd.new hb⟩}
    have HE:=Y1 (Z1t a b pa pb n0 w2 HRa.out HRb.out HA.out HB.out HN.out (by have:=H2.out.la; rw[<-HRa.out.l] at this; exact this) (by have:=H2.out.swap.la; rw[<-HRb.out.l] at this; exact this) 53 (enters_of Tryd.func53 (by kernel_rfl) rfl) [.pointer (some ⟨W.heap.size,0,none⟩),.pointer (some ⟨W.heap.size+1,0,none⟩)] _ _ hT Y2);unfold sv at HE;rw[HR.out];clear hT hk hor h4 h4b;rcases h67 with h6 | h6
    {have m6: (a.kind==6)=true:=by rw[h6]; rfl
     clear h6;go_enter Tryd.func35,Tryd.ntmps35
     go_wp2_with fail
     refine HE.out.mono ?_;rintro e W3 ⟨rfl,⟨_,hK,_⟩,_⟩;have HK:=Y1 (HW.out.trans (hK.mono HW.out.size));clear hK HE a0 a1 a2 a3 a4 b0 b1 b2 b3 b4 cr2;go_wp2;go_ret;exact ⟨rfl,HK.out⟩}
    {have m6: (a.kind==6)=false:=by rw[h6]; rfl
     have m7:=Y4 7 h6 rfl;clear h6;go_enter Tryd.func35,Tryd.ntmps35
     go_wp2_with fail
     refine HE.out.mono ?_;rintro e W3 ⟨rfl,⟨_,hK,_⟩,_⟩;have HK:=Y1 (HW.out.trans (hK.mono HW.out.size));clear hK HE a0 a1 a2 a3 a4 b0 b1 b2 b3 b4 cr2;go_wp2;go_ret;exact ⟨rfl,HK.out⟩}}
   {have m6: (a.kind==6)=false:=by simpa using fun h=>h67 (Or.inl h)
    have m7: (a.kind==7)=false:=by simpa using fun h=>h67 (Or.inr h)
    have HR:Hid (Grd.hold w (f+1) a b=(headEq a b&&(List.range a.parts.length).all (placeStep (Grd.hold w f) a b))):=Y1 (by rw[Z3h]; conv=>lhs; unfold Grd.hold; rw[if_neg hor,if_neg (fun h=>h hk),if_neg h67]);have hT:TakesP n0 w2.heap.size a b 54 [.pointer (some ⟨W.heap.size,0,none⟩)] (placeStep (Grd.hold w f) a b) (fun _ _ W1=>Below w2.heap.size w2 W1):=by
     refine ⟨HKP.out,fun k hk hk2 W1 x y hsz hK hx hy=> ?_⟩;have hcr:W1.cell? ⟨W.heap.size,0,none⟩=some (fv i0 i1):=(hK.cell (p:=⟨W.heap.size,0,none⟩) (by show W.heap.size < w2.heap.size; rw[HZ2.out]; omega)).trans HCR.out;have hrl:Rl w W1 n0 i0 i1:=HRL.out.upd (S:=fun _=>False) HN.out (Upd.new hK) (fun _ _ h=>h);refine (Z8d HI.out n0 i0 i1 _ _ _ x y _ W1 (H2.out.part (List.getElem_mem _) (List.getElem_mem _)) (by have:=HN.out; omega) hx hy hrl hcr (by have:=HZ2.out; omega)).mono ?_;rintro e W' ⟨rfl,hb⟩;refine ⟨?_,hK.trans (hb.mono hK.size),Upd.new hb⟩;unfold placeStep;rw[List.getElem?_eq_getElem hk,List.getElem?_eq_getElem hk2];simp only[decide_eq_true_eq]
    have HE:=Y1 (Z1O a b pa pb n0 w2 HA.out HB.out HN.out H2.out.la 54 (enters_of Tryd.func54 (by kernel_rfl) rfl) [.pointer (some ⟨W.heap.size,0,none⟩)] _ _ hT Y2);unfold sv at HE;rw[HR.out];clear hT hk hor h4 h4b h67;go_enter Tryd.func35,Tryd.ntmps35
    go_wp2_with fail
    refine HE.out.mono ?_;rintro e W3 ⟨rfl,⟨_,hK,_⟩,_⟩;have HK:=Y1 (HW.out.trans (hK.mono HW.out.size));clear hK HE a0 a1 a2 a3 a4 b0 b1 b2 b3 b4 cr2;go_wp2;go_ret;exact ⟨rfl,HK.out⟩}}
  {have m0: (a.kind !=b.kind)=true:=by simpa using hk
   have HR:Hid (Grd.hold w (f+1) a b=false):=Y1 (by unfold Grd.hold; rw[if_neg hor,if_pos hk]);rw[HR.out];clear hk hor h4 h4b cr2;go_enter Tryd.func35,Tryd.ntmps35;go_wp2;go_ret;exact ⟨rfl,HW.out⟩}
end SubM
end Go.Proofs.YtkhoflciahkphaaDoor
namespace Go.Proofs.YtkhoflciahkphaaDoor
section
open Go.RowKit Shp Go.Sort
structure Swi (w wi:World) (ps:List Sh) (qs:Nat->Ptr) (Fs Fs':Nat->List Nat) (i:Nat):Prop where
 up:UpF ((List.range ps.length).flatMap Fs) w wi
 pm: ∀j,j < ps.length->(Fs' j).Perm (Fs j)
 lo: ∀j (h:j < ps.length),j < i->Own wi (qs j) (sorted (ps[j]'h)) (Fs' j)
 hi: ∀j (h:j < ps.length),i<=j->Own wi (qs j) (ps[j]'h) (Fs' j)
theorem Swi.start {w wi:World} {ps:List Sh} {qs:Nat->Ptr} {Fs:Nat->List Nat} (hr: ∀j (h:j < ps.length),Own w (qs j) (ps[j]'h) (Fs j)) (hb:Below w.heap.size w wi):Swi w wi ps qs Fs Fs 0:=
 ⟨(UpF.refl _ _).below hb,fun j _=>List.Perm.refl _,fun j _ h=>absurd h (by omega),fun j h _=>Z1B (hr j h) hb⟩
theorem Swi.below {w wi w2:World} {ps:List Sh} {qs:Nat->Ptr} {Fs Fs':Nat->List Nat} {i:Nat} (h:Swi w wi ps qs Fs Fs' i) (hb:Below wi.heap.size wi w2):Swi w w2 ps qs Fs Fs' i:=
 ⟨h.up.below hb,h.pm,fun j hj hl=>Z1B (h.lo j hj hl) hb,fun j hj hl=>Z1B (h.hi j hj hl) hb⟩
theorem Swi.step {w wi w2:World} {ps:List Sh} {qs:Nat->Ptr} {Fs Fs':Nat->List Nat} {i:Nat} {F':List Nat} (h:Swi w wi ps qs Fs Fs' i) (hi:i < ps.length)
 (hdis: ∀i j,i < ps.length->j < ps.length->i≠j-> ∀b∈Fs i,b∉Fs j) (hu:UpF (Fs' i) wi w2) (hp:F'.Perm (Fs' i)) (ho:Own w2 (qs i) (sorted (ps[i]'hi)) F'): ∃Fs2,Swi w w2 ps qs Fs Fs2 (i+1):=by
 have hfar: ∀j,j < ps.length->j≠i-> ∀b∈Fs' j,b∉Fs' i:=fun j hj hne b hb hb2=>
  hdis j i hj hi hne b ((h.pm j hj).mem_iff.1 hb) ((h.pm i hi).mem_iff.1 hb2)
 refine ⟨fun j=>if j=i then F' else Fs' j,h.up.next hu (fun x hx=>List.mem_flatMap.2 ⟨i,List.mem_range.2 hi,(h.pm i hi).mem_iff.1 hx⟩),fun j hj=> ?_,fun j hj hl=> ?_,fun j hj hl=> ?_⟩
 {by_cases e:j=i
  {subst e; simp only[if_true]; exact hp.trans (h.pm j hj)}
  {simp only[if_neg e]; exact h.pm j hj}}
 {by_cases e:j=i
  {subst e; simp only[if_true]; exact ho}
  {simp only[if_neg e];have ho2:=h.lo j hj (by omega);exact ho2.of (fun b hb=>hu.same (ho2.lt b hb) (hfar j hj e b hb)) hu.size}}
 {have e:j≠i:=by omega
  simp only[if_neg e];have ho2:=h.hi j hj (by omega);exact ho2.of (fun b hb=>hu.same (ho2.lt b hb) (hfar j hj e b hb)) hu.size}
def half (t:Sh):Sh:=⟨t.kind,t.of_,t.name,t.names,t.parts.map sorted⟩
theorem Z4B {t:Sh} {q:Ptr} (h:Small t q):Small (half t) q:=by
 obtain ⟨h1,h2,h3,h4,h5,h6,h7,h8,h9⟩:=h;exact ⟨h1,h2,h3,h4,by simpa[half] using h5,h6,by simpa[half] using h7,h8,h9⟩
theorem Swi.halfs {w wi:World} {t:Sh} {qs:Nat->Ptr} {Fs Fs':Nat->List Nat} (h:Swi w wi t.parts qs Fs Fs' t.parts.length): ∀i (hi:i < (half t).parts.length),Own wi (qs i) ((half t).parts[i]'hi) (Fs' i):=fun i hi=>by
 have hi2:i < t.parts.length:=by simpa[half] using hi
 have:=h.lo i hi2 hi2;simpa[half] using this
theorem Z56 {n:Nat} {Fs Fs':Nat->List Nat} (h: ∀j,j < n->(Fs' j).Perm (Fs j)): ((List.range n).flatMap Fs').Perm ((List.range n).flatMap Fs):=by
 induction n with
 | zero=>exact List.Perm.refl _
 | succ n ih=>
  rw[List.range_succ,List.flatMap_append,List.flatMap_append];refine (ih fun j hj=>h j (by omega)).append ?_;simpa using h n (by omega)
theorem Z9e {w wi w2:World} {t:Sh} {q:Ptr} {FN FP:List Nat} {qs:Nat->Ptr} {Fs Fs':Nat->List Nat} (hr:right t=true) (hs:Small t q) (h0:t.names.length=0)
 (hn:t.names.length=0/\FN= []\/ ∃b,q.A=some ⟨b,0,none⟩/\FN= [b]/\TxR w b t.names) (hp:t.parts.length=0/\FP= []\/ ∃b,q.P=some ⟨b,0,none⟩/\FP= [b]/\PaR w b t.parts qs)
 (hnd: (FN++FP++(List.range t.parts.length).flatMap Fs).Nodup) (h:Swi w wi t.parts qs Fs Fs' t.parts.length) (hb:Below wi.heap.size wi w2):
 UpF (FN++FP++(List.range t.parts.length).flatMap Fs) w w2/\ ∃F',F'.Perm (FN++FP++(List.range t.parts.length).flatMap Fs)/\Own w2 q (sorted t) F':=by
 have h2:=h.below hb;obtain ⟨n1,n2,n3,_,_⟩:=Z2B hnd;have hU:UpF (FN++FP++(List.range t.parts.length).flatMap Fs) w w2:=(UpF.refl _ w).next h2.up (fun x hx=>List.mem_append_right _ hx);have hnil:t.names= []:=List.eq_nil_of_length_eq_zero h0;have hso:sorted t=half t:=by rw[Z0k,if_pos hnil]; unfold half; rw[hnil]
 have hin: ∀b∈FP,b∉(List.range t.parts.length).flatMap Fs:=fun b hb hb2=>by
  obtain ⟨j,hj,hb2⟩:=List.mem_flatMap.1 hb2;exact n3 b hb j (List.mem_range.1 hj) hb2
 have hin2: ∀b∈FN,b∉(List.range t.parts.length).flatMap Fs:=fun b hb hb2=>by
  obtain ⟨j,hj,hb2⟩:=List.mem_flatMap.1 hb2;exact n2 b hb j (List.mem_range.1 hj) hb2
 refine ⟨hU,FN++FP++(List.range t.parts.length).flatMap Fs',(Z56 h2.pm).append_left _, ?_⟩;rw[hso];refine .mk q _ _ FN FP qs Fs' (Z4B hs) ?_ ?_ (Swi.halfs h2) (by simp[half])
 {rcases hn with h | ⟨b,h1,rfl,h3⟩
  {exact Or.inl h}
  {exact Or.inr ⟨b,h1,rfl,h3.of (h2.up.same h3.lt (hin2 b (by simp))) h2.up.size⟩}}
 {rcases hp with h | ⟨b,h1,rfl,h3⟩
  {exact Or.inl (by simpa[half] using h)}
  {refine Or.inr ⟨b,h1,rfl,Nat.lt_of_lt_of_le h3.lt h2.up.size,fun i hi=> ?_,fun k=>((h2.up.same h3.lt (hin b (by simp))).2 k).trans (h3.fz k)⟩;have hi2:i < t.parts.length:=by simpa[half] using hi
   have hm:t.parts[i]∈t.parts:=List.getElem_mem hi2;have:=Z4u (Z04 hr hm) ((h3.at_ i hi2).of (h2.up.same h3.lt (hin b (by simp))).1);simpa[half] using this}}
theorem Z9f {t:Sh} (hl:t.names.length=t.parts.length) (qs:Nat->Ptr) (Fs:Nat->List Nat): (els t qs Fs).toList.map (fun x=>((x.n,x.t):Fld))=t.names.zip t.parts:=by
 apply List.ext_getElem
 {simp[els,hl]}
 {intro i h1 h2;have h3:i < t.names.length:=by simpa[els] using h1
  have h4:i < t.parts.length:=by omega
  simp[els,h3,h4]}
theorem Z9g {w wi:World} {t:Sh} {q:Ptr} {FN FP:List Nat} {qs:Nat->Ptr} {Fs Fs':Nat->List Nat} (hr:right t=true) (hs:Small t q) (h0:t.names.length≠0)
 (hn:t.names.length=0/\FN= []\/ ∃b,q.A=some ⟨b,0,none⟩/\FN= [b]/\TxR w b t.names) (hp:t.parts.length=0/\FP= []\/ ∃b,q.P=some ⟨b,0,none⟩/\FP= [b]/\PaR w b t.parts qs)
 (hnd: (FN++FP++(List.range t.parts.length).flatMap Fs).Nodup) (h:Swi w wi t.parts qs Fs Fs' t.parts.length):
 ∃bn bp,q.A=some ⟨bn,0,none⟩/\q.P=some ⟨bp,0,none⟩/\(half t).names.length=(half t).parts.length/\TxR wi bn (half t).names/\PaR wi bp (half t).parts qs/\bn≠bp/\
  ∀(d':Array El) (w2:World),PermIn 0 (half t).names.length (els (half t) qs Fs') d'->SortedIn ltEl 0 (half t).names.length d'->FSt wi bn bp (half t).names.length d' w2->
   UpF (FN++FP++(List.range t.parts.length).flatMap Fs) w w2/\ ∃F',F'.Perm (FN++FP++(List.range t.parts.length).flatMap Fs)/\Own w2 q (sorted t) F':=by
 obtain ⟨hl,hnn⟩:=(Z28 hr).resolve_left (fun e=>h0 (by rw[e]; rfl));rcases hn with ⟨hn,_⟩ | ⟨bn,hA,rfl,hT⟩
 {omega}
 rcases hp with ⟨hp,_⟩ | ⟨bp,hP,rfl,hPa⟩
 {omega}
 obtain ⟨n1,n2,n3,_,_⟩:=Z2B hnd;have hbnp:bn≠bp:=fun e=>n1 bn (by simp) (by simp[e]);have hinP:bp∉(List.range t.parts.length).flatMap Fs:=fun hb2=>by
  obtain ⟨j,hj,hb2⟩:=List.mem_flatMap.1 hb2;exact n3 bp (by simp) j (List.mem_range.1 hj) hb2
 have hinN:bn∉(List.range t.parts.length).flatMap Fs:=fun hb2=>by
  obtain ⟨j,hj,hb2⟩:=List.mem_flatMap.1 hb2;exact n2 bn (by simp) j (List.mem_range.1 hj) hb2
 have hlh: (half t).names.length=(half t).parts.length:=by simpa[half] using hl
 refine ⟨bn,bp,hA,hP,hlh,hT.of (h.up.same hT.lt hinN) h.up.size,⟨Nat.lt_of_lt_of_le hPa.lt h.up.size,fun i hi=> ?_,fun k=>((h.up.same hPa.lt hinP).2 k).trans (hPa.fz k)⟩,hbnp, ?_⟩
 {have hi2:i < t.parts.length:=by simpa[half] using hi
  have hm:t.parts[i]∈t.parts:=List.getElem_mem hi2;have:=Z4u (Z04 hr hm) ((hPa.at_ i hi2).of (h.up.same hPa.lt hinP).1);simpa[half] using this}
 {intro d' w2 hpm hso hf;have hpl:=Z7U hpm (Z35 _ _ _);have hown: ∀i (hi:i < (half t).parts.length),Own w2 (qs i) ((half t).parts[i]'hi) (Fs' i):=fun i hi=>by
   have hi2:i < t.parts.length:=by simpa[half] using hi
   have ho:=h.halfs i hi;refine ho.of (fun b hb=> ?_) hf.up.size;have hbF:b∈Fs i:=(h.pm i hi2).mem_iff.1 hb;have hb1:b≠bn:=fun e=>n2 bn (by simp) i hi2 (e▸hbF);have hb2:b≠bp:=fun e=>n3 bp (by simp) i hi2 (e▸hbF);have hbl:=hf.up.block b (ho.lt b hb) hb1 hb2;exact ⟨fun k=>World.cell?_of_block (w:=wi) hbl,fun k=>World.frozen?_of_block (w:=wi) hbl⟩
  obtain ⟨o1,o2⟩:=Z9O (N:=(half t).names.length) hA hP (Z4B hs) rfl hlh.symm hf hpl hown;have hsorted:sorted t=⟨(half t).kind,(half t).of_,(half t).name,d'.toList.map El.n,d'.toList.map El.t⟩:=by
   have hfst: (t.names.zip (t.parts.map sorted)).map Prod.fst=t.names:=List.map_fst_zip (by rw[List.length_map,hl]; exact Nat.le_refl _);have hu: (d'.toList.map fun x=>((x.n,x.t):Fld))=sortF (t.names.zip (t.parts.map sorted)):=by
    refine Z1F ?_ (Z5I hso hf.size) (by rw[hfst]; exact hnn);have:=hpl.map (fun x=>((x.n,x.t):Fld))
    rwa [Z9f hlh] at this
   rw[Z0k,if_neg (fun e=>h0 (by rw[e]; rfl)), <-hu];simp[half,List.map_map,Function.comp_def]
  refine ⟨?_,_, ?_,by rw[hsorted]; exact o1⟩
  {have hU1:UpF ([bn]++ [bp]++(List.range t.parts.length).flatMap Fs) w wi:=(UpF.refl _ w).next h.up (fun x hx=>List.mem_append_right _ hx);exact hU1.next (hf.up.upF (F:= [bn]++ [bp]) (by simp) (by simp)) (fun x hx=>List.mem_append_left _ hx)}
  {refine o2.trans ?_;have:=(Z56 h.pm).append_left ([bn]++ [bp]);simpa[half] using this}}
theorem Box5.same {W W':World} {g:Nat} {t:Sh} {q:Ptr} (h:Box5 W g t q) (hs:Z0J W W' g) (hz:W.heap.size<=W'.heap.size):Box5 W' g t q:=by
 obtain ⟨h0,h1,f0,f1,f2,f3,f4⟩:=h;exact ⟨Nat.lt_of_lt_of_le h0 hz,h1.of hs.1,(hs.2 _).trans f0,(hs.2 _).trans f1,(hs.2 _).trans f2,(hs.2 _).trans f3,(hs.2 _).trans f4⟩
theorem Swi.box {w wi:World} {t:Sh} {q:Ptr} {qs:Nat->Ptr} {Fs Fs':Nat->List Nat} {i g:Nat} (h:Swi w wi t.parts qs Fs Fs' i) (hb:Box5 w g t q) (hg:g∉(List.range t.parts.length).flatMap Fs):Box5 wi g t q:=
 hb.same (h.up.same hb.1 hg) h.up.size
theorem Z4C (t:Sh): ∀(q:Ptr) (F:List Nat) (w:World),Own w q t F->F.Nodup->right t=true->size t<=400->
 Calls Tryd.prog 44 #[.agg (Y8 t q)] w
  fun e w'=>e= .returned (.tuple #[])/\UpF F w w'/\ ∃F',F'.Perm F/\Own w' q (sorted t) F':=by
 induction t using Sh.ind with
 | h t ih=>
 intro q F w hO hnd hr hz;have hb0:=Z01 w (.cells (Y8 t q) 25);have HB:=Y1 (Z02 w t q);have HM:=Y1 hO.small;have hlt:=hO.lt;obtain ⟨FN,FP,qs,Fs,hn,hp,hrr,rfl⟩:=(Z1B hO hb0).inv;obtain ⟨n1,n2,n3,n4,n5⟩:=Z2B hnd;have hg:w.heap.size∉(List.range t.parts.length).flatMap Fs:=fun hm=>by
  have:=hlt w.heap.size (List.mem_append_right _ hm);omega
 have HG:=Y1 hg;have HS0:=Y1 (Swi.start hrr Y2);have HN:=Y1 hn;have HP:=Y1 hp;have HND:=Y1 hnd;have HD:=Y1 n5;have HN4:=Y1 n4;have HN3:=Y1 n3;have HR:=Y1 hr;have HZ:Hid (size t=1+sizes t.parts):=Y1 (size_eq t);have HB0:=Y1 hb0;have hlen:=Z0O t.parts;have hpl:t.parts.length<=400:=by have:=HZ.out; omega
 clear hb0 hO hlt hn hp hrr hnd n1 n2 n3 n4 n5 hr hg hlen;go_enter Tryd.func44,Tryd.ntmps44
 go_wp2_with fail
 generalize w.alloc (.cells (Y8 t q) 25)=W0 at HB HS0 HN HP HB0 ⊢
 go_loopw [7] (fun ii wr=> ∃i:Nat,ii= .int .i64 i/\i<=t.parts.length/\Hid (∃Fs',Swi W0 wr t.parts qs Fs Fs' i)) (fun i _=>t.parts.length - (intOf i).toNat)
 case atStart=>exact ⟨0,rfl,Nat.zero_le _,Y1 ⟨_,HS0.out⟩⟩
 case round=>
  obtain ⟨i,rfl,hi,HSW⟩:=hrel;by_cases hlt:i < t.parts.length
  {obtain ⟨Fs',hsw⟩:=HSW.out;rcases HP.out with ⟨h0,_⟩ | ⟨bp,hqP,hFP,hPa⟩
   {omega}
   {obtain ⟨x,hx⟩: ∃x,x=t.parts[i]:=⟨_,rfl⟩;have hxr:right x=true:=by rw[hx]; exact Z04 HR.out (List.getElem_mem _)
    have hxz:size x<=400:=by
     have:=Z1z (List.getElem_mem hlt);have:=HZ.out;rw[hx]; omega
    have hinP:bp∉(List.range t.parts.length).flatMap Fs:=fun hb2=>by
     obtain ⟨j,hj,hb2⟩:=List.mem_flatMap.1 hb2;exact HN3.out bp (by rw[hFP]; simp) j (List.mem_range.1 hj) hb2
    obtain ⟨p0,p1,p2,p3,p4⟩:=(hPa.at_ i hlt).of (hsw.up.same hPa.lt hinP).1;have hbx:=Z01 wr (.cells (Y8 x (qs i)) 25);have hsw2:=hsw.below hbx;have hox:=hsw2.hi i hlt (Nat.le_refl _);rw[<-hx] at p0 p1 p2 p3 p4 hox;have IH:=Y1 (ih t.parts[i] (List.getElem_mem _) (qs i) (Fs' i) (wr.alloc (.cells (Y8 x (qs i)) 25)) (by rw[<-hx]; exact hox) (((hsw.pm i hlt).nodup_iff).2 (HN4.out i hlt)) (by rw[<-hx]; exact hxr) (by rw[<-hx]; exact hxz));rw[<-hx] at IH;have HX:=Y1 hx;have HSW2:=Y1 hsw2;clear hx hsw hsw2 hox hbx hinP hPa hFP hxr hxz ih HSW;have hi1: (i:Int) < (t.parts.length:Int):=by omega
    rw[hqP];clear hqP
    go_wp2_with fail
    refine IH.out.mono ?_;rintro e w2 ⟨rfl,hu,F',hF',ho'⟩;have HS3:Hid (∃Fs2,Swi W0 w2 t.parts qs Fs Fs2 (i+1)):=Y1 (HSW2.out.step hlt HD.out hu hF' (by rw[<-HX.out]; exact ho'));clear hu hF' ho' IH HSW2;go_wp2
    go_roundw
    case rel=>exact ⟨i+1,by go_num,by omega,HS3⟩
    case measure=>simp[intOf]; omega}}
  {obtain ⟨Fs',hsw⟩:=HSW.out;have hie:i=t.parts.length:=by omega
   subst hie;have hi1: ¬(t.parts.length:Int) < (t.parts.length:Int):=by omega
   obtain ⟨_,⟨b0,b1,b2,b3,b4⟩,_⟩:=hsw.box HB.out HG.out;have HSW3:=Y1 hsw;clear hsw HSW hlt
   go_wp2_with fail
   by_cases h0:t.names.length=0
   {refine (Z6K t q wr h0).mono ?_;rintro e w2 ⟨rfl,hb2⟩;obtain ⟨r1,r2⟩:=Z9e HR.out HM.out h0 HN.out HP.out HND.out HSW3.out hb2;have HR1:=Y1 (((UpF.refl _ w).below HB0.out).next r1 (fun x hx=>hx));have HR2:=Y1 r2;clear r1 r2 hb2 HSW3;go_wp2
    go_end0
    exact ⟨rfl,HR1.out,HR2.out⟩}
   {obtain ⟨bn,bp,hA,hP,hl,hT,hPa,hne,hall⟩:=Z9g HR.out HM.out h0 HN.out HP.out HND.out HSW3.out;have hw:=Z7T (half t) q qs Fs' bn bp wr hA hP hl (by
     have: (half t).parts.length=t.parts.length:=by simp[half]
     omega) hT hPa hne
    have hkk: (half t).parts.length=t.parts.length:=by simp[half]
    have e1: (half t).kind=t.kind:=rfl;have e2: (half t).of_=t.of_:=rfl;have e3: (half t).name=t.name:=rfl;have e4: (half t).names.length=t.names.length:=rfl;rw[hkk,e1,e2,e3,e4] at hw;refine hw.mono ?_;rintro e w2 ⟨rfl,d',hpm,hso,hf⟩;obtain ⟨r1,r2⟩:=hall d' w2 hpm hso hf;have HR1:=Y1 (((UpF.refl _ w).below HB0.out).next r1 (fun x hx=>hx));have HR2:=Y1 r2;clear r1 r2 hpm hso hf hw hall HSW3 hA hP hl hT hPa hne hkk e1 e2 e3 e4;go_wp2
    go_end0
    exact ⟨rfl,HR1.out,HR2.out⟩}}
end
section
open Go.RowKit
def wordsC:Array Value:=#[.string ⟨#[]⟩,.string ⟨#[73,110,116]⟩,.string ⟨#[66,111,111,108]⟩,.string ⟨#[84,101,120,116]⟩,.string ⟨#[65,110,121]⟩]
theorem Z4a:Tryd.prog.globalNamed "pandect/shape.words" =some 0:=by kernel_rfl
def WGlobs (w:World):Prop:=w.var? Tryd.prog "pandect/shape.words" =some wordsC
theorem WGlobs.cell {w:World} (h:WGlobs w) (i:Nat):w.cell? ⟨0,i,none⟩=wordsC[i]? :=World.var?_cell Z4a h i
theorem WGlobs.lt {w:World} (h:WGlobs w):0 < w.heap.size:=Z31 ((WGlobs.cell h 0).trans (by rfl:wordsC[0]? =some (.string ⟨#[]⟩)))
theorem WGlobs.next {w w':World} (h:WGlobs w) (hb:Below w.heap.size w w'):WGlobs w':=var?_below hb Z4a (WGlobs.lt h) h
theorem Z3i {P:Program} {w:World}: ∀ {l:List (String×DataW Unit)} {ps:List MemPlace},DataW.LaidVars P w l ps-> ∀x∈l,
 ∃g t cs fuel p,P.globalNamed x.1=some g/\(P.globals[g]?).map (·.type)=some t/\w.var? P x.1=some cs/\DataW.trod (fun _=>()) P w 0 (fun _=>true) false fuel t cs.toList=some (x.2,p)
 | [],_,_,x,hx=>by simp at hx
 | (n,d)::r,ps,h,x,hx=>by
  obtain ⟨g,t,cs,fuel,p,q,h1,h2,h3,h4,h5,_⟩:=h;rcases List.mem_cons.1 hx with rfl | hx
  {exact ⟨g,t,cs,fuel,p,h1,h2,h3,h4⟩}
  {exact Z3i h5 x hx}
theorem Z22 {L:List (String×DataW Unit)} {W:World} (h:laidMet Tryd.prog L W) (m4: ("pandect/shape.words",Rows.laid_pandect_shape_words)∈L):WGlobs W:=by
 unfold WGlobs;obtain ⟨ps,hv,_,_⟩:=h;obtain ⟨g1,t1,cs,f1,p1,a1,b1,c1,d1⟩:=Z3i hv _ m4;obtain rfl:=Option.some.inj (Z4a.symm.trans a1);have ht: (Tryd.prog.globals[0]?).map (·.type)=some 104:=by kernel_rfl
 obtain rfl:=Option.some.inj (ht.symm.trans b1);rw[c1];congr 1;have hc1:Tryd.prog.cellsOf 9=1:=by kernel_rfl
 obtain ⟨xs,m,_,hx,hsz,hl,he⟩:=DataW.trod_array Tryd.underlying104 d1;rw[hc1] at he;have hc6:Tryd.prog.cellsOf 104=5:=by kernel_rfl
 rw[hc6] at hsz;have hx1:=(Prod.mk.inj hx).1;apply Array.ext'
 match xs,hl,hx1 with
 | [y0,y1,y2,y3,y4],_,hx1=>
  obtain ⟨L,hL⟩: ∃L,L=cs.toList:=⟨_,rfl⟩;rw[<-hL] at hsz he ⊢;clear hL
  match L,hsz with
  | [k0,k1,k2,k3,k4],_=>
   have e0:=he 0 (by omega);have e1:=he 1 (by omega);have e2:=he 2 (by omega);have e3:=he 3 (by omega);have e4:=he 4 (by omega);simp only[List.getElem?_cons_zero,List.getElem?_cons_succ,Nat.mul_one,List.drop_zero,List.drop_succ_cons,List.take_succ_cons,List.take_zero] at e0 e1 e2 e3 e4;obtain ⟨x0,h0,rfl,_⟩:=DataW.trod_string Tryd.underlying9 e0;obtain ⟨x1,h1,rfl,_⟩:=DataW.trod_string Tryd.underlying9 e1;obtain ⟨x2,h2,rfl,_⟩:=DataW.trod_string Tryd.underlying9 e2;obtain ⟨x3,h3,rfl,_⟩:=DataW.trod_string Tryd.underlying9 e3;obtain ⟨x4,h4,rfl,_⟩:=DataW.trod_string Tryd.underlying9 e4;simp at h0 h1 h2 h3 h4;simp[Rows.laid_pandect_shape_words] at hx1;obtain ⟨z0,z1,z2,z3,z4⟩:=hx1;have key: ∀(x:ByteArray) (l:List UInt8),l=x.data.toList->x=⟨l.toArray⟩:=fun x l h=>by rw[h]
   rw[h0,h1,h2,h3,h4];have k0:=key x0 [] (by simp[z0]);have k1:=key x1 [73,110,116] (by simp[<-z1]);have k2:=key x2 [66,111,111,108] (by simp[<-z2]);have k3:=key x3 [84,101,120,116] (by simp[<-z3]);have k4:=key x4 [65,110,121] (by simp[<-z4]);rw[k0,k1,k2,k3,k4]; rfl
end
section
open Go.RowKit Shp
def wordB (s:List UInt8):Bool:= []==s|| [73,110,116]==s|| [66,111,111,108]==s|| [84,101,120,116]==s|| [65,110,121]==s
def NotYet (s:List UInt8) (i:Int):Prop:=((1:Int)<=i->(([]:List UInt8)==s)=false)/\((2:Int)<=i->([73,110,116]==s)=false)/\((3:Int)<=i->([66,111,111,108]==s)=false)/\((4:Int)<=i->([84,101,120,116]==s)=false)/\((5:Int)<=i->([65,110,121]==s)=false)
theorem Z63 (s:List UInt8) (w:World) (hg:WGlobs w):
 Calls Tryd.prog 69 #[.string ⟨s.toArray⟩] w fun e w'=>e= .returned (.bool (wordB s))/\w=w':=by
 have c0:w.cell? ⟨0,0,none⟩=some (.string ⟨#[]⟩):=hg.cell 0;have c1:w.cell? ⟨0,1,none⟩=some (.string ⟨#[73,110,116]⟩):=hg.cell 1;have c2:w.cell? ⟨0,2,none⟩=some (.string ⟨#[66,111,111,108]⟩):=hg.cell 2;have c3:w.cell? ⟨0,3,none⟩=some (.string ⟨#[84,101,120,116]⟩):=hg.cell 3;have c4:w.cell? ⟨0,4,none⟩=some (.string ⟨#[65,110,121]⟩):=hg.cell 4;clear hg;have i0: ∀W,(Instr.index 104 (.agg #[.string ⟨#[]⟩,.string ⟨#[73,110,116]⟩,.string ⟨#[66,111,111,108]⟩,.string ⟨#[84,101,120,116]⟩,.string ⟨#[65,110,121]⟩]) (.int .i64 0)).run Tryd.prog W= .ok (.string ⟨#[]⟩) W:=fun W=>by kernel_rfl
 have i1: ∀W,(Instr.index 104 (.agg #[.string ⟨#[]⟩,.string ⟨#[73,110,116]⟩,.string ⟨#[66,111,111,108]⟩,.string ⟨#[84,101,120,116]⟩,.string ⟨#[65,110,121]⟩]) (.int .i64 1)).run Tryd.prog W= .ok (.string ⟨#[73,110,116]⟩) W:=fun W=>by kernel_rfl
 have i2: ∀W,(Instr.index 104 (.agg #[.string ⟨#[]⟩,.string ⟨#[73,110,116]⟩,.string ⟨#[66,111,111,108]⟩,.string ⟨#[84,101,120,116]⟩,.string ⟨#[65,110,121]⟩]) (.int .i64 2)).run Tryd.prog W= .ok (.string ⟨#[66,111,111,108]⟩) W:=fun W=>by kernel_rfl
 have i3: ∀W,(Instr.index 104 (.agg #[.string ⟨#[]⟩,.string ⟨#[73,110,116]⟩,.string ⟨#[66,111,111,108]⟩,.string ⟨#[84,101,120,116]⟩,.string ⟨#[65,110,121]⟩]) (.int .i64 3)).run Tryd.prog W= .ok (.string ⟨#[84,101,120,116]⟩) W:=fun W=>by kernel_rfl
 have i4: ∀W,(Instr.index 104 (.agg #[.string ⟨#[]⟩,.string ⟨#[73,110,116]⟩,.string ⟨#[66,111,111,108]⟩,.string ⟨#[84,101,120,116]⟩,.string ⟨#[65,110,121]⟩]) (.int .i64 4)).run Tryd.prog W= .ok (.string ⟨#[65,110,121]⟩) W:=fun W=>by kernel_rfl
 go_enter Tryd.func69,Tryd.ntmps69
 go_wp2_with fail
 go_loopw [6] (fun ii wr=> ∃i:Int,ii= .int .i64 i/\0<=i/\i<=5/\Hid (NotYet s i)/\w=wr)
  (fun i _=>(5 - intOf i).toNat)
 case atStart=>exact ⟨0,rfl,by omega,by omega,Y1 ⟨fun h=>absurd h (by omega),fun h=>absurd h (by omega),fun h=>absurd h (by omega),fun h=>absurd h (by omega),fun h=>absurd h (by omega)⟩,rfl⟩
 case round=>
  obtain ⟨i,rfl,hi0,hi,HN,rfl⟩:=hrel;clear c0 c1 c2 c3 c4;have hc:i=0\/i=1\/i=2\/i=3\/i=4\/i=5:=by omega
  rcases hc with rfl | rfl | rfl | rfl | rfl | rfl
  {cases hq: (([]:List UInt8)==s)
   {have HN2:Hid (NotYet s 1):=Y1 (show ((1:Int)<=1->(([]:List UInt8)==s)=false)/\((2:Int)<=1->([73,110,116]==s)=false)/\((3:Int)<=1->([66,111,111,108]==s)=false)/\((4:Int)<=1->([84,101,120,116]==s)=false)/\((5:Int)<=1->([65,110,121]==s)=false) from ⟨fun _=>hq,fun h=>absurd h (by omega),fun h=>absurd h (by omega),fun h=>absurd h (by omega),fun h=>absurd h (by omega)⟩);have hqe:s.isEmpty=false:=by cases s <;> simp_all
    go_wp2
    go_roundw
    case rel=>exact ⟨1,rfl,by omega,by omega,HN2,trivial⟩
    case measure=>simp[intOf]}
   {have HF:Hid (wordB s=true):=Y1 (by unfold wordB; rw[hq]; simp);have hqe:s.isEmpty=true:=by cases s <;> simp_all
    go_wp2;go_ret;exact ⟨by rw[HF.out]; rfl,rfl⟩}}
  {cases hq: ([73,110,116]==s)
   {have HN2:Hid (NotYet s 2):=Y1 (show ((1:Int)<=2->(([]:List UInt8)==s)=false)/\((2:Int)<=2->([73,110,116]==s)=false)/\((3:Int)<=2->([66,111,111,108]==s)=false)/\((4:Int)<=2->([84,101,120,116]==s)=false)/\((5:Int)<=2->([65,110,121]==s)=false) from ⟨fun _=>HN.out.1 (by omega),fun _=>hq,fun h=>absurd h (by omega),fun h=>absurd h (by omega),fun h=>absurd h (by omega)⟩);go_wp2
    go_roundw
    case rel=>exact ⟨2,rfl,by omega,by omega,HN2,trivial⟩
    case measure=>simp[intOf]}
   {have HF:Hid (wordB s=true):=Y1 (by unfold wordB; rw[hq]; simp);go_wp2;go_ret;exact ⟨by rw[HF.out]; rfl,rfl⟩}}
  {cases hq: ([66,111,111,108]==s)
   {have HN2:Hid (NotYet s 3):=Y1 (show ((1:Int)<=3->(([]:List UInt8)==s)=false)/\((2:Int)<=3->([73,110,116]==s)=false)/\((3:Int)<=3->([66,111,111,108]==s)=false)/\((4:Int)<=3->([84,101,120,116]==s)=false)/\((5:Int)<=3->([65,110,121]==s)=false) from ⟨fun _=>HN.out.1 (by omega),fun _=>HN.out.2.1 (by omega),fun _=>hq,fun h=>absurd h (by omega),fun h=>absurd h (by omega)⟩);go_wp2
    go_roundw
    case rel=>exact ⟨3,rfl,by omega,by omega,HN2,trivial⟩
    case measure=>simp[intOf]}
   {have HF:Hid (wordB s=true):=Y1 (by unfold wordB; rw[hq]; simp);go_wp2;go_ret;exact ⟨by rw[HF.out]; rfl,rfl⟩}}
  {cases hq: ([84,101,120,116]==s)
   {have HN2:Hid (NotYet s 4):=Y1 (show ((1:Int)<=4->(([]:List UInt8)==s)=false)/\((2:Int)<=4->([73,110,116]==s)=false)/\((3:Int)<=4->([66,111,111,108]==s)=false)/\((4:Int)<=4->([84,101,120,116]==s)=false)/\((5:Int)<=4->([65,110,121]==s)=false) from ⟨fun _=>HN.out.1 (by omega),fun _=>HN.out.2.1 (by omega),fun _=>HN.out.2.2.1 (by omega),fun _=>hq,fun h=>absurd h (by omega)⟩);go_wp2
    go_roundw
    case rel=>exact ⟨4,rfl,by omega,by omega,HN2,trivial⟩
    case measure=>simp[intOf]}
   {have HF:Hid (wordB s=true):=Y1 (by unfold wordB; rw[hq]; simp);go_wp2;go_ret;exact ⟨by rw[HF.out]; rfl,rfl⟩}}
  {cases hq: ([65,110,121]==s)
   {have HN2:Hid (NotYet s 5):=Y1 (show ((1:Int)<=5->(([]:List UInt8)==s)=false)/\((2:Int)<=5->([73,110,116]==s)=false)/\((3:Int)<=5->([66,111,111,108]==s)=false)/\((4:Int)<=5->([84,101,120,116]==s)=false)/\((5:Int)<=5->([65,110,121]==s)=false) from ⟨fun _=>HN.out.1 (by omega),fun _=>HN.out.2.1 (by omega),fun _=>HN.out.2.2.1 (by omega),fun _=>HN.out.2.2.2.1 (by omega),fun _=>hq⟩);go_wp2
    go_roundw
    case rel=>exact ⟨5,rfl,by omega,by omega,HN2,trivial⟩
    case measure=>simp[intOf]}
   {have HF:Hid (wordB s=true):=Y1 (by unfold wordB; rw[hq]; simp);go_wp2;go_ret;exact ⟨by rw[HF.out]; rfl,rfl⟩}}
  {have HF:Hid (wordB s=false):=Y1 (by
    unfold wordB;obtain ⟨h0,h1,h2,h3,h4⟩:=HN.out;rw[h0 (by omega),h1 (by omega),h2 (by omega),h3 (by omega),h4 (by omega)]; rfl)
   go_wp2;go_ret;exact ⟨by rw[HF.out]; rfl,rfl⟩}
theorem Z1H {l:List UInt8} {b:Bool} (h: (l== [])=b):l.isEmpty=b:=by cases l <;> simp_all
theorem Z23 {l:List (List UInt8)}: ((l.length:Int)==0)=decide (l.length=0):=by rw[Bool.eq_iff_iff]; simp
end
end Go.Proofs.YtkhoflciahkphaaDoor
