/- What the proofs of SubtypeBoth, SubtypeGreatest, SubtypeLeast, SubtypeOrder want, part 11. -/
import Derived.WalkSmall
import Derived.MakeChecks
import Derived.Lib.LaidTab
import Derived.Test.YthajhofgjhfjeaaDoorK0n10
set_option linter.unusedVariables false
set_option linter.unusedSimpArgs false
set_option linter.unusedSectionVars false
set_option maxRecDepth 100000
set_option maxHeartbeats 16000000
namespace Go.Proofs.YthajhofgjhfjeaaDoor
open Go.RowKit Shp Sub
namespace SubM
theorem Zak {w W:World} (h:Below w.heap.size w W) {n0:Nat} {q:Ptr} {t:Sh} (hs:ShAt w n0 q t) (hn:n0<=w.heap.size):ShAt W n0 q t:=Za8 hs hn (Upd.new (S:=fun _=>False) h) (fun _ _ h=>h)
section
variable {f : Nat} (hI : BoundOk f) (up : Bool) (a b : Sh) (pa pb : Ptr) (n0 : Nat) (w : World) (h2 : Two (f + 1) a b)
include f hI up a b pa pb n0 w h2
theorem Zb7 (A:Rec a) (B:Rec b) (hk:a.kind=b.kind) (hw:Narrow up a.kind) (ha:ShAt w n0 pa a) (hb:ShAt w n0 pb b) (hn:n0<=w.heap.size):
 Calls Tryd.prog 53 #[sv a pa,sv b pb,.func (.func (bfn up)) #[] #[]] w (BIs (f+1) up a b n0 w):=by
 have hb1:=Z01 w (.cells (Y8 a pa) 25);obtain ⟨w1,hw1⟩: ∃w1,w1=w.alloc (.cells (Y8 a pa) 25):=⟨_,rfl⟩;have hs1:w1.heap.size=w.heap.size+1:=by rw[hw1]; simp
 have hb2:=Z01 w1 (.cells (Y8 b pb) 25);obtain ⟨w2,hw2⟩: ∃w2,w2=w1.alloc (.cells (Y8 b pb) 25):=⟨_,rfl⟩;have hs2:w2.heap.size=w1.heap.size+1:=by rw[hw2]; simp
 have hb3:=Z01 w2 (.cells #[.func (.func (bfn up)) #[] #[]] 60);obtain ⟨w3,hw3⟩: ∃w3,w3=w2.alloc (.cells #[.func (.func (bfn up)) #[] #[]] 60):=⟨_,rfl⟩;have hs3:w3.heap.size=w2.heap.size+1:=by rw[hw3]; simp
 have hb4:=Z01 w3 (.cells Yb 25);obtain ⟨w4,hw4⟩: ∃w4,w4=w3.alloc (.cells Yb 25):=⟨_,rfl⟩;have hs4:w4.heap.size=w3.heap.size+1:=by rw[hw4]; simp
 have hb5:=Z01 w4 (.cells #[.int .i64 a.kind,.string ⟨#[]⟩,.string ⟨#[]⟩,.slice none 0 0,.slice none 0 0] 25);obtain ⟨w5,hw5⟩: ∃w5,w5=w4.alloc (.cells #[.int .i64 a.kind,.string ⟨#[]⟩,.string ⟨#[]⟩,.slice none 0 0,.slice none 0 0] 25):=⟨_,rfl⟩;have hs5:w5.heap.size=w4.heap.size+1:=by rw[hw5]; simp
 rw[<-hw1] at hb1;rw[<-hw2] at hb2;rw[<-hw3] at hb3;rw[<-hw4] at hb4;rw[<-hw5] at hb5;have hbw:=(Z00 hb1 (Z00 hb2 (Z00 hb3 (Z00 hb4 hb5))));have hz0:w5.heap.size=w.heap.size+1+1+1+1+1:=by omega
 have hrc:Rc (w.heap.size+1+1+1) w5:=by
  have h:=Zax hw4;rw[show w3.heap.size=w.heap.size+1+1+1 from by omega] at h;exact h.upd (T:=fun _=>False) (Upd.new hb5) (fun h=>h)
 have hst:St0 w (w.heap.size+1+1+1+1) (w.heap.size+1+1) (.func (.func (bfn up)) #[] #[]) a.kind w5:=by
  refine ⟨hbw,by omega,by omega, ?_,fun j=> ?_,by omega, ?_⟩
  {rw[show w.heap.size+1+1+1+1=w4.heap.size from by omega,hw5]; refine ⟨?_, ?_, ?_, ?_, ?_⟩ <;> simp[go_sem]}
  {rw[show w.heap.size+1+1+1+1=w4.heap.size from by omega,hw5]; simp[go_sem]}
  {rw[((Z00 hb4 hb5).cell (p:=⟨w.heap.size+1+1,0,none⟩) (by show w.heap.size+1+1 < w3.heap.size; omega)),show w.heap.size+1+1=w2.heap.size from by omega,hw3]; simp[go_sem]}
 have HE:=Y1 (Zcy hI h2 A B hk hw (Zak hbw ha hn) (Zak hbw hb hn) hn hst hrc (by omega) (by omega) (by omega));have HN:=Y1 hn;have HZ:=Y1 hz0;have HW:Hid ((((((w.alloc (.cells (Y8 a pa) 25)).alloc (.cells (Y8 b pb) 25)).alloc (.cells #[.func (.func (bfn up)) #[] #[]] 60)).alloc (.cells Yb 25)).alloc (.cells #[.int .i64 a.kind,.string ⟨#[]⟩,.string ⟨#[]⟩,.slice none 0 0,.slice none 0 0] 25))=w5):=Y1 (by rw[hw5,hw4,hw3,hw2,hw1]);clear hst hrc ha hb hn hk hw h2 hI hbw hz0 hb1 hs1 hb2 hs2 hb3 hs3 hb4 hs4 hb5 hs5 A B;clear hw5 hw4 hw3 hw2 hw1;unfold sv at HE ⊢;go_enter Tryd.func53,Tryd.ntmps53
 go_wp2_with fail
 rw[HW.out];clear HW;refine HE.out.mono ?_;rintro e W6 ⟨rfl,hR,hB,t,q,⟨x0,x1,x2,x3,x4⟩,hj⟩;obtain ⟨v0,y0⟩:=hR.ex 0 (by omega);obtain ⟨v1,y1⟩:=hR.ex 1 (by omega);obtain ⟨v2,y2⟩:=hR.ex 2 (by omega);obtain ⟨v3,y3⟩:=hR.ex 3 (by omega);obtain ⟨v4,y4⟩:=hR.ex 4 (by omega);have z0:=hR.fz 0;have z1:=hR.fz 1;have z2:=hR.fz 2;have z3:=hR.fz 3;have z4:=hR.fz 4;simp only[Nat.zero_add] at x0 x1 x2 x3 x4;have hfin:=Zbm (gm:=0) (rc:=w.heap.size+1+1+1) (hi:=w5.heap.size+3) HN.out (by omega) (by have:=HZ.out; omega) hB hj;have HF:=Y1 hfin;have hlayat:=RX.lay_at t q (W:=W6) (g:=w.heap.size+1+1+1) hR.ex;obtain ⟨u0,u1,u2,u3,u4⟩:=hlayat;simp only[Nat.zero_add] at u0 u1 u2 u3 u4;have HU:=Y1 (And.intro u0 (And.intro u1 (And.intro u2 (And.intro u3 u4))));clear hfin hB hj HE hR u0 u1 u2 u3 u4;go_wp2;obtain ⟨u0,u1,u2,u3,u4⟩:=HU.out;unfold RX.lay at u0 u1 u2 u3 u4;refine bodyPost_ret (v:= .tuple #[sv t q,.bool (bound (f+1) up a b).isSome]) (by simp[results,Tryd.results53,go_sem,u0,u1,u2,u3,u4]) rfl ?_;exact HF.out
theorem ZaY (A:Rec a) (B:Rec b) (hk:a.kind=b.kind) (hw:Wide up a.kind) (ha:ShAt w n0 pa a) (hb:ShAt w n0 pb b) (hn:n0<=w.heap.size):
 Calls Tryd.prog 54 #[sv a pa,sv b pb,.func (.func (bfn up)) #[] #[]] w (BIs (f+1) up a b n0 w):=by
 have hb1:=Z01 w (.cells (Y8 a pa) 25);obtain ⟨w1,hw1⟩: ∃w1,w1=w.alloc (.cells (Y8 a pa) 25):=⟨_,rfl⟩;have hs1:w1.heap.size=w.heap.size+1:=by rw[hw1]; simp
 have hb2:=Z01 w1 (.cells (Y8 b pb) 25);obtain ⟨w2,hw2⟩: ∃w2,w2=w1.alloc (.cells (Y8 b pb) 25):=⟨_,rfl⟩;have hs2:w2.heap.size=w1.heap.size+1:=by rw[hw2]; simp
 have hb3:=Z01 w2 (.cells #[.func (.func (bfn up)) #[] #[]] 60);obtain ⟨w3,hw3⟩: ∃w3,w3=w2.alloc (.cells #[.func (.func (bfn up)) #[] #[]] 60):=⟨_,rfl⟩;have hs3:w3.heap.size=w2.heap.size+1:=by rw[hw3]; simp
 have hb4:=Z01 w3 (.cells Yb 25);obtain ⟨w4,hw4⟩: ∃w4,w4=w3.alloc (.cells Yb 25):=⟨_,rfl⟩;have hs4:w4.heap.size=w3.heap.size+1:=by rw[hw4]; simp
 have hb5:=Z01 w4 (.cells #[.int .i64 a.kind,.string ⟨#[]⟩,.string ⟨#[]⟩,.slice none 0 0,.slice none 0 0] 25);obtain ⟨w5,hw5⟩: ∃w5,w5=w4.alloc (.cells #[.int .i64 a.kind,.string ⟨#[]⟩,.string ⟨#[]⟩,.slice none 0 0,.slice none 0 0] 25):=⟨_,rfl⟩;have hs5:w5.heap.size=w4.heap.size+1:=by rw[hw5]; simp
 rw[<-hw1] at hb1;rw[<-hw2] at hb2;rw[<-hw3] at hb3;rw[<-hw4] at hb4;rw[<-hw5] at hb5;have hbw:=(Z00 hb1 (Z00 hb2 (Z00 hb3 (Z00 hb4 hb5))));have hz0:w5.heap.size=w.heap.size+1+1+1+1+1:=by omega
 have hrc:Rc (w.heap.size+1+1+1) w5:=by
  have h:=Zax hw4;rw[show w3.heap.size=w.heap.size+1+1+1 from by omega] at h;exact h.upd (T:=fun _=>False) (Upd.new hb5) (fun h=>h)
 have hst:St0 w (w.heap.size+1+1+1+1) (w.heap.size+1+1) (.func (.func (bfn up)) #[] #[]) a.kind w5:=by
  refine ⟨hbw,by omega,by omega, ?_,fun j=> ?_,by omega, ?_⟩
  {rw[show w.heap.size+1+1+1+1=w4.heap.size from by omega,hw5]; refine ⟨?_, ?_, ?_, ?_, ?_⟩ <;> simp[go_sem]}
  {rw[show w.heap.size+1+1+1+1=w4.heap.size from by omega,hw5]; simp[go_sem]}
  {rw[((Z00 hb4 hb5).cell (p:=⟨w.heap.size+1+1,0,none⟩) (by show w.heap.size+1+1 < w3.heap.size; omega)),show w.heap.size+1+1=w2.heap.size from by omega,hw3]; simp[go_sem]}
 have HE:=Y1 (ZbY hI h2 A B hk hw (Zak hbw ha hn) (Zak hbw hb hn) hn hst hrc (by omega) (by omega) (by omega));have HN:=Y1 hn;have HZ:=Y1 hz0;have HW:Hid ((((((w.alloc (.cells (Y8 a pa) 25)).alloc (.cells (Y8 b pb) 25)).alloc (.cells #[.func (.func (bfn up)) #[] #[]] 60)).alloc (.cells Yb 25)).alloc (.cells #[.int .i64 a.kind,.string ⟨#[]⟩,.string ⟨#[]⟩,.slice none 0 0,.slice none 0 0] 25))=w5):=Y1 (by rw[hw5,hw4,hw3,hw2,hw1]);clear hst hrc ha hb hn hk hw h2 hI hbw hz0 hb1 hs1 hb2 hs2 hb3 hs3 hb4 hs4 hb5 hs5 A B;clear hw5 hw4 hw3 hw2 hw1;unfold sv at HE ⊢;go_enter Tryd.func54,Tryd.ntmps54
 go_wp2_with fail
 rw[HW.out];clear HW;refine HE.out.mono ?_;rintro e W6 ⟨rfl,hR,hB,t,q,⟨x0,x1,x2,x3,x4⟩,hj⟩;obtain ⟨v0,y0⟩:=hR.ex 0 (by omega);obtain ⟨v1,y1⟩:=hR.ex 1 (by omega);obtain ⟨v2,y2⟩:=hR.ex 2 (by omega);obtain ⟨v3,y3⟩:=hR.ex 3 (by omega);obtain ⟨v4,y4⟩:=hR.ex 4 (by omega);have z0:=hR.fz 0;have z1:=hR.fz 1;have z2:=hR.fz 2;have z3:=hR.fz 3;have z4:=hR.fz 4;simp only[Nat.zero_add] at x0 x1 x2 x3 x4;have hfin:=Zbm (gm:=0) (rc:=w.heap.size+1+1+1) (hi:=w5.heap.size+3) HN.out (by omega) (by have:=HZ.out; omega) hB hj;have HF:=Y1 hfin;have hlayat:=RX.lay_at t q (W:=W6) (g:=w.heap.size+1+1+1) hR.ex;obtain ⟨u0,u1,u2,u3,u4⟩:=hlayat;simp only[Nat.zero_add] at u0 u1 u2 u3 u4;have HU:=Y1 (And.intro u0 (And.intro u1 (And.intro u2 (And.intro u3 u4))));clear hfin hB hj HE hR u0 u1 u2 u3 u4;go_wp2;obtain ⟨u0,u1,u2,u3,u4⟩:=HU.out;unfold RX.lay at u0 u1 u2 u3 u4;refine bodyPost_ret (v:= .tuple #[sv t q,.bool (bound (f+1) up a b).isSome]) (by simp[results,Tryd.results54,go_sem,u0,u1,u2,u3,u4]) rfl ?_;exact HF.out
theorem ZaZ (hk:a.kind=b.kind) (hw: ¬(a.kind=6\/a.kind=7)) (ha:ShAt w n0 pa a) (hb:ShAt w n0 pb b) (hn:n0<=w.heap.size):
 Calls Tryd.prog 55 #[sv a pa,sv b pb,.func (.func (bfn !up)) #[] #[],.func (.func (bfn up)) #[] #[]] w (BIs (f+1) up a b n0 w):=by
 have hb1:=Z01 w (.cells (Y8 a pa) 25);obtain ⟨w1,hw1⟩: ∃w1,w1=w.alloc (.cells (Y8 a pa) 25):=⟨_,rfl⟩;have hs1:w1.heap.size=w.heap.size+1:=by rw[hw1]; simp
 have hb2:=Z01 w1 (.cells (Y8 b pb) 25);obtain ⟨w2,hw2⟩: ∃w2,w2=w1.alloc (.cells (Y8 b pb) 25):=⟨_,rfl⟩;have hs2:w2.heap.size=w1.heap.size+1:=by rw[hw2]; simp
 have hb3:=Z01 w2 (.cells #[.func (.func (bfn !up)) #[] #[]] 60);obtain ⟨w3,hw3⟩: ∃w3,w3=w2.alloc (.cells #[.func (.func (bfn !up)) #[] #[]] 60):=⟨_,rfl⟩;have hs3:w3.heap.size=w2.heap.size+1:=by rw[hw3]; simp
 have hb4:=Z01 w3 (.cells #[.func (.func (bfn up)) #[] #[]] 60);obtain ⟨w4,hw4⟩: ∃w4,w4=w3.alloc (.cells #[.func (.func (bfn up)) #[] #[]] 60):=⟨_,rfl⟩;have hs4:w4.heap.size=w3.heap.size+1:=by rw[hw4]; simp
 have hb5:=Z01 w4 (.cells Yb 25);obtain ⟨w5,hw5⟩: ∃w5,w5=w4.alloc (.cells Yb 25):=⟨_,rfl⟩;have hs5:w5.heap.size=w4.heap.size+1:=by rw[hw5]; simp
 have hb6:=Z01 w5 (.cells #[.int .i64 a.kind,.string ⟨a.of_.toArray⟩,.string ⟨a.name.toArray⟩,.slice none 0 0,.slice none 0 0] 25);obtain ⟨w6,hw6⟩: ∃w6,w6=w5.alloc (.cells #[.int .i64 a.kind,.string ⟨a.of_.toArray⟩,.string ⟨a.name.toArray⟩,.slice none 0 0,.slice none 0 0] 25):=⟨_,rfl⟩;have hs6:w6.heap.size=w5.heap.size+1:=by rw[hw6]; simp
 rw[<-hw1] at hb1;rw[<-hw2] at hb2;rw[<-hw3] at hb3;rw[<-hw4] at hb4;rw[<-hw5] at hb5;rw[<-hw6] at hb6;have hbw:=(Z00 hb1 (Z00 hb2 (Z00 hb3 (Z00 hb4 (Z00 hb5 hb6)))));have hz0:w6.heap.size=w.heap.size+1+1+1+1+1+1:=by omega
 have hrc:Rc (w.heap.size+1+1+1+1) w6:=by
  have h:=Zax hw5;rw[show w4.heap.size=w.heap.size+1+1+1+1 from by omega] at h;exact h.upd (T:=fun _=>False) (Upd.new hb6) (fun h=>h)
 have hst:St0p w (w.heap.size+1+1+1+1+1) (w.heap.size+1+1) (w.heap.size+1+1+1) (.func (.func (bfn !up)) #[] #[]) (.func (.func (bfn up)) #[] #[]) a.kind a.of_ a.name w6:=by
  refine ⟨hbw,by omega,by omega, ?_,fun j=> ?_,by omega,by omega, ?_, ?_⟩
  {rw[show w.heap.size+1+1+1+1+1=w5.heap.size from by omega,hw6]; refine ⟨?_, ?_, ?_, ?_, ?_⟩ <;> simp[go_sem]}
  {rw[show w.heap.size+1+1+1+1+1=w5.heap.size from by omega,hw6]; simp[go_sem]}
  {rw[((Z00 hb4 (Z00 hb5 hb6)).cell (p:=⟨w.heap.size+1+1,0,none⟩) (by show w.heap.size+1+1 < w3.heap.size; omega)),show w.heap.size+1+1=w2.heap.size from by omega,hw3]; simp[go_sem]}
  {rw[((Z00 hb5 hb6).cell (p:=⟨w.heap.size+1+1+1,0,none⟩) (by show w.heap.size+1+1+1 < w4.heap.size; omega)),show w.heap.size+1+1+1=w3.heap.size from by omega,hw4]; simp[go_sem]}
 have HE:=Y1 (Zc0 hI h2 hk hw (Zak hbw ha hn) (Zak hbw hb hn) hn hst hrc (by omega) (by omega) (by omega) (by omega) (by omega));have HN:=Y1 hn;have HZ:=Y1 hz0;have HW:Hid (((((((w.alloc (.cells (Y8 a pa) 25)).alloc (.cells (Y8 b pb) 25)).alloc (.cells #[.func (.func (bfn !up)) #[] #[]] 60)).alloc (.cells #[.func (.func (bfn up)) #[] #[]] 60)).alloc (.cells Yb 25)).alloc (.cells #[.int .i64 a.kind,.string ⟨a.of_.toArray⟩,.string ⟨a.name.toArray⟩,.slice none 0 0,.slice none 0 0] 25))=w6):=Y1 (by rw[hw6,hw5,hw4,hw3,hw2,hw1]);clear hst hrc ha hb hn hk hw h2 hI hbw hz0 hb1 hs1 hb2 hs2 hb3 hs3 hb4 hs4 hb5 hs5 hb6 hs6;clear hw6 hw5 hw4 hw3 hw2 hw1;unfold sv at HE ⊢;go_enter Tryd.func55,Tryd.ntmps55
 go_wp2_with fail
 rw[HW.out];clear HW;refine HE.out.mono ?_;rintro e W6 ⟨rfl,hR,hB,t,q,⟨x0,x1,x2,x3,x4⟩,hj⟩;obtain ⟨v0,y0⟩:=hR.ex 0 (by omega);obtain ⟨v1,y1⟩:=hR.ex 1 (by omega);obtain ⟨v2,y2⟩:=hR.ex 2 (by omega);obtain ⟨v3,y3⟩:=hR.ex 3 (by omega);obtain ⟨v4,y4⟩:=hR.ex 4 (by omega);have z0:=hR.fz 0;have z1:=hR.fz 1;have z2:=hR.fz 2;have z3:=hR.fz 3;have z4:=hR.fz 4;simp only[Nat.zero_add] at x0 x1 x2 x3 x4;have hfin:=Zbm (gm:=0) (rc:=w.heap.size+1+1+1+1) (hi:=w6.heap.size+2) HN.out (by omega) (by have:=HZ.out; omega) hB hj;have HF:=Y1 hfin;have hlayat:=RX.lay_at t q (W:=W6) (g:=w.heap.size+1+1+1+1) hR.ex;obtain ⟨u0,u1,u2,u3,u4⟩:=hlayat;simp only[Nat.zero_add] at u0 u1 u2 u3 u4;have HU:=Y1 (And.intro u0 (And.intro u1 (And.intro u2 (And.intro u3 u4))));clear hfin hB hj HE hR u0 u1 u2 u3 u4;go_wp2;obtain ⟨u0,u1,u2,u3,u4⟩:=HU.out;unfold RX.lay at u0 u1 u2 u3 u4;refine bodyPost_ret (v:= .tuple #[sv t q,.bool (bound (f+1) up a b).isSome]) (by simp[results,Tryd.results55,go_sem,u0,u1,u2,u3,u4]) rfl ?_;exact HF.out
end
end SubM
end Go.Proofs.YthajhofgjhfjeaaDoor
namespace Go.Proofs.YthajhofgjhfjeaaDoor
open Go.RowKit Shp Sub
namespace SubM
section
variable {f : Nat} {up : Bool} {a b : Sh} {n0 : Nat}
include f up a b n0
theorem ZaA {w w3 W:World} {t:Sh} {q:Ptr} {rc:Nat} (hn:n0<=w.heap.size) (hb3:Below w.heap.size w w3) (h1:w.heap.size<=rc) (h2:rc < w3.heap.size) (hb:Below w3.heap.size w3 W)
 (hj: ∀j,bound f up a b=some j->t=j/\Kept (fun b=>b < n0\/w3.heap.size<=b) W (j,q)):BIs f up a b n0 w (.returned (.tuple #[sv t q,.bool (bound f up a b).isSome])) (RX.lay W rc t q):=by
 have hu:=RX.lay_upd W rc t q;refine ⟨t,q,rfl,(Z00 hb3 hb).trans (hu.below (by have:=hb3.size; have:=hb.size; omega) (fun x hx=>by omega)),fun j hb2=> ?_⟩;obtain ⟨e,hk⟩:=hj j hb2;have:=hb3.size;exact ⟨e,hk.move hu (fun b _ hf=>⟨fun e=>by have e:b=rc:=e; rcases hf with hf | hf <;> omega,by rcases hf with hf | hf <;> omega⟩)⟩
theorem ZbI {w W:World} (hb:Below w.heap.size w W) (h:bound f up a b=none):BIs f up a b n0 w (.returned (.tuple #[.agg #[.int .i64 0,.string ⟨#[]⟩,.string ⟨#[]⟩,.slice none 0 0,.slice none 0 0],.bool false])) W:=
 ⟨⟨0,[],[],[],[]⟩,noneQ12,by rw[h]; rfl,hb,fun j hj=>by rw[h] at hj; cases hj⟩
end
section
variable {f : Nat} (hI : BoundOk f) (a b : Sh) (pa pb : Ptr) (n0 : Nat) (w : World) (h2 : Two (f + 1) a b) (ha : ShAt w n0 pa a) (hb : ShAt w n0 pb b) (hn : n0 <= w.heap.size)
include f hI a b pa pb n0 w h2 ha hb hn
theorem ZcA:
 Calls Tryd.prog 30 #[sv a pa,sv b pb] w (BIs (f+1) true a b n0 w):=by
 have hb1:=Z01 w (.cells (Y8 a pa) 25);obtain ⟨w1,hw1⟩: ∃w1,w1=w.alloc (.cells (Y8 a pa) 25):=⟨_,rfl⟩;have hs1:w1.heap.size=w.heap.size+1:=by rw[hw1]; simp
 have hb2:=Z01 w1 (.cells (Y8 b pb) 25);obtain ⟨w2,hw2⟩: ∃w2,w2=w1.alloc (.cells (Y8 b pb) 25):=⟨_,rfl⟩;have hs2:w2.heap.size=w1.heap.size+1:=by rw[hw2]; simp
 have hb3:=Z01 w2 (.cells Yb 25);obtain ⟨w3,hw3⟩: ∃w3,w3=w2.alloc (.cells Yb 25):=⟨_,rfl⟩;have hs3:w3.heap.size=w2.heap.size+1:=by rw[hw3]; simp
 rw[<-hw1] at hb1;rw[<-hw2] at hb2;rw[<-hw3] at hb3;have hbw:=Z00 hb1 (Z00 hb2 hb3);have hrc:Rc (w.heap.size+1+1) w3:=by
  have h:=Zax hw3
  rwa [show w2.heap.size=w.heap.size+1+1 from by omega] at h
 have hB1:Box5 w1 w.heap.size a pa:=by rw[hw1]; exact Z03 w a pa
 have hB2:Box5 w2 w1.heap.size b pb:=by rw[hw2]; exact Z03 w1 b pb
 have hBA:=(hB1.next hb2).next hb3;have hBB:=hB2.next hb3;rw[hs1] at hBB;have HA:=Y1 (Zak hbw ha hn);have HB:=Y1 (Zak hbw hb hn);have HN:=Y1 hn;have HN3:Hid (n0<=w3.heap.size):=Y1 (by omega);have HW:=Y1 hbw;have HZ:Hid (w3.heap.size=w.heap.size+1+1+1):=Y1 (by omega);have HR:=Y1 hrc;have H2:=Y1 h2;have HI:=Y1 hI;obtain ⟨_,⟨a0,a1,a2,a3,a4⟩,_⟩:=hBA;obtain ⟨_,⟨b0,b1,b2,b3,b4⟩,_⟩:=hBB;simp only[Nat.zero_add] at a0 a1 a2 a3 a4 b0 b1 b2 b3 b4;obtain ⟨v0,y0⟩:=hrc.ex 0 (by omega);obtain ⟨v1,y1⟩:=hrc.ex 1 (by omega);obtain ⟨v2,y2⟩:=hrc.ex 2 (by omega);obtain ⟨v3,y3⟩:=hrc.ex 3 (by omega);obtain ⟨v4,y4⟩:=hrc.ex 4 (by omega);have z0:=hrc.fz 0;have z1:=hrc.fz 1;have z2:=hrc.fz 2;have z3:=hrc.fz 3;have z4:=hrc.fz 4;have hw1':=hw1.symm;have hw2':=hw2.symm;have hw3':=hw3.symm;have lw:w.heap.size+1+1 < w3.heap.size:=by omega
 clear hw1 hw2 hw3 hb1 hb2 hb3 hB1 hB2 hbw ha hb hn h2 hI hrc;unfold sv;by_cases hk:a.kind=b.kind
 {have HK:=Y1 hk;have m0: (a.kind !=b.kind)=false:=by rw[hk]; simp
  have m1: (a.kind==b.kind)=true:=by rw[hk]; simp
  by_cases h6:a.kind=6
  {have m6: (a.kind==6)=true:=by rw[h6]; rfl
   have HE:=Y1 (Zb7 HI.out true a b pa pb n0 w3 H2.out (Za4 (Z1c H2.out.ra) (Or.inl h6)) (Za4 (Z1c H2.out.rb) (Or.inl (hk▸h6))) hk (Or.inl ⟨rfl,h6⟩) HA.out HB.out HN3.out);unfold sv bfn at HE;simp only[Bool.not_true,Bool.not_false,Bool.false_eq_true,if_true,if_false] at HE;clear hk h6;go_enter Tryd.func30,Tryd.ntmps30
   go_wp2_with fail
   refine HE.out.mono ?_;rintro e W6 ⟨t,q,rfl,hB,hj⟩;have hR:=HR.out.upd (T:=fun _=>False) (Upd.new hB) (fun h=>h);have HF:=Y1 (ZaA (rc:=w.heap.size+1+1) HN.out HW.out (by omega) lw hB hj);have HLY:=Y1 (RX.lay_at t q (W:=W6) (g:=w.heap.size+1+1) hR.ex);clear y0 y1 y2 y3 y4 z0 z1 z2 z3 z4 v0 v1 v2 v3 v4;obtain ⟨v0,y0⟩:=hR.ex 0 (by omega);obtain ⟨v1,y1⟩:=hR.ex 1 (by omega);obtain ⟨v2,y2⟩:=hR.ex 2 (by omega);obtain ⟨v3,y3⟩:=hR.ex 3 (by omega);obtain ⟨v4,y4⟩:=hR.ex 4 (by omega);have z0:=hR.fz 0;have z1:=hR.fz 1;have z2:=hR.fz 2;have z3:=hR.fz 3;have z4:=hR.fz 4;clear hB hj HE hR a0 a1 a2 a3 a4 b0 b1 b2 b3 b4;unfold sv;go_wp2;obtain ⟨u0,u1,u2,u3,u4⟩:=HLY.out;unfold RX.lay at u0 u1 u2 u3 u4;simp only[Nat.zero_add] at u0 u1 u2 u3 u4;refine bodyPost_ret (v:= .tuple #[sv t q,.bool (bound (f+1) true a b).isSome]) (by simp[results,Tryd.results30,go_sem,u0,u1,u2,u3,u4]) rfl ?_;exact HF.out}
  {have m6: (a.kind==6)=false:=by simpa using h6
   by_cases h7:a.kind=7
   {have m7: (a.kind==7)=true:=by rw[h7]; rfl
    have HE:=Y1 (ZaY HI.out true a b pa pb n0 w3 H2.out (Za4 (Z1c H2.out.ra) (Or.inr h7)) (Za4 (Z1c H2.out.rb) (Or.inr (hk▸h7))) hk (Or.inl ⟨rfl,h7⟩) HA.out HB.out HN3.out);unfold sv bfn at HE;simp only[Bool.not_true,Bool.not_false,Bool.false_eq_true,if_true,if_false] at HE;clear hk h6 h7;go_enter Tryd.func30,Tryd.ntmps30
    go_wp2_with fail
    refine HE.out.mono ?_;rintro e W6 ⟨t,q,rfl,hB,hj⟩;have hR:=HR.out.upd (T:=fun _=>False) (Upd.new hB) (fun h=>h);have HF:=Y1 (ZaA (rc:=w.heap.size+1+1) HN.out HW.out (by omega) lw hB hj);have HLY:=Y1 (RX.lay_at t q (W:=W6) (g:=w.heap.size+1+1) hR.ex);clear y0 y1 y2 y3 y4 z0 z1 z2 z3 z4 v0 v1 v2 v3 v4;obtain ⟨v0,y0⟩:=hR.ex 0 (by omega);obtain ⟨v1,y1⟩:=hR.ex 1 (by omega);obtain ⟨v2,y2⟩:=hR.ex 2 (by omega);obtain ⟨v3,y3⟩:=hR.ex 3 (by omega);obtain ⟨v4,y4⟩:=hR.ex 4 (by omega);have z0:=hR.fz 0;have z1:=hR.fz 1;have z2:=hR.fz 2;have z3:=hR.fz 3;have z4:=hR.fz 4;clear hB hj HE hR a0 a1 a2 a3 a4 b0 b1 b2 b3 b4;unfold sv;go_wp2;obtain ⟨u0,u1,u2,u3,u4⟩:=HLY.out;unfold RX.lay at u0 u1 u2 u3 u4;simp only[Nat.zero_add] at u0 u1 u2 u3 u4;refine bodyPost_ret (v:= .tuple #[sv t q,.bool (bound (f+1) true a b).isSome]) (by simp[results,Tryd.results30,go_sem,u0,u1,u2,u3,u4]) rfl ?_;exact HF.out}
   {have m7: (a.kind==7)=false:=by simpa using h7
    have HE:=Y1 (ZaZ HI.out true a b pa pb n0 w3 H2.out hk (fun h=>h.elim h6 h7) HA.out HB.out HN3.out);unfold sv bfn at HE;simp only[Bool.not_true,Bool.not_false,Bool.false_eq_true,if_true,if_false] at HE;clear hk h6 h7;go_enter Tryd.func30,Tryd.ntmps30
    go_wp2_with fail
    refine HE.out.mono ?_;rintro e W6 ⟨t,q,rfl,hB,hj⟩;have hR:=HR.out.upd (T:=fun _=>False) (Upd.new hB) (fun h=>h);have HF:=Y1 (ZaA (rc:=w.heap.size+1+1) HN.out HW.out (by omega) lw hB hj);have HLY:=Y1 (RX.lay_at t q (W:=W6) (g:=w.heap.size+1+1) hR.ex);clear y0 y1 y2 y3 y4 z0 z1 z2 z3 z4 v0 v1 v2 v3 v4;obtain ⟨v0,y0⟩:=hR.ex 0 (by omega);obtain ⟨v1,y1⟩:=hR.ex 1 (by omega);obtain ⟨v2,y2⟩:=hR.ex 2 (by omega);obtain ⟨v3,y3⟩:=hR.ex 3 (by omega);obtain ⟨v4,y4⟩:=hR.ex 4 (by omega);have z0:=hR.fz 0;have z1:=hR.fz 1;have z2:=hR.fz 2;have z3:=hR.fz 3;have z4:=hR.fz 4;clear hB hj HE hR a0 a1 a2 a3 a4 b0 b1 b2 b3 b4;unfold sv;go_wp2;obtain ⟨u0,u1,u2,u3,u4⟩:=HLY.out;unfold RX.lay at u0 u1 u2 u3 u4;simp only[Nat.zero_add] at u0 u1 u2 u3 u4;refine bodyPost_ret (v:= .tuple #[sv t q,.bool (bound (f+1) true a b).isSome]) (by simp[results,Tryd.results30,go_sem,u0,u1,u2,u3,u4]) rfl ?_;exact HF.out}}}
 {have m0: (a.kind !=b.kind)=true:=by simpa using hk
  have m1: (a.kind==b.kind)=false:=by simpa using hk
  have HBD:Hid (bound (f+1) true a b=none):=Y1 (by unfold bound; rw[if_pos hk]);have HLY:=Y1 (RX.lay_at ⟨0,[],[],[],[]⟩ noneQ12 (W:=w3) (g:=w.heap.size+1+1) HR.out.ex);have HUP:=Y1 (RX.lay_upd w3 (w.heap.size+1+1) ⟨0,[],[],[],[]⟩ noneQ12);clear hk;go_enter Tryd.func30,Tryd.ntmps30;go_wp2;obtain ⟨u0,u1,u2,u3,u4⟩:=HLY.out;unfold RX.lay at u0 u1 u2 u3 u4;simp only[Nat.zero_add,List.length_nil] at u0 u1 u2 u3 u4;refine bodyPost_ret (v:= .tuple #[.agg #[.int .i64 0,.string ⟨#[]⟩,.string ⟨#[]⟩,.slice none 0 0,.slice none 0 0],.bool false]) (by simp[results,Tryd.results30,go_sem,u0,u1,u2,u3,u4]) rfl ?_;exact ZbI (HW.out.trans (HUP.out.below HW.out.size (fun x hx=>by omega))) HBD.out}
theorem ZcB:
 Calls Tryd.prog 32 #[sv a pa,sv b pb] w (BIs (f+1) false a b n0 w):=by
 have hb1:=Z01 w (.cells (Y8 a pa) 25);obtain ⟨w1,hw1⟩: ∃w1,w1=w.alloc (.cells (Y8 a pa) 25):=⟨_,rfl⟩;have hs1:w1.heap.size=w.heap.size+1:=by rw[hw1]; simp
 have hb2:=Z01 w1 (.cells (Y8 b pb) 25);obtain ⟨w2,hw2⟩: ∃w2,w2=w1.alloc (.cells (Y8 b pb) 25):=⟨_,rfl⟩;have hs2:w2.heap.size=w1.heap.size+1:=by rw[hw2]; simp
 have hb3:=Z01 w2 (.cells Yb 25);obtain ⟨w3,hw3⟩: ∃w3,w3=w2.alloc (.cells Yb 25):=⟨_,rfl⟩;have hs3:w3.heap.size=w2.heap.size+1:=by rw[hw3]; simp
 rw[<-hw1] at hb1;rw[<-hw2] at hb2;rw[<-hw3] at hb3;have hbw:=Z00 hb1 (Z00 hb2 hb3);have hrc:Rc (w.heap.size+1+1) w3:=by
  have h:=Zax hw3
  rwa [show w2.heap.size=w.heap.size+1+1 from by omega] at h
 have hB1:Box5 w1 w.heap.size a pa:=by rw[hw1]; exact Z03 w a pa
 have hB2:Box5 w2 w1.heap.size b pb:=by rw[hw2]; exact Z03 w1 b pb
 have hBA:=(hB1.next hb2).next hb3;have hBB:=hB2.next hb3;rw[hs1] at hBB;have HA:=Y1 (Zak hbw ha hn);have HB:=Y1 (Zak hbw hb hn);have HN:=Y1 hn;have HN3:Hid (n0<=w3.heap.size):=Y1 (by omega);have HW:=Y1 hbw;have HZ:Hid (w3.heap.size=w.heap.size+1+1+1):=Y1 (by omega);have HR:=Y1 hrc;have H2:=Y1 h2;have HI:=Y1 hI;obtain ⟨_,⟨a0,a1,a2,a3,a4⟩,_⟩:=hBA;obtain ⟨_,⟨b0,b1,b2,b3,b4⟩,_⟩:=hBB;simp only[Nat.zero_add] at a0 a1 a2 a3 a4 b0 b1 b2 b3 b4;obtain ⟨v0,y0⟩:=hrc.ex 0 (by omega);obtain ⟨v1,y1⟩:=hrc.ex 1 (by omega);obtain ⟨v2,y2⟩:=hrc.ex 2 (by omega);obtain ⟨v3,y3⟩:=hrc.ex 3 (by omega);obtain ⟨v4,y4⟩:=hrc.ex 4 (by omega);have z0:=hrc.fz 0;have z1:=hrc.fz 1;have z2:=hrc.fz 2;have z3:=hrc.fz 3;have z4:=hrc.fz 4;have hw1':=hw1.symm;have hw2':=hw2.symm;have hw3':=hw3.symm;have lw:w.heap.size+1+1 < w3.heap.size:=by omega
 clear hw1 hw2 hw3 hb1 hb2 hb3 hB1 hB2 hbw ha hb hn h2 hI hrc;unfold sv;by_cases hk:a.kind=b.kind
 {have HK:=Y1 hk;have m0: (a.kind !=b.kind)=false:=by rw[hk]; simp
  have m1: (a.kind==b.kind)=true:=by rw[hk]; simp
  by_cases h6:a.kind=6
  {have m6: (a.kind==6)=true:=by rw[h6]; rfl
   have HE:=Y1 (ZaY HI.out false a b pa pb n0 w3 H2.out (Za4 (Z1c H2.out.ra) (Or.inl h6)) (Za4 (Z1c H2.out.rb) (Or.inl (hk▸h6))) hk (Or.inr ⟨rfl,h6⟩) HA.out HB.out HN3.out);unfold sv bfn at HE;simp only[Bool.not_true,Bool.not_false,Bool.false_eq_true,if_true,if_false] at HE;clear hk h6;go_enter Tryd.func32,Tryd.ntmps32
   go_wp2_with fail
   refine HE.out.mono ?_;rintro e W6 ⟨t,q,rfl,hB,hj⟩;have hR:=HR.out.upd (T:=fun _=>False) (Upd.new hB) (fun h=>h);have HF:=Y1 (ZaA (rc:=w.heap.size+1+1) HN.out HW.out (by omega) lw hB hj);have HLY:=Y1 (RX.lay_at t q (W:=W6) (g:=w.heap.size+1+1) hR.ex);clear y0 y1 y2 y3 y4 z0 z1 z2 z3 z4 v0 v1 v2 v3 v4;obtain ⟨v0,y0⟩:=hR.ex 0 (by omega);obtain ⟨v1,y1⟩:=hR.ex 1 (by omega);obtain ⟨v2,y2⟩:=hR.ex 2 (by omega);obtain ⟨v3,y3⟩:=hR.ex 3 (by omega);obtain ⟨v4,y4⟩:=hR.ex 4 (by omega);have z0:=hR.fz 0;have z1:=hR.fz 1;have z2:=hR.fz 2;have z3:=hR.fz 3;have z4:=hR.fz 4;clear hB hj HE hR a0 a1 a2 a3 a4 b0 b1 b2 b3 b4;unfold sv;go_wp2;obtain ⟨u0,u1,u2,u3,u4⟩:=HLY.out;unfold RX.lay at u0 u1 u2 u3 u4;simp only[Nat.zero_add] at u0 u1 u2 u3 u4;refine bodyPost_ret (v:= .tuple #[sv t q,.bool (bound (f+1) false a b).isSome]) (by simp[results,Tryd.results32,go_sem,u0,u1,u2,u3,u4]) rfl ?_;exact HF.out}
  {have m6: (a.kind==6)=false:=by simpa using h6
   by_cases h7:a.kind=7
   {have m7: (a.kind==7)=true:=by rw[h7]; rfl
    have HE:=Y1 (Zb7 HI.out false a b pa pb n0 w3 H2.out (Za4 (Z1c H2.out.ra) (Or.inr h7)) (Za4 (Z1c H2.out.rb) (Or.inr (hk▸h7))) hk (Or.inr ⟨rfl,h7⟩) HA.out HB.out HN3.out);unfold sv bfn at HE;simp only[Bool.not_true,Bool.not_false,Bool.false_eq_true,if_true,if_false] at HE;clear hk h6 h7;go_enter Tryd.func32,Tryd.ntmps32
    go_wp2_with fail
    refine HE.out.mono ?_;rintro e W6 ⟨t,q,rfl,hB,hj⟩;have hR:=HR.out.upd (T:=fun _=>False) (Upd.new hB) (fun h=>h);have HF:=Y1 (ZaA (rc:=w.heap.size+1+1) HN.out HW.out (by omega) lw hB hj);have HLY:=Y1 (RX.lay_at t q (W:=W6) (g:=w.heap.size+1+1) hR.ex);clear y0 y1 y2 y3 y4 z0 z1 z2 z3 z4 v0 v1 v2 v3 v4;obtain ⟨v0,y0⟩:=hR.ex 0 (by omega);obtain ⟨v1,y1⟩:=hR.ex 1 (by omega);obtain ⟨v2,y2⟩:=hR.ex 2 (by omega);obtain ⟨v3,y3⟩:=hR.ex 3 (by omega);obtain ⟨v4,y4⟩:=hR.ex 4 (by omega);have z0:=hR.fz 0;have z1:=hR.fz 1;have z2:=hR.fz 2;have z3:=hR.fz 3;have z4:=hR.fz 4;clear hB hj HE hR a0 a1 a2 a3 a4 b0 b1 b2 b3 b4;unfold sv;go_wp2;obtain ⟨u0,u1,u2,u3,u4⟩:=HLY.out;unfold RX.lay at u0 u1 u2 u3 u4;simp only[Nat.zero_add] at u0 u1 u2 u3 u4;refine bodyPost_ret (v:= .tuple #[sv t q,.bool (bound (f+1) false a b).isSome]) (by simp[results,Tryd.results32,go_sem,u0,u1,u2,u3,u4]) rfl ?_;exact HF.out}
   {have m7: (a.kind==7)=false:=by simpa using h7
    have HE:=Y1 (ZaZ HI.out false a b pa pb n0 w3 H2.out hk (fun h=>h.elim h6 h7) HA.out HB.out HN3.out);unfold sv bfn at HE;simp only[Bool.not_true,Bool.not_false,Bool.false_eq_true,if_true,if_false] at HE;clear hk h6 h7;go_enter Tryd.func32,Tryd.ntmps32
    go_wp2_with fail
    refine HE.out.mono ?_;rintro e W6 ⟨t,q,rfl,hB,hj⟩;have hR:=HR.out.upd (T:=fun _=>False) (Upd.new hB) (fun h=>h);have HF:=Y1 (ZaA (rc:=w.heap.size+1+1) HN.out HW.out (by omega) lw hB hj);have HLY:=Y1 (RX.lay_at t q (W:=W6) (g:=w.heap.size+1+1) hR.ex);clear y0 y1 y2 y3 y4 z0 z1 z2 z3 z4 v0 v1 v2 v3 v4;obtain ⟨v0,y0⟩:=hR.ex 0 (by omega);obtain ⟨v1,y1⟩:=hR.ex 1 (by omega);obtain ⟨v2,y2⟩:=hR.ex 2 (by omega);obtain ⟨v3,y3⟩:=hR.ex 3 (by omega);obtain ⟨v4,y4⟩:=hR.ex 4 (by omega);have z0:=hR.fz 0;have z1:=hR.fz 1;have z2:=hR.fz 2;have z3:=hR.fz 3;have z4:=hR.fz 4;clear hB hj HE hR a0 a1 a2 a3 a4 b0 b1 b2 b3 b4;unfold sv;go_wp2;obtain ⟨u0,u1,u2,u3,u4⟩:=HLY.out;unfold RX.lay at u0 u1 u2 u3 u4;simp only[Nat.zero_add] at u0 u1 u2 u3 u4;refine bodyPost_ret (v:= .tuple #[sv t q,.bool (bound (f+1) false a b).isSome]) (by simp[results,Tryd.results32,go_sem,u0,u1,u2,u3,u4]) rfl ?_;exact HF.out}}}
 {have m0: (a.kind !=b.kind)=true:=by simpa using hk
  have m1: (a.kind==b.kind)=false:=by simpa using hk
  have HBD:Hid (bound (f+1) false a b=none):=Y1 (by unfold bound; rw[if_pos hk]);have HLY:=Y1 (RX.lay_at ⟨0,[],[],[],[]⟩ noneQ12 (W:=w3) (g:=w.heap.size+1+1) HR.out.ex);have HUP:=Y1 (RX.lay_upd w3 (w.heap.size+1+1) ⟨0,[],[],[],[]⟩ noneQ12);clear hk;go_enter Tryd.func32,Tryd.ntmps32;go_wp2;obtain ⟨u0,u1,u2,u3,u4⟩:=HLY.out;unfold RX.lay at u0 u1 u2 u3 u4;simp only[Nat.zero_add,List.length_nil] at u0 u1 u2 u3 u4;refine bodyPost_ret (v:= .tuple #[.agg #[.int .i64 0,.string ⟨#[]⟩,.string ⟨#[]⟩,.slice none 0 0,.slice none 0 0],.bool false]) (by simp[results,Tryd.results32,go_sem,u0,u1,u2,u3,u4]) rfl ?_;exact ZbI (HW.out.trans (HUP.out.below HW.out.size (fun x hx=>by omega))) HBD.out}
end
theorem Zck (f:Nat):BoundOk f:=by
 induction f with
 | zero=>intro up a b pa pb n0 w h; have:=h.da; rw[Z0T] at this; omega
 | succ f hI=>
  intro up a b pa pb n0 w h ha hb hn;cases up
  {exact ZcB hI a b pa pb n0 w h ha hb hn}
  {exact ZcA hI a b pa pb n0 w h ha hb hn}
end SubM
end Go.Proofs.YthajhofgjhfjeaaDoor
namespace Go.Proofs.YthajhofgjhfjeaaDoor
section
open Go.RowKit Shp Go.Sort
structure Swi (w wi:World) (ps:List Sh) (qs:Nat->Ptr) (Fs Fs':Nat->List Nat) (i:Nat):Prop where
 up:UpF ((List.range ps.length).flatMap Fs) w wi
 pm: ∀j,j < ps.length->(Fs' j).Perm (Fs j)
 lo: ∀j (h:j < ps.length),j < i->Own wi (qs j) (sorted (ps[j]'h)) (Fs' j)
 hi: ∀j (h:j < ps.length),i<=j->Own wi (qs j) (ps[j]'h) (Fs' j)
theorem Swi.start {w wi:World} {ps:List Sh} {qs:Nat->Ptr} {Fs:Nat->List Nat} (hr: ∀j (h:j < ps.length),Own w (qs j) (ps[j]'h) (Fs j)) (hb:Below w.heap.size w wi):Swi w wi ps qs Fs Fs 0:=
 ⟨(UpF.refl _ _).below hb,fun j _=>List.Perm.refl _,fun j _ h=>absurd h (by omega),fun j h _=>Z17 (hr j h) hb⟩
theorem Swi.below {w wi w2:World} {ps:List Sh} {qs:Nat->Ptr} {Fs Fs':Nat->List Nat} {i:Nat} (h:Swi w wi ps qs Fs Fs' i) (hb:Below wi.heap.size wi w2):Swi w w2 ps qs Fs Fs' i:=
 ⟨h.up.below hb,h.pm,fun j hj hl=>Z17 (h.lo j hj hl) hb,fun j hj hl=>Z17 (h.hi j hj hl) hb⟩
theorem Swi.step {w wi w2:World} {ps:List Sh} {qs:Nat->Ptr} {Fs Fs':Nat->List Nat} {i:Nat} {F':List Nat} (h:Swi w wi ps qs Fs Fs' i) (hi:i < ps.length)
 (hdis: ∀i j,i < ps.length->j < ps.length->i≠j-> ∀b∈Fs i,b∉Fs j) (hu:UpF (Fs' i) wi w2) (hp:F'.Perm (Fs' i)) (ho:Own w2 (qs i) (sorted (ps[i]'hi)) F'): ∃Fs2,Swi w w2 ps qs Fs Fs2 (i+1):=by
 have hfar: ∀j,j < ps.length->j≠i-> ∀b∈Fs' j,b∉Fs' i:=fun j hj hne b hb hb2=>
  hdis j i hj hi hne b ((h.pm j hj).mem_iff.1 hb) ((h.pm i hi).mem_iff.1 hb2)
 refine ⟨fun j=>if j=i then F' else Fs' j,h.up.next hu (fun x hx=>List.mem_flatMap.2 ⟨i,List.mem_range.2 hi,(h.pm i hi).mem_iff.1 hx⟩),fun j hj=> ?_,fun j hj hl=> ?_,fun j hj hl=> ?_⟩
 {by_cases e:j=i
  {subst e; simp only[if_true]; exact hp.trans (h.pm j hj)}
  {simp only[if_neg e]; exact h.pm j hj}}
 {by_cases e:j=i
  {subst e; simp only[if_true]; exact ho}
  {simp only[if_neg e];have ho2:=h.lo j hj (by omega);exact ho2.of (fun b hb=>hu.same (ho2.lt b hb) (hfar j hj e b hb)) hu.size}}
 {have e:j≠i:=by omega
  simp only[if_neg e];have ho2:=h.hi j hj (by omega);exact ho2.of (fun b hb=>hu.same (ho2.lt b hb) (hfar j hj e b hb)) hu.size}
def half (t:Sh):Sh:=⟨t.kind,t.of_,t.name,t.names,t.parts.map sorted⟩
theorem Z3Y {t:Sh} {q:Ptr} (h:Small t q):Small (half t) q:=by
 obtain ⟨h1,h2,h3,h4,h5,h6,h7,h8,h9⟩:=h;exact ⟨h1,h2,h3,h4,by simpa[half] using h5,h6,by simpa[half] using h7,h8,h9⟩
theorem Swi.halfs {w wi:World} {t:Sh} {qs:Nat->Ptr} {Fs Fs':Nat->List Nat} (h:Swi w wi t.parts qs Fs Fs' t.parts.length): ∀i (hi:i < (half t).parts.length),Own wi (qs i) ((half t).parts[i]'hi) (Fs' i):=fun i hi=>by
 have hi2:i < t.parts.length:=by simpa[half] using hi
 have:=h.lo i hi2 hi2;simpa[half] using this
theorem Z4n {n:Nat} {Fs Fs':Nat->List Nat} (h: ∀j,j < n->(Fs' j).Perm (Fs j)): ((List.range n).flatMap Fs').Perm ((List.range n).flatMap Fs):=by
 induction n with
 | zero=>exact List.Perm.refl _
 | succ n ih=>
  rw[List.range_succ,List.flatMap_append,List.flatMap_append];refine (ih fun j hj=>h j (by omega)).append ?_;simpa using h n (by omega)
theorem Z8p {w wi w2:World} {t:Sh} {q:Ptr} {FN FP:List Nat} {qs:Nat->Ptr} {Fs Fs':Nat->List Nat} (hr:right t=true) (hs:Small t q) (h0:t.names.length=0)
 (hn:t.names.length=0/\FN= []\/ ∃b,q.A=some ⟨b,0,none⟩/\FN= [b]/\TxR w b t.names) (hp:t.parts.length=0/\FP= []\/ ∃b,q.P=some ⟨b,0,none⟩/\FP= [b]/\PaR w b t.parts qs)
 (hnd: (FN++FP++(List.range t.parts.length).flatMap Fs).Nodup) (h:Swi w wi t.parts qs Fs Fs' t.parts.length) (hb:Below wi.heap.size wi w2):
 UpF (FN++FP++(List.range t.parts.length).flatMap Fs) w w2/\ ∃F',F'.Perm (FN++FP++(List.range t.parts.length).flatMap Fs)/\Own w2 q (sorted t) F':=by
 have h2:=h.below hb;obtain ⟨n1,n2,n3,_,_⟩:=Z1Z hnd;have hU:UpF (FN++FP++(List.range t.parts.length).flatMap Fs) w w2:=(UpF.refl _ w).next h2.up (fun x hx=>List.mem_append_right _ hx);have hnil:t.names= []:=List.eq_nil_of_length_eq_zero h0;have hso:sorted t=half t:=by rw[Z09,if_pos hnil]; unfold half; rw[hnil]
 have hin: ∀b∈FP,b∉(List.range t.parts.length).flatMap Fs:=fun b hb hb2=>by
  obtain ⟨j,hj,hb2⟩:=List.mem_flatMap.1 hb2;exact n3 b hb j (List.mem_range.1 hj) hb2
 have hin2: ∀b∈FN,b∉(List.range t.parts.length).flatMap Fs:=fun b hb hb2=>by
  obtain ⟨j,hj,hb2⟩:=List.mem_flatMap.1 hb2;exact n2 b hb j (List.mem_range.1 hj) hb2
 refine ⟨hU,FN++FP++(List.range t.parts.length).flatMap Fs',(Z4n h2.pm).append_left _, ?_⟩;rw[hso];refine .mk q _ _ FN FP qs Fs' (Z3Y hs) ?_ ?_ (Swi.halfs h2) (by simp[half])
 {rcases hn with h | ⟨b,h1,rfl,h3⟩
  {exact Or.inl h}
  {exact Or.inr ⟨b,h1,rfl,h3.of (h2.up.same h3.lt (hin2 b (by simp))) h2.up.size⟩}}
 {rcases hp with h | ⟨b,h1,rfl,h3⟩
  {exact Or.inl (by simpa[half] using h)}
  {refine Or.inr ⟨b,h1,rfl,Nat.lt_of_lt_of_le h3.lt h2.up.size,fun i hi=> ?_,fun k=>((h2.up.same h3.lt (hin b (by simp))).2 k).trans (h3.fz k)⟩;have hi2:i < t.parts.length:=by simpa[half] using hi
   have hm:t.parts[i]∈t.parts:=List.getElem_mem hi2;have:=Z3N (Z05 hr hm) ((h3.at_ i hi2).of (h2.up.same h3.lt (hin b (by simp))).1);simpa[half] using this}}
theorem Z8q {t:Sh} (hl:t.names.length=t.parts.length) (qs:Nat->Ptr) (Fs:Nat->List Nat): (els t qs Fs).toList.map (fun x=>((x.n,x.t):Fld))=t.names.zip t.parts:=by
 apply List.ext_getElem
 {simp[els,hl]}
 {intro i h1 h2;have h3:i < t.names.length:=by simpa[els] using h1
  have h4:i < t.parts.length:=by omega
  simp[els,h3,h4]}
theorem Z8r {w wi:World} {t:Sh} {q:Ptr} {FN FP:List Nat} {qs:Nat->Ptr} {Fs Fs':Nat->List Nat} (hr:right t=true) (hs:Small t q) (h0:t.names.length≠0)
 (hn:t.names.length=0/\FN= []\/ ∃b,q.A=some ⟨b,0,none⟩/\FN= [b]/\TxR w b t.names) (hp:t.parts.length=0/\FP= []\/ ∃b,q.P=some ⟨b,0,none⟩/\FP= [b]/\PaR w b t.parts qs)
 (hnd: (FN++FP++(List.range t.parts.length).flatMap Fs).Nodup) (h:Swi w wi t.parts qs Fs Fs' t.parts.length):
 ∃bn bp,q.A=some ⟨bn,0,none⟩/\q.P=some ⟨bp,0,none⟩/\(half t).names.length=(half t).parts.length/\TxR wi bn (half t).names/\PaR wi bp (half t).parts qs/\bn≠bp/\
  ∀(d':Array El) (w2:World),PermIn 0 (half t).names.length (els (half t) qs Fs') d'->SortedIn ltEl 0 (half t).names.length d'->FSt wi bn bp (half t).names.length d' w2->
   UpF (FN++FP++(List.range t.parts.length).flatMap Fs) w w2/\ ∃F',F'.Perm (FN++FP++(List.range t.parts.length).flatMap Fs)/\Own w2 q (sorted t) F':=by
 obtain ⟨hl,hnn⟩:=(Z1B hr).resolve_left (fun e=>h0 (by rw[e]; rfl));rcases hn with ⟨hn,_⟩ | ⟨bn,hA,rfl,hT⟩
 {omega}
 rcases hp with ⟨hp,_⟩ | ⟨bp,hP,rfl,hPa⟩
 {omega}
 obtain ⟨n1,n2,n3,_,_⟩:=Z1Z hnd;have hbnp:bn≠bp:=fun e=>n1 bn (by simp) (by simp[e]);have hinP:bp∉(List.range t.parts.length).flatMap Fs:=fun hb2=>by
  obtain ⟨j,hj,hb2⟩:=List.mem_flatMap.1 hb2;exact n3 bp (by simp) j (List.mem_range.1 hj) hb2
 have hinN:bn∉(List.range t.parts.length).flatMap Fs:=fun hb2=>by
  obtain ⟨j,hj,hb2⟩:=List.mem_flatMap.1 hb2;exact n2 bn (by simp) j (List.mem_range.1 hj) hb2
 have hlh: (half t).names.length=(half t).parts.length:=by simpa[half] using hl
 refine ⟨bn,bp,hA,hP,hlh,hT.of (h.up.same hT.lt hinN) h.up.size,⟨Nat.lt_of_lt_of_le hPa.lt h.up.size,fun i hi=> ?_,fun k=>((h.up.same hPa.lt hinP).2 k).trans (hPa.fz k)⟩,hbnp, ?_⟩
 {have hi2:i < t.parts.length:=by simpa[half] using hi
  have hm:t.parts[i]∈t.parts:=List.getElem_mem hi2;have:=Z3N (Z05 hr hm) ((hPa.at_ i hi2).of (h.up.same hPa.lt hinP).1);simpa[half] using this}
 {intro d' w2 hpm hso hf;have hpl:=Z74 hpm (Z2u _ _ _);have hown: ∀i (hi:i < (half t).parts.length),Own w2 (qs i) ((half t).parts[i]'hi) (Fs' i):=fun i hi=>by
   have hi2:i < t.parts.length:=by simpa[half] using hi
   have ho:=h.halfs i hi;refine ho.of (fun b hb=> ?_) hf.up.size;have hbF:b∈Fs i:=(h.pm i hi2).mem_iff.1 hb;have hb1:b≠bn:=fun e=>n2 bn (by simp) i hi2 (e▸hbF);have hb2:b≠bp:=fun e=>n3 bp (by simp) i hi2 (e▸hbF);have hbl:=hf.up.block b (ho.lt b hb) hb1 hb2;exact ⟨fun k=>World.cell?_of_block (w:=wi) hbl,fun k=>World.frozen?_of_block (w:=wi) hbl⟩
  obtain ⟨o1,o2⟩:=Z91 (N:=(half t).names.length) hA hP (Z3Y hs) rfl hlh.symm hf hpl hown;have hsorted:sorted t=⟨(half t).kind,(half t).of_,(half t).name,d'.toList.map El.n,d'.toList.map El.t⟩:=by
   have hfst: (t.names.zip (t.parts.map sorted)).map Prod.fst=t.names:=List.map_fst_zip (by rw[List.length_map,hl]; exact Nat.le_refl _);have hu: (d'.toList.map fun x=>((x.n,x.t):Fld))=sortF (t.names.zip (t.parts.map sorted)):=by
    refine Z1e ?_ (Z4X hso hf.size) (by rw[hfst]; exact hnn);have:=hpl.map (fun x=>((x.n,x.t):Fld))
    rwa [Z8q hlh] at this
   rw[Z09,if_neg (fun e=>h0 (by rw[e]; rfl)), <-hu];simp[half,List.map_map,Function.comp_def]
  refine ⟨?_,_, ?_,by rw[hsorted]; exact o1⟩
  {have hU1:UpF ([bn]++ [bp]++(List.range t.parts.length).flatMap Fs) w wi:=(UpF.refl _ w).next h.up (fun x hx=>List.mem_append_right _ hx);exact hU1.next (hf.up.upF (F:= [bn]++ [bp]) (by simp) (by simp)) (fun x hx=>List.mem_append_left _ hx)}
  {refine o2.trans ?_;have:=(Z4n h.pm).append_left ([bn]++ [bp]);simpa[half] using this}}
theorem Box5.same {W W':World} {g:Nat} {t:Sh} {q:Ptr} (h:Box5 W g t q) (hs:Z0i W W' g) (hz:W.heap.size<=W'.heap.size):Box5 W' g t q:=by
 obtain ⟨h0,h1,f0,f1,f2,f3,f4⟩:=h;exact ⟨Nat.lt_of_lt_of_le h0 hz,h1.of hs.1,(hs.2 _).trans f0,(hs.2 _).trans f1,(hs.2 _).trans f2,(hs.2 _).trans f3,(hs.2 _).trans f4⟩
theorem Swi.box {w wi:World} {t:Sh} {q:Ptr} {qs:Nat->Ptr} {Fs Fs':Nat->List Nat} {i g:Nat} (h:Swi w wi t.parts qs Fs Fs' i) (hb:Box5 w g t q) (hg:g∉(List.range t.parts.length).flatMap Fs):Box5 wi g t q:=
 hb.same (h.up.same hb.1 hg) h.up.size
theorem Z3Z (t:Sh): ∀(q:Ptr) (F:List Nat) (w:World),Own w q t F->F.Nodup->right t=true->size t<=400->
 Calls Tryd.prog 27 #[.agg (Y8 t q)] w
  fun e w'=>e= .returned (.tuple #[])/\UpF F w w'/\ ∃F',F'.Perm F/\Own w' q (sorted t) F':=by
 induction t using Sh.ind with
 | h t ih=>
 intro q F w hO hnd hr hz;have hb0:=Z01 w (.cells (Y8 t q) 25);have HB:=Y1 (Z03 w t q);have HM:=Y1 hO.small;have hlt:=hO.lt;obtain ⟨FN,FP,qs,Fs,hn,hp,hrr,rfl⟩:=(Z17 hO hb0).inv;obtain ⟨n1,n2,n3,n4,n5⟩:=Z1Z hnd;have hg:w.heap.size∉(List.range t.parts.length).flatMap Fs:=fun hm=>by
  have:=hlt w.heap.size (List.mem_append_right _ hm);omega
 have HG:=Y1 hg;have HS0:=Y1 (Swi.start hrr Y2);have HN:=Y1 hn;have HP:=Y1 hp;have HND:=Y1 hnd;have HD:=Y1 n5;have HN4:=Y1 n4;have HN3:=Y1 n3;have HR:=Y1 hr;have HZ:Hid (size t=1+sizes t.parts):=Y1 (size_eq t);have HB0:=Y1 hb0;have hlen:=Z0P t.parts;have hpl:t.parts.length<=400:=by have:=HZ.out; omega
 clear hb0 hO hlt hn hp hrr hnd n1 n2 n3 n4 n5 hr hg hlen;go_enter Tryd.func27,Tryd.ntmps27
 go_wp2_with fail
 generalize w.alloc (.cells (Y8 t q) 25)=W0 at HB HS0 HN HP HB0 ⊢
 go_loopw [7] (fun ii wr=> ∃i:Nat,ii= .int .i64 i/\i<=t.parts.length/\Hid (∃Fs',Swi W0 wr t.parts qs Fs Fs' i)) (fun i _=>t.parts.length - (intOf i).toNat)
 case atStart=>exact ⟨0,rfl,Nat.zero_le _,Y1 ⟨_,HS0.out⟩⟩
 case round=>
  obtain ⟨i,rfl,hi,HSW⟩:=hrel;by_cases hlt:i < t.parts.length
  {obtain ⟨Fs',hsw⟩:=HSW.out;rcases HP.out with ⟨h0,_⟩ | ⟨bp,hqP,hFP,hPa⟩
   {omega}
   {obtain ⟨x,hx⟩: ∃x,x=t.parts[i]:=⟨_,rfl⟩;have hxr:right x=true:=by rw[hx]; exact Z05 HR.out (List.getElem_mem _)
    have hxz:size x<=400:=by
     have:=Z1O (List.getElem_mem hlt);have:=HZ.out;rw[hx]; omega
    have hinP:bp∉(List.range t.parts.length).flatMap Fs:=fun hb2=>by
     obtain ⟨j,hj,hb2⟩:=List.mem_flatMap.1 hb2;exact HN3.out bp (by rw[hFP]; simp) j (List.mem_range.1 hj) hb2
    obtain ⟨p0,p1,p2,p3,p4⟩:=(hPa.at_ i hlt).of (hsw.up.same hPa.lt hinP).1;have hbx:=Z01 wr (.cells (Y8 x (qs i)) 25);have hsw2:=hsw.below hbx;have hox:=hsw2.hi i hlt (Nat.le_refl _);rw[<-hx] at p0 p1 p2 p3 p4 hox;have IH:=Y1 (ih t.parts[i] (List.getElem_mem _) (qs i) (Fs' i) (wr.alloc (.cells (Y8 x (qs i)) 25)) (by rw[<-hx]; exact hox) (((hsw.pm i hlt).nodup_iff).2 (HN4.out i hlt)) (by rw[<-hx]; exact hxr) (by rw[<-hx]; exact hxz));rw[<-hx] at IH;have HX:=Y1 hx;have HSW2:=Y1 hsw2;clear hx hsw hsw2 hox hbx hinP hPa hFP hxr hxz ih HSW;have hi1: (i:Int) < (t.parts.length:Int):=by omega
    rw[hqP];clear hqP
    go_wp2_with fail
    refine IH.out.mono ?_;rintro e w2 ⟨rfl,hu,F',hF',ho'⟩;have HS3:Hid (∃Fs2,Swi W0 w2 t.parts qs Fs Fs2 (i+1)):=Y1 (HSW2.out.step hlt HD.out hu hF' (by rw[<-HX.out]; exact ho'));clear hu hF' ho' IH HSW2;go_wp2
    go_roundw
    case rel=>exact ⟨i+1,by go_num,by omega,HS3⟩
    case measure=>simp[intOf]; omega}}
  {obtain ⟨Fs',hsw⟩:=HSW.out;have hie:i=t.parts.length:=by omega
   subst hie;have hi1: ¬(t.parts.length:Int) < (t.parts.length:Int):=by omega
   obtain ⟨_,⟨b0,b1,b2,b3,b4⟩,_⟩:=hsw.box HB.out HG.out;have HSW3:=Y1 hsw;clear hsw HSW hlt
   go_wp2_with fail
   by_cases h0:t.names.length=0
   {refine (Z5V t q wr h0).mono ?_;rintro e w2 ⟨rfl,hb2⟩;obtain ⟨r1,r2⟩:=Z8p HR.out HM.out h0 HN.out HP.out HND.out HSW3.out hb2;have HR1:=Y1 (((UpF.refl _ w).below HB0.out).next r1 (fun x hx=>hx));have HR2:=Y1 r2;clear r1 r2 hb2 HSW3;go_wp2
    go_end0
    exact ⟨rfl,HR1.out,HR2.out⟩}
   {obtain ⟨bn,bp,hA,hP,hl,hT,hPa,hne,hall⟩:=Z8r HR.out HM.out h0 HN.out HP.out HND.out HSW3.out;have hw:=Z73 (half t) q qs Fs' bn bp wr hA hP hl (by
     have: (half t).parts.length=t.parts.length:=by simp[half]
     omega) hT hPa hne
    have hkk: (half t).parts.length=t.parts.length:=by simp[half]
    have e1: (half t).kind=t.kind:=rfl;have e2: (half t).of_=t.of_:=rfl;have e3: (half t).name=t.name:=rfl;have e4: (half t).names.length=t.names.length:=rfl;rw[hkk,e1,e2,e3,e4] at hw;refine hw.mono ?_;rintro e w2 ⟨rfl,d',hpm,hso,hf⟩;obtain ⟨r1,r2⟩:=hall d' w2 hpm hso hf;have HR1:=Y1 (((UpF.refl _ w).below HB0.out).next r1 (fun x hx=>hx));have HR2:=Y1 r2;clear r1 r2 hpm hso hf hw hall HSW3 hA hP hl hT hPa hne hkk e1 e2 e3 e4;go_wp2
    go_end0
    exact ⟨rfl,HR1.out,HR2.out⟩}}
end
section
open Go.RowKit
def wordsC:Array Value:=#[.string ⟨#[]⟩,.string ⟨#[73,110,116]⟩,.string ⟨#[66,111,111,108]⟩,.string ⟨#[84,101,120,116]⟩,.string ⟨#[65,110,121]⟩]
theorem Z3v:Tryd.prog.globalNamed "pandect/shape.words" =some 0:=by kernel_rfl
def WGlobs (w:World):Prop:=w.var? Tryd.prog "pandect/shape.words" =some wordsC
theorem WGlobs.cell {w:World} (h:WGlobs w) (i:Nat):w.cell? ⟨0,i,none⟩=wordsC[i]? :=World.var?_cell Z3v h i
theorem WGlobs.lt {w:World} (h:WGlobs w):0 < w.heap.size:=Z1y ((WGlobs.cell h 0).trans (by rfl:wordsC[0]? =some (.string ⟨#[]⟩)))
theorem WGlobs.next {w w':World} (h:WGlobs w) (hb:Below w.heap.size w w'):WGlobs w':=var?_below hb Z3v (WGlobs.lt h) h
theorem Z2G {P:Program} {w:World}: ∀ {l:List (String×DataW Unit)} {ps:List MemPlace},DataW.LaidVars P w l ps-> ∀x∈l,
 ∃g t cs fuel p,P.globalNamed x.1=some g/\(P.globals[g]?).map (·.type)=some t/\w.var? P x.1=some cs/\DataW.trod (fun _=>()) P w 0 (fun _=>true) false fuel t cs.toList=some (x.2,p)
 | [],_,_,x,hx=>by simp at hx
 | (n,d)::r,ps,h,x,hx=>by
  obtain ⟨g,t,cs,fuel,p,q,h1,h2,h3,h4,h5,_⟩:=h;rcases List.mem_cons.1 hx with rfl | hx
  {exact ⟨g,t,cs,fuel,p,h1,h2,h3,h4⟩}
  {exact Z2G h5 x hx}
theorem Z4o {L:List (String×DataW Unit)} {W:World} (h:laidMet Tryd.prog L W) (m4: ("pandect/shape.words",Rows.laid_pandect_shape_words)∈L):WGlobs W:=by
 unfold WGlobs;obtain ⟨ps,hv,_,_⟩:=h;obtain ⟨g1,t1,cs,f1,p1,a1,b1,c1,d1⟩:=Z2G hv _ m4;obtain rfl:=Option.some.inj (Z3v.symm.trans a1);have ht: (Tryd.prog.globals[0]?).map (·.type)=some 105:=by kernel_rfl
 obtain rfl:=Option.some.inj (ht.symm.trans b1);rw[c1];congr 1;have hc1:Tryd.prog.cellsOf 9=1:=by kernel_rfl
 obtain ⟨xs,m,_,hx,hsz,hl,he⟩:=DataW.trod_array Tryd.underlying105 d1;rw[hc1] at he;have hc6:Tryd.prog.cellsOf 105=5:=by kernel_rfl
 rw[hc6] at hsz;have hx1:=(Prod.mk.inj hx).1;apply Array.ext'
 match xs,hl,hx1 with
 | [y0,y1,y2,y3,y4],_,hx1=>
  obtain ⟨L,hL⟩: ∃L,L=cs.toList:=⟨_,rfl⟩;rw[<-hL] at hsz he ⊢;clear hL
  match L,hsz with
  | [k0,k1,k2,k3,k4],_=>
   have e0:=he 0 (by omega);have e1:=he 1 (by omega);have e2:=he 2 (by omega);have e3:=he 3 (by omega);have e4:=he 4 (by omega);simp only[List.getElem?_cons_zero,List.getElem?_cons_succ,Nat.mul_one,List.drop_zero,List.drop_succ_cons,List.take_succ_cons,List.take_zero] at e0 e1 e2 e3 e4;obtain ⟨x0,h0,rfl,_⟩:=DataW.trod_string Tryd.underlying9 e0;obtain ⟨x1,h1,rfl,_⟩:=DataW.trod_string Tryd.underlying9 e1;obtain ⟨x2,h2,rfl,_⟩:=DataW.trod_string Tryd.underlying9 e2;obtain ⟨x3,h3,rfl,_⟩:=DataW.trod_string Tryd.underlying9 e3;obtain ⟨x4,h4,rfl,_⟩:=DataW.trod_string Tryd.underlying9 e4;simp at h0 h1 h2 h3 h4;simp[Rows.laid_pandect_shape_words] at hx1;obtain ⟨z0,z1,z2,z3,z4⟩:=hx1;have key: ∀(x:ByteArray) (l:List UInt8),l=x.data.toList->x=⟨l.toArray⟩:=fun x l h=>by rw[h]
   rw[h0,h1,h2,h3,h4];have k0:=key x0 [] (by simp[z0]);have k1:=key x1 [73,110,116] (by simp[<-z1]);have k2:=key x2 [66,111,111,108] (by simp[<-z2]);have k3:=key x3 [84,101,120,116] (by simp[<-z3]);have k4:=key x4 [65,110,121] (by simp[<-z4]);rw[k0,k1,k2,k3,k4]; rfl
end
section
open Go.RowKit Shp
def wordB (s:List UInt8):Bool:= []==s|| [73,110,116]==s|| [66,111,111,108]==s|| [84,101,120,116]==s|| [65,110,121]==s
def NotYet (s:List UInt8) (i:Int):Prop:=((1:Int)<=i->(([]:List UInt8)==s)=false)/\((2:Int)<=i->([73,110,116]==s)=false)/\((3:Int)<=i->([66,111,111,108]==s)=false)/\((4:Int)<=i->([84,101,120,116]==s)=false)/\((5:Int)<=i->([65,110,121]==s)=false)
theorem Z5l (s:List UInt8) (w:World) (hg:WGlobs w):
 Calls Tryd.prog 74 #[.string ⟨s.toArray⟩] w fun e w'=>e= .returned (.bool (wordB s))/\w=w':=by
 have c0:w.cell? ⟨0,0,none⟩=some (.string ⟨#[]⟩):=hg.cell 0;have c1:w.cell? ⟨0,1,none⟩=some (.string ⟨#[73,110,116]⟩):=hg.cell 1;have c2:w.cell? ⟨0,2,none⟩=some (.string ⟨#[66,111,111,108]⟩):=hg.cell 2;have c3:w.cell? ⟨0,3,none⟩=some (.string ⟨#[84,101,120,116]⟩):=hg.cell 3;have c4:w.cell? ⟨0,4,none⟩=some (.string ⟨#[65,110,121]⟩):=hg.cell 4;clear hg;have i0: ∀W,(Instr.index 105 (.agg #[.string ⟨#[]⟩,.string ⟨#[73,110,116]⟩,.string ⟨#[66,111,111,108]⟩,.string ⟨#[84,101,120,116]⟩,.string ⟨#[65,110,121]⟩]) (.int .i64 0)).run Tryd.prog W= .ok (.string ⟨#[]⟩) W:=fun W=>by kernel_rfl
 have i1: ∀W,(Instr.index 105 (.agg #[.string ⟨#[]⟩,.string ⟨#[73,110,116]⟩,.string ⟨#[66,111,111,108]⟩,.string ⟨#[84,101,120,116]⟩,.string ⟨#[65,110,121]⟩]) (.int .i64 1)).run Tryd.prog W= .ok (.string ⟨#[73,110,116]⟩) W:=fun W=>by kernel_rfl
 have i2: ∀W,(Instr.index 105 (.agg #[.string ⟨#[]⟩,.string ⟨#[73,110,116]⟩,.string ⟨#[66,111,111,108]⟩,.string ⟨#[84,101,120,116]⟩,.string ⟨#[65,110,121]⟩]) (.int .i64 2)).run Tryd.prog W= .ok (.string ⟨#[66,111,111,108]⟩) W:=fun W=>by kernel_rfl
 have i3: ∀W,(Instr.index 105 (.agg #[.string ⟨#[]⟩,.string ⟨#[73,110,116]⟩,.string ⟨#[66,111,111,108]⟩,.string ⟨#[84,101,120,116]⟩,.string ⟨#[65,110,121]⟩]) (.int .i64 3)).run Tryd.prog W= .ok (.string ⟨#[84,101,120,116]⟩) W:=fun W=>by kernel_rfl
 have i4: ∀W,(Instr.index 105 (.agg #[.string ⟨#[]⟩,.string ⟨#[73,110,116]⟩,.string ⟨#[66,111,111,108]⟩,.string ⟨#[84,101,120,116]⟩,.string ⟨#[65,110,121]⟩]) (.int .i64 4)).run Tryd.prog W= .ok (.string ⟨#[65,110,121]⟩) W:=fun W=>by kernel_rfl
 go_enter Tryd.func74,Tryd.ntmps74
 go_wp2_with fail
 go_loopw [6] (fun ii wr=> ∃i:Int,ii= .int .i64 i/\0<=i/\i<=5/\Hid (NotYet s i)/\w=wr)
  (fun i _=>(5 - intOf i).toNat)
 case atStart=>exact ⟨0,rfl,by omega,by omega,Y1 ⟨fun h=>absurd h (by omega),fun h=>absurd h (by omega),fun h=>absurd h (by omega),fun h=>absurd h (by omega),fun h=>absurd h (by omega)⟩,rfl⟩
 case round=>
  obtain ⟨i,rfl,hi0,hi,HN,rfl⟩:=hrel;clear c0 c1 c2 c3 c4;have hc:i=0\/i=1\/i=2\/i=3\/i=4\/i=5:=by omega
  rcases hc with rfl | rfl | rfl | rfl | rfl | rfl
  {cases hq: (([]:List UInt8)==s)
   {have HN2:Hid (NotYet s 1):=Y1 (show ((1:Int)<=1->(([]:List UInt8)==s)=false)/\((2:Int)<=1->([73,110,116]==s)=false)/\((3:Int)<=1->([66,111,111,108]==s)=false)/\((4:Int)<=1->([84,101,120,116]==s)=false)/\((5:Int)<=1->([65,110,121]==s)=false) from ⟨fun _=>hq,fun h=>absurd h (by omega),fun h=>absurd h (by omega),fun h=>absurd h (by omega),fun h=>absurd h (by omega)⟩);have hqe:s.isEmpty=false:=by cases s <;> simp_all
    go_wp2
    go_roundw
    case rel=>exact ⟨1,rfl,by omega,by omega,HN2,trivial⟩
    case measure=>simp[intOf]}
   {have HF:Hid (wordB s=true):=Y1 (by unfold wordB; rw[hq]; simp);have hqe:s.isEmpty=true:=by cases s <;> simp_all
    go_wp2;go_ret;exact ⟨by rw[HF.out]; rfl,rfl⟩}}
  {cases hq: ([73,110,116]==s)
   {have HN2:Hid (NotYet s 2):=Y1 (show ((1:Int)<=2->(([]:List UInt8)==s)=false)/\((2:Int)<=2->([73,110,116]==s)=false)/\((3:Int)<=2->([66,111,111,108]==s)=false)/\((4:Int)<=2->([84,101,120,116]==s)=false)/\((5:Int)<=2->([65,110,121]==s)=false) from ⟨fun _=>HN.out.1 (by omega),fun _=>hq,fun h=>absurd h (by omega),fun h=>absurd h (by omega),fun h=>absurd h (by omega)⟩);go_wp2
    go_roundw
    case rel=>exact ⟨2,rfl,by omega,by omega,HN2,trivial⟩
    case measure=>simp[intOf]}
   {have HF:Hid (wordB s=true):=Y1 (by unfold wordB; rw[hq]; simp);go_wp2;go_ret;exact ⟨by rw[HF.out]; rfl,rfl⟩}}
  {cases hq: ([66,111,111,108]==s)
   {have HN2:Hid (NotYet s 3):=Y1 (show ((1:Int)<=3->(([]:List UInt8)==s)=false)/\((2:Int)<=3->([73,110,116]==s)=false)/\((3:Int)<=3->([66,111,111,108]==s)=false)/\((4:Int)<=3->([84,101,120,116]==s)=false)/\((5:Int)<=3->([65,110,121]==s)=false) from ⟨fun _=>HN.out.1 (by omega),fun _=>HN.out.2.1 (by omega),fun _=>hq,fun h=>absurd h (by omega),fun h=>absurd h (by omega)⟩);go_wp2
    go_roundw
    case rel=>exact ⟨3,rfl,by omega,by omega,HN2,trivial⟩
    case measure=>simp[intOf]}
   {have HF:Hid (wordB s=true):=Y1 (by unfold wordB; rw[hq]; simp);go_wp2;go_ret;exact ⟨by rw[HF.out]; rfl,rfl⟩}}
  {cases hq: ([84,101,120,116]==s)
   {have HN2:Hid (NotYet s 4):=Y1 (show ((1:Int)<=4->(([]:List UInt8)==s)=false)/\((2:Int)<=4->([73,110,116]==s)=false)/\((3:Int)<=4->([66,111,111,108]==s)=false)/\((4:Int)<=4->([84,101,120,116]==s)=false)/\((5:Int)<=4->([65,110,121]==s)=false) from ⟨fun _=>HN.out.1 (by omega),fun _=>HN.out.2.1 (by omega),fun _=>HN.out.2.2.1 (by omega),fun _=>hq,fun h=>absurd h (by omega)⟩);go_wp2
    go_roundw
    case rel=>exact ⟨4,rfl,by omega,by omega,HN2,trivial⟩
    case measure=>simp[intOf]}
   {have HF:Hid (wordB s=true):=Y1 (by unfold wordB; rw[hq]; simp);go_wp2;go_ret;exact ⟨by rw[HF.out]; rfl,rfl⟩}}
  {cases hq: ([65,110,121]==s)
   {have HN2:Hid (NotYet s 5):=Y1 (show ((1:Int)<=5->(([]:List UInt8)==s)=false)/\((2:Int)<=5->([73,110,116]==s)=false)/\((3:Int)<=5->([66,111,111,108]==s)=false)/\((4:Int)<=5->([84,101,120,116]==s)=false)/\((5:Int)<=5->([65,110,121]==s)=false) from ⟨fun _=>HN.out.1 (by omega),fun _=>HN.out.2.1 (by omega),fun _=>HN.out.2.2.1 (by omega),fun _=>HN.out.2.2.2.1 (by omega),fun _=>hq⟩);go_wp2
    go_roundw
    case rel=>exact ⟨5,rfl,by omega,by omega,HN2,trivial⟩
    case measure=>simp[intOf]}
   {have HF:Hid (wordB s=true):=Y1 (by unfold wordB; rw[hq]; simp);go_wp2;go_ret;exact ⟨by rw[HF.out]; rfl,rfl⟩}}
  {have HF:Hid (wordB s=false):=Y1 (by
    unfold wordB;obtain ⟨h0,h1,h2,h3,h4⟩:=HN.out;rw[h0 (by omega),h1 (by omega),h2 (by omega),h3 (by omega),h4 (by omega)]; rfl)
   go_wp2;go_ret;exact ⟨by rw[HF.out]; rfl,rfl⟩}
theorem Z0h {l:List UInt8} {b:Bool} (h: (l== [])=b):l.isEmpty=b:=by cases l <;> simp_all
theorem Z0R {l:List (List UInt8)}: ((l.length:Int)==0)=decide (l.length=0):=by rw[Bool.eq_iff_iff]; simp
end
end Go.Proofs.YthajhofgjhfjeaaDoor
