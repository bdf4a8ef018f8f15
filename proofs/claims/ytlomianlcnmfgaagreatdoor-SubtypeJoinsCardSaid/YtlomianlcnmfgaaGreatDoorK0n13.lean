/- What the proofs of SubtypeJoins, SubtypeMeets want, part 13. -/
import Derived.Test.YtlomianlcnmfgaaGreatDoorK0n12
set_option linter.unusedVariables false
set_option linter.unusedSimpArgs false
set_option linter.unusedSectionVars false
set_option maxRecDepth 100000
set_option maxHeartbeats 16000000
namespace Go.Proofs.YtlomianlcnmfgaaGreatDoor
open Go.RowKit Shp Sub
namespace SubM
theorem Zcl (w0:World) (gm hi:Nat) (k:Int) (o nmm:List UInt8) (nl:List (List UInt8)) (l:List El) (AN:Option Addr) (cN:Nat) (AP:Option Addr) (cP:Nat) (nm:List UInt8) (t:Sh) (q:Ptr) (W0:World)
 (h:Mk w0 gm hi k o nmm nl l AN cN AP cP W0) (ln:nl.length<=1000) (ll:l.length<=1000):
 Calls Tryz.prog 65 #[.pointer (some ⟨gm,0,none⟩),.string ⟨nm.toArray⟩,sv t q] W0 fun e W'=>e= .returned (.tuple #[])/\
  ∃AN' cN' AP' cP',Mk w0 gm hi k o nmm (nl++ [nm]) (l++ [(t,q)]) AN' cN' AP' cP' W'/\PutOk W0 gm AN AP AN' AP' W':=by
 obtain ⟨i0,hif0,hz0,hs0,hb0⟩:=Z0S Z1R;obtain ⟨i1,hif1,hz1,hs1,hb1⟩:=Z0S Z28;have hbw:=Z01 W0 (.cells (Y8 t q) 25);have hB:=Z05 W0 t q;obtain ⟨w1,hw1⟩: ∃w1,w1=W0.alloc (.cells (Y8 t q) 25):=⟨_,rfl⟩;rw[<-hw1] at hbw hB;have hw1':=hw1.symm;obtain ⟨pb,hpb⟩: ∃pb,pb=W0.heap.size:=⟨_,rfl⟩;have hM:=h.new hbw;obtain ⟨X,hXe⟩: ∃X:PX,X=⟨w1,gm,hi,pb,AN,cN,AP,cP,nl,l,nm,(t,q)⟩:=⟨_,rfl⟩;have hX:X.Good:=by
  rw[hXe];exact ⟨h.gh,by rw[hpb]; exact h.hw,by rw[hpb]; exact hB.1,hM.c3,hM.c4,hM.fz,hM.rN,hM.rP,hM.ne,fun e=>by have:=(Z08 h.rN pb e).2; omega,fun e=>by have:=(Z08 h.rP pb e).2; omega,by rw[hpb]; exact hB.2.1,ln,ll⟩
 have HX:=Y1 hX;have HM:=Y1 hM;have H0:=Y1 h;have HBW:=Y1 hbw;have HPB:=Y1 hpb;subst hXe;clear hw1 hbw hB hM hX h hpb;unfold sv;go_enter Tryz.func65,Tryz.ntmps65
 go_wp2_with fail
 rw[<-HPB.out];refine Z1u (rs:= [0,1,2,3,4,5,6,7,8,9,10,11,12,13,14,15,16,17,18,19,20,21])
  (fun u=> { tmps:=#[.pointer (some ⟨gm,0,none⟩),.string ⟨nm.toArray⟩,.agg (Y8 t q),undef,undef,.pointer (some ⟨pb,0,none⟩),u 0,u 1,u 2,u 3,u 4,u 5,u 6,u 7,u 8,u 9,u 10,u 11,u 12,u 13,u 14,u 15,u 16,u 17,u 19,u 20],defers:= [] })
  (fun j=>undef) (PX.PI ⟨w1,gm,hi,pb,AN,cN,AP,cP,nl,l,nm,(t,q)⟩) (by kernel_rfl) (by kernel_rfl) (by kernel_rfl) HX.out.start ?_ ?_
 refine StepsInv.cons2 _ rfl (fun d u W K' hs hI hd hw hK=> ?_) ?_
 {refine Z02 (v:= .pointer (some ⟨gm,0,none⟩)) (W':=W) rfl ?_ (hK.out _ _ (hI.pure (by decide) (fun v' h=>by cases h; rfl)));go_simp}
 refine StepsInv.cons2 _ rfl (fun d u W K' hs hI hd hw hK=> ?_) ?_
 {refine Z02 (v:= .pointer (some ⟨gm,0,none⟩)) (W':=W) rfl ?_ (hK.out _ _ (hI.pure (by decide) (fun v' h=>by cases h; rfl)));go_simp}
 refine StepsInv.cons2 _ rfl (fun d u W K' hs hI hd hw hK=> ?_) ?_
 {refine Z02 (v:= .pointer (some ⟨gm,0,none⟩)) (W':=W) rfl ?_ (hK.out _ _ (hI.pure (by decide) (fun v' h=>by cases h; rfl)));go_simp}
 refine StepsInv.cons2 _ rfl (fun d u W K' hs hI hd hw hK=> ?_) ?_
 {have d2:u 2= .pointer (some ⟨gm,0,none⟩):=hI.vals 2 (hw 2 (by kernel_rfl)) _ rfl;refine Z02 (v:= .pointer (some ⟨gm,0,none⟩)) (W':=W) rfl ?_ (hK.out _ _ (hI.pure (by decide) (fun v' h=>by cases h; rfl)));go_simp}
 refine StepsInv.cons2 _ rfl (fun d u W K' hs hI hd hw hK=> ?_) ?_
 {have d3:u 3= .pointer (some ⟨gm,0,none⟩):=hI.vals 3 (hw 3 (by kernel_rfl)) _ rfl;refine Z02 (v:= .pointer (some ⟨gm,3,none⟩)) (W':=W) rfl ?_ (hK.out _ _ (hI.pure (by decide) (fun v' h=>by cases h; rfl)));go_simp}
 refine StepsInv.cons2 _ rfl (fun d u W K' hs hI hd hw hK=> ?_) ?_
 {have d4:u 4= .pointer (some ⟨gm,3,none⟩):=hI.vals 4 (hw 4 (by kernel_rfl)) _ rfl;have h18:d 18=false:=Z0i hs rfl (by kernel_rfl) hd;have c3:=hI.c3;rw[h18] at c3;simp only[Bool.false_eq_true,if_false] at c3;change W.cell? ⟨gm,3,none⟩=_ at c3;refine Z02 (v:= .slice AN nl.length cN) (W':=W) rfl ?_ (hK.out _ _ (hI.pure (by decide) (fun v' h=>by cases h; rfl)));go_simp}
 refine StepsInv.cons2 _ rfl (fun d u W K' hs hI hd hw hK=> ?_) ?_
 {refine Z02 (v:= .string ⟨nm.toArray⟩) (W':=W) rfl ?_ (hK.out _ _ (hI.pure (by decide) (fun v' h=>by cases h; rfl)));go_simp}
 refine StepsInv.cons2 _ rfl (fun d u W K' hs hI hd hw hK=> ?_) ?_
 {have d6:u 6= .string ⟨nm.toArray⟩:=hI.vals 6 (hw 6 (by kernel_rfl)) _ rfl;refine Z02 (v:= .slice (some ⟨W.heap.size,0,none⟩) 1 1) (W':=W.alloc (.cells #[.string ⟨nm.toArray⟩] 9)) rfl ?_ (hK.out _ _ (hI.s7 HX.out));go_simp}
 refine StepsInv.cons2 _ rfl (fun d u W K' hs hI hd hw hK=> ?_) ?_
 {have d5:u 5= .slice AN nl.length cN:=hI.vals 5 (hw 5 (by kernel_rfl)) _ rfl;obtain ⟨z,d7,z1,z2,z3⟩:=hI.f7 (hw 7 (by kernel_rfl));have h15:d 15=false:=Z0i hs rfl (by kernel_rfl) hd;have h18:d 18=false:=Z0i hs rfl (by kernel_rfl) hd;have hln:=HX.out.ln;have hsz:=hI.up.size;have hpw:=HX.out.pw;have hhw:=HX.out.hw;refine step_append_lies W rfl _ _ 22 rfl hi 9 i1 (.string ByteArray.empty) 1 16 Tryz.underlying22 hif1 hz1 hs1 hb1 rfl (by decide) _ _ _ (by show u 5=_; exact d5) (hI.n0 hd) ⟨z,0,none⟩ 1 1 [.string ⟨nm.toArray⟩] (by show u 7=_; exact d7) rfl (fun j v hv=>by
   rcases j with _ | j
   {rw[Z0f,z3]; simpa using hv}
   · simp at hv) (by intro v hv; simp at hv; subst hv; rfl) (by decide) (by show nl.length+1<=maxLen; unfold maxLen; change nl.length<=1000 at hln; omega) (by show (nl.length+1) * 16<=140737488355328; change nl.length<=1000 at hln; omega) (by change hi<=pb at hhw; change pb < w1.heap.size at hpw; change w1.heap.size<=_ at hsz; omega) _ rfl ?_
  intro g cp W' hown hg hat hlt;rw[rowB_own] at hg hat;exact hK.out _ _ (hI.s8 HX.out hd h15 h18 hown hg hat)}
 refine StepsInv.cons2 _ rfl (fun d u W K' hs hI hd hw hK=> ?_) ?_
 {refine Z02 (v:= .pointer (some ⟨gm,0,none⟩)) (W':=W) rfl ?_ (hK.out _ _ (hI.pure (by decide) (fun v' h=>by cases h; rfl)));go_simp}
 refine StepsInv.cons2 _ rfl (fun d u W K' hs hI hd hw hK=> ?_) ?_
 {have d9:u 9= .pointer (some ⟨gm,0,none⟩):=hI.vals 9 (hw 9 (by kernel_rfl)) _ rfl;refine Z02 (v:= .pointer (some ⟨gm,0,none⟩)) (W':=W) rfl ?_ (hK.out _ _ (hI.pure (by decide) (fun v' h=>by cases h; rfl)));go_simp}
 refine StepsInv.cons2 _ rfl (fun d u W K' hs hI hd hw hK=> ?_) ?_
 {have d10:u 10= .pointer (some ⟨gm,0,none⟩):=hI.vals 10 (hw 10 (by kernel_rfl)) _ rfl;refine Z02 (v:= .pointer (some ⟨gm,4,none⟩)) (W':=W) rfl ?_ (hK.out _ _ (hI.pure (by decide) (fun v' h=>by cases h; rfl)));go_simp}
 refine StepsInv.cons2 _ rfl (fun d u W K' hs hI hd hw hK=> ?_) ?_
 {have d11:u 11= .pointer (some ⟨gm,4,none⟩):=hI.vals 11 (hw 11 (by kernel_rfl)) _ rfl;have h21:d 21=false:=Z0i hs rfl (by kernel_rfl) hd;have c4:=hI.c4;rw[h21] at c4;simp only[Bool.false_eq_true,if_false] at c4;change W.cell? ⟨gm,4,none⟩=_ at c4;refine Z02 (v:= .slice AP l.length cP) (W':=W) rfl ?_ (hK.out _ _ (hI.pure (by decide) (fun v' h=>by cases h; rfl)));go_simp}
 refine StepsInv.cons2 _ rfl (fun d u W K' hs hI hd hw hK=> ?_) ?_
 {obtain ⟨b0,b1,b2,b3,b4⟩:=hI.box HX.out;simp only[Nat.zero_add] at b0 b1 b2 b3 b4;change W.cell? ⟨pb,0,none⟩=some (.int .i64 t.kind) at b0;change W.cell? ⟨pb,1,none⟩=some (.string ⟨t.of_.toArray⟩) at b1;change W.cell? ⟨pb,2,none⟩=some (.string ⟨t.name.toArray⟩) at b2;change W.cell? ⟨pb,3,none⟩=some (.slice q.A t.names.length q.c) at b3;change W.cell? ⟨pb,4,none⟩=some (.slice q.P t.parts.length q.d) at b4;refine Z02 (v:= .agg (Y8 t q)) (W':=W) rfl ?_ (hK.out _ _ (hI.pure (by decide) (fun v' h=>by cases h; rfl)));go_simp}
 refine StepsInv.cons2 _ rfl (fun d u W K' hs hI hd hw hK=> ?_) ?_
 {have d13:u 13= .agg (Y8 t q):=hI.vals 13 (hw 13 (by kernel_rfl)) _ rfl;refine Z02 (v:= .slice (some ⟨W.heap.size,0,none⟩) 1 1) (W':=W.alloc (.cells (Y8 t q) 25)) rfl ?_ (hK.out _ _ (hI.s14 HX.out));go_simp}
 refine StepsInv.cons2 _ rfl (fun d u W K' hs hI hd hw hK=> ?_) ?_
 {have d12:u 12= .slice AP l.length cP:=hI.vals 12 (hw 12 (by kernel_rfl)) _ rfl;obtain ⟨z,d14,z1,z2,z3⟩:=hI.f14 (hw 14 (by kernel_rfl));have h18:d 18=false:=Z0i hs rfl (by kernel_rfl) hd;have h21:d 21=false:=Z0i hs rfl (by kernel_rfl) hd;have hll:=HX.out.ll;have hsz:=hI.up.size;have hpw:=HX.out.pw;have hhw:=HX.out.hw;refine step_append_lies W rfl _ _ 23 rfl hi 25 i0 (.agg #[.int .i64 0,.string ByteArray.empty,.string ByteArray.empty,.slice none 0 0,.slice none 0 0]) 5 88 Tryz.underlying23 hif0 hz0 hs0 hb0 rfl (by decide) _ _ _ (by show u 12=_; exact d12) (hI.p0 hd) ⟨z,0,none⟩ 1 1 (cells5 (t,q)) (by show u 14=_; exact d14) rfl (fun j v hv=>by rw[Z0f,Nat.zero_add]; exact z3 j v hv) (cells5_one _) (by decide) (by show l.length+1<=maxLen; unfold maxLen; change l.length<=1000 at hll; omega) (by show (l.length+1) * 88<=140737488355328; change l.length<=1000 at hll; omega) (by change hi<=pb at hhw; change pb < w1.heap.size at hpw; change w1.heap.size<=_ at hsz; omega) _ rfl ?_;intro g cp W' hown hg hat hlt;rw[rowB_own] at hg hat;exact hK.out _ _ (hI.s15 HX.out (hw 8 (by kernel_rfl)) hd h18 h21 hown hg hat)}
 refine StepsInv.cons2 _ rfl (fun d u W K' hs hI hd hw hK=> ?_) ?_
 {have d0:u 0= .pointer (some ⟨gm,0,none⟩):=hI.vals 0 (hw 0 (by kernel_rfl)) _ rfl;refine Z02 (v:= .pointer (some ⟨gm,0,none⟩)) (W':=W) rfl ?_ (hK.out _ _ (hI.pure (by decide) (fun v' h=>by cases h; rfl)));go_simp}
 refine StepsInv.cons2 _ rfl (fun d u W K' hs hI hd hw hK=> ?_) ?_
 {have d16:u 16= .pointer (some ⟨gm,0,none⟩):=hI.vals 16 (hw 16 (by kernel_rfl)) _ rfl;refine Z02 (v:= .pointer (some ⟨gm,3,none⟩)) (W':=W) rfl ?_ (hK.out _ _ (hI.pure (by decide) (fun v' h=>by cases h; rfl)));go_simp}
 refine StepsInv.cons2 _ rfl (fun d u W K' hs hI hd hw hK=> ?_) ?_
 {have d17:u 17= .pointer (some ⟨gm,3,none⟩):=hI.vals 17 (hw 17 (by kernel_rfl)) _ rfl;have w8:=hw 8 (by kernel_rfl);have w15:=hw 15 (by kernel_rfl);obtain ⟨g,c,e,_⟩:=hI.n1 w8;change u 8= .slice (some ⟨g,0,none⟩) (nl.length+1) c at e;have hst:=hI.sto HX.out w8 w15 18 3 (by decide) hd;have cc:=hI.c3;rw[hd] at cc;simp only[Bool.false_eq_true,if_false] at cc;change W.cell? ⟨gm,3,none⟩=_ at cc;have hfz:=hI.fz 3;change W.frozen? ⟨gm,3,none⟩=_ at hfz;rw[if_pos rfl,e] at hst;change PX.PI _ _ _ (W.setCell ⟨gm,3,none⟩ _) at hst;refine Z0q (W':=W.setCell ⟨gm,3,none⟩ (.slice (some ⟨g,0,none⟩) (nl.length+1) c)) rfl ?_ (hK.out undef _ hst);go_simp}
 refine StepsInv.cons2 _ rfl (fun d u W K' hs hI hd hw hK=> ?_) ?_
 {have d1:u 1= .pointer (some ⟨gm,0,none⟩):=hI.vals 1 (hw 1 (by kernel_rfl)) _ rfl;refine Z02 (v:= .pointer (some ⟨gm,0,none⟩)) (W':=W) rfl ?_ (hK.out _ _ (hI.pure (by decide) (fun v' h=>by cases h; rfl)));go_simp}
 refine StepsInv.cons2 _ rfl (fun d u W K' hs hI hd hw hK=> ?_) ?_
 {have d19:u 19= .pointer (some ⟨gm,0,none⟩):=hI.vals 19 (hw 19 (by kernel_rfl)) _ rfl;refine Z02 (v:= .pointer (some ⟨gm,4,none⟩)) (W':=W) rfl ?_ (hK.out _ _ (hI.pure (by decide) (fun v' h=>by cases h; rfl)));go_simp}
 refine StepsInv.cons2 _ rfl (fun d u W K' hs hI hd hw hK=> ?_) StepsInv.nil
 {have d20:u 20= .pointer (some ⟨gm,4,none⟩):=hI.vals 20 (hw 20 (by kernel_rfl)) _ rfl;have w8:=hw 8 (by kernel_rfl);have w15:=hw 15 (by kernel_rfl);obtain ⟨g,c,e,_⟩:=hI.p1 w15;change u 15= .slice (some ⟨g,0,none⟩) (l.length+1) c at e;have hst:=hI.sto HX.out w8 w15 21 4 (by decide) hd;have cc:=hI.c4;rw[hd] at cc;simp only[Bool.false_eq_true,if_false] at cc;change W.cell? ⟨gm,4,none⟩=_ at cc;have hfz:=hI.fz 4;change W.frozen? ⟨gm,4,none⟩=_ at hfz;rw[if_neg (by decide),e] at hst;change PX.PI _ _ _ (W.setCell ⟨gm,4,none⟩ _) at hst;refine Z0q (W':=W.setCell ⟨gm,4,none⟩ (.slice (some ⟨g,0,none⟩) (l.length+1) c)) rfl ?_ (hK.out undef _ hst);go_simp}
 {intro d u W hI hd;have h8:=hd 8 (by show 8 < 22; omega);have h15:=hd 15 (by show 15 < 22; omega);have c3:=hI.c3;have c4:=hI.c4;rw[hd 18 (by show 18 < 22; omega)] at c3;rw[hd 21 (by show 21 < 22; omega)] at c4;obtain ⟨g,c,e,r,n⟩:=hI.n1 h8;obtain ⟨g',c',e',r',n',m'⟩:=hI.p1 h15;have hu:=hI.up;have hcr:=hI.cr;have hfz:=hI.fz;simp only[if_true] at c3 c4;rw[e] at c3;rw[e'] at c4;have hgg:=m' g _ _ e;change rowB AN=some g\/w1.heap.size<=g at n;change rowB AP=some g'\/w1.heap.size<=g' at n';have HFIN:Hid (Mk w0 gm hi k o nmm (nl++ [nm]) (l++ [(t,q)]) (some ⟨g,0,none⟩) c (some ⟨g',0,none⟩) c' W/\PutOk W0 gm AN AP (some ⟨g,0,none⟩) (some ⟨g',0,none⟩) W):=Y1 (by
   have hz:=HBW.out.size;have hm:=HM.out;have hrl: ∀b,(b=gm\/rowB AN=some b\/rowB AP=some b)->w0.heap.size<=b:=fun b hb=>by
    rcases hb with rfl | hb | hb
    {exact hm.lo}
    {have:=(Z08 hm.rN b hb).1; have:=hm.lo; have:=hm.gh; omega}
    {have:=(Z08 hm.rP b hb).1; have:=hm.lo; have:=hm.gh; omega}
   refine ⟨⟨hm.up.trans (hu.below hm.up.size hrl),hm.lo,hm.gh,Nat.le_trans hm.hw hu.size,(hcr 0 (by omega)).trans hm.c0,(hcr 1 (by omega)).trans hm.c1,(hcr 2 (by omega)).trans hm.c2, ?_, ?_,hfz, ?_, ?_,Or.inr (fun e=>hgg (by simpa[rowB] using e))⟩,⟨?_, ?_, ?_⟩⟩
   {rw[List.length_append]; exact c3}
   {rw[List.length_append]; exact c4}
   {rw[List.length_append,namesE_append]; exact r}
   {rw[List.length_append,cellsE_append,cellsE_one]; exact r'}
   {exact (Upd.new HBW.out).trans hu}
   {intro b hb;obtain rfl:g=b:=by simpa[rowB] using hb
    exact n.imp id (fun h=>by omega)}
   · intro b hb
     obtain rfl:g'=b:=by simpa[rowB] using hb
     exact n'.imp id (fun h=>by omega))
  clear hI hd h8 h15 c3 c4 e r n e' r' n' m' hu hcr hfz hgg;go_wp2;refine bodyPost_end (v:= .tuple #[]) (by simp[results,Tryz.results65,go_sem]) rfl ?_;exact ⟨rfl,_,_,_,_,HFIN.out⟩}
end SubM
end Go.Proofs.YtlomianlcnmfgaaGreatDoor
namespace Go.Proofs.YtlomianlcnmfgaaGreatDoor
open Go.RowKit Shp Sub
namespace SubM
def bfn (up:Bool):Nat:=if up=true then 18 else 24
theorem Zc6 (up:Bool): ∀args W,(callFunc (bfn up) args).run Tryz.prog W= .ok (.enter (bfn up) args) W:=by
 cases up
 {exact enters_of Tryz.func24 (by kernel_rfl) rfl}
 {exact enters_of Tryz.func18 (by kernel_rfl) rfl}
def BIs (f:Nat) (up:Bool) (a b:Sh) (n0:Nat) (w:World) (e:Ending) (w':World):Prop:=
 ∃(t:Sh) (q:Ptr),e= .returned (.tuple #[sv t q,.bool (bound f up a b).isSome])/\Below w.heap.size w w'/\ ∀j,bound f up a b=some j->t=j/\Kept (fun b=>b < n0\/w.heap.size<=b) w' (j,q)
def BoundOk (f:Nat):Prop:=
 ∀(up:Bool) (a b:Sh) (pa pb:Ptr) (n0:Nat) (w:World),Two f a b->ShAt w n0 pa a->ShAt w n0 pb b->n0<=w.heap.size->Calls Tryz.prog (bfn up) #[sv a pa,sv b pb] w (BIs f up a b n0 w)
structure RX where
 f:Nat
 up:Bool
 a:Sh
 b:Sh
 pa:Ptr
 pb:Ptr
 ga:Nat
 oa:Nat
 gb:Nat
 ob:Nat
 pf:Nat
 n0:Nat
 W0:World
namespace RX
variable (X : RX)
def val (j:Nat):Option Value:=match j with
 | 0=>some (.func (.func (bfn X.up)) #[] #[])
 | 1 | 2=>some (.pointer (some ⟨X.ga,X.oa,none⟩))
 | 3=>some (sv X.a X.pa)
 | 4 | 5=>some (.pointer (some ⟨X.gb,X.ob,none⟩))
 | 6=>some (sv X.b X.pb)
 | _=>none
structure Good:Prop where
 two:Two X.f X.a X.b
 hn:X.n0<=X.W0.heap.size
 gan:X.ga < X.n0
 gbn:X.gb < X.n0
 a5:Sh5 X.W0 X.ga X.oa X.a X.pa
 b5:Sh5 X.W0 X.gb X.ob X.b X.pb
 sa:ShAt X.W0 X.n0 X.pa X.a
 sb:ShAt X.W0 X.n0 X.pb X.b
 fc:X.W0.cell? ⟨X.pf,0,none⟩=some (.func (.func (bfn X.up)) #[] #[])
 fl:X.pf < X.W0.heap.size
 ok:BoundOk X.f
structure RI (d:Nat->Bool) (u:Nat->Value) (W:World):Prop where
 vals: ∀j,d j=true-> ∀v,X.val j=some v->u j=v
 up:Below X.W0.heap.size X.W0 W
 al:d 11=true-> ∃g,u 11= .pointer (some ⟨g,0,none⟩)/\X.W0.heap.size<=g/\g < W.heap.size/\(∀j,W.frozen? ⟨g,j,none⟩=false)/\ ∀j,j < 5-> ∃v,W.cell? ⟨g,j,none⟩=some v
 ca:d 7=true-> ∃(t:Sh) (q:Ptr) (W2:World) (s:Nat),u 7= .tuple #[sv t q,.bool (bound X.f X.up X.a X.b).isSome]/\X.W0.heap.size<=s/\s<=W2.heap.size/\
  (∀j,bound X.f X.up X.a X.b=some j->t=j/\Kept (fun b=>b < X.n0\/s<=b) W2 (j,q))/\
  (d 8=true->u 8=u 7)/\(d 9=true->u 9=sv t q)/\(d 10=true->u 10= .bool (bound X.f X.up X.a X.b).isSome)/\
  Upd (fun b=>d 11=true/\u 11= .pointer (some ⟨b,0,none⟩)) W2 W/\(∀g,d 11=true->u 11= .pointer (some ⟨g,0,none⟩)->g < s\/W2.heap.size<=g)/\(d 12=true-> ∀g,u 11= .pointer (some ⟨g,0,none⟩)->Sh5 W g 0 t q)/\(d 13=true->u 13= .bool (bound X.f X.up X.a X.b).isSome)
variable {X : RX} {d : Nat -> Bool} {u : Nat -> Value} {W W' : World}
theorem RI.vals' (h:X.RI d u W) {i:Nat} {v:Value} (hv: ∀v',X.val i=some v'->v=v'): ∀j,also d i j=true-> ∀v',X.val j=some v'->upd u i v j=v':=fun j hj v' hv'=>by
 by_cases hij:j=i
 {subst hij; rw[Z0h]; exact hv v' hv'}
 {rw[Z0k d hij] at hj; rw[Z04 u v hij]; exact h.vals j hj v' hv'}
theorem Good.start (h:X.Good):X.RI (fun _=>false) u X.W0.drew:=⟨nofun,Y2.drew,nofun,nofun⟩
section
variable (h : X.RI d u W)
include h
theorem RI.pure {i:Nat} (hi:i < 7) {v:Value} (hv: ∀v',X.val i=some v'->v=v'):X.RI (also d i) (upd u i v) W:=by
 have k: ∀j,7<=j->also d i j=d j/\upd u i v j=u j:=fun j hj=>⟨Z0k d (by omega),Z04 u v (by omega)⟩;refine ⟨h.vals' hv,h.up, ?_, ?_⟩
 {rw[(k 11 (by omega)).1,(k 11 (by omega)).2]; exact h.al}
 {rw[(k 7 (by omega)).1,(k 7 (by omega)).2,(k 8 (by omega)).1,(k 8 (by omega)).2,(k 9 (by omega)).1,(k 9 (by omega)).2,(k 10 (by omega)).1,(k 10 (by omega)).2,(k 11 (by omega)).1,(k 11 (by omega)).2,(k 12 (by omega)).1,(k 13 (by omega)).1,(k 13 (by omega)).2];exact h.ca}
theorem RI.look (hX:X.Good):Sh5 W X.ga X.oa X.a X.pa/\Sh5 W X.gb X.ob X.b X.pb/\W.cell? ⟨X.pf,0,none⟩=some (.func (.func (bfn X.up)) #[] #[]):=
 ⟨hX.a5.keep (by have:=hX.gan; have:=hX.hn; omega) h.up,hX.b5.keep (by have:=hX.gbn; have:=hX.hn; omega) h.up,(h.up.cell (p:=⟨X.pf,0,none⟩) hX.fl).trans hX.fc⟩
theorem RI.call (hX:X.Good) (h7:d 7=false) (hd: ∀j,j=8\/j=9\/j=10\/j=12\/j=13->d j=false) {e:Ending} (hb:BIs X.f X.up X.a X.b X.n0 W e W'): ∃v,e= .returned v/\X.RI (also d 7) (upd u 7 v) W':=by
 obtain ⟨t,q,rfl,hbl,hj⟩:=hb;have k: ∀j,j≠7->also d 7 j=d j/\ ∀v,upd u 7 v j=u j:=fun j hj=>⟨Z0k d hj,fun v=>Z04 u v hj⟩;refine ⟨_,rfl,h.vals' (fun v' h=>by cases h),Z00 h.up hbl, ?_,fun _=>⟨t,q,W',W.heap.size,Z0h _ _ _,h.up.size,hbl.size,hj, ?_, ?_, ?_, ?_, ?_, ?_, ?_⟩⟩
 {rw[(k 11 (by omega)).1,(k 11 (by omega)).2];intro h11;obtain ⟨g,e,g1,g2,g3,g4⟩:=h.al h11;exact ⟨g,e,g1,Nat.lt_of_lt_of_le g2 hbl.size,fun j=>(hbl.frozen (p:=⟨g,j,none⟩) g2).trans (g3 j),fun j hj=>by
   obtain ⟨v,hv⟩:=g4 j hj;exact ⟨v,(hbl.cell (p:=⟨g,j,none⟩) g2).trans hv⟩⟩}
 {rw[(k 8 (by omega)).1,hd 8 (by omega)]; nofun}
 {rw[(k 9 (by omega)).1,hd 9 (by omega)]; nofun}
 {rw[(k 10 (by omega)).1,hd 10 (by omega)]; nofun}
 {exact Upd.refl _ _}
 {rw[(k 11 (by omega)).1,(k 11 (by omega)).2];intro g h11 e;obtain ⟨g',e',_,g2,_⟩:=h.al h11;rw[e'] at e;simp only[Value.pointer.injEq,Option.some.injEq,Addr.mk.injEq,and_true] at e;omega}
 {rw[(k 12 (by omega)).1,hd 12 (by omega)]; nofun}
 {rw[(k 13 (by omega)).1,hd 13 (by omega)]; nofun}
theorem RI.read (h7:d 7=true) {i:Nat} (hi:i=8\/i=9\/i=10\/i=13) {v:Value} (hd:d i=false) (hv: ∀t q,u 7= .tuple #[sv t q,.bool (bound X.f X.up X.a X.b).isSome]->
 (i=8->v=u 7)/\(i=9->v=sv t q)/\(i=10->v= .bool (bound X.f X.up X.a X.b).isSome)/\(i=13->v= .bool (bound X.f X.up X.a X.b).isSome)):X.RI (also d i) (upd u i v) W:=by
 have k: ∀j,j≠i->also d i j=d j/\upd u i v j=u j:=fun j hj=>⟨Z0k d hj,Z04 u v hj⟩;refine ⟨h.vals' (fun v' h=>by rcases hi with rfl | rfl | rfl | rfl <;> cases h),h.up, ?_, ?_⟩
 {rw[(k 11 (by omega)).1,(k 11 (by omega)).2]; exact h.al}
 {rw[(k 7 (by omega)).1,(k 7 (by omega)).2,(k 11 (by omega)).1,(k 11 (by omega)).2,(k 12 (by omega)).1];intro _;obtain ⟨t,q,W2,s,e7,s1,s2,hj,e8,e9,e10,hu,hg,h12,h13⟩:=h.ca h7;obtain ⟨v8,v9,v10,v13⟩:=hv t q e7;refine ⟨t,q,W2,s,e7,s1,s2,hj,fun hd=> ?_,fun hd=> ?_,fun hd=> ?_,hu,hg,h12,fun hd=> ?_⟩
  {by_cases e:i=8
   {rw[<-e,Z0h]; exact v8 e}
   {rw[(k 8 (Ne.symm e)).1] at hd; rw[(k 8 (Ne.symm e)).2]; exact e8 hd}}
  {by_cases e:i=9
   {rw[<-e,Z0h]; exact v9 e}
   {rw[(k 9 (Ne.symm e)).1] at hd; rw[(k 9 (Ne.symm e)).2]; exact e9 hd}}
  {by_cases e:i=10
   {rw[<-e,Z0h]; exact v10 e}
   {rw[(k 10 (Ne.symm e)).1] at hd; rw[(k 10 (Ne.symm e)).2]; exact e10 hd}}
  {by_cases e:i=13
   {rw[<-e,Z0h]; exact v13 e}
   {rw[(k 13 (Ne.symm e)).1] at hd; rw[(k 13 (Ne.symm e)).2]; exact h13 hd}}}
end
theorem RI.alloc (h:X.RI d u W) (hX:X.Good) (h11:d 11=false) (h12:d 12=false):X.RI (also d 11) (upd u 11 (.pointer (some ⟨W.heap.size,0,none⟩))) (W.alloc (.cells Yb 25)):=by
 have hb:=Z01 W (.cells Yb 25);have k: ∀j,j≠11->also d 11 j=d j/\ ∀v,upd u 11 v j=u j:=fun j hj=>⟨Z0k d hj,fun v=>Z04 u v hj⟩;refine ⟨h.vals' (fun v' h=>by cases h),Z00 h.up hb,fun _=>⟨W.heap.size,Z0h _ _ _,h.up.size,by simp,fun j=>by simp[go_sem],fun j hj=> ?_⟩, ?_⟩
 {rcases j with _ | _ | _ | _ | _ | j
  {exact ⟨.int .i64 0,by simp[go_sem]⟩}
  {exact ⟨.string ⟨#[]⟩,by simp[go_sem]⟩}
  {exact ⟨.string ⟨#[]⟩,by simp[go_sem]⟩}
  {exact ⟨.slice none 0 0,by simp[go_sem]⟩}
  {exact ⟨.slice none 0 0,by simp[go_sem]⟩}
  {omega}}
 {rw[(k 7 (by omega)).1,(k 7 (by omega)).2,(k 8 (by omega)).1,(k 8 (by omega)).2,(k 9 (by omega)).1,(k 9 (by omega)).2,(k 10 (by omega)).1,(k 10 (by omega)).2,(k 12 (by omega)).1,(k 13 (by omega)).1,(k 13 (by omega)).2,Z0o,Z0h,h12];intro h7;obtain ⟨t,q,W2,s,e7,s1,s2,hj,e8,e9,e10,hu,hg,_,h13⟩:=h.ca h7;refine ⟨t,q,W2,s,e7,s1,s2,hj,e8,e9,e10, ?_,fun g _ e=> ?_,nofun,h13⟩
  {exact (hu.mono (fun b _ hb=>by rw[h11] at hb; exact absurd hb.1 (by decide))).trans (Upd.new hb)}
  {simp only[Value.pointer.injEq,Option.some.injEq,Addr.mk.injEq,and_true] at e;have:=hu.size;omega}}
theorem RI.store (h:X.RI d u W) (h7:d 7=true) (h11:d 11=true) {g:Nat} (hg:u 11= .pointer (some ⟨g,0,none⟩)) {t:Sh} {q:Ptr} (ht:u 7= .tuple #[sv t q,.bool (bound X.f X.up X.a X.b).isSome])
 (hsv: ∀t' q',sv t' q'=sv t q->t'.kind=t.kind/\t'.of_=t.of_/\t'.name=t.name/\q'.A=q.A/\t'.names.length=t.names.length/\q'.c=q.c/\q'.P=q.P/\t'.parts.length=t.parts.length/\q'.d=q.d):X.RI (also d 12) (upd u 12 undef) (lay W g t q):=by
 have k: ∀j,j≠12->also d 12 j=d j/\ ∀v,upd u 12 v j=u j:=fun j hj=>⟨Z0k d hj,fun v=>Z04 u v hj⟩;obtain ⟨g',e',g1,g2,g3,g4⟩:=h.al h11;obtain rfl:g'=g:=by rw[hg] at e'; simp at e'; exact e'.symm
 have hu:=lay_upd W g' t q;refine ⟨h.vals' (fun v' h=>by cases h),h.up.trans (hu.below h.up.size (fun b hb=>by omega)), ?_, ?_⟩
 {rw[(k 11 (by omega)).1,(k 11 (by omega)).2];intro _;have hl:=lay_at t q g4;obtain ⟨l0,l1,l2,l3,l4⟩:=hl;simp only[Nat.zero_add] at l0 l1 l2 l3 l4;refine ⟨g',hg,g1,by rw[lay_size]; exact g2,fun j=>(lay_fz W g' t q j).trans (g3 j),fun j hj=> ?_⟩;rcases j with _ | _ | _ | _ | _ | j
  {exact ⟨_,l0⟩}
  {exact ⟨_,l1⟩}
  {exact ⟨_,l2⟩}
  {exact ⟨_,l3⟩}
  {exact ⟨_,l4⟩}
  {omega}}
 {rw[(k 7 (by omega)).1,(k 7 (by omega)).2,(k 8 (by omega)).1,(k 8 (by omega)).2,(k 9 (by omega)).1,(k 9 (by omega)).2,(k 10 (by omega)).1,(k 10 (by omega)).2,(k 11 (by omega)).1,(k 11 (by omega)).2,(k 13 (by omega)).1,(k 13 (by omega)).2];intro _;obtain ⟨t',q',W2,s,e7,s1,s2,hj,e8,e9,e10,hu2,hgs,_,h13⟩:=h.ca h7;refine ⟨t',q',W2,s,e7,s1,s2,hj,e8,e9,e10,hu2.trans (hu.mono (fun b _ hb=>⟨h11,by rw[hb,hg]⟩)),hgs,fun _ g2 e=> ?_,h13⟩;obtain rfl:g'=g2:=by rw[hg] at e; simpa using e
  have e72:sv t' q'=sv t q:=by
   rw[ht] at e7;simp only[Value.tuple.injEq] at e7;have:=congrArg (fun a:Array Value=>a[0]?) e7;simp at this;simp[sv];exact ⟨this.1.symm,this.2.1.symm,this.2.2.1.symm,⟨this.2.2.2.1.1.symm,this.2.2.2.1.2.1.symm,this.2.2.2.1.2.2.symm⟩,this.2.2.2.2.1.symm,this.2.2.2.2.2.1.symm,this.2.2.2.2.2.2.symm⟩
  obtain ⟨c1,c2,c3,c4,c5,c6,c7,c8,c9⟩:=hsv t' q' e72;obtain ⟨l0,l1,l2,l3,l4⟩:=lay_at t q g4;exact ⟨by rw[c1]; exact l0,by rw[c2]; exact l1,by rw[c3]; exact l2,by rw[c4,c5,c6]; exact l3,by rw[c7,c8,c9]; exact l4⟩}
end RX
end SubM
end Go.Proofs.YtlomianlcnmfgaaGreatDoor
namespace Go.Proofs.YtlomianlcnmfgaaGreatDoor
open Go.RowKit Shp Sub
namespace SubM
def dfn (up:Bool):Nat:=if up=true then 21 else 25
end SubM
end Go.Proofs.YtlomianlcnmfgaaGreatDoor
namespace Go.Proofs.YtlomianlcnmfgaaGreatDoor
open Go.RowKit Shp Sub
namespace SubM
theorem mayBe_walk (t:Sh) (q:Ptr) (w:World) (hq:ShAt w w.heap.size q t) (hg:WGlobs w):
 Y9 35 #[sv t q] w (.bool (decide (check t=0))):=by
 have hb0:=Z01 w (.cells (Y8 t q) 25);have HB0:=Y1 hb0;have HB:=Y1 (Z05 w t q);have HQ:=Y1 (hq.next hb0);have HG:=Y1 (hg.next hb0);obtain ⟨_,⟨c0,c1,c2,c3,c4⟩,_⟩:=HB.out;simp only[Nat.zero_add] at c0 c1 c2 c3 c4;clear hb0 hq hg;unfold sv;go_enter Tryz.func35,Tryz.ntmps35
 go_wp2_with fail
 refine (Z38 t q _ HQ.out HG.out).mono ?_;rintro e W1 ⟨rfl,hb1⟩;have HB1:=Y1 (Z00 HB0.out hb1);clear hb1;go_wp2;go_ret;exact ⟨Z0y (by rw[Bool.eq_iff_iff,beq_iff_eq,decide_eq_true_eq]),HB1.out⟩
theorem Zch (a b:Sh) (pa pb:Ptr) (w:World) (ha:ShAt w w.heap.size pa a) (hb:ShAt w w.heap.size pb b) (hg:WGlobs w):
 Y9 23 #[sv a pa,sv b pb] w (.bool (Sub.below a b)):=by
 have hb1:=Z01 w (.cells (Y8 a pa) 25);obtain ⟨w1,hw1⟩: ∃w1,w1=w.alloc (.cells (Y8 a pa) 25):=⟨_,rfl⟩;have hb2:=Z01 w1 (.cells (Y8 b pb) 25);obtain ⟨w2,hw2⟩: ∃w2,w2=w1.alloc (.cells (Y8 b pb) 25):=⟨_,rfl⟩;have hs1:w1.heap.size=w.heap.size+1:=by rw[hw1]; simp
 rw[<-hw1] at hb1;rw[<-hw2] at hb2;have hB1:Box5 w1 w.heap.size a pa:=by rw[hw1]; exact Z05 w a pa
 have hB2:Box5 w2 w1.heap.size b pb:=by rw[hw2]; exact Z05 w1 b pb
 have hBA:=hB1.next hb2;rw[hs1] at hB2;have HBA:=Y1 hBA;have HBB:=Y1 hB2;have hbw:=Z00 hb1 hb2;have HA:=Y1 (ha.next hbw);have HB:=Y1 (hb.next hbw);have HG:=Y1 (hg.next hbw);have HW:=Y1 hbw;obtain ⟨_,⟨a0,a1,a2,a3,a4⟩,_⟩:=hBA;simp only[Nat.zero_add] at a0 a1 a2 a3 a4;have hw1':=hw1.symm;have hw2':=hw2.symm;clear hw1 hw2 hb1 hb2 hB1 hB2 hbw ha hb hg;unfold sv;go_enter Tryz.func23,Tryz.ntmps23
 go_wp2_with fail
 refine (mayBe_walk a pa w2 HA.out HG.out).mono ?_;rintro e w3 ⟨rfl,hb3⟩;have HB3:=Y1 hb3;clear hb3 a0 a1 a2 a3 a4;by_cases ca:check a=0
 {have HCA:=Y1 ca;rw[decide_eq_true ca];clear ca;obtain ⟨_,⟨b0,b1,b2,b3,b4⟩,_⟩:=HBB.out.next HB3.out;simp only[Nat.zero_add] at b0 b1 b2 b3 b4
  go_wp2_with fail
  refine (mayBe_walk b pb w3 (HB.out.next HB3.out) (HG.out.next HB3.out)).mono ?_;rintro e w4 ⟨rfl,hb4⟩;have HB4:=Y1 (Z00 HB3.out hb4);clear hb4 b0 b1 b2 b3 b4;by_cases cb:check b=0
  {have HCB:=Y1 cb;rw[decide_eq_true cb];clear cb;obtain ⟨_,⟨a0,a1,a2,a3,a4⟩,_⟩:=HBA.out.next HB4.out;obtain ⟨_,⟨b0,b1,b2,b3,b4⟩,_⟩:=HBB.out.next HB4.out;simp only[Nat.zero_add] at a0 a1 a2 a3 a4 b0 b1 b2 b3 b4;have hta:Two 40 a b:=⟨(Z07 HCA.out).2.2,(Z07 HCB.out).2.2,(Z07 HCA.out).2.1,(Z07 HCB.out).2.1,(Z07 HCA.out).1,(Z07 HCB.out).1⟩;have HU:=Y1 (Z7M 40 a b pa pb w4.heap.size w4 hta (HA.out.next HB4.out) (HB.out.next HB4.out) (Nat.le_refl _));unfold sv at HU;clear hta
   go_wp2_with fail
   refine HU.out.mono ?_;rintro e w5 ⟨rfl,hb5⟩;have HB5:=Y1 (Z00 HW.out (Z00 HB4.out hb5));clear hb5 HU a0 a1 a2 a3 a4 b0 b1 b2 b3 b4;go_wp2;go_ret;exact ⟨by unfold Sub.below; rw[decide_eq_true HCA.out,decide_eq_true HCB.out]; rfl,HB5.out⟩}
  {have HCB:=Y1 cb;rw[decide_eq_false cb];clear cb;go_wp2;go_ret;exact ⟨by rw[Z42 (fun h=>HCB.out h.2)]; rfl,Z00 HW.out HB4.out⟩}}
 {have HCA:=Y1 ca;rw[decide_eq_false ca];clear ca;go_wp2;go_ret;exact ⟨by rw[Z42 (fun h=>HCA.out h.1)]; rfl,Z00 HW.out HB3.out⟩}
end SubM
end Go.Proofs.YtlomianlcnmfgaaGreatDoor
namespace Go.Proofs.YtlomianlcnmfgaaGreatDoor
open Go.RowKit Shp Sub
namespace SubM
def Z0A:List Value:= [.int .i64 0,.string ⟨#[]⟩,.string ⟨#[]⟩,.slice none 0 0,.slice none 0 0]
theorem Z9n: ∀u∈Z0A,u.oneCell'=true:=by
 intro u hu;simp only[Z0A,List.mem_cons,List.not_mem_nil,or_false] at hu;rcases hu with rfl | rfl | rfl | rfl | rfl <;> rfl
def layO (W:World) (g i:Nat) (x:El):World:=(((((W).setCell ⟨g,i+0,none⟩ (.int .i64 x.1.kind)).setCell ⟨g,i+1,none⟩ (.string ⟨x.1.of_.toArray⟩)).setCell ⟨g,i+2,none⟩ (.string ⟨x.1.name.toArray⟩)).setCell ⟨g,i+3,none⟩ (.slice x.2.A x.1.names.length x.2.c)).setCell ⟨g,i+4,none⟩ (.slice x.2.P x.1.parts.length x.2.d)
theorem Z3C {a b c:World} {r:Option Nat} (h:a.grownBy b r) (k:b.grownBy c r):a.grownBy c r:=
 ⟨k.os.trans h.os,k.tape.trans h.tape,k.output.trans h.output,Nat.le_trans h.size k.size,fun j hj hr=>(k.block j (Nat.lt_of_lt_of_le hj h.size) hr).trans (h.block j hj hr)⟩
theorem Z8f {W:World} (x:El) {g cp n B:Nat} {ys:List Value} (hn:ys.length=n * 5) (h:W.ownsRow B 25 5 (.slice (some ⟨g,0,none⟩) (n+1) cp) (n+1) (ys++Z0A)):
 (layO W g (n * 5) x).ownsRow B 25 5 (.slice (some ⟨g,0,none⟩) (n+1) cp) (n+1) (ys++cells5 x)/\W.grownBy (layO W g (n * 5) x) (some g):=by
 obtain ⟨h0,g0⟩:=World.ownsRow.stored h (n * 5+0) (.int .i64 x.1.kind);obtain ⟨h1,g1⟩:=World.ownsRow.stored h0 (n * 5+1) (.string ⟨x.1.of_.toArray⟩);obtain ⟨h2,g2⟩:=World.ownsRow.stored h1 (n * 5+2) (.string ⟨x.1.name.toArray⟩);obtain ⟨h3,g3⟩:=World.ownsRow.stored h2 (n * 5+3) (.slice x.2.A x.1.names.length x.2.c);obtain ⟨h4,g4⟩:=World.ownsRow.stored h3 (n * 5+4) (.slice x.2.P x.1.parts.length x.2.d);refine ⟨?_,(Z3C (Z3C (Z3C (Z3C g0 g1) g2) g3) g4)⟩;have hs: ∀(zs:List Value) (k:Nat) (v:Value),(ys++zs).set (n * 5+k) v=ys++zs.set k v:=fun zs k v=>by rw[<-hn,List.set_append_right _ _ (by omega),Nat.add_sub_cancel_left]
 rw[hs,hs,hs,hs,hs] at h4;exact h4
theorem Z2L {W:World} {g cp n B:Nat} {ys:List Value} (hn:ys.length=n * 5) (h:W.ownsRow B 25 5 (.slice (some ⟨g,0,none⟩) (n+1) cp) (n+1) (ys++Z0A)) (k:Nat) (hk:k < 5): ∃v,W.cell? ⟨g,n * 5+k,none⟩=some v/\W.frozen? ⟨g,n * 5+k,none⟩=false:=by
 have h1:=h.cellAt (n * 5+k) (by rw[Nat.add_mul]; omega);rw[List.getElem?_append_right (by omega),hn,Nat.add_sub_cancel_left] at h1;have h2:k < Z0A.length:=hk;rw[List.getElem?_eq_getElem h2] at h1;exact ⟨_,h1,h.frozenAt _⟩
structure QX where
 W0:World
 gm:Nat
 hi:Nat
 gp:Nat
 AP:Option Addr
 cP:Nat
 l:List El
 x:El
namespace QX
variable (X : QX)
def val (j:Nat):Option Value:=match j with
 | 0 | 8=>some (.pointer (some ⟨X.gm,4,none⟩))
 | 1=>some (.slice X.AP X.l.length X.cP)
 | 2=>some (sv X.x.1 X.x.2)
 | 3=>some (.int .i64 (X.l.length:Int))
 | _=>none
def set (b:Nat):Prop:=b=X.gm\/rowB X.AP=some b
structure Good:Prop where
 gh:X.gm < X.hi
 hw:X.hi<=X.gp
 pw:X.gp < X.W0.heap.size
 c4:X.W0.cell? ⟨X.gm,4,none⟩=some (.slice X.AP X.l.length X.cP)
 fz: ∀j,X.W0.frozen? ⟨X.gm,j,none⟩=false
 rP:X.W0.ownsRow X.hi 25 5 (.slice X.AP X.l.length X.cP) X.l.length (cellsE X.l)
 bp:rowB X.AP≠some X.gp
 box:Sh5 X.W0 X.gp 0 X.x.1 X.x.2
 ll:X.l.length<=1000
structure QI (d:Nat->Bool) (u:Nat->Value) (W:World):Prop where
 vals: ∀j,d j=true-> ∀v,X.val j=some v->u j=v
 up:Upd X.set X.W0 W
 f4:d 4=true->d 5=false-> ∃z,u 4= .slice (some ⟨z,0,none⟩) 1 1/\X.W0.heap.size<=z/\z < W.heap.size/\ ∀(j:Nat) v,Z0A[j]? =some v->W.cell? ⟨z,j,none⟩=some v
 p0:d 5=false->W.ownsRow X.hi 25 5 (.slice X.AP X.l.length X.cP) X.l.length (cellsE X.l)
 p1:d 5=true-> ∃g c,u 5= .slice (some ⟨g,0,none⟩) (X.l.length+1) c/\W.ownsRow X.hi 25 5 (.slice (some ⟨g,0,none⟩) (X.l.length+1) c) (X.l.length+1) (cellsE X.l++if d 7=true then cells5 X.x else Z0A)/\(rowB X.AP=some g\/X.W0.heap.size<=g)/\
  (d 6=true->u 6= .pointer (some ⟨g,X.l.length * 5,none⟩))
 c4:W.cell? ⟨X.gm,4,none⟩=some (if d 9=true then u 5 else .slice X.AP X.l.length X.cP)
 cr: ∀j,j < 4->W.cell? ⟨X.gm,j,none⟩=X.W0.cell? ⟨X.gm,j,none⟩
 fz: ∀j,W.frozen? ⟨X.gm,j,none⟩=false
variable {X : QX} {d : Nat -> Bool} {u : Nat -> Value} {W W' : World}
theorem QI.vals' (h:X.QI d u W) {i:Nat} {v:Value} (hv: ∀v',X.val i=some v'->v=v'): ∀j,also d i j=true-> ∀v',X.val j=some v'->upd u i v j=v':=fun j hj v' hv'=>by
 by_cases hij:j=i
 {subst hij; rw[Z0h]; exact hv v' hv'}
 {rw[Z0k d hij] at hj; rw[Z04 u v hij]; exact h.vals j hj v' hv'}
theorem Good.start (h:X.Good):X.QI (fun _=>false) u X.W0.drew:=
 ⟨nofun,(Upd.refl _ _).drew,nofun,fun _=>h.rP,nofun,h.c4,fun _ _=>rfl,h.fz⟩
theorem QI.pure (h:X.QI d u W) {i:Nat} (hi:i≠4/\i≠5/\i≠6/\i≠7/\i≠9) {v:Value} (hv: ∀v',X.val i=some v'->v=v'):X.QI (also d i) (upd u i v) W:=by
 have k: ∀j,j=4\/j=5\/j=6\/j=7\/j=9->also d i j=d j/\upd u i v j=u j:=fun j hj=>⟨Z0k d (by omega),Z04 u v (by omega)⟩;refine ⟨h.vals' hv,h.up, ?_, ?_, ?_, ?_,h.cr,h.fz⟩
 {rw[(k 4 (by omega)).1,(k 4 (by omega)).2,(k 5 (by omega)).1]; exact h.f4}
 {rw[(k 5 (by omega)).1]; exact h.p0}
 {rw[(k 5 (by omega)).1,(k 5 (by omega)).2,(k 7 (by omega)).1,(k 6 (by omega)).1,(k 6 (by omega)).2]; exact h.p1}
 {rw[(k 9 (by omega)).1,(k 5 (by omega)).2]; exact h.c4}
theorem QI.box (h:X.QI d u W) (hX:X.Good):Sh5 W X.gp 0 X.x.1 X.x.2:=
 hX.box.of (fun k=>h.up.cell hX.pw (fun hs=>by
  rcases hs with hs | hs
  {have:=hX.gh; have:=hX.hw; omega}
  · exact hX.bp hs))
theorem QI.gmw (h:X.QI d u W) (hX:X.Good):X.gm < W.heap.size:=by have:=hX.gh; have:=hX.hw; have:=hX.pw; have:=h.up.size; omega
theorem not_gm (hX:X.Good) {W':World} {g n c e s m:Nat} {xs:List Value} (r:W'.ownsRow X.hi e s (.slice (some ⟨g,0,none⟩) n c) m xs):g≠X.gm:=by
 have h1:=(r.lt g rfl).1;have:=hX.gh;omega
section
variable (h : X.QI d u W) (hX : X.Good)
include h hX
theorem QI.s4:X.QI (also d 4) (upd u 4 (.slice (some ⟨W.heap.size,0,none⟩) 1 1)) (W.alloc (.cells Yb 25)):=by
 have hb:=Z01 W (.cells Yb 25);have hu:Upd (fun _=>False) W (W.alloc (.cells Yb 25)):=Upd.new hb;have k: ∀j,j≠4->also d 4 j=d j/\ ∀v,upd u 4 v j=u j:=fun j hj=>⟨Z0k d hj,fun v=>Z04 u v hj⟩;have hs:=h.up.size;have hgm:=h.gmw hX;refine ⟨h.vals' (fun v' h=>by cases h),h.up.trans (hu.mono (fun _ _ h=>h.elim)),fun _ _=>⟨W.heap.size,Z0h _ _ _,hs,by simp, ?_⟩, ?_, ?_, ?_,fun j hj=>(hu.cell hgm (fun h=>h)).trans (h.cr j hj),fun j=>(hu.frozen hgm (fun h=>h)).trans (h.fz j)⟩
 {intro j v hv;rcases j with _ | _ | _ | _ | _ | j
  {simp[Z0A] at hv; subst hv; simp[go_sem]}
  {simp[Z0A] at hv; subst hv; simp[go_sem]}
  {simp[Z0A] at hv; subst hv; simp[go_sem]}
  {simp[Z0A] at hv; subst hv; simp[go_sem]}
  {simp[Z0A] at hv; subst hv; simp[go_sem]}
  {simp[Z0A] at hv}}
 {rw[(k 5 (by omega)).1]; exact fun h5=>Z0g (h.p0 h5) hu (fun _ _ h=>h)}
 {rw[(k 5 (by omega)).1,(k 5 (by omega)).2,(k 7 (by omega)).1,(k 6 (by omega)).1,(k 6 (by omega)).2];intro h5;obtain ⟨g,c,e,r,n,m⟩:=h.p1 h5;exact ⟨g,c,e,Z0g r hu (fun _ _ h=>h),n,m⟩}
 {rw[(k 9 (by omega)).1,(k 5 (by omega)).2]; exact (hu.cell hgm (fun h=>h)).trans h.c4}
theorem QI.s5 (h5:d 5=false) (h6:d 6=false) (h7:d 7=false) (h9:d 9=false) {g c:Nat} (hown:W'.ownsRow X.hi 25 5 (.slice (some ⟨g,0,none⟩) (X.l.length+1) c) (X.l.length+1) (cellsE X.l++Z0A))
 (hg:W.grownBy W' (rowB X.AP)) (hat:rowB X.AP=some g\/g=W.heap.size):X.QI (also d 5) (upd u 5 (.slice (some ⟨g,0,none⟩) (X.l.length+1) c)) W':=by
 have k: ∀j,j≠5->also d 5 j=d j/\ ∀v,upd u 5 v j=u j:=fun j hj=>⟨Z0k d hj,fun v=>Z04 u v hj⟩;have hu:Upd (fun b=>rowB X.AP=some b) W W':=(Upd.refl _ W).grown hg (fun k h _=>h);have hgm:=h.gmw hX;have hgN: ¬rowB X.AP=some X.gm:=fun e=>by have:=(Z08 hX.rP _ e).1; have:=hX.gh; omega
 have hnz: ∀z,X.W0.heap.size<=z-> ¬rowB X.AP=some z:=fun z hz e=>by have:=(Z08 hX.rP _ e).2; omega
 have hs:=h.up.size;refine ⟨h.vals' (fun v' h=>by cases h),h.up.trans (hu.mono (fun b _ hb=>Or.inr hb)), ?_, ?_, ?_, ?_,fun j hj=>(hu.cell hgm hgN).trans (h.cr j hj),fun j=>(hu.frozen hgm hgN).trans (h.fz j)⟩
 {rw[Z0o]; nofun}
 {rw[Z0o]; nofun}
 {rw[(k 7 (by omega)).1,(k 6 (by omega)).1,h6,h7];exact fun _=>⟨g,c,Z0h _ _ _,hown,hat.imp id (fun e=>by omega),nofun⟩}
 {rw[(k 9 (by omega)).1,h9];have:=h.c4;rw[h9] at this;exact (hu.cell hgm hgN).trans this}
theorem QI.s6 (h5:d 5=true) {v:Value} (hv: ∀g c,u 5= .slice (some ⟨g,0,none⟩) (X.l.length+1) c->v= .pointer (some ⟨g,X.l.length * 5,none⟩)):X.QI (also d 6) (upd u 6 v) W:=by
 have k: ∀j,j≠6->also d 6 j=d j/\ ∀v,upd u 6 v j=u j:=fun j hj=>⟨Z0k d hj,fun v=>Z04 u v hj⟩;refine ⟨h.vals' (fun v' h=>by cases h),h.up, ?_, ?_, ?_, ?_,h.cr,h.fz⟩
 {rw[(k 5 (by omega)).1,h5]; nofun}
 {rw[(k 5 (by omega)).1]; exact h.p0}
 {rw[(k 5 (by omega)).1,(k 5 (by omega)).2,(k 7 (by omega)).1,Z0h];intro h5;obtain ⟨g,c,e,r,n,m⟩:=h.p1 h5;exact ⟨g,c,e,r,n,fun _=>hv g c e⟩}
 {rw[(k 9 (by omega)).1,(k 5 (by omega)).2]; exact h.c4}
theorem QI.s7 (h5:d 5=true) (h7:d 7=false) {g c:Nat} (e5:u 5= .slice (some ⟨g,0,none⟩) (X.l.length+1) c):X.QI (also d 7) (upd u 7 undef) (layO W g (X.l.length * 5) X.x):=by
 have k: ∀j,j≠7->also d 7 j=d j/\ ∀v,upd u 7 v j=u j:=fun j hj=>⟨Z0k d hj,fun v=>Z04 u v hj⟩;obtain ⟨g',c',e,r,n,m⟩:=h.p1 h5;have ee:=e.symm.trans e5;simp only[Value.slice.injEq,Option.some.injEq,Addr.mk.injEq,and_true] at ee;obtain ⟨rfl,_,rfl⟩:=ee;rw[h7] at r;simp only[Bool.false_eq_true,if_false] at r;obtain ⟨r',hg⟩:=Z8f X.x (cellsE_len X.l) r;have hu:Upd (fun b=>b=g') W (layO W g' (X.l.length * 5) X.x):=(Upd.refl _ W).grown hg (fun k h _=>by cases h; rfl);have hgm:=h.gmw hX;have hne: ¬X.gm=g':=fun e=>not_gm hX r e.symm;have hs:=h.up.size;have hz: ∀z,X.W0.heap.size<=z->z=g'->X.W0.heap.size<=g':=fun z h1 h2=>by omega
 refine ⟨h.vals' (fun v' h=>by cases h), ?_, ?_, ?_, ?_, ?_,fun j hj=>(hu.cell hgm hne).trans (h.cr j hj),fun j=>(hu.frozen hgm hne).trans (h.fz j)⟩
 {refine ⟨hu.os.trans h.up.os,hu.tape.trans h.up.tape,hu.output.trans h.up.output,Nat.le_trans h.up.size hu.size,fun x h1 h2=>(hu.block x (by omega) (fun e=> ?_)).trans (h.up.block x h1 h2)⟩;have e:x=g':=e;rcases n with n | n
  {exact h2 (Or.inr (by rw[e]; exact n))}
  {omega}}
 {rw[(k 5 (by omega)).1,h5]; nofun}
 {rw[(k 5 (by omega)).1,h5]; nofun}
 {rw[(k 5 (by omega)).2,(k 6 (by omega)).1,(k 6 (by omega)).2,Z0o];exact fun _=>⟨g',c',e,by simpa using r',n,m⟩}
 {rw[(k 9 (by omega)).1,(k 5 (by omega)).2]; exact (hu.cell hgm hne).trans h.c4}
theorem QI.s9 (h5:d 5=true) (h9:d 9=false):X.QI (also d 9) (upd u 9 undef) (W.setCell ⟨X.gm,4,none⟩ (u 5)):=by
 have k: ∀j,j≠9->also d 9 j=d j/\ ∀v,upd u 9 v j=u j:=fun j hj=>⟨Z0k d hj,fun v=>Z04 u v hj⟩;have hgm:=h.gmw hX;obtain ⟨g,c,e,r,n,m⟩:=h.p1 h5;have hu:Upd (fun b=>b=X.gm) W (W.setCell ⟨X.gm,4,none⟩ (u 5)):=Upd.set (Upd.refl (fun b=>b=X.gm) W) ⟨X.gm,4,none⟩ (fun _=>rfl) _;refine ⟨h.vals' (fun v' h=>by cases h),h.up.trans (hu.mono (fun b _ hb=>Or.inl hb)), ?_, ?_, ?_, ?_,fun j hj=>(World.cell?_setCell_other _ _ _ _ (fun e=>by have:=congrArg Addr.off e; simp at this; omega)).trans (h.cr j hj),fun j=>(World.frozen?_setCell ..).trans (h.fz j)⟩
 {rw[(k 5 (by omega)).1,h5]; nofun}
 {rw[(k 5 (by omega)).1,h5]; nofun}
 {rw[(k 5 (by omega)).2,(k 7 (by omega)).1,(k 6 (by omega)).1,(k 6 (by omega)).2];exact fun _=>⟨g,c,e,Z0g r hu (fun b hb e2=>not_gm hX r (Eq.trans (show g=b by simpa[rowB] using hb) e2)),n,m⟩}
 {rw[Z0o,if_pos rfl,(k 5 (by omega)).2];exact World.cell?_setCell_same _ _ _ h.c4}
end
end QX
end SubM
end Go.Proofs.YtlomianlcnmfgaaGreatDoor
namespace Go.Proofs.YtlomianlcnmfgaaGreatDoor
open Go.RowKit Shp Sub
namespace SubM
structure KPs (w0:World) (n0 gm hi p1 p2:Nat) (f1 f2:Value) (k:Int) (o nm:List UInt8) (ok:Bool) (ps:List Sh) (l:List El) (AP:Option Addr) (cP:Nat) (W:World):Prop where
 mm:Mk w0 gm hi k o nm [] l none 0 AP cP W
 eq:l.map Prod.fst=ps
 kp:ok=true-> ∀x∈l,Kept (Free n0 hi none AP) W x
 fa:W.cell? ⟨p1,0,none⟩=some f1
 fr:W.cell? ⟨p2,0,none⟩=some f2
def KP (w0:World) (n0 gm hi p1 p2:Nat) (f1 f2:Value) (k:Int) (o nm:List UInt8) (ok:Bool) (ps:List Sh) (W:World):Prop:= ∃l AP cP,KPs w0 n0 gm hi p1 p2 f1 f2 k o nm ok ps l AP cP W
section
variable {w0 W W' : World} {n0 gm hi p1 p2 : Nat} {f1 f2 : Value} {k : Int} {o nm : List UInt8} {ok : Bool} {ps : List Sh} {l : List El} {AP : Option Addr} {cP : Nat}
theorem KPs.len (h:KPs w0 n0 gm hi p1 p2 f1 f2 k o nm ok ps l AP cP W):l.length=ps.length:=by have:=congrArg List.length h.eq; simpa using this
theorem KPs.new (h:KPs w0 n0 gm hi p1 p2 f1 f2 k o nm ok ps l AP cP W) (h1:p1 < hi) (h2:p2 < hi) (hb:Below W.heap.size W W'):KPs w0 n0 gm hi p1 p2 f1 f2 k o nm ok ps l AP cP W':=
 ⟨h.mm.new hb,h.eq,fun ho x hx=>(h.kp ho x hx).upd (T:=fun _=>False) (Upd.new hb) (fun _ _ _ h=>h),(hb.cell (p:=⟨p1,0,none⟩) (Nat.lt_of_lt_of_le h1 h.mm.hw)).trans h.fa,(hb.cell (p:=⟨p2,0,none⟩) (Nat.lt_of_lt_of_le h2 h.mm.hw)).trans h.fr⟩
theorem KPs.mid {T:Nat->Prop} (h:KPs w0 n0 gm hi p1 p2 f1 f2 k o nm ok ps l AP cP W) (hu:Upd T W W') (hT: ∀b,T b->gm < b/\p1 < b/\p2 < b/\b < hi) (hn:n0<=gm) (h1:p1 < hi) (h2:p2 < hi):KPs w0 n0 gm hi p1 p2 f1 f2 k o nm ok ps l AP cP W':=by
 have hg:=h.mm.gh;refine ⟨h.mm.upd hu (fun b hb ht=> ?_) (fun ht=> ?_) (fun b hb ht=> ?_) (fun b hb ht=> ?_),h.eq,fun ho x hx=>(h.kp ho x hx).upd hu (fun b hb hf ht=> ?_),(hu.cell (Nat.lt_of_lt_of_le h1 h.mm.hw) (fun ht=> ?_)).trans h.fa,(hu.cell (Nat.lt_of_lt_of_le h2 h.mm.hw) (fun ht=> ?_)).trans h.fr⟩
 {have:=(hT b ht).1; have:=h.mm.lo; omega}
 {have:=(hT gm ht).1; omega}
 {cases hb}
 {have:=(hT b ht).2.2.2; have:=(Z08 h.mm.rP b hb).1; omega}
 {have:=hT b ht;rcases hf with hf | hf
  {omega}
  {have:=hf.1; omega}}
 {have:=(hT p1 ht).2.1; omega}
 {have:=(hT p2 ht).2.2.1; omega}
theorem KPs.put (h:KPs w0 n0 gm hi p1 p2 f1 f2 k o nm ok ps l AP cP W) (hn:n0<=gm) (h1:p1 < hi) (h2:p2 < hi) (g1:p1≠gm) (g2:p2≠gm) {t:Sh} {q:Ptr} {ok':Bool} (hok:ok'=true->ok=true) (hkp:ok'=true->Kept (Free n0 hi none AP) W (t,q))
 {AP':Option Addr} {cP':Nat} (hm:Mk w0 gm hi k o nm [] (l++ [(t,q)]) none 0 AP' cP' W') (hu:Upd (fun b=>b=gm\/rowB AP=some b) W W') (hr: ∀b,rowB AP'=some b->rowB AP=some b\/W.heap.size<=b):
 KP w0 n0 gm hi p1 p2 f1 f2 k o nm ok' (ps++ [t]) W':=by
 have hg:=h.mm.gh;have key: ∀x,Kept (Free n0 hi none AP) W x->Kept (Free n0 hi none AP') W' x:=fun x hx=>hx.move hu (fun b hb hf=>by
  refine ⟨fun ht=> ?_, ?_⟩
  {rcases hf with hf | ⟨hf,_,f2⟩
   {rcases ht with ht | ht
    {omega}
    {have:=(Z08 h.mm.rP b ht).1; omega}}
   {rcases ht with ht | ht
    {omega}
    {exact f2 ht}}}
  · rcases hf with hf | ⟨hf,_,f2⟩
    {exact Or.inl hf}
    · exact Or.inr ⟨hf,nofun,fun e=>(hr b e).elim f2 (fun h=>by omega)⟩)
 refine ⟨l++ [(t,q)],AP',cP',hm,by rw[List.map_append,h.eq]; rfl,fun ho x hx=> ?_, ?_, ?_⟩
 {rcases List.mem_append.1 hx with hx | hx
  {exact key x (h.kp (hok ho) x hx)}
  {rw[List.mem_singleton.1 hx]; exact key _ (hkp ho)}}
 {refine (hu.cell (Nat.lt_of_lt_of_le h1 h.mm.hw) (fun ht=> ?_)).trans h.fa;rcases ht with ht | ht
  {exact g1 ht}
  {have:=(Z08 h.mm.rP p1 ht).1; omega}}
 {refine (hu.cell (Nat.lt_of_lt_of_le h2 h.mm.hw) (fun ht=> ?_)).trans h.fr;rcases ht with ht | ht
  {exact g2 ht}
  {have:=(Z08 h.mm.rP p2 ht).1; omega}}
end
section
variable {n0 gm p1 p2 : Nat}
structure St0p (w0:World) (gm p1 p2:Nat) (f1 f2:Value) (k:Int) (o nm:List UInt8) (W:World):Prop where
 up:Below w0.heap.size w0 W
 lo:w0.heap.size<=gm
 gw:gm < W.heap.size
 c5:Sh5 W gm 0 ⟨k,o,nm,[],[]⟩ noneQ12
 fz: ∀j,W.frozen? ⟨gm,j,none⟩=false
 pw:p1 < W.heap.size
 qw:p2 < W.heap.size
 fa:W.cell? ⟨p1,0,none⟩=some f1
 fr:W.cell? ⟨p2,0,none⟩=some f2
theorem St0p.mid {T:Nat->Prop} {w0 W W':World} {f1 f2:Value} {k:Int} {o nm:List UInt8} (h:St0p w0 gm p1 p2 f1 f2 k o nm W) (hu:Upd T W W') (hT: ∀b,T b->gm < b/\p1 < b/\p2 < b):St0p w0 gm p1 p2 f1 f2 k o nm W':=by
 have h1: ¬T gm:=fun ht=>by have:=(hT gm ht).1; omega
 have h2: ¬T p1:=fun ht=>by have:=(hT p1 ht).2.1; omega
 have h3: ¬T p2:=fun ht=>by have:=(hT p2 ht).2.2; omega
 exact ⟨h.up.trans (hu.below h.up.size (fun b hb=>by have:=(hT b hb).1; have:=h.lo; omega)),h.lo,Nat.lt_of_lt_of_le h.gw hu.size,h.c5.of (fun k=>hu.cell h.gw h1),fun j=>(hu.frozen h.gw h1).trans (h.fz j),Nat.lt_of_lt_of_le h.pw hu.size,Nat.lt_of_lt_of_le h.qw hu.size,(hu.cell h.pw h2).trans h.fa,(hu.cell h.qw h3).trans h.fr⟩
section
variable {w0 W : World} {hi : Nat} {f1 f2 : Value} {k : Int} {o nm : List UInt8}
include w0 W hi f1 f2 k o nm
theorem St0p.kp (h:St0p w0 gm p1 p2 f1 f2 k o nm W) (hg:gm < hi) (hw:hi<=W.heap.size) (ok:Bool):KP w0 n0 gm hi p1 p2 f1 f2 k o nm ok [] W:=by
 obtain ⟨c0,c1,c2,c3,c4⟩:=h.c5;simp only[Nat.zero_add] at c0 c1 c2 c3 c4;exact ⟨[],none,0,⟨h.up,h.lo,hg,hw,c0,c1,c2,c3,c4,h.fz,World.ownsRow_nil _ _ _ _,World.ownsRow_nil _ _ _ _,Or.inl rfl⟩,rfl,fun _ x hx=>absurd hx (by simp),h.fa,h.fr⟩
theorem KP.fin {ok:Bool} {ps:List Sh} (h:KP w0 n0 gm hi p1 p2 f1 f2 k o nm ok ps W): ∃q,Sh5 W gm 0 ⟨k,o,nm,[],ps⟩ q/\
 (ok=true->o.length<=9223372036854775807->nm.length<=9223372036854775807->ps.length<=1000->Kept (fun b=>b < n0\/hi<=b) W (⟨k,o,nm,[],ps⟩,q)):=by
 obtain ⟨l,AP,cP,h⟩:=h;have hlen:=h.len;refine ⟨⟨none,0,AP,cP⟩,⟨h.mm.c0,h.mm.c1,h.mm.c2,h.mm.c3, ?_⟩,fun ho h1 h2 hl=> ?_⟩
 {have:=h.mm.c4;rw[hlen] at this;exact this}
 {have:=h.mm.at_ (n0:=n0) (h.kp ho) h1 h2 (by simp) (by simp) (by omega);rw[h.eq] at this;exact this}
theorem KP.below {ok:Bool} {ps:List Sh} (h:KP w0 n0 gm hi p1 p2 f1 f2 k o nm ok ps W):Below w0.heap.size w0 W:=by
 obtain ⟨l,AP,cP,h⟩:=h;exact h.mm.up
end
end
end SubM
end Go.Proofs.YtlomianlcnmfgaaGreatDoor
