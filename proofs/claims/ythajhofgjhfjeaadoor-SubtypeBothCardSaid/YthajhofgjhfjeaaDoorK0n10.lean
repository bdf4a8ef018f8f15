/- What the proofs of SubtypeBoth, SubtypeGreatest, SubtypeLeast, SubtypeOrder want, part 10. -/
import Derived.Test.YthajhofgjhfjeaaDoorK0n9
set_option linter.unusedVariables false
set_option linter.unusedSimpArgs false
set_option linter.unusedSectionVars false
set_option maxRecDepth 100000
set_option maxHeartbeats 16000000
namespace Go.Proofs.YthajhofgjhfjeaaDoor
open Go.RowKit Shp Sub
namespace SubM
structure KPs (w0:World) (n0 gm hi p1 p2:Nat) (f1 f2:Value) (k:Int) (o nm:List UInt8) (ok:Bool) (ps:List Sh) (l:List El) (AP:Option Addr) (cP:Nat) (W:World):Prop where
 mm:Mk w0 gm hi k o nm [] l none 0 AP cP W
 eq:l.map Prod.fst=ps
 kp:ok=true-> ∀x∈l,Kept (Free n0 hi none AP) W x
 fa:W.cell? ⟨p1,0,none⟩=some f1
 fr:W.cell? ⟨p2,0,none⟩=some f2
def KP (w0:World) (n0 gm hi p1 p2:Nat) (f1 f2:Value) (k:Int) (o nm:List UInt8) (ok:Bool) (ps:List Sh) (W:World):Prop:= ∃l AP cP,KPs w0 n0 gm hi p1 p2 f1 f2 k o nm ok ps l AP cP W
section
variable {w0 W W' : World} {n0 gm hi p1 p2 : Nat} {f1 f2 : Value} {k : Int} {o nm : List UInt8} {ok : Bool} {ps : List Sh} {l : List El} {AP : Option Addr} {cP : Nat}
theorem KPs.len (h:KPs w0 n0 gm hi p1 p2 f1 f2 k o nm ok ps l AP cP W):l.length=ps.length:=by have:=congrArg List.length h.eq; simpa using this
theorem KPs.new (h:KPs w0 n0 gm hi p1 p2 f1 f2 k o nm ok ps l AP cP W) (h1:p1 < hi) (h2:p2 < hi) (hb:Below W.heap.size W W'):KPs w0 n0 gm hi p1 p2 f1 f2 k o nm ok ps l AP cP W':=
 ⟨h.mm.new hb,h.eq,fun ho x hx=>(h.kp ho x hx).upd (T:=fun _=>False) (Upd.new hb) (fun _ _ _ h=>h),(hb.cell (p:=⟨p1,0,none⟩) (Nat.lt_of_lt_of_le h1 h.mm.hw)).trans h.fa,(hb.cell (p:=⟨p2,0,none⟩) (Nat.lt_of_lt_of_le h2 h.mm.hw)).trans h.fr⟩
theorem KPs.mid {T:Nat->Prop} (h:KPs w0 n0 gm hi p1 p2 f1 f2 k o nm ok ps l AP cP W) (hu:Upd T W W') (hT: ∀b,T b->gm < b/\p1 < b/\p2 < b/\b < hi) (hn:n0<=gm) (h1:p1 < hi) (h2:p2 < hi):KPs w0 n0 gm hi p1 p2 f1 f2 k o nm ok ps l AP cP W':=by
 have hg:=h.mm.gh;refine ⟨h.mm.upd hu (fun b hb ht=> ?_) (fun ht=> ?_) (fun b hb ht=> ?_) (fun b hb ht=> ?_),h.eq,fun ho x hx=>(h.kp ho x hx).upd hu (fun b hb hf ht=> ?_),(hu.cell (Nat.lt_of_lt_of_le h1 h.mm.hw) (fun ht=> ?_)).trans h.fa,(hu.cell (Nat.lt_of_lt_of_le h2 h.mm.hw) (fun ht=> ?_)).trans h.fr⟩
 {have:=(hT b ht).1; have:=h.mm.lo; omega}
 {have:=(hT gm ht).1; omega}
 {cases hb}
 {have:=(hT b ht).2.2.2; have:=(Za0 h.mm.rP b hb).1; omega}
 {have:=hT b ht;rcases hf with hf | hf
  {omega}
  {have:=hf.1; omega}}
 {have:=(hT p1 ht).2.1; omega}
 {have:=(hT p2 ht).2.2.1; omega}
theorem KPs.put (h:KPs w0 n0 gm hi p1 p2 f1 f2 k o nm ok ps l AP cP W) (hn:n0<=gm) (h1:p1 < hi) (h2:p2 < hi) (g1:p1≠gm) (g2:p2≠gm) {t:Sh} {q:Ptr} {ok':Bool} (hok:ok'=true->ok=true) (hkp:ok'=true->Kept (Free n0 hi none AP) W (t,q))
 {AP':Option Addr} {cP':Nat} (hm:Mk w0 gm hi k o nm [] (l++ [(t,q)]) none 0 AP' cP' W') (hu:Upd (fun b=>b=gm\/rowB AP=some b) W W') (hr: ∀b,rowB AP'=some b->rowB AP=some b\/W.heap.size<=b):
 KP w0 n0 gm hi p1 p2 f1 f2 k o nm ok' (ps++ [t]) W':=by
 have hg:=h.mm.gh;have key: ∀x,Kept (Free n0 hi none AP) W x->Kept (Free n0 hi none AP') W' x:=fun x hx=>hx.move hu (fun b hb hf=>by
  refine ⟨fun ht=> ?_, ?_⟩
  {rcases hf with hf | ⟨hf,_,f2⟩
   {rcases ht with ht | ht
    {omega}
    {have:=(Za0 h.mm.rP b ht).1; omega}}
   {rcases ht with ht | ht
    {omega}
    {exact f2 ht}}}
  · rcases hf with hf | ⟨hf,_,f2⟩
    {exact Or.inl hf}
    · exact Or.inr ⟨hf,nofun,fun e=>(hr b e).elim f2 (fun h=>by omega)⟩)
 refine ⟨l++ [(t,q)],AP',cP',hm,by rw[List.map_append,h.eq]; rfl,fun ho x hx=> ?_, ?_, ?_⟩
 {rcases List.mem_append.1 hx with hx | hx
  {exact key x (h.kp (hok ho) x hx)}
  {rw[List.mem_singleton.1 hx]; exact key _ (hkp ho)}}
 {refine (hu.cell (Nat.lt_of_lt_of_le h1 h.mm.hw) (fun ht=> ?_)).trans h.fa;rcases ht with ht | ht
  {exact g1 ht}
  {have:=(Za0 h.mm.rP p1 ht).1; omega}}
 {refine (hu.cell (Nat.lt_of_lt_of_le h2 h.mm.hw) (fun ht=> ?_)).trans h.fr;rcases ht with ht | ht
  {exact g2 ht}
  {have:=(Za0 h.mm.rP p2 ht).1; omega}}
end
def PlOk (w0:World) (n0 gm hi p1 p2:Nat) (f1 f2:Value) (k:Int) (o nm:List UInt8) (ps:List Sh) (r:Option Sh) (W:World) (e:Ending) (W':World):Prop:=
 e= .returned (.bool r.isSome)/\(∀x,r=some x->KP w0 n0 gm hi p1 p2 f1 f2 k o nm true (ps++ [x]) W')/\(r=none-> ∃t,KP w0 n0 gm hi p1 p2 f1 f2 k o nm false (ps++ [t]) W')/\Upd (fun b=>b=gm\/hi<=b) W W'
theorem Zci {f:Nat} (hI:BoundOk f) (up:Bool) (w0:World) (n0 gm hi p1 p2:Nat) (k:Int) (o nm:List UInt8) (ps:List Sh) (p q:Sh) (x y:Ptr) (last:Bool) (W:World) (h2:Two f p q)
 (hn:n0<=gm) (l1:p1 < hi) (l2:p2 < hi) (g1:p1≠gm) (g2:p2≠gm) (hL:ps.length<=900) (hx:ShAt W n0 x p) (hy:ShAt W n0 y q) (hk:KP w0 n0 gm hi p1 p2 (.func (.func (bfn !up)) #[] #[]) (.func (.func (bfn up)) #[] #[]) k o nm true ps W):
 Calls Tryd.prog 70 (sv p x::sv q y:: .bool last:: .pointer (some ⟨p1,0,none⟩):: .pointer (some ⟨p2,0,none⟩):: .pointer (some ⟨gm,0,none⟩):: []).toArray W
  (PlOk w0 n0 gm hi p1 p2 (.func (.func (bfn !up)) #[] #[]) (.func (.func (bfn up)) #[] #[]) k o nm ps (bound f (if last=true then up else !up) p q) W):=by
 obtain ⟨i0,hif0,hz0,hs0,hb0⟩:=ZaP Zbl;obtain ⟨l,AP,cP,hks⟩:=hk;obtain ⟨v,hv⟩: ∃v,v=if last=true then up else !up:=⟨_,rfl⟩;rw[<-hv];have hb1:=Z01 W (.cells (Y8 p x) 25);obtain ⟨w1,hw1⟩: ∃w1,w1=W.alloc (.cells (Y8 p x) 25):=⟨_,rfl⟩;have hb2:=Z01 w1 (.cells (Y8 q y) 25);obtain ⟨w2,hw2⟩: ∃w2,w2=w1.alloc (.cells (Y8 q y) 25):=⟨_,rfl⟩;have hs1:w1.heap.size=W.heap.size+1:=by rw[hw1]; simp
 rw[<-hw1] at hb1;rw[<-hw2] at hb2;have hB1:Box5 w1 W.heap.size p x:=by rw[hw1]; exact Z03 W p x
 have hB2:Box5 w2 w1.heap.size q y:=by rw[hw2]; exact Z03 w1 q y
 have hBA:=hB1.next hb2;rw[hs1] at hB2;have hbw:=Z00 hb1 hb2;have hnW:n0<=W.heap.size:=by have:=hks.mm.gh; have:=hks.mm.hw; omega
 have hu:Upd (fun _=>False) W w2:=Upd.new hbw;have hk2:=hks.new l1 l2 hbw;have HC:=Y1 (hI v p q x y n0 w2 h2 (Za8 hx hnW hu (fun _ _ h=>h)) (Za8 hy hnW hu (fun _ _ h=>h)) (by have:=hu.size; omega));have HK2:=Y1 hk2;have HBW:=Y1 hbw;have HKS:=Y1 hks;have HL:=Y1 hL;have HNW:=Y1 hnW;have hen:=ZaL v;have fa:=hk2.fa;have fr:=hk2.fr;obtain ⟨_,⟨a0,a1,a2,a3,a4⟩,_⟩:=hBA;obtain ⟨_,⟨b0,b1,b2,b3,b4⟩,_⟩:=hB2;simp only[Nat.zero_add] at a0 a1 a2 a3 a4 b0 b1 b2 b3 b4;have hw1':=hw1.symm;have hw2':=hw2.symm;unfold sv at HC ⊢;clear hw1 hw2 hb1 hb2 hB1 hbw hu hk2 hks hx hy hI h2 hL hnW;cases last with
 | true=>
  simp only[if_true] at hv;subst hv;go_enter Tryd.func70,Tryd.ntmps70
  go_wp2_with fail
  refine HC.out.mono ?_;rintro e w3 ⟨t,qt,rfl,hb3,hj⟩;have hb4:=Z01 w3 (.cells (Y8 t qt) 25);have HBX:=Y1 (Z03 w3 t qt);have HK4:=Y1 (HK2.out.new l1 l2 (Z00 hb3 hb4));have HB4:=Y1 (Z00 HBW.out (Z00 hb3 hb4));have HB34:=Y1 hb4;have HZ3:Hid (w2.heap.size<=w3.heap.size):=Y1 hb3.size;have HJ:=Y1 hj;obtain ⟨w4,hw4⟩: ∃w4,w4=w3.alloc (.cells (Y8 t qt) 25):=⟨_,rfl⟩;rw[<-hw4] at HBX HK4 HB4 HB34;have hw4':=hw4.symm;clear hw4 hb3 hb4 hj HC a0 a1 a2 a3 a4 b0 b1 b2 b3 b4 fa fr hen;unfold sv
  go_wp2_with fail
  have hm4:=HK4.out.mm;have hlen:=HK4.out.len;have hX:QX.Good ⟨w4,gm,hi,w3.heap.size,AP,cP,l,(t,qt)⟩:=⟨hm4.gh,by have:=HKS.out.mm.hw; have:=HBW.out.size; have:=HZ3.out; show hi<=w3.heap.size; omega,HBX.out.1,hm4.c4,hm4.fz,hm4.rP,fun e=>by have:=(Za0 HKS.out.mm.rP w3.heap.size e).2; have:=HBW.out.size; have:=HZ3.out; omega,HBX.out.2.1,by have:=HL.out; show l.length<=1000; omega⟩;have HX:=Y1 hX;clear hm4 hlen hX;refine ZaO (rs:= [0,1,2,3,4,5,6,7,8,9])
   (fun u=> { tmps:=#[.agg (Y8 p x),.agg (Y8 q y),.bool true,.pointer (some { block:=p1,off:=0 }),.pointer (some { block:=p2,off:=0 }),.pointer (some { block:=gm,off:=0 }),.pointer (some { block:=W.heap.size,off:=0 }),.pointer (some { block:=W.heap.size+1,off:=0 }),undef,.bool false,.func (Fn.func (bfn v)) #[] #[],.pointer (some { block:=w3.heap.size,off:=0 }),.bool (bound f v p q).isSome,.func (Fn.func (bfn !v)) #[] #[],.bool true,.func (Fn.func (bfn v)) #[] #[],.tuple #[.agg (Y8 t qt),.bool (bound f v p q).isSome],.func (Fn.func (bfn v)) #[] #[],.agg (Y8 p x),.agg (Y8 q y),.tuple #[.agg (Y8 t qt),.bool (bound f v p q).isSome],.agg (Y8 t qt),.bool (bound f v p q).isSome,u 0,u 1,u 2,u 3,u 4,u 5,u 6,u 8,undef],defers:= [] })
   (fun j=>undef) (QX.QI ⟨w4,gm,hi,w3.heap.size,AP,cP,l,(t,qt)⟩) (by kernel_rfl) (by kernel_rfl) (by kernel_rfl) HX.out.start ?_ ?_
  refine StepsInv.cons2 _ rfl (fun d u W1 K' hs hI hd hw hK=> ?_) ?_
  {refine Z02 (v:= .pointer (some ⟨gm,4,none⟩)) (W':=W1) rfl ?_ (hK.out _ _ (hI.pure (by decide) (fun v' h=>by cases h; rfl)));go_simp}
  refine StepsInv.cons2 _ rfl (fun d u W1 K' hs hI hd hw hK=> ?_) ?_
  {have d0:u 0= .pointer (some ⟨gm,4,none⟩):=hI.vals 0 (hw 0 (by kernel_rfl)) _ rfl;have h9:d 9=false:=Za2 hs rfl (by kernel_rfl) hd;have c4:=hI.c4;rw[h9] at c4;simp only[Bool.false_eq_true,if_false] at c4;change W1.cell? ⟨gm,4,none⟩=_ at c4;refine Z02 (v:= .slice AP l.length cP) (W':=W1) rfl ?_ (hK.out _ _ (hI.pure (by decide) (fun v' h=>by cases h; rfl)));go_simp}
  refine StepsInv.cons2 _ rfl (fun d u W1 K' hs hI hd hw hK=> ?_) ?_
  {obtain ⟨b0,b1,b2,b3,b4⟩:=hI.box HX.out;simp only[Nat.zero_add] at b0 b1 b2 b3 b4;change W1.cell? ⟨w3.heap.size,0,none⟩=some (.int .i64 t.kind) at b0;change W1.cell? ⟨w3.heap.size,1,none⟩=some (.string ⟨t.of_.toArray⟩) at b1;change W1.cell? ⟨w3.heap.size,2,none⟩=some (.string ⟨t.name.toArray⟩) at b2;change W1.cell? ⟨w3.heap.size,3,none⟩=some (.slice qt.A t.names.length qt.c) at b3;change W1.cell? ⟨w3.heap.size,4,none⟩=some (.slice qt.P t.parts.length qt.d) at b4;refine Z02 (v:= .agg (Y8 t qt)) (W':=W1) rfl ?_ (hK.out _ _ (hI.pure (by decide) (fun v' h=>by cases h; rfl)));go_simp}
  refine StepsInv.cons2 _ rfl (fun d u W1 K' hs hI hd hw hK=> ?_) ?_
  {have d1:u 1= .slice AP l.length cP:=hI.vals 1 (hw 1 (by kernel_rfl)) _ rfl;refine Z02 (v:= .int .i64 (l.length:Int)) (W':=W1) rfl ?_ (hK.out _ _ (hI.pure (by decide) (fun v' h=>by cases h; rfl)));go_simp}
  refine StepsInv.cons2 _ rfl (fun d u W1 K' hs hI hd hw hK=> ?_) ?_
  {refine Z02 (v:= .slice (some ⟨W1.heap.size,0,none⟩) 1 1) (W':=W1.alloc (.cells Yb 25)) rfl ?_ (hK.out _ _ (hI.s4 HX.out));go_simp}
  refine StepsInv.cons2 _ rfl (fun d u W1 K' hs hI hd hw hK=> ?_) ?_
  {have d1:u 1= .slice AP l.length cP:=hI.vals 1 (hw 1 (by kernel_rfl)) _ rfl;obtain ⟨z,d4,z1,z2,z3⟩:=hI.f4 (hw 4 (by kernel_rfl)) hd;have h6:d 6=false:=Za2 hs rfl (by kernel_rfl) hd;have h7:d 7=false:=Za2 hs rfl (by kernel_rfl) hd;have h9:d 9=false:=Za2 hs rfl (by kernel_rfl) hd;have hll:=HX.out.ll;have hsz:=hI.up.size;have hpw:=HX.out.pw;have hhw:=HX.out.hw;refine step_append_lies W1 rfl _ _ 23 rfl hi 25 i0 (.agg #[.int .i64 0,.string ByteArray.empty,.string ByteArray.empty,.slice none 0 0,.slice none 0 0]) 5 88 Tryd.underlying23 hif0 hz0 hs0 hb0 rfl (by decide) _ _ _ (by show u 1=_; exact d1) (hI.p0 hd) ⟨z,0,none⟩ 1 1 Zag (by show u 4=_; exact d4) rfl (fun j v hv=>by rw[Z1z,Nat.zero_add]; exact z3 j v hv) Zbi (by decide) (by show l.length+1<=maxLen; unfold maxLen; change l.length<=1000 at hll; omega) (by show (l.length+1) * 88<=140737488355328; change l.length<=1000 at hll; omega) (by change hi<=w3.heap.size at hhw; change w3.heap.size < w4.heap.size at hpw; change w4.heap.size<=_ at hsz; omega) _ rfl ?_;intro g cp W' hown hg hat hlt;rw[Zau] at hg hat;exact hK.out _ _ (hI.s5 HX.out hd h6 h7 h9 hown hg hat)}
  refine StepsInv.cons2 _ rfl (fun d u W1 K' hs hI hd hw hK=> ?_) ?_
  {have w5:=hw 5 (by kernel_rfl);have d3:u 3= .int .i64 (l.length:Int):=hI.vals 3 (hw 3 (by kernel_rfl)) _ rfl;obtain ⟨g,c,d5,r,n,m⟩:=hI.p1 w5;change u 5= .slice (some ⟨g,0,none⟩) (l.length+1) c at d5;refine Z02 (v:= .pointer (some ⟨g,l.length * 5,none⟩)) (W':=W1) rfl ?_ (hK.out _ _ (hI.s6 HX.out w5 (fun g' c' e=>by
    change u 5= .slice (some ⟨g',0,none⟩) (l.length+1) c' at e;rw[d5] at e;simp only[Value.slice.injEq,Option.some.injEq,Addr.mk.injEq,and_true] at e;rw[e.1])))
   go_simp;intro h; omega}
  refine StepsInv.cons2 _ rfl (fun d u W1 K' hs hI hd hw hK=> ?_) ?_
  {have w5:d 5=true:=hs 6 _ rfl (hw 6 (by kernel_rfl)) 5 (by kernel_rfl);have d2:u 2= .agg (Y8 t qt):=hI.vals 2 (hw 2 (by kernel_rfl)) _ rfl;obtain ⟨g,c,d5,r,n,m⟩:=hI.p1 w5;have d6:=m (hw 6 (by kernel_rfl));change u 6= .pointer (some ⟨g,l.length * 5,none⟩) at d6;rw[hd] at r;simp only[Bool.false_eq_true,if_false] at r;have hst:=hI.s7 HX.out w5 hd d5;refine Z8i (W':=layO W1 g (l.length * 5) (t,qt)) rfl ?_ (hK.out undef _ hst);have hzz:=ZbH (ZaH l) r;obtain ⟨v0,x0,y0⟩:=hzz 0 (by decide);obtain ⟨v1,x1,y1⟩:=hzz 1 (by decide);obtain ⟨v2,x2,y2⟩:=hzz 2 (by decide);obtain ⟨v3,x3,y3⟩:=hzz 3 (by decide);obtain ⟨v4,x4,y4⟩:=hzz 4 (by decide);simp only[Nat.add_zero] at x0 y0;clear d5 r n m hst hzz;go_simp;rfl}
  refine StepsInv.cons2 _ rfl (fun d u W1 K' hs hI hd hw hK=> ?_) ?_
  {refine Z02 (v:= .pointer (some ⟨gm,4,none⟩)) (W':=W1) rfl ?_ (hK.out _ _ (hI.pure (by decide) (fun v' h=>by cases h; rfl)));go_simp}
  refine StepsInv.cons2 _ rfl (fun d u W1 K' hs hI hd hw hK=> ?_) StepsInv.nil
  {have w5:=hw 5 (by kernel_rfl);have d8:u 8= .pointer (some ⟨gm,4,none⟩):=hI.vals 8 (hw 8 (by kernel_rfl)) _ rfl;obtain ⟨g,c,d5,r,n,m⟩:=hI.p1 w5;change u 5= .slice (some ⟨g,0,none⟩) (l.length+1) c at d5;have hst:=hI.s9 HX.out w5 hd;have cc:=hI.c4;rw[hd] at cc;simp only[Bool.false_eq_true,if_false] at cc;change W1.cell? ⟨gm,4,none⟩=_ at cc;have hfz:=hI.fz 4;change W1.frozen? ⟨gm,4,none⟩=_ at hfz;rw[d5] at hst;change QX.QI _ _ _ (W1.setCell ⟨gm,4,none⟩ _) at hst;refine Z8i (W':=W1.setCell ⟨gm,4,none⟩ (.slice (some ⟨g,0,none⟩) (l.length+1) c)) rfl ?_ (hK.out undef _ hst);clear r n m;go_simp}
  {intro d u W1 hI hd;have h5:=hd 5 (by show 5 < 10; omega);have c4:=hI.c4;rw[hd 9 (by show 9 < 10; omega)] at c4;obtain ⟨g,c,e,r,n,m⟩:=hI.p1 h5;rw[hd 7 (by show 7 < 10; omega)] at r;have hu:=hI.up;have hcr:=hI.cr;have hfz:=hI.fz;simp only[if_true] at c4 r;rw[e] at c4;have HFIN:Hid (Mk w0 gm hi k o nm [] (l++ [(t,qt)]) none 0 (some ⟨g,0,none⟩) c W1/\Upd (fun b=>b=gm\/rowB AP=some b) w4 W1/\ ∀b,rowB (some ⟨g,0,none⟩)=some b->rowB AP=some b\/w4.heap.size<=b):=Y1 (by
    have hm:=HK4.out.mm;have hrl: ∀b,(b=gm\/rowB AP=some b)->w0.heap.size<=b:=fun b hb=>by
     rcases hb with rfl | hb
     {exact hm.lo}
     {have:=(Za0 hm.rP b hb).1; have:=hm.lo; have:=hm.gh; omega}
    refine ⟨⟨hm.up.trans (hu.below hm.up.size hrl),hm.lo,hm.gh,Nat.le_trans hm.hw hu.size,(hcr 0 (by omega)).trans hm.c0,(hcr 1 (by omega)).trans hm.c1,(hcr 2 (by omega)).trans hm.c2,(hcr 3 (by omega)).trans hm.c3, ?_,hfz,Za6 hm.rN hu (fun b hb=>by cases hb), ?_,Or.inl rfl⟩,hu,fun b hb=> ?_⟩
    {rw[List.length_append]; exact c4}
    {rw[List.length_append,Zaf,Zan]; exact r}
    · obtain rfl:g=b:=by simpa[rowB] using hb
      exact n)
   clear hI hd h5 c4 e r n m hu hcr hfz;go_wp2;go_ret;obtain ⟨hm,hu,hr⟩:=HFIN.out;have hput: ∀ok',(ok'=true-> ∃j,bound f v p q=some j)->KP w0 n0 gm hi p1 p2 (.func (.func (bfn !v)) #[] #[]) (.func (.func (bfn v)) #[] #[]) k o nm ok' (ps++ [t]) W1:=fun ok' h=>HK4.out.put hn l1 l2 g1 g2 (fun _=>rfl) (fun h2=>by
    obtain ⟨j,hb⟩:=h h2;obtain ⟨rfl,hkk⟩:=HJ.out j hb;refine hkk.move (T:=fun _=>False) (Upd.new HB34.out) (fun b hb hf=>⟨fun h=>h, ?_⟩);rcases hf with hf | hf
    {exact Or.inl hf}
    · have hw:=HKS.out.mm.hw
      have h3:=HBW.out.size;exact Or.inr ⟨by omega,nofun,fun e=>by have:=(Za0 HKS.out.mm.rP b e).2; omega⟩) hm hu hr
   refine ⟨rfl,fun y hy=> ?_,fun h=>⟨t,hput false nofun⟩,(Upd.new HB4.out).trans (hu.mono (fun b _ hb=> ?_))⟩
   {obtain ⟨rfl,_⟩:=HJ.out y hy;exact hput true (fun _=>⟨_,hy⟩)}
   {rcases hb with hb | hb
    {exact Or.inl hb}
    {exact Or.inr (Za0 HK4.out.mm.rP b hb).1}}}
 | false=>
  simp only[Bool.false_eq_true,if_false] at hv;go_enter Tryd.func70,Tryd.ntmps70;subst hv
  go_wp2_with fail
  refine HC.out.mono ?_;rintro e w3 ⟨t,qt,rfl,hb3,hj⟩;have hb4:=Z01 w3 (.cells (Y8 t qt) 25);have HBX:=Y1 (Z03 w3 t qt);have HK4:=Y1 (HK2.out.new l1 l2 (Z00 hb3 hb4));have HB4:=Y1 (Z00 HBW.out (Z00 hb3 hb4));have HB34:=Y1 hb4;have HZ3:Hid (w2.heap.size<=w3.heap.size):=Y1 hb3.size;have HJ:=Y1 hj;obtain ⟨w4,hw4⟩: ∃w4,w4=w3.alloc (.cells (Y8 t qt) 25):=⟨_,rfl⟩;rw[<-hw4] at HBX HK4 HB4 HB34;have hw4':=hw4.symm;clear hw4 hb3 hb4 hj HC a0 a1 a2 a3 a4 b0 b1 b2 b3 b4 fa fr hen;unfold sv
  go_wp2_with fail
  have hm4:=HK4.out.mm;have hlen:=HK4.out.len;have hX:QX.Good ⟨w4,gm,hi,w3.heap.size,AP,cP,l,(t,qt)⟩:=⟨hm4.gh,by have:=HKS.out.mm.hw; have:=HBW.out.size; have:=HZ3.out; show hi<=w3.heap.size; omega,HBX.out.1,hm4.c4,hm4.fz,hm4.rP,fun e=>by have:=(Za0 HKS.out.mm.rP w3.heap.size e).2; have:=HBW.out.size; have:=HZ3.out; omega,HBX.out.2.1,by have:=HL.out; show l.length<=1000; omega⟩;have HX:=Y1 hX;clear hm4 hlen hX;refine ZaO (rs:= [0,1,2,3,4,5,6,7,8,9])
   (fun u=> { tmps:=#[.agg (Y8 p x),.agg (Y8 q y),.bool false,.pointer (some { block:=p1,off:=0 }),.pointer (some { block:=p2,off:=0 }),.pointer (some { block:=gm,off:=0 }),.pointer (some { block:=W.heap.size,off:=0 }),.pointer (some { block:=W.heap.size+1,off:=0 }),undef,.bool false,.func (Fn.func (bfn !up)) #[] #[],.pointer (some { block:=w3.heap.size,off:=0 }),.bool (bound f (!up) p q).isSome,.func (Fn.func (bfn !up)) #[] #[],.bool false,undef,.tuple #[.agg (Y8 t qt),.bool (bound f (!up) p q).isSome],.func (Fn.func (bfn !up)) #[] #[],.agg (Y8 p x),.agg (Y8 q y),.tuple #[.agg (Y8 t qt),.bool (bound f (!up) p q).isSome],.agg (Y8 t qt),.bool (bound f (!up) p q).isSome,u 0,u 1,u 2,u 3,u 4,u 5,u 6,u 8,undef],defers:= [] })
   (fun j=>undef) (QX.QI ⟨w4,gm,hi,w3.heap.size,AP,cP,l,(t,qt)⟩) (by kernel_rfl) (by kernel_rfl) (by kernel_rfl) HX.out.start ?_ ?_
  refine StepsInv.cons2 _ rfl (fun d u W1 K' hs hI hd hw hK=> ?_) ?_
  {refine Z02 (v:= .pointer (some ⟨gm,4,none⟩)) (W':=W1) rfl ?_ (hK.out _ _ (hI.pure (by decide) (fun v' h=>by cases h; rfl)));go_simp}
  refine StepsInv.cons2 _ rfl (fun d u W1 K' hs hI hd hw hK=> ?_) ?_
  {have d0:u 0= .pointer (some ⟨gm,4,none⟩):=hI.vals 0 (hw 0 (by kernel_rfl)) _ rfl;have h9:d 9=false:=Za2 hs rfl (by kernel_rfl) hd;have c4:=hI.c4;rw[h9] at c4;simp only[Bool.false_eq_true,if_false] at c4;change W1.cell? ⟨gm,4,none⟩=_ at c4;refine Z02 (v:= .slice AP l.length cP) (W':=W1) rfl ?_ (hK.out _ _ (hI.pure (by decide) (fun v' h=>by cases h; rfl)));go_simp}
  refine StepsInv.cons2 _ rfl (fun d u W1 K' hs hI hd hw hK=> ?_) ?_
  {obtain ⟨b0,b1,b2,b3,b4⟩:=hI.box HX.out;simp only[Nat.zero_add] at b0 b1 b2 b3 b4;change W1.cell? ⟨w3.heap.size,0,none⟩=some (.int .i64 t.kind) at b0;change W1.cell? ⟨w3.heap.size,1,none⟩=some (.string ⟨t.of_.toArray⟩) at b1;change W1.cell? ⟨w3.heap.size,2,none⟩=some (.string ⟨t.name.toArray⟩) at b2;change W1.cell? ⟨w3.heap.size,3,none⟩=some (.slice qt.A t.names.length qt.c) at b3;change W1.cell? ⟨w3.heap.size,4,none⟩=some (.slice qt.P t.parts.length qt.d) at b4;refine Z02 (v:= .agg (Y8 t qt)) (W':=W1) rfl ?_ (hK.out _ _ (hI.pure (by decide) (fun v' h=>by cases h; rfl)));go_simp}
  refine StepsInv.cons2 _ rfl (fun d u W1 K' hs hI hd hw hK=> ?_) ?_
  {have d1:u 1= .slice AP l.length cP:=hI.vals 1 (hw 1 (by kernel_rfl)) _ rfl;refine Z02 (v:= .int .i64 (l.length:Int)) (W':=W1) rfl ?_ (hK.out _ _ (hI.pure (by decide) (fun v' h=>by cases h; rfl)));go_simp}
  refine StepsInv.cons2 _ rfl (fun d u W1 K' hs hI hd hw hK=> ?_) ?_
  {refine Z02 (v:= .slice (some ⟨W1.heap.size,0,none⟩) 1 1) (W':=W1.alloc (.cells Yb 25)) rfl ?_ (hK.out _ _ (hI.s4 HX.out));go_simp}
  refine StepsInv.cons2 _ rfl (fun d u W1 K' hs hI hd hw hK=> ?_) ?_
  {have d1:u 1= .slice AP l.length cP:=hI.vals 1 (hw 1 (by kernel_rfl)) _ rfl;obtain ⟨z,d4,z1,z2,z3⟩:=hI.f4 (hw 4 (by kernel_rfl)) hd;have h6:d 6=false:=Za2 hs rfl (by kernel_rfl) hd;have h7:d 7=false:=Za2 hs rfl (by kernel_rfl) hd;have h9:d 9=false:=Za2 hs rfl (by kernel_rfl) hd;have hll:=HX.out.ll;have hsz:=hI.up.size;have hpw:=HX.out.pw;have hhw:=HX.out.hw;refine step_append_lies W1 rfl _ _ 23 rfl hi 25 i0 (.agg #[.int .i64 0,.string ByteArray.empty,.string ByteArray.empty,.slice none 0 0,.slice none 0 0]) 5 88 Tryd.underlying23 hif0 hz0 hs0 hb0 rfl (by decide) _ _ _ (by show u 1=_; exact d1) (hI.p0 hd) ⟨z,0,none⟩ 1 1 Zag (by show u 4=_; exact d4) rfl (fun j v hv=>by rw[Z1z,Nat.zero_add]; exact z3 j v hv) Zbi (by decide) (by show l.length+1<=maxLen; unfold maxLen; change l.length<=1000 at hll; omega) (by show (l.length+1) * 88<=140737488355328; change l.length<=1000 at hll; omega) (by change hi<=w3.heap.size at hhw; change w3.heap.size < w4.heap.size at hpw; change w4.heap.size<=_ at hsz; omega) _ rfl ?_;intro g cp W' hown hg hat hlt;rw[Zau] at hg hat;exact hK.out _ _ (hI.s5 HX.out hd h6 h7 h9 hown hg hat)}
  refine StepsInv.cons2 _ rfl (fun d u W1 K' hs hI hd hw hK=> ?_) ?_
  {have w5:=hw 5 (by kernel_rfl);have d3:u 3= .int .i64 (l.length:Int):=hI.vals 3 (hw 3 (by kernel_rfl)) _ rfl;obtain ⟨g,c,d5,r,n,m⟩:=hI.p1 w5;change u 5= .slice (some ⟨g,0,none⟩) (l.length+1) c at d5;refine Z02 (v:= .pointer (some ⟨g,l.length * 5,none⟩)) (W':=W1) rfl ?_ (hK.out _ _ (hI.s6 HX.out w5 (fun g' c' e=>by
    change u 5= .slice (some ⟨g',0,none⟩) (l.length+1) c' at e;rw[d5] at e;simp only[Value.slice.injEq,Option.some.injEq,Addr.mk.injEq,and_true] at e;rw[e.1])))
   go_simp;intro h; omega}
  refine StepsInv.cons2 _ rfl (fun d u W1 K' hs hI hd hw hK=> ?_) ?_
  {have w5:d 5=true:=hs 6 _ rfl (hw 6 (by kernel_rfl)) 5 (by kernel_rfl);have d2:u 2= .agg (Y8 t qt):=hI.vals 2 (hw 2 (by kernel_rfl)) _ rfl;obtain ⟨g,c,d5,r,n,m⟩:=hI.p1 w5;have d6:=m (hw 6 (by kernel_rfl));change u 6= .pointer (some ⟨g,l.length * 5,none⟩) at d6;rw[hd] at r;simp only[Bool.false_eq_true,if_false] at r;have hst:=hI.s7 HX.out w5 hd d5;refine Z8i (W':=layO W1 g (l.length * 5) (t,qt)) rfl ?_ (hK.out undef _ hst);have hzz:=ZbH (ZaH l) r;obtain ⟨v0,x0,y0⟩:=hzz 0 (by decide);obtain ⟨v1,x1,y1⟩:=hzz 1 (by decide);obtain ⟨v2,x2,y2⟩:=hzz 2 (by decide);obtain ⟨v3,x3,y3⟩:=hzz 3 (by decide);obtain ⟨v4,x4,y4⟩:=hzz 4 (by decide);simp only[Nat.add_zero] at x0 y0;clear d5 r n m hst hzz;go_simp;rfl}
  refine StepsInv.cons2 _ rfl (fun d u W1 K' hs hI hd hw hK=> ?_) ?_
  {refine Z02 (v:= .pointer (some ⟨gm,4,none⟩)) (W':=W1) rfl ?_ (hK.out _ _ (hI.pure (by decide) (fun v' h=>by cases h; rfl)));go_simp}
  refine StepsInv.cons2 _ rfl (fun d u W1 K' hs hI hd hw hK=> ?_) StepsInv.nil
  {have w5:=hw 5 (by kernel_rfl);have d8:u 8= .pointer (some ⟨gm,4,none⟩):=hI.vals 8 (hw 8 (by kernel_rfl)) _ rfl;obtain ⟨g,c,d5,r,n,m⟩:=hI.p1 w5;change u 5= .slice (some ⟨g,0,none⟩) (l.length+1) c at d5;have hst:=hI.s9 HX.out w5 hd;have cc:=hI.c4;rw[hd] at cc;simp only[Bool.false_eq_true,if_false] at cc;change W1.cell? ⟨gm,4,none⟩=_ at cc;have hfz:=hI.fz 4;change W1.frozen? ⟨gm,4,none⟩=_ at hfz;rw[d5] at hst;change QX.QI _ _ _ (W1.setCell ⟨gm,4,none⟩ _) at hst;refine Z8i (W':=W1.setCell ⟨gm,4,none⟩ (.slice (some ⟨g,0,none⟩) (l.length+1) c)) rfl ?_ (hK.out undef _ hst);clear r n m;go_simp}
  {intro d u W1 hI hd;have h5:=hd 5 (by show 5 < 10; omega);have c4:=hI.c4;rw[hd 9 (by show 9 < 10; omega)] at c4;obtain ⟨g,c,e,r,n,m⟩:=hI.p1 h5;rw[hd 7 (by show 7 < 10; omega)] at r;have hu:=hI.up;have hcr:=hI.cr;have hfz:=hI.fz;simp only[if_true] at c4 r;rw[e] at c4;have HFIN:Hid (Mk w0 gm hi k o nm [] (l++ [(t,qt)]) none 0 (some ⟨g,0,none⟩) c W1/\Upd (fun b=>b=gm\/rowB AP=some b) w4 W1/\ ∀b,rowB (some ⟨g,0,none⟩)=some b->rowB AP=some b\/w4.heap.size<=b):=Y1 (by
    have hm:=HK4.out.mm;have hrl: ∀b,(b=gm\/rowB AP=some b)->w0.heap.size<=b:=fun b hb=>by
     rcases hb with rfl | hb
     {exact hm.lo}
     {have:=(Za0 hm.rP b hb).1; have:=hm.lo; have:=hm.gh; omega}
    refine ⟨⟨hm.up.trans (hu.below hm.up.size hrl),hm.lo,hm.gh,Nat.le_trans hm.hw hu.size,(hcr 0 (by omega)).trans hm.c0,(hcr 1 (by omega)).trans hm.c1,(hcr 2 (by omega)).trans hm.c2,(hcr 3 (by omega)).trans hm.c3, ?_,hfz,Za6 hm.rN hu (fun b hb=>by cases hb), ?_,Or.inl rfl⟩,hu,fun b hb=> ?_⟩
    {rw[List.length_append]; exact c4}
    {rw[List.length_append,Zaf,Zan]; exact r}
    · obtain rfl:g=b:=by simpa[rowB] using hb
      exact n)
   clear hI hd h5 c4 e r n m hu hcr hfz;go_wp2;go_ret;obtain ⟨hm,hu,hr⟩:=HFIN.out;have hput: ∀ok',(ok'=true-> ∃j,bound f (!up) p q=some j)->KP w0 n0 gm hi p1 p2 (.func (.func (bfn !up)) #[] #[]) (.func (.func (bfn up)) #[] #[]) k o nm ok' (ps++ [t]) W1:=fun ok' h=>HK4.out.put hn l1 l2 g1 g2 (fun _=>rfl) (fun h2=>by
    obtain ⟨j,hb⟩:=h h2;obtain ⟨rfl,hkk⟩:=HJ.out j hb;refine hkk.move (T:=fun _=>False) (Upd.new HB34.out) (fun b hb hf=>⟨fun h=>h, ?_⟩);rcases hf with hf | hf
    {exact Or.inl hf}
    · have hw:=HKS.out.mm.hw
      have h3:=HBW.out.size;exact Or.inr ⟨by omega,nofun,fun e=>by have:=(Za0 HKS.out.mm.rP b e).2; omega⟩) hm hu hr
   refine ⟨rfl,fun y hy=> ?_,fun h=>⟨t,hput false nofun⟩,(Upd.new HB4.out).trans (hu.mono (fun b _ hb=> ?_))⟩
   {obtain ⟨rfl,_⟩:=HJ.out y hy;exact hput true (fun _=>⟨_,hy⟩)}
   {rcases hb with hb | hb
    {exact Or.inl hb}
    {exact Or.inr (Za0 HK4.out.mm.rP b hb).1}}}
end SubM
end Go.Proofs.YthajhofgjhfjeaaDoor
namespace Go.Proofs.YthajhofgjhfjeaaDoor
open Go.RowKit Shp Sub
namespace SubM
abbrev noneQ12:Ptr:=⟨none,0,none,0⟩
structure St0 (w0:World) (gm pf:Nat) (fv:Value) (k:Int) (W:World):Prop where
 up:Below w0.heap.size w0 W
 lo:w0.heap.size<=gm
 gw:gm < W.heap.size
 c5:Sh5 W gm 0 ⟨k,[],[],[],[]⟩ noneQ12
 fz: ∀j,W.frozen? ⟨gm,j,none⟩=false
 pw:pf < W.heap.size
 fc:W.cell? ⟨pf,0,none⟩=some fv
section
variable {w0 W W' : World} {n0 gm hi pf : Nat} {fv : Value} {k : Int}
theorem St0.mid {T:Nat->Prop} (h:St0 w0 gm pf fv k W) (hu:Upd T W W') (hT: ∀b,T b->gm < b/\pf < b):St0 w0 gm pf fv k W':=by
 have h1: ¬T gm:=fun ht=>by have:=(hT gm ht).1; omega
 have h2: ¬T pf:=fun ht=>by have:=(hT pf ht).2; omega
 exact ⟨h.up.trans (hu.below h.up.size (fun b hb=>by have:=(hT b hb).1; have:=h.lo; omega)),h.lo,Nat.lt_of_lt_of_le h.gw hu.size,h.c5.of (fun k=>hu.cell h.gw h1),fun j=>(hu.frozen h.gw h1).trans (h.fz j),Nat.lt_of_lt_of_le h.pw hu.size,(hu.cell h.pw h2).trans h.fc⟩
theorem St0.kn (h:St0 w0 gm pf fv k W) (hg:gm < hi) (hw:hi<=W.heap.size) (ok:Bool):KN w0 n0 gm hi pf fv k ok [] W:=by
 obtain ⟨c0,c1,c2,c3,c4⟩:=h.c5;simp only[Nat.zero_add] at c0 c1 c2 c3 c4;exact ⟨[],none,0,none,0,⟨⟨h.up,h.lo,hg,hw,c0,c1,c2,c3,c4,h.fz,World.ownsRow_nil _ _ _ _,World.ownsRow_nil _ _ _ _,Or.inl rfl⟩,rfl,fun _ x hx=>absurd hx (by simp),h.fc⟩⟩
theorem St0.fin (h:St0 w0 gm pf fv k W) (S:Nat->Prop):Sh5 W gm 0 (made k []) noneQ12/\Kept S W (made k [],noneQ12):=
 ⟨h.c5,fun W' _ _=> .mk _ _ 0 0 (fun _=>noneQ12) ⟨by simp[made],by simp[made],by simp[made],by simp[made],by simp[made],by simp[made],by simp[made],fun _=>rfl,fun _=>rfl⟩ (Or.inl rfl) (Or.inl rfl) (fun i hi=>by simp[made] at hi) (fun i hi=>by simp[made] at hi)⟩
section
variable {ok : Bool} {L : List Fld} (h : KN w0 n0 gm hi pf fv k ok L W)
include ok L h
theorem KN.fin: ∃q,Sh5 W gm 0 (made k L) q/\(ok=true->(∀x∈L.map Prod.fst,x.length<=1000)->L.length<=1000->Kept (fun b=>b < n0\/hi<=b) W (made k L,q)):=by
 obtain ⟨l,AN,cN,AP,cP,h⟩:=h;have he: (⟨k,[],[],L.map Prod.fst,l.map Prod.fst⟩:Sh)=made k L:=by rw[h.eq]; rfl
 refine ⟨⟨AN,cN,AP,cP⟩, ?_,fun ho hx hl=> ?_⟩
 {have hlen:=h.len;refine ⟨h.mm.c0,h.mm.c1,h.mm.c2,h.mm.c3, ?_⟩;have:=h.mm.c4;simp only[made,List.length_map];rw[hlen] at this;exact this}
 {have hlen:=h.len;have:=h.mm.at_ (n0:=n0) (h.kp ho) (by simp) (by simp) (fun x hm=>by have:=hx x hm; omega) (by rw[List.length_map]; omega) (by omega);rw[he] at this;exact this}
theorem KN.below:Below w0.heap.size w0 W/\gm < W.heap.size/\hi<=W.heap.size:=by
 obtain ⟨l,AN,cN,AP,cP,h⟩:=h;exact ⟨h.mm.up,Nat.lt_of_lt_of_le h.mm.gh h.mm.hw,h.mm.hw⟩
end
end
theorem Zbq {a b:Sh} (A:Rec a) (B:Rec b): (calls a b).length<=a.names.length+b.names.length:=by
 unfold calls;rw[List.length_append,ZaG A];have: (callsB a b).length<=b.names.length:=by
  unfold callsB;rw[List.length_map];exact Nat.le_trans (List.length_filter_le _ _) (by rw[List.length_zip]; omega)
 omega
theorem Two.ln {f:Nat} {a b:Sh} (h:Two f a b) (A:Rec a):a.names.length<=400:=by rw[A.l]; have:=h.sa; have:=Z0P a.parts; rw[size_eq] at *; omega
theorem Zb4 {n:List UInt8} (h:Lex.isName n=true):n.length<=1000:=by have:=Z3I h; omega
structure Rc (rc:Nat) (W:World):Prop where
 lt:rc < W.heap.size
 ex: ∀j,j < 5-> ∃v,W.cell? ⟨rc,j,none⟩=some v
 fz: ∀j,W.frozen? ⟨rc,j,none⟩=false
theorem Rc.upd {T:Nat->Prop} {rc:Nat} {W W':World} (h:Rc rc W) (hu:Upd T W W') (hT: ¬T rc):Rc rc W':=
 ⟨Nat.lt_of_lt_of_le h.lt hu.size,fun j hj=>by
  obtain ⟨v,hv⟩:=h.ex j hj;exact ⟨v,(hu.cell h.lt hT).trans hv⟩,fun j=>(hu.frozen h.lt hT).trans (h.fz j)⟩
theorem Zax {W W':World} (h:W'=W.alloc (.cells Yb 25)):Rc W.heap.size W':=by
 subst h;refine ⟨by simp,fun j hj=> ?_,fun j=>by simp[go_sem]⟩;rcases j with _ | _ | _ | _ | _ | j
 {exact ⟨.int .i64 0,by simp[go_sem]⟩}
 {exact ⟨.string ⟨#[]⟩,by simp[go_sem]⟩}
 {exact ⟨.string ⟨#[]⟩,by simp[go_sem]⟩}
 {exact ⟨.slice none 0 0,by simp[go_sem]⟩}
 {exact ⟨.slice none 0 0,by simp[go_sem]⟩}
 {omega}
def EIs (f:Nat) (up:Bool) (a b:Sh) (n0:Nat) (w:World) (rc gm hi:Nat) (e:Ending) (W':World):Prop:=
 e= .returned (.bool (bound f up a b).isSome)/\Rc rc W'/\Below w.heap.size w W'/\ ∃t q,Sh5 W' gm 0 t q/\ ∀j,bound f up a b=some j->t=j/\Kept (fun b=>b < n0\/hi<=b) W' (j,q)
theorem Zbm {f:Nat} {up:Bool} {a b:Sh} {n0:Nat} {w:World} {rc gm hi:Nat} {W':World} {t:Sh} {q:Ptr} (hn:n0<=w.heap.size) (h1:w.heap.size<=rc) (h2:rc < hi) (hb:Below w.heap.size w W') (hj: ∀j,bound f up a b=some j->t=j/\Kept (fun b=>b < n0\/hi<=b) W' (j,q)):
 BIs f up a b n0 w (.returned (.tuple #[sv t q,.bool (bound f up a b).isSome])) (RX.lay W' rc t q):=by
 have hu:=RX.lay_upd W' rc t q;refine ⟨t,q,rfl,hb.trans (hu.below hb.size (fun x hx=>by omega)),fun j hb2=> ?_⟩;obtain ⟨e,hk⟩:=hj j hb2;exact ⟨e,hk.move hu (fun b _ hf=>⟨fun e=>by have e:b=rc:=e; rcases hf with hf | hf <;> omega,by rcases hf with hf | hf <;> omega⟩)⟩
theorem ZcI (s:Cl->Option Fld) (l:List Cl):l.all (fun c=>(s c).isSome)=(allOf s l).isSome:=by
 induction l with
 | nil=>rfl
 | cons c l ih=>
  rw[List.all_cons,ih];show ((s c).isSome&&(allOf s l).isSome)=((s c).bind (fun x=>(allOf s l).map (fun xs=>x::xs))).isSome;cases s c with
  | none=>rfl
  | some x=>cases allOf s l <;> rfl
theorem Zcj {s:Cl->Option Fld} {l:List Cl} {L:List Fld} {c:Cl} {x:Fld} (h:allOf s l=some L) (hx:s c=some x):allOf s (l++ [c])=some (L++ [x]):=by
 induction l generalizing L with
 | nil=>unfold allOf at h; cases h; simp[allOf,hx]
 | cons c' l ih=>
  unfold allOf at h;obtain ⟨y,hy,h⟩:=Option.bind_eq_some_iff.1 h;obtain ⟨xs,hxs,rfl⟩:=Option.map_eq_some_iff.1 h;rw[List.cons_append];unfold allOf;rw[hy,ih hxs];rfl
section
variable {f : Nat} {up : Bool} {a b : Sh} {pa pb : Ptr} {n0 : Nat} {w W5 : World} {rc gm pf : Nat}
theorem Zcy (hI:BoundOk f) (h2:Two (f+1) a b) (A:Rec a) (B:Rec b) (hk:a.kind=b.kind) (hw:Narrow up a.kind) (ha:ShAt W5 n0 pa a) (hb:ShAt W5 n0 pb b) (hn:n0<=w.heap.size)
 (hS:St0 w gm pf (.func (.func (bfn up)) #[] #[]) a.kind W5) (hR:Rc rc W5) (hpf:w.heap.size<=pf) (hpg:pf≠gm) (hrg:rc≠gm):
 Calls Tryd.prog 33 #[sv a pa,sv b pb,.func (.func 67) #[] [.pointer (some ⟨pf,0,none⟩),.pointer (some ⟨gm,0,none⟩)].toArray] W5 (EIs (f+1) up a b n0 w rc gm (W5.heap.size+3)):=by
 have hlo:=hS.lo;have hgw:=hS.gw;have hpw:=hS.pw;have hrw:=hR.lt;have hz:=hS.up.size;have hcl:=Zbq A B;have ln:=h2.ln A;have lm:=h2.swap.ln B;have hT:Takes n0 W5.heap.size a b 67 [.pointer (some ⟨pf,0,none⟩),.pointer (some ⟨gm,0,none⟩)] (fun _=>true)
  (fun _ done W=>Rc rc W/\(done= []/\St0 w gm pf (.func (.func (bfn up)) #[] #[]) a.kind W\/KN w n0 gm (W5.heap.size+3) pf (.func (.func (bfn up)) #[] #[]) a.kind true (done.filterMap (narrowStep (bound f up))) W)):=by
  refine ⟨fun _ done W W' hK hu=>⟨hK.1.upd hu (by omega), ?_⟩,fun done c rest W x y hcut hsz hK hx hy=> ?_⟩
  {rcases hK.2 with ⟨e,h⟩ | h
   {exact Or.inl ⟨e,h.mid hu (fun b hb=>by omega)⟩}
   {exact Or.inr (h.mid hu (fun b hb=>by omega) (by omega) (by omega))}}
  {obtain ⟨nm,o1,o2⟩:=c;have hm: (nm,o1,o2)∈calls a b:=by rw[hcut]; simp
   obtain ⟨e1,e2,_⟩:=(Za5 A B).1 hm;have hkn:KN w n0 gm (W5.heap.size+3) pf (.func (.func (bfn up)) #[] #[]) a.kind true (done.filterMap (narrowStep (bound f up))) W:=by
    rcases hK.2 with ⟨e,h⟩ | h
    {rw[e]; exact h.kn (by omega) hsz true}
    {exact h}
   have hlen: (done.filterMap (narrowStep (bound f up))).length<=900:=by
    have h1:=List.length_filterMap_le (narrowStep (bound f up)) done;have h2:=congrArg List.length hcut;rw[List.length_append] at h2;omega
   refine (Zcx hI up w n0 gm (W5.heap.size+3) pf a.kind _ nm o1 o2 x y W (fun p q hp hq=> ?_) (by omega) (by omega) hpg hlen hx hy hkn).mono ?_
   {rw[e1] at hp; rw[e2] at hq;exact h2.part (Z9Z hp) (Z9Z hq)}
   {rintro e W' ⟨rfl,hk',hu⟩;refine ⟨rfl,⟨hK.1.upd hu (by omega),Or.inr ?_⟩,hu.mono (fun b _ hb=>by omega)⟩;rw[List.filterMap_append];cases h:narrowStep (bound f up) (nm,o1,o2) with
    | none=>rw[h] at hk'; simpa[h] using hk'
    | some z=>rw[h] at hk'; simpa[h] using hk'}}
 refine (Zap a b pa pb n0 W5 A B ha hb (by omega) (by omega) (by omega) 67 (enters_of Tryd.func67 (by kernel_rfl) rfl) _ _ _ hT ⟨hR,Or.inl ⟨rfl,hS⟩⟩).mono ?_;rintro e W6 ⟨rfl,⟨D,hK,hD⟩,hU⟩;have hall: ((calls a b).all fun _=>true)=true:=by simp
 obtain rfl:=hD hall;have hbd:bound (f+1) up a b=some (made a.kind ((calls a b).filterMap (narrowStep (bound f up)))):=by conv=>lhs; unfold bound; rw[if_neg (fun h=>h hk),if_pos hw]
 have hz6:=hU.size;refine ⟨by rw[hall,hbd]; rfl,hK.1, ?_, ?_⟩
 {rcases hK.2 with ⟨_,h⟩ | h
  {exact h.up}
  {exact h.below.1}}
 {rcases hK.2 with ⟨e,h⟩ | h
  {have hf:=h.fin (fun b=>b < n0\/W5.heap.size+3<=b);refine ⟨_,_,hf.1,fun j hj=> ?_⟩;rw[hbd,e] at hj;cases hj;exact ⟨rfl,hf.2⟩}
  {obtain ⟨q,h5,hkp⟩:=h.fin;refine ⟨_,q,h5,fun j hj=> ?_⟩;rw[hbd] at hj;cases hj;refine ⟨rfl,hkp rfl (fun x hx=> ?_) ?_⟩
   {exact Zb4 (ZaE A B ((ZaC (fun c x h=>ZaF h) _).subset hx))}
   {have:=List.length_filterMap_le (narrowStep (bound f up)) (calls a b); omega}}}
end
end SubM
end Go.Proofs.YthajhofgjhfjeaaDoor
namespace Go.Proofs.YthajhofgjhfjeaaDoor
open Go.RowKit Shp Sub
namespace SubM
section
variable {f : Nat} {up : Bool} {a b : Sh} {pa pb : Ptr} {n0 : Nat} {w W5 : World} {rc gm pf p1 p2 : Nat}
theorem ZbY (hI:BoundOk f) (h2:Two (f+1) a b) (A:Rec a) (B:Rec b) (hk:a.kind=b.kind) (hw:Wide up a.kind) (ha:ShAt W5 n0 pa a) (hb:ShAt W5 n0 pb b) (hn:n0<=w.heap.size)
 (hS:St0 w gm pf (.func (.func (bfn up)) #[] #[]) a.kind W5) (hR:Rc rc W5) (hpf:w.heap.size<=pf) (hpg:pf≠gm) (hrg:rc≠gm):
 Calls Tryd.prog 33 #[sv a pa,sv b pb,.func (.func 69) #[] [.pointer (some ⟨pf,0,none⟩),.pointer (some ⟨gm,0,none⟩)].toArray] W5 (EIs (f+1) up a b n0 w rc gm (W5.heap.size+3)):=by
 have hlo:=hS.lo;have hgw:=hS.gw;have hpw:=hS.pw;have hrw:=hR.lt;have hz:=hS.up.size;have hcl:=Zbq A B;have ln:=h2.ln A;have lm:=h2.swap.ln B;have hT:Takes n0 W5.heap.size a b 69 [.pointer (some ⟨pf,0,none⟩),.pointer (some ⟨gm,0,none⟩)] (fun c=>(wideStep (bound f up) c).isSome)
  (fun ok done W=>Rc rc W/\(done= []/\ok=true/\St0 w gm pf (.func (.func (bfn up)) #[] #[]) a.kind W\/
   (ok=true/\ ∃L,allOf (wideStep (bound f up)) done=some L/\KN w n0 gm (W5.heap.size+3) pf (.func (.func (bfn up)) #[] #[]) a.kind true L W)\/
   (ok=false/\ ∃L,KN w n0 gm (W5.heap.size+3) pf (.func (.func (bfn up)) #[] #[]) a.kind false L W))):=by
  refine ⟨fun _ done W W' hK hu=>⟨hK.1.upd hu (by omega), ?_⟩,fun done c rest W x y hcut hsz hK hx hy=> ?_⟩
  {rcases hK.2 with ⟨e,e2,h⟩ | ⟨e,L,h1,h⟩ | ⟨e,L,h⟩
   {exact Or.inl ⟨e,e2,h.mid hu (fun b hb=>by omega)⟩}
   {exact Or.inr (Or.inl ⟨e,L,h1,h.mid hu (fun b hb=>by omega) (by omega) (by omega)⟩)}
   {exact Or.inr (Or.inr ⟨e,L,h.mid hu (fun b hb=>by omega) (by omega) (by omega)⟩)}}
  {obtain ⟨nm,o1,o2⟩:=c;have hm: (nm,o1,o2)∈calls a b:=by rw[hcut]; simp
   obtain ⟨e1,e2,e3⟩:=(Za5 A B).1 hm;obtain ⟨L,hL,hkn⟩: ∃L,allOf (wideStep (bound f up)) done=some L/\KN w n0 gm (W5.heap.size+3) pf (.func (.func (bfn up)) #[] #[]) a.kind true L W:=by
    rcases hK.2 with ⟨e,_,h⟩ | ⟨_,h⟩ | ⟨e,_⟩
    {exact ⟨[],by rw[e]; rfl,h.kn (by omega) hsz true⟩}
    {exact h}
    {cases e}
   have hlen:L.length<=900:=by
    have h1:=congrArg List.length (ZaK (fun c x h=>Zas h) hL);rw[List.length_map,List.length_map] at h1;have h2:=congrArg List.length hcut;rw[List.length_append] at h2;omega
   have hne:o1≠none\/o2≠none:=by
    rcases e3 with h | h
    {exact Or.inl (fun e=>A.get_none.1 (e1.symm.trans e) h)}
    {exact Or.inr (fun e=>B.get_none.1 (e2.symm.trans e) h)}
   refine (ZbX hI up w n0 gm (W5.heap.size+3) pf a.kind L nm o1 o2 x y W (fun p q hp hq=> ?_) hne (by omega) (by omega) hpg hlen hx hy hkn).mono ?_
   {rw[e1] at hp; rw[e2] at hq;exact h2.part (Z9Z hp) (Z9Z hq)}
   {rintro e W' ⟨rfl,hsome,hnone,hu⟩;refine ⟨rfl,⟨hK.1.upd hu (by omega), ?_⟩,hu.mono (fun b _ hb=>by omega)⟩;cases h:wideStep (bound f up) (nm,o1,o2) with
    | none=>
     obtain ⟨t,ht⟩:=hnone h;exact Or.inr (Or.inr ⟨rfl,_,ht⟩)
    | some z=>exact Or.inr (Or.inl ⟨rfl,_,Zcj hL h,hsome z h⟩)}}
 refine (Zap a b pa pb n0 W5 A B ha hb (by omega) (by omega) (by omega) 69 (enters_of Tryd.func69 (by kernel_rfl) rfl) _ _ _ hT ⟨hR,Or.inl ⟨rfl,rfl,hS⟩⟩).mono ?_;rintro e W6 ⟨rfl,⟨D,hK,hD⟩,hU⟩;have hall:=ZcI (wideStep (bound f up)) (calls a b);have hbd:bound (f+1) up a b=(allOf (wideStep (bound f up)) (calls a b)).map (made a.kind):=by conv=>lhs; unfold bound; rw[if_neg (fun h=>h hk),if_neg (fun h=>Zar h hw),if_pos hw]
 refine ⟨by rw[hall,hbd,Option.isSome_map],hK.1, ?_, ?_⟩
 {rcases hK.2 with ⟨_,_,h⟩ | ⟨_,L,_,h⟩ | ⟨_,L,h⟩
  {exact h.up}
  {exact h.below.1}
  {exact h.below.1}}
 {rcases hK.2 with ⟨e,e2,h⟩ | ⟨e2,L,hL,h⟩ | ⟨e2,L,h⟩
  {have hf:=h.fin (fun b=>b < n0\/W5.heap.size+3<=b);refine ⟨_,_,hf.1,fun j hj=> ?_⟩;rw[hbd, <-hD e2,e] at hj;cases hj;exact ⟨rfl,hf.2⟩}
  {obtain ⟨q,h5,hkp⟩:=h.fin;refine ⟨_,q,h5,fun j hj=> ?_⟩;rw[hD e2] at hL;rw[hbd,hL] at hj;cases hj;have hfst:=ZaK (fun c x h=>Zas h) hL;refine ⟨rfl,hkp rfl (fun x hx=> ?_) ?_⟩
   {rw[hfst] at hx; exact Zb4 (ZaE A B hx)}
   {have h1:=congrArg List.length hfst; rw[List.length_map,List.length_map] at h1; omega}}
  {obtain ⟨q,h5,_⟩:=h.fin;refine ⟨_,q,h5,fun j hj=> ?_⟩;rw[hall] at e2;rw[hbd] at hj;obtain ⟨L2,h2,_⟩:=Option.map_eq_some_iff.1 hj;rw[h2] at e2;cases e2}}
structure St0p (w0:World) (gm p1 p2:Nat) (f1 f2:Value) (k:Int) (o nm:List UInt8) (W:World):Prop where
 up:Below w0.heap.size w0 W
 lo:w0.heap.size<=gm
 gw:gm < W.heap.size
 c5:Sh5 W gm 0 ⟨k,o,nm,[],[]⟩ noneQ12
 fz: ∀j,W.frozen? ⟨gm,j,none⟩=false
 pw:p1 < W.heap.size
 qw:p2 < W.heap.size
 fa:W.cell? ⟨p1,0,none⟩=some f1
 fr:W.cell? ⟨p2,0,none⟩=some f2
theorem St0p.mid {T:Nat->Prop} {w0 W W':World} {f1 f2:Value} {k:Int} {o nm:List UInt8} (h:St0p w0 gm p1 p2 f1 f2 k o nm W) (hu:Upd T W W') (hT: ∀b,T b->gm < b/\p1 < b/\p2 < b):St0p w0 gm p1 p2 f1 f2 k o nm W':=by
 have h1: ¬T gm:=fun ht=>by have:=(hT gm ht).1; omega
 have h2: ¬T p1:=fun ht=>by have:=(hT p1 ht).2.1; omega
 have h3: ¬T p2:=fun ht=>by have:=(hT p2 ht).2.2; omega
 exact ⟨h.up.trans (hu.below h.up.size (fun b hb=>by have:=(hT b hb).1; have:=h.lo; omega)),h.lo,Nat.lt_of_lt_of_le h.gw hu.size,h.c5.of (fun k=>hu.cell h.gw h1),fun j=>(hu.frozen h.gw h1).trans (h.fz j),Nat.lt_of_lt_of_le h.pw hu.size,Nat.lt_of_lt_of_le h.qw hu.size,(hu.cell h.pw h2).trans h.fa,(hu.cell h.qw h3).trans h.fr⟩
section
variable {w0 W : World} {hi : Nat} {f1 f2 : Value} {k : Int} {o nm : List UInt8}
include w0 W hi f1 f2 k o nm
theorem St0p.kp (h:St0p w0 gm p1 p2 f1 f2 k o nm W) (hg:gm < hi) (hw:hi<=W.heap.size) (ok:Bool):KP w0 n0 gm hi p1 p2 f1 f2 k o nm ok [] W:=by
 obtain ⟨c0,c1,c2,c3,c4⟩:=h.c5;simp only[Nat.zero_add] at c0 c1 c2 c3 c4;exact ⟨[],none,0,⟨h.up,h.lo,hg,hw,c0,c1,c2,c3,c4,h.fz,World.ownsRow_nil _ _ _ _,World.ownsRow_nil _ _ _ _,Or.inl rfl⟩,rfl,fun _ x hx=>absurd hx (by simp),h.fa,h.fr⟩
theorem KP.fin {ok:Bool} {ps:List Sh} (h:KP w0 n0 gm hi p1 p2 f1 f2 k o nm ok ps W): ∃q,Sh5 W gm 0 ⟨k,o,nm,[],ps⟩ q/\
 (ok=true->o.length<=9223372036854775807->nm.length<=9223372036854775807->ps.length<=1000->Kept (fun b=>b < n0\/hi<=b) W (⟨k,o,nm,[],ps⟩,q)):=by
 obtain ⟨l,AP,cP,h⟩:=h;have hlen:=h.len;refine ⟨⟨none,0,AP,cP⟩,⟨h.mm.c0,h.mm.c1,h.mm.c2,h.mm.c3, ?_⟩,fun ho h1 h2 hl=> ?_⟩
 {have:=h.mm.c4;rw[hlen] at this;exact this}
 {have:=h.mm.at_ (n0:=n0) (h.kp ho) h1 h2 (by simp) (by simp) (by omega);rw[h.eq] at this;exact this}
theorem KP.below {ok:Bool} {ps:List Sh} (h:KP w0 n0 gm hi p1 p2 f1 f2 k o nm ok ps W):Below w0.heap.size w0 W:=by
 obtain ⟨l,AP,cP,h⟩:=h;exact h.mm.up
end
def plStep (f:Nat) (up:Bool) (a b:Sh) (k:Nat):Option Sh:=
 match a.parts[k]?,b.parts[k]? with
 | some p,some q=>if k+1=a.parts.length then bound f up p q else bound f (!up) p q
 | some _,none=>none
 | none,_=>none
theorem Zcz {f:Nat} {up:Bool} {a b:Sh} {k:Nat} (h1:k < a.parts.length) (h2:k < b.parts.length):plStep f up a b k=bound f (if decide (k+1=a.parts.length)=true then up else !up) (a.parts[k]'h1) (b.parts[k]'h2):=by
 unfold plStep;rw[List.getElem?_eq_getElem h1,List.getElem?_eq_getElem h2];simp only[decide_eq_true_eq];split <;> rfl
theorem Zb6 {f:Nat} {up:Bool} {a b:Sh} (hl:a.parts.length=b.parts.length) {ps:List Sh} (hp:ps.length=a.parts.length) (h: ∀k,k < a.parts.length->plStep f up a b k=ps[k]?):placesOf (bound f (!up)) (bound f up) a.parts b.parts=some ps:=by
 have key: ∀(i:Nat) (p q:Sh),a.parts[i]? =some p->b.parts[i]? =some q->(if i+1=a.parts.length then bound f up p q else bound f (!up) p q)=ps[i]? :=fun i p q hp hq=>by
  have:=h i (List.getElem?_eq_some_iff.1 hp).1;unfold plStep at this;rw[hp,hq] at this;exact this
 obtain ⟨xs,hxs⟩:=ZaD (ga:=bound f (!up)) (gr:=bound f up) hl (fun i p q hp2 hq=>by
  have hi:=(List.getElem?_eq_some_iff.1 hp2).1;exact ⟨_,(key i p q hp2 hq).trans (List.getElem?_eq_getElem (show i < ps.length by omega))⟩)
 obtain ⟨l1,l2⟩:=Zaw hxs;rw[hxs];congr 1;refine List.ext_getElem? (fun i=> ?_);by_cases hi:i < a.parts.length
 {have hib:i < b.parts.length:=by omega
  obtain ⟨x,hx,e⟩:=ZaB hxs i _ _ (List.getElem?_eq_getElem hi) (List.getElem?_eq_getElem hib);rw[hx, <-key i _ _ (List.getElem?_eq_getElem hi) (List.getElem?_eq_getElem hib),e]}
 {rw[List.getElem?_eq_none (by omega),List.getElem?_eq_none (by omega)]}
theorem ZbZ {f:Nat} {up:Bool} {a b:Sh} {xs:List Sh} (h:placesOf (bound f (!up)) (bound f up) a.parts b.parts=some xs):a.parts.length=b.parts.length/\(List.range a.parts.length).all (fun k=>(plStep f up a b k).isSome)=true:=by
 obtain ⟨l1,l2⟩:=Zaw h;refine ⟨l2,List.all_eq_true.2 (fun k hk=> ?_)⟩;have hk:=List.mem_range.1 hk;have hk2:k < b.parts.length:=by omega
 obtain ⟨x,_,e⟩:=ZaB h k _ _ (List.getElem?_eq_getElem hk) (List.getElem?_eq_getElem hk2);unfold plStep;rw[List.getElem?_eq_getElem hk,List.getElem?_eq_getElem hk2];simp only;rw[e]; rfl
theorem Zc0 (hI:BoundOk f) (h2:Two (f+1) a b) (hk:a.kind=b.kind) (hno: ¬(a.kind=6\/a.kind=7)) (ha:ShAt W5 n0 pa a) (hb:ShAt W5 n0 pb b) (hn:n0<=w.heap.size)
 (hS:St0p w gm p1 p2 (.func (.func (bfn !up)) #[] #[]) (.func (.func (bfn up)) #[] #[]) a.kind a.of_ a.name W5) (hR:Rc rc W5) (h1:w.heap.size<=p1) (h1':w.heap.size<=p2) (hpg:p1≠gm) (hpg':p2≠gm) (hrg:rc≠gm):
 Calls Tryd.prog 36 #[sv a pa,sv b pb,.func (.func 70) #[] [.pointer (some ⟨p1,0,none⟩),.pointer (some ⟨p2,0,none⟩),.pointer (some ⟨gm,0,none⟩)].toArray] W5 (EIs (f+1) up a b n0 w rc gm (W5.heap.size+2)):=by
 have hlo:=hS.lo;have hgw:=hS.gw;have hpw:=hS.pw;have hqw:=hS.qw;have hrw:=hR.lt;have hz:=hS.up.size;have hla:a.parts.length<=400:=by have:=h2.sa; have:=Z0P a.parts; rw[size_eq] at *; omega
 have hT:TakesP n0 W5.heap.size a b 70 [.pointer (some ⟨p1,0,none⟩),.pointer (some ⟨p2,0,none⟩),.pointer (some ⟨gm,0,none⟩)] (fun k=>(plStep f up a b k).isSome)
  (fun ok k W=>Rc rc W/\(k=0/\ok=true/\St0p w gm p1 p2 (.func (.func (bfn !up)) #[] #[]) (.func (.func (bfn up)) #[] #[]) a.kind a.of_ a.name W\/
   (ok=true/\ ∃ps,ps.length=k/\(∀i,i < k->plStep f up a b i=ps[i]?)/\KP w n0 gm (W5.heap.size+2) p1 p2 (.func (.func (bfn !up)) #[] #[]) (.func (.func (bfn up)) #[] #[]) a.kind a.of_ a.name true ps W)\/
   (ok=false/\ ∃ps,KP w n0 gm (W5.heap.size+2) p1 p2 (.func (.func (bfn !up)) #[] #[]) (.func (.func (bfn up)) #[] #[]) a.kind a.of_ a.name false ps W))):=by
  have hmid: ∀ {ok ps W W'},KP w n0 gm (W5.heap.size+2) p1 p2 (.func (.func (bfn !up)) #[] #[]) (.func (.func (bfn up)) #[] #[]) a.kind a.of_ a.name ok ps W->Upd (fun x=>W5.heap.size<=x/\x < W5.heap.size+2) W W'->KP w n0 gm (W5.heap.size+2) p1 p2 (.func (.func (bfn !up)) #[] #[]) (.func (.func (bfn up)) #[] #[]) a.kind a.of_ a.name ok ps W':=fun h hu=>by
   obtain ⟨l,AP,cP,h⟩:=h;exact ⟨l,AP,cP,h.mid hu (fun b hb=>by omega) (by omega) (by omega) (by omega)⟩
  refine ⟨fun _ k W W' hK hu=>⟨hK.1.upd hu (by omega), ?_⟩,fun k hk hk2 W x y hsz hK hx hy=> ?_⟩
  {rcases hK.2 with ⟨e,e2,h⟩ | ⟨e,ps,h1,h3,h⟩ | ⟨e,ps,h⟩
   {exact Or.inl ⟨e,e2,h.mid hu (fun b hb=>by omega)⟩}
   {exact Or.inr (Or.inl ⟨e,ps,h1,h3,hmid h hu⟩)}
   {exact Or.inr (Or.inr ⟨e,ps,hmid h hu⟩)}}
  {obtain ⟨ps,hl,hps,hkp⟩: ∃ps,ps.length=k/\(∀i,i < k->plStep f up a b i=ps[i]?)/\KP w n0 gm (W5.heap.size+2) p1 p2 (.func (.func (bfn !up)) #[] #[]) (.func (.func (bfn up)) #[] #[]) a.kind a.of_ a.name true ps W:=by
    rcases hK.2 with ⟨e,_,h⟩ | ⟨_,h⟩ | ⟨e,_⟩
    {exact ⟨[],by rw[e]; rfl,fun i hi=>by omega,h.kp (by omega) hsz true⟩}
    {exact h}
    {cases e}
   refine (Zci hI up w n0 gm (W5.heap.size+2) p1 p2 a.kind a.of_ a.name ps _ _ x y _ W (h2.part (List.getElem_mem hk) (List.getElem_mem hk2)) (by omega) (by omega) (by omega) hpg hpg' (by omega) hx hy hkp).mono ?_;rintro e W' ⟨rfl,hsome,hnone,hu⟩;have hst:=Zcz (f:=f) (up:=up) hk hk2;refine ⟨by rw[hst],⟨hK.1.upd hu (by omega), ?_⟩,hu.mono (fun b _ hb=>by omega)⟩;cases h:plStep f up a b k with
   | none=>
    obtain ⟨t,ht⟩:=hnone (hst.symm.trans h);exact Or.inr (Or.inr ⟨rfl,_,ht⟩)
   | some z=>
    refine Or.inr (Or.inl ⟨rfl,ps++ [z],by simp[hl],fun i hi=> ?_,hsome z (hst.symm.trans h)⟩);by_cases e:i=k
    {subst e;rw[h,List.getElem?_append_right (by omega),hl,Nat.sub_self]; rfl}
    {rw[hps i (by omega),List.getElem?_append_left (by omega)]}}
 refine (ZaQ a b pa pb n0 W5 ha hb (by omega) (by omega) 70 (enters_of Tryd.func70 (by kernel_rfl) rfl) _ _ _ hT ⟨hR,Or.inl ⟨rfl,rfl,hS⟩⟩).mono ?_;rintro e W6 ⟨rfl,⟨D,hK,hD⟩,hU⟩;have hnn: ¬Narrow up a.kind:=fun h=>hno (Zaa h);have hnw: ¬Wide up a.kind:=fun h=>hno (Zae h);have hbd:bound (f+1) up a b=if a.of_=b.of_/\a.name=b.name then (placesOf (bound f (!up)) (bound f up) a.parts b.parts).map (fun ps=>⟨a.kind,a.of_,a.name,[],ps⟩) else none:=by
  conv=>lhs; unfold bound; rw[if_neg (fun h=>h hk),if_neg hnn,if_neg hnw]
 have hbs:bound (f+1) up a b≠none->headEq a b=true/\(List.range a.parts.length).all (fun k=>(plStep f up a b k).isSome)=true:=fun h=>by
  rw[hbd] at h;split at h
  {rename_i e
   cases hp:placesOf (bound f (!up)) (bound f up) a.parts b.parts with
   | none=>rw[hp] at h; exact absurd rfl h
   | some xs=>
    obtain ⟨h1,h2⟩:=ZbZ hp;exact ⟨by unfold headEq; exact decide_eq_true ⟨e.1,e.2,h1⟩,h2⟩}
  {exact absurd rfl h}
 have ho:=ha.small.o;have hnm:=ha.small.n;refine ⟨?_,hK.1, ?_, ?_⟩
 {cases hh: (headEq a b&&(List.range a.parts.length).all (fun k=>(plStep f up a b k).isSome)) with
  | false=>
   cases hb:bound (f+1) up a b with
   | none=>rfl
   | some j=>
    obtain ⟨h1,h2⟩:=hbs (by rw[hb]; nofun);rw[h1,h2] at hh;cases hh
  | true=>
   have hDD:=hD hh;rw[Bool.and_eq_true] at hh;obtain ⟨e1,e2,e3⟩:a.of_=b.of_/\a.name=b.name/\a.parts.length=b.parts.length:=of_decide_eq_true hh.1;rw[hh.2,Bool.or_true] at hK;have: ∃ps,placesOf (bound f (!up)) (bound f up) a.parts b.parts=some ps:=by
    refine ZaD e3 (fun i p q hp hq=> ?_);have:=List.all_eq_true.1 hh.2 i (List.mem_range.2 (List.getElem?_eq_some_iff.1 hp).1);unfold plStep at this;rw[hp,hq] at this;exact Option.isSome_iff_exists.1 this
   obtain ⟨ps,hp⟩:=this;rw[hbd,if_pos ⟨e1,e2⟩,hp]; rfl}
 {rcases hK.2 with ⟨_,_,h⟩ | ⟨_,ps,_,_,h⟩ | ⟨_,ps,h⟩
  {exact h.up}
  {exact h.below}
  {exact h.below}}
 {rcases hK.2 with ⟨e,e2,h⟩ | ⟨e2,ps,hl,hps,h⟩ | ⟨e2,ps,h⟩
  {refine ⟨_,_,h.c5,fun j hj=> ?_⟩;obtain ⟨h1,h2⟩:=hbs (by rw[hj]; nofun);have hDD:=hD (by rw[h1,h2]; rfl);obtain ⟨g1,g2,g3⟩:a.of_=b.of_/\a.name=b.name/\a.parts.length=b.parts.length:=of_decide_eq_true h1;have hpl:=Zb6 (f:=f) (up:=up) g3 (ps:= []) (by simp; omega) (fun k hk=>by omega);rw[hbd,if_pos ⟨g1,g2⟩,hpl] at hj;cases hj;refine ⟨rfl,fun W' _ _=> .mk _ _ 0 0 (fun _=>noneQ12) ⟨ho,hnm,by simp,by simp,by simp,by simp,by simp,fun _=>rfl,fun _=>rfl⟩ (Or.inl rfl) (Or.inl rfl) (fun i hi=>by simp at hi) (fun i hi=>by simp at hi)⟩}
  {obtain ⟨q,h5,hkp⟩:=h.fin;refine ⟨_,q,h5,fun j hj=> ?_⟩;obtain ⟨h1,h2⟩:=hbs (by rw[hj]; nofun);have hDD:=hD (by rw[h1,h2]; rfl);subst hDD;obtain ⟨g1,g2,g3⟩:a.of_=b.of_/\a.name=b.name/\a.parts.length=b.parts.length:=of_decide_eq_true h1;have hpl:=Zb6 (f:=f) (up:=up) g3 hl hps;rw[hbd,if_pos ⟨g1,g2⟩,hpl] at hj;cases hj;exact ⟨rfl,hkp rfl ho hnm (by omega)⟩}
  {obtain ⟨q,h5,_⟩:=h.fin;refine ⟨_,q,h5,fun j hj=> ?_⟩;obtain ⟨h1,h2⟩:=hbs (by rw[hj]; nofun);rw[h1,h2] at e2;cases e2}}
end
end SubM
end Go.Proofs.YthajhofgjhfjeaaDoor
