/- What the proofs of SubtypeJoins, SubtypeMeets want, part 14. -/
import Derived.Test.YtlomianlcnmfgaaGreatDoorK0n13
set_option linter.unusedVariables false
set_option linter.unusedSimpArgs false
set_option linter.unusedSectionVars false
set_option maxRecDepth 100000
set_option maxHeartbeats 16000000
namespace Go.Proofs.YtlomianlcnmfgaaGreatDoor
open Go.RowKit Shp Sub
namespace SubM
theorem Zde {f:Nat} (hI:BoundOk f) (up:Bool) (w0:World) (n0 gm hi pf:Nat) (k:Int) (L:List Fld) (nm:List UInt8) (o1 o2:Option Sh) (x y:Value) (W:World) (h2: ∀p q,o1=some p->o2=some q->Two f p q)
 (hn:n0<=gm) (hpf:pf < hi) (hpg:pf≠gm) (hL:L.length<=900) (hx:At W n0 o1 x) (hy:At W n0 o2 y) (hk:KN w0 n0 gm hi pf (.func (.func (bfn up)) #[] #[]) k true L W):
 Calls Tryz.prog 64 (.string ⟨nm.toArray⟩::x::y:: .pointer (some ⟨pf,0,none⟩):: .pointer (some ⟨gm,0,none⟩):: []).toArray W fun e W'=>e= .returned (.bool true)/\
  KN w0 n0 gm hi pf (.func (.func (bfn up)) #[] #[]) k true (L++(narrowStep (bound f up) (nm,o1,o2)).toList) W'/\Upd (fun b=>b=gm\/hi<=b) W W':=by
 cases o1 with
 | none=>
  have hx':x= .pointer none:=hx;subst hx';have hr:narrowStep (bound f up) (nm,none,o2)=none:=by cases o2 <;> rfl
  rw[hr];have HK:=Y1 hk;have hy': ∃p,y= .pointer p:=by
   cases o2 with
   | none=>exact ⟨none,hy⟩
   | some _=>obtain ⟨g,o,q,h1,_⟩:=hy; exact ⟨_,h1⟩
  obtain ⟨p,rfl⟩:=hy';clear hy h2 hI hr hk;go_enter Tryz.func64,Tryz.ntmps64;go_wp2;go_ret;exact ⟨rfl,by simpa using HK.out,Upd.refl _ _⟩
 | some p=>
  obtain ⟨ga,oa,qx,rfl,hga,h5a,hsa⟩:=hx;cases o2 with
  | none=>
   have hy':y= .pointer none:=hy;subst hy';have hr:narrowStep (bound f up) (nm,some p,none)=none:=rfl;rw[hr];have HK:=Y1 hk;clear h2 hI hr hk h5a hsa;go_enter Tryz.func64,Tryz.ntmps64;go_wp2;go_ret;exact ⟨rfl,by simpa using HK.out,Upd.refl _ _⟩
  | some q=>
   obtain ⟨gb,ob,qy,rfl,hgb,h5b,hsb⟩:=hy;obtain ⟨l,AN,cN,AP,cP,hks⟩:=hk;have hX:RX.Good ⟨f,up,p,q,qx,qy,ga,oa,gb,ob,pf,n0,W⟩:=⟨h2 p q rfl rfl,by have:=hks.mm.gh; have:=hks.mm.hw; show n0<=W.heap.size; omega,hga,hgb,h5a,h5b,hsa,hsb,hks.fc,Nat.lt_of_lt_of_le hpf hks.mm.hw,hI⟩;have HX:=Y1 hX;have HKS:=Y1 hks;have HL:=Y1 hL;clear hX hks hI h2 h5a h5b hsa hsb hL hga hgb;go_enter Tryz.func64,Tryz.ntmps64
   go_wp2_with fail
   refine Z1u (rs:= [0,1,2,3,4,5,6,7,8,9,10,11,12,13])
    (fun u=> { tmps:=#[.string ⟨nm.toArray⟩,.pointer (some ⟨ga,oa,none⟩),.pointer (some ⟨gb,ob,none⟩),.pointer (some ⟨pf,0,none⟩),.pointer (some ⟨gm,0,none⟩),undef,undef,undef,.bool false,u 11,u 13,.pointer (some ⟨ga,oa,none⟩),.bool false,.bool false,.pointer (some ⟨gb,ob,none⟩),.bool false,.bool false,u 8,u 0,u 1,u 2,u 3,u 4,u 5,u 6,u 7,u 9,u 10,undef,undef,undef,undef],defers:= [] })
    (fun j=>undef) (RX.RI ⟨f,up,p,q,qx,qy,ga,oa,gb,ob,pf,n0,W⟩) (by kernel_rfl) (by kernel_rfl) (by kernel_rfl) HX.out.start ?_ ?_
   refine StepsInv.cons2 _ rfl (fun d u W1 K' hs hI hd hw hK=> ?_) ?_
   {obtain ⟨_,_,c0⟩:=hI.look HX.out
    try dsimp only at c0
    refine Z02 (v:= .func (.func (bfn up)) #[] #[]) (W':=W1) rfl ?_ (hK.out _ _ (hI.pure (by decide) (fun v' h=>by cases h; rfl)));go_simp}
   refine StepsInv.cons2 _ rfl (fun d u W1 K' hs hI hd hw hK=> ?_) ?_
   {refine Z02 (v:= .pointer (some ⟨ga,oa,none⟩)) (W':=W1) rfl ?_ (hK.out _ _ (hI.pure (by decide) (fun v' h=>by cases h; rfl)));go_simp}
   refine StepsInv.cons2 _ rfl (fun d u W1 K' hs hI hd hw hK=> ?_) ?_
   {have d1:u 1= .pointer (some ⟨ga,oa,none⟩):=hI.vals 1 (hw 1 (by kernel_rfl)) _ rfl;refine Z02 (v:= .pointer (some ⟨ga,oa,none⟩)) (W':=W1) rfl ?_ (hK.out _ _ (hI.pure (by decide) (fun v' h=>by cases h; rfl)));go_simp}
   refine StepsInv.cons2 _ rfl (fun d u W1 K' hs hI hd hw hK=> ?_) ?_
   {have d2:u 2= .pointer (some ⟨ga,oa,none⟩):=hI.vals 2 (hw 2 (by kernel_rfl)) _ rfl;obtain ⟨⟨c0,c1,c2,c3,c4⟩,_,_⟩:=hI.look HX.out
    try dsimp only at c0 c1 c2 c3 c4
    refine Z02 (v:= .agg (Y8 p qx)) (W':=W1) rfl ?_ (hK.out _ _ (hI.pure (by decide) (fun v' h=>by cases h; rfl)));go_simp}
   refine StepsInv.cons2 _ rfl (fun d u W1 K' hs hI hd hw hK=> ?_) ?_
   {refine Z02 (v:= .pointer (some ⟨gb,ob,none⟩)) (W':=W1) rfl ?_ (hK.out _ _ (hI.pure (by decide) (fun v' h=>by cases h; rfl)));go_simp}
   refine StepsInv.cons2 _ rfl (fun d u W1 K' hs hI hd hw hK=> ?_) ?_
   {have d4:u 4= .pointer (some ⟨gb,ob,none⟩):=hI.vals 4 (hw 4 (by kernel_rfl)) _ rfl;refine Z02 (v:= .pointer (some ⟨gb,ob,none⟩)) (W':=W1) rfl ?_ (hK.out _ _ (hI.pure (by decide) (fun v' h=>by cases h; rfl)));go_simp}
   refine StepsInv.cons2 _ rfl (fun d u W1 K' hs hI hd hw hK=> ?_) ?_
   {have d5:u 5= .pointer (some ⟨gb,ob,none⟩):=hI.vals 5 (hw 5 (by kernel_rfl)) _ rfl;obtain ⟨_,⟨c0,c1,c2,c3,c4⟩,_⟩:=hI.look HX.out
    try dsimp only at c0 c1 c2 c3 c4
    refine Z02 (v:= .agg (Y8 q qy)) (W':=W1) rfl ?_ (hK.out _ _ (hI.pure (by decide) (fun v' h=>by cases h; rfl)));go_simp}
   refine StepsInv.cons2 _ rfl (fun d u W1 K' hs hI hd hw hK=> ?_) ?_
   {have d0:u 0= .func (.func (bfn up)) #[] #[]:=hI.vals 0 (hw 0 (by kernel_rfl)) _ rfl;have d3:u 3= .agg (Y8 p qx):=hI.vals 3 (hw 3 (by kernel_rfl)) _ rfl;have d6:u 6= .agg (Y8 q qy):=hI.vals 6 (hw 6 (by kernel_rfl)) _ rfl;have hen:=Zc6 up;have h8:d 8=false:=Z0i hs rfl (by kernel_rfl) hd;have h9:d 9=false:=Z0i hs rfl (by kernel_rfl) h8;have h10:d 10=false:=Z0i hs rfl (by kernel_rfl) h8;have h12:d 12=false:=Z0i hs rfl (by kernel_rfl) h9;have h13:d 13=false:=Z0i hs rfl (by kernel_rfl) h10;have hup:=hI.up;have hx0:=HX.out;have hu:Upd (fun _=>False) W W1:=Upd.new hup;refine Z0F (f:=bfn up) (args:=#[.agg (Y8 p qx),.agg (Y8 q qy)]) (W':=W1) rfl ?_ ((hx0.ok up p q qx qy n0 W1 hx0.two (Z0a hx0.sa hx0.hn hu (fun _ _ h=>h)) (Z0a hx0.sb hx0.hn hu (fun _ _ h=>h)) (Nat.le_trans hx0.hn hu.size)).mono fun e w' hb=> ?_)
    {go_simp}
    {obtain ⟨v,he,hr⟩:=hI.call HX.out hd (fun j hj=>by rcases hj with rfl | rfl | rfl | rfl | rfl <;> assumption) hb;exact ⟨v,he,hK.out _ _ hr⟩}}
   refine StepsInv.cons2 _ rfl (fun d u W1 K' hs hI hd hw hK=> ?_) ?_
   {have w7:=hw 7 (by kernel_rfl);obtain ⟨t,qt,W2,s,e7,_⟩:=hI.ca w7
    try dsimp only at e7
    refine Z02 (v:= .tuple #[.agg (Y8 t qt),.bool (bound f up p q).isSome]) (W':=W1) rfl ?_ (hK.out _ _ (hI.read w7 (by decide) hd (fun t' q' h=>⟨fun _=>e7.symm,nofun,nofun,nofun⟩)));go_simp}
   refine StepsInv.cons2 _ rfl (fun d u W1 K' hs hI hd hw hK=> ?_) ?_
   {have w8:=hw 8 (by kernel_rfl);have w7:d 7=true:=hs 8 _ rfl w8 7 (by kernel_rfl);obtain ⟨t,qt,W2,s,e7,_,_,_,e8,_⟩:=hI.ca w7
    try dsimp only at e7
    have d8:=(e8 w8).trans e7;refine Z02 (v:= .agg (Y8 t qt)) (W':=W1) rfl ?_ (hK.out _ _ (hI.read w7 (by decide) hd (fun t' q' h=>⟨nofun,fun _=>by rw[e7] at h; simp only[Value.tuple.injEq] at h; have:=congrArg (fun a:Array Value=>a[0]?) h; simpa using this,nofun,nofun⟩)));go_simp}
   refine StepsInv.cons2 _ rfl (fun d u W1 K' hs hI hd hw hK=> ?_) ?_
   {have w8:=hw 8 (by kernel_rfl);have w7:d 7=true:=hs 8 _ rfl w8 7 (by kernel_rfl);obtain ⟨t,qt,W2,s,e7,_,_,_,e8,_⟩:=hI.ca w7
    try dsimp only at e7
    have d8:=(e8 w8).trans e7;refine Z02 (v:= .bool (bound f up p q).isSome) (W':=W1) rfl ?_ (hK.out _ _ (hI.read w7 (by decide) hd (fun t' q' h=>⟨nofun,nofun,fun _=>rfl,nofun⟩)));go_simp}
   refine StepsInv.cons2 _ rfl (fun d u W1 K' hs hI hd hw hK=> ?_) ?_
   {have h12:d 12=false:=Z0i hs rfl (by kernel_rfl) hd;refine Z02 (v:= .pointer (some ⟨W1.heap.size,0,none⟩)) (W':=W1.alloc (.cells Yb 25)) rfl ?_ (hK.out _ _ (hI.alloc HX.out hd h12));go_simp}
   refine StepsInv.cons2 _ rfl (fun d u W1 K' hs hI hd hw hK=> ?_) ?_
   {have w11:=hw 11 (by kernel_rfl);have w9:=hw 9 (by kernel_rfl);have w7:=hw 7 (by kernel_rfl);obtain ⟨t,qt,W2,s,e7,_,_,_,_,e9,_⟩:=hI.ca w7
    try dsimp only at e7
    have d9:=e9 w9;obtain ⟨g,e11,g1,g2,g3,g4⟩:=hI.al w11;have hst:=hI.store w7 w11 e11 e7 (fun t' q' h=>ZbN h);refine Z0q (W':=RX.lay W1 g t qt) rfl ?_ (hK.out undef _ hst);obtain ⟨v0,x0⟩:=g4 0 (by omega);obtain ⟨v1,x1⟩:=g4 1 (by omega);obtain ⟨v2,x2⟩:=g4 2 (by omega);obtain ⟨v3,x3⟩:=g4 3 (by omega);obtain ⟨v4,x4⟩:=g4 4 (by omega);have y0:=g3 0;have y1:=g3 1;have y2:=g3 2;have y3:=g3 3;have y4:=g3 4;unfold sv at d9;go_simp;rfl}
   refine StepsInv.cons2 _ rfl (fun d u W1 K' hs hI hd hw hK=> ?_) StepsInv.nil
   {have w10:=hw 10 (by kernel_rfl);have w8:d 8=true:=hs 10 _ rfl w10 8 (by kernel_rfl);have w7:d 7=true:=hs 8 _ rfl w8 7 (by kernel_rfl);obtain ⟨t,qt,W2,s,e7,_,_,_,_,_,e10,_⟩:=hI.ca w7
    try dsimp only at e7
    have d10:=e10 w10
    try dsimp only at d10
    refine Z02 (v:= .bool (bound f up p q).isSome) (W':=W1) rfl ?_ (hK.out _ _ (hI.read w7 (by decide) hd (fun t' q' h=>⟨nofun,nofun,nofun,fun _=>rfl⟩)));go_simp}
   {intro d u W1 hI hd;have w7:=hd 7 (by show 7 < 14; omega);have w11:=hd 11 (by show 11 < 14; omega);have w13:=hd 13 (by show 13 < 14; omega);obtain ⟨g,e11,g1,g2,g3,g4⟩:=hI.al w11;obtain ⟨t,qt,W2,s,e7,s1,s2,hj,_,_,_,hu,hgs,h12,h13⟩:=hI.ca w7
    try dsimp only at g1 s1 hj h13
    have d13:=h13 w13;obtain ⟨x0,x1,x2,x3,x4⟩:=h12 (hd 12 (by show 12 < 14; omega)) g e11;simp only[Nat.zero_add] at x0 x1 x2 x3 x4;have hup:=hI.up
    try dsimp only at hup
    have hK1:=HKS.out.new hpf hup;have hkp: ∀j,bound f up p q=some j->t=j/\Kept (Free n0 hi AN AP) W1 (j,qt):=fun j hb=>by
     obtain ⟨e1,e2⟩:=hj j hb;refine ⟨e1,e2.move hu (fun b hb hf=>⟨fun ht=> ?_, ?_⟩)⟩
     {have hz:=HX.out.hn
      try dsimp only at hz
      rw[e11] at ht;have e3:g=b:=by simpa using ht.2
      rcases hgs g w11 e11 with h | h
      {rcases hf with hf | hf <;> omega}
      {omega}}
     {rcases hf with hf | hf
      {exact Or.inl hf}
      {have hw:=HKS.out.mm.hw;exact Or.inr ⟨by omega,fun e=>by have:=(Z08 HKS.out.mm.rN b e).2; omega,fun e=>by have:=(Z08 HKS.out.mm.rP b e).2; omega⟩}}
    have HK1:=Y1 hK1;have HKP:=Y1 hkp;have HUP:=Y1 hup;rw[e11,d13];clear hI hd hj hu hgs h12 h13 hup hK1 hkp g3 g4 e7 w7 w11 w13;cases hb:bound f up p q with
    | none=>
     have HR:Hid (narrowStep (bound f up) (nm,some p,some q)=none):=Y1 (by show (bound f up p q).map _=_; rw[hb]; rfl);simp only[Option.isSome_none];clear hb d13;go_wp2;go_ret;rw[HR.out];refine ⟨rfl, ?_,Upd.new HUP.out⟩;rw[show L++(none:Option Fld).toList=L from by simp];exact ⟨_,_,_,_,_,HK1.out⟩
    | some j=>
     have HR:Hid (narrowStep (bound f up) (nm,some p,some q)=some (nm,j)):=Y1 (by show (bound f up p q).map _=_; rw[hb]; rfl);simp only[Option.isSome_some];obtain ⟨rfl,hkk⟩:=HKP.out j hb;have HKK:=Y1 hkk;have hlen:=HK1.out.len;have hL0:=HL.out;have HPW:=Y1 (Zcl w0 gm hi k [] [] (L.map Prod.fst) l AN cN AP cP nm t qt W1 HK1.out.mm (by rw[List.length_map]; omega) (by omega));unfold sv at HPW;clear hb d13 hkk hlen hL0 HKP
     go_wp2_with fail
     refine HPW.out.mono ?_;rintro e W3 ⟨rfl,AN',cN',AP',cP',hm,hp⟩;have HKN:=Y1 (HK1.out.put hn hpf hpg (nm:=nm) (t:=t) (q:=qt) (ok':=true) (fun _=>rfl) (fun _=>HKK.out) hm hp);have HUD:Hid (Upd (fun b=>b=gm\/hi<=b) W W3):=Y1 ((Upd.new HUP.out).trans (HK1.out.turn hp));clear hm hp HPW x0 x1 x2 x3 x4;go_wp2;go_ret;rw[HR.out];exact ⟨rfl,HKN.out,HUD.out⟩}
end SubM
end Go.Proofs.YtlomianlcnmfgaaGreatDoor
namespace Go.Proofs.YtlomianlcnmfgaaGreatDoor
open Go.RowKit Shp Sub
namespace SubM
def WideOk (w0:World) (n0 gm hi pf:Nat) (fv:Value) (k:Int) (L:List Fld) (nm:List UInt8) (o:Option Fld) (W:World) (e:Ending) (W':World):Prop:=
 e= .returned (.bool o.isSome)/\(∀x,o=some x->KN w0 n0 gm hi pf fv k true (L++ [x]) W')/\(o=none-> ∃t,KN w0 n0 gm hi pf fv k false (L++ [(nm,t)]) W')/\Upd (fun b=>b=gm\/hi<=b) W W'
section
variable {w0 W : World} {n0 gm hi pf : Nat} {fv : Value} {k : Int} {L : List Fld} {nm : List UInt8}
theorem ZcK (hn:n0<=gm) (hpf:pf < hi) (hpg:pf≠gm) (hL:L.length<=900) (hk:KN w0 n0 gm hi pf fv k true L W) (W3:World) (hb:Below W.heap.size W W3) (t:Sh) (q:Ptr) (hs:ShAt W n0 q t):
 Calls Tryz.prog 65 #[.pointer (some ⟨gm,0,none⟩),.string ⟨nm.toArray⟩,sv t q] W3 fun e W'=>e= .returned (.tuple #[])/\KN w0 n0 gm hi pf fv k true (L++ [(nm,t)]) W'/\Upd (fun b=>b=gm\/hi<=b) W W':=by
 obtain ⟨l,AN,cN,AP,cP,hks⟩:=hk;have hk3:=hks.new hpf hb;have hlen:=hk3.len;refine (Zcl w0 gm hi k [] [] (L.map Prod.fst) l AN cN AP cP nm t q W3 hk3.mm (by rw[List.length_map]; omega) (by omega)).mono ?_;rintro e W' ⟨rfl,AN',cN',AP',cP',hm,hp⟩;have hg:=hk3.mm.gh;have hw:=hk3.mm.hw;have hz:=hks.mm.hw;refine ⟨rfl,hk3.put hn hpf hpg (ok':=true) (fun _=>rfl) (fun _=> ?_) hm hp,(Upd.new hb).trans (hk3.turn hp)⟩;exact Kept.old (x:=(t,q)) (Z0a hs (by omega) (Upd.new (S:=fun _=>False) hb) (fun _ _ h=>h)) (by omega) (fun b hb=>Or.inl hb)
end
def tb (d:Nat->Bool) (j:Nat):Bool:=if j=11 then true else if j=12 then d 11 else if j=13 then d 12 else d j
def tu (g:Nat) (u:Nat->Value) (j:Nat):Value:=if j=11 then .pointer (some ⟨g,0,none⟩) else if j=12 then u 11 else if j=13 then u 12 else u j
def ti (i:Nat):Nat:=if i < 11 then i else i+1
theorem ZdB (d:Nat->Bool) {i:Nat} (hi:i < 13):tb (also d i)=also (tb d) (ti i):=by
 funext j;by_cases hj:j=ti i
 {subst hj;rw[Z0o];unfold tb ti;by_cases h:i < 11
  {rw[if_pos h,if_neg (by omega),if_neg (by omega),if_neg (by omega),Z0o]}
  {rw[if_neg h,if_neg (by omega)];by_cases h2:i=11
   {subst h2; rw[if_pos rfl,Z0o]}
   {obtain rfl:i=12:=by omega
    rw[if_neg (by omega),if_pos rfl,Z0o]}}}
 {rw[Z0k _ hj];unfold tb;unfold ti at hj;by_cases h11:j=11
  {rw[if_pos h11,if_pos h11]}
  {rw[if_neg h11,if_neg h11];by_cases h12:j=12
   {rw[if_pos h12,if_pos h12];by_cases h:i < 11
    {exact Z0k d (by omega)}
    {rw[if_neg h] at hj; exact Z0k d (by omega)}}
   {rw[if_neg h12,if_neg h12];by_cases h13:j=13
    {rw[if_pos h13,if_pos h13];by_cases h:i < 11
     {exact Z0k d (by omega)}
     {rw[if_neg h] at hj; exact Z0k d (by omega)}}
    {rw[if_neg h13,if_neg h13];by_cases h:i < 11
     {rw[if_pos h] at hj; exact Z0k d hj}
     {exact Z0k d (by omega)}}}}}
theorem ZdI (g:Nat) (u:Nat->Value) {i:Nat} (hi:i < 13) (v:Value):tu g (upd u i v)=upd (tu g u) (ti i) v:=by
 funext j;by_cases hj:j=ti i
 {subst hj;rw[Z0h];unfold tu ti;by_cases h:i < 11
  {rw[if_pos h,if_neg (by omega),if_neg (by omega),if_neg (by omega),Z0h]}
  {rw[if_neg h,if_neg (by omega)];by_cases h2:i=11
   {subst h2; rw[if_pos rfl,Z0h]}
   {obtain rfl:i=12:=by omega
    rw[if_neg (by omega),if_pos rfl,Z0h]}}}
 {rw[Z04 _ _ hj];unfold tu;unfold ti at hj;by_cases h11:j=11
  {rw[if_pos h11,if_pos h11]}
  {rw[if_neg h11,if_neg h11];by_cases h12:j=12
   {rw[if_pos h12,if_pos h12];by_cases h:i < 11
    {exact Z04 u v (by omega)}
    {rw[if_neg h] at hj; exact Z04 u v (by omega)}}
   {rw[if_neg h12,if_neg h12];by_cases h13:j=13
    {rw[if_pos h13,if_pos h13];by_cases h:i < 11
     {exact Z04 u v (by omega)}
     {rw[if_neg h] at hj; exact Z04 u v (by omega)}}
    {rw[if_neg h13,if_neg h13];by_cases h:i < 11
     {rw[if_pos h] at hj; exact Z04 u v hj}
     {exact Z04 u v (by omega)}}}}}
def RJ (X:RX) (g:Nat) (d:Nat->Bool) (u:Nat->Value) (W:World):Prop:=X.RI (tb d) (tu g u) W
theorem RJ.mk' {X:RX} {g i:Nat} {d:Nat->Bool} {u:Nat->Value} {v:Value} {W:World} (hi:i < 13) (h:X.RI (also (tb d) (ti i)) (upd (tu g u) (ti i) v) W):RJ X g (also d i) (upd u i v) W:=by
 unfold RJ; rw[ZdB d hi,ZdI g u hi v]; exact h
theorem ZcU {f:Nat} (hI:BoundOk f) (up:Bool) (w0:World) (n0 gm hi pf:Nat) (k:Int) (L:List Fld) (nm:List UInt8) (o1 o2:Option Sh) (x y:Value) (W:World) (h2: ∀p q,o1=some p->o2=some q->Two f p q) (hne:o1≠none\/o2≠none)
 (hn:n0<=gm) (hpf:pf < hi) (hpg:pf≠gm) (hL:L.length<=900) (hx:At W n0 o1 x) (hy:At W n0 o2 y) (hk:KN w0 n0 gm hi pf (.func (.func (bfn up)) #[] #[]) k true L W):
 Calls Tryz.prog 66 (.string ⟨nm.toArray⟩::x::y:: .pointer (some ⟨pf,0,none⟩):: .pointer (some ⟨gm,0,none⟩):: []).toArray W
  (WideOk w0 n0 gm hi pf (.func (.func (bfn up)) #[] #[]) k L nm (wideStep (bound f up) (nm,o1,o2)) W):=by
 cases o2 with
 | none=>
  have hy':y= .pointer none:=hy;subst hy';cases o1 with
  | none=>exact absurd rfl (hne.resolve_right (fun h=>h rfl))
  | some p=>
   obtain ⟨ga,oa,qx,rfl,hga,⟨x0,x1,x2,x3,x4⟩,hsa⟩:=hx;have hr:wideStep (bound f up) (nm,some p,none)=some (nm,p):=rfl;rw[hr];have hgw:ga < W.heap.size:=by obtain ⟨l,AN,cN,AP,cP,hks⟩:=hk; have:=hks.mm.gh; have:=hks.mm.hw; omega
   have HP:=Y1 (fun W3 hb=>ZcK (nm:=nm) hn hpf hpg hL hk W3 hb p qx hsa);have hbw:=Z01 W (.cells (Y8 p qx) 25);have HBW:=Y1 hbw;clear hI h2 hne hr hbw hk hsa hga hn hpf hpg hL;unfold sv at HP;go_enter Tryz.func66,Tryz.ntmps66
   go_wp2_with fail
   refine (HP.out _ HBW.out).mono ?_;rintro e W4 ⟨rfl,hk4,hu4⟩;have HK4:=Y1 hk4;have HU4:=Y1 hu4;clear hk4 hu4 HP x0 x1 x2 x3 x4;go_wp2;go_ret;exact ⟨rfl,fun x hx=>by cases hx; exact HK4.out,nofun,HU4.out⟩
 | some q=>
  obtain ⟨gb,ob,qy,rfl,hgb,h5b,hsb⟩:=hy;have hgb':gb < W.heap.size:=by obtain ⟨l,AN,cN,AP,cP,hks⟩:=hk; have:=hks.mm.gh; have:=hks.mm.hw; omega
  cases o1 with
  | none=>
   have hx':x= .pointer none:=hx;subst hx';obtain ⟨x0,x1,x2,x3,x4⟩:=h5b;have hr:wideStep (bound f up) (nm,none,some q)=some (nm,q):=rfl;rw[hr];have HP:=Y1 (fun W3 hb=>ZcK (nm:=nm) hn hpf hpg hL hk W3 hb q qy hsb);have hbw:=Z01 W (.cells (Y8 q qy) 25);have HBW:=Y1 hbw;clear hI h2 hne hr hbw hk hsb hgb hn hpf hpg hL;unfold sv at HP;go_enter Tryz.func66,Tryz.ntmps66
   go_wp2_with fail
   refine (HP.out _ HBW.out).mono ?_;rintro e W4 ⟨rfl,hk4,hu4⟩;have HK4:=Y1 hk4;have HU4:=Y1 hu4;clear hk4 hu4 HP x0 x1 x2 x3 x4;go_wp2;go_ret;exact ⟨rfl,fun x hx=>by cases hx; exact HK4.out,nofun,HU4.out⟩
  | some p=>
   obtain ⟨ga,oa,qx,rfl,hga,h5a,hsa⟩:=hx;obtain ⟨l,AN,cN,AP,cP,hks⟩:=hk;have hbw:=Z01 W (.cells Yb 25);obtain ⟨W1,hW1⟩: ∃W1,W1=W.alloc (.cells Yb 25):=⟨_,rfl⟩;have hz: ∀j,j < 5-> ∃v,W1.cell? ⟨W.heap.size,j,none⟩=some v:=fun j hj=>by
    rw[hW1];rcases j with _ | _ | _ | _ | _ | j
    {exact ⟨.int .i64 0,by simp[go_sem]⟩}
    {exact ⟨.string ⟨#[]⟩,by simp[go_sem]⟩}
    {exact ⟨.string ⟨#[]⟩,by simp[go_sem]⟩}
    {exact ⟨.slice none 0 0,by simp[go_sem]⟩}
    {exact ⟨.slice none 0 0,by simp[go_sem]⟩}
    {omega}
   have hzf: ∀j,W1.frozen? ⟨W.heap.size,j,none⟩=false:=fun j=>by rw[hW1]; simp[go_sem]
   have hs1:W1.heap.size=W.heap.size+1:=by rw[hW1]; simp
   rw[<-hW1] at hbw;have hnW:n0<=W.heap.size:=by have:=hks.mm.gh; have:=hks.mm.hw; omega
   have hu1:Upd (fun _=>False) W W1:=Upd.new hbw;have hX:RX.Good ⟨f,up,p,q,qx,qy,ga,oa,gb,ob,pf,n0,W⟩:=⟨h2 p q rfl rfl,hnW,hga,hgb,h5a,h5b,hsa,hsb,hks.fc,Nat.lt_of_lt_of_le hpf hks.mm.hw,hI⟩;have HX:=Y1 hX;have HKS0:=Y1 hks;have HNW:=Y1 hnW;have HL:=Y1 hL;have HZ:=Y1 hz;have HZF:=Y1 hzf;have HBW:=Y1 hbw;have HS1:=Y1 hs1;have HW1:=Y1 hW1;clear hX hks hI h2 h5a h5b hsa hsb hL hga hgb hbw hz hzf hW1 hu1 hs1 hnW;go_enter Tryz.func66,Tryz.ntmps66
   go_wp2_with fail
   rw[<-HW1.out];have hstart:RX.RI ⟨f,up,p,q,qx,qy,ga,oa,gb,ob,pf,n0,W⟩ (tb fun _=>false) (tu W.heap.size (fun j=>if j=12 then .bool true else undef)) W1.drew:=by
    refine ⟨fun j hj v hv=> ?_,HBW.out.drew,fun _=>⟨W.heap.size,rfl,Nat.le_refl _,by have:=HS1.out; show W.heap.size < W1.heap.size; omega,HZF.out,HZ.out⟩,nofun⟩;unfold tb at hj;by_cases h11:j=11
    {subst h11; cases hv}
    {rw[if_neg h11] at hj;split at hj
     {cases hj}
     {split at hj <;> cases hj}}
   refine Z1u (rs:= [0,1,2,3,4,5,6,7,8,9,10,11,12])
    (fun u=> { tmps:=#[.string ⟨nm.toArray⟩,.pointer (some ⟨ga,oa,none⟩),.pointer (some ⟨gb,ob,none⟩),.pointer (some ⟨pf,0,none⟩),.pointer (some ⟨gm,0,none⟩),undef,undef,undef,.bool false,.pointer (some ⟨W.heap.size,0,none⟩),u 12,.agg #[.int .i64 0,.string { data:=#[] },.string { data:=#[] },.slice none 0 0,.slice none 0 0],u 8,u 0,u 1,u 2,u 3,u 4,u 5,u 6,u 7,u 9,u 10,.bool false,.pointer (some ⟨gb,ob,none⟩),.bool false,undef,undef,undef,.bool false,.pointer (some ⟨ga,oa,none⟩),.bool false,undef,undef,undef,undef,undef,undef,undef],defers:= [] })
    (fun j=>if j=12 then .bool true else undef) (RJ ⟨f,up,p,q,qx,qy,ga,oa,gb,ob,pf,n0,W⟩ W.heap.size) (by kernel_rfl) (by kernel_rfl) (by kernel_rfl) hstart ?_ ?_
   refine StepsInv.cons2 _ rfl (fun d u W2 K' hs hI hd hw hK=> ?_) ?_
   {obtain ⟨_,_,c0⟩:=RX.RI.look hI HX.out
    try dsimp only at c0
    refine Z02 (v:= .func (.func (bfn up)) #[] #[]) (W':=W2) rfl ?_ (hK.out _ _ (RJ.mk' (by decide) (RX.RI.pure hI (by decide) (fun v' h=>by cases h; rfl))));go_simp}
   refine StepsInv.cons2 _ rfl (fun d u W2 K' hs hI hd hw hK=> ?_) ?_
   {refine Z02 (v:= .pointer (some ⟨ga,oa,none⟩)) (W':=W2) rfl ?_ (hK.out _ _ (RJ.mk' (by decide) (RX.RI.pure hI (by decide) (fun v' h=>by cases h; rfl))));go_simp}
   refine StepsInv.cons2 _ rfl (fun d u W2 K' hs hI hd hw hK=> ?_) ?_
   {have d1:u 1= .pointer (some ⟨ga,oa,none⟩):=RX.RI.vals hI 1 (hw 1 (by kernel_rfl)) _ rfl;refine Z02 (v:= .pointer (some ⟨ga,oa,none⟩)) (W':=W2) rfl ?_ (hK.out _ _ (RJ.mk' (by decide) (RX.RI.pure hI (by decide) (fun v' h=>by cases h; rfl))));go_simp}
   refine StepsInv.cons2 _ rfl (fun d u W2 K' hs hI hd hw hK=> ?_) ?_
   {have d2:u 2= .pointer (some ⟨ga,oa,none⟩):=RX.RI.vals hI 2 (hw 2 (by kernel_rfl)) _ rfl;obtain ⟨⟨c0,c1,c2,c3,c4⟩,_,_⟩:=RX.RI.look hI HX.out
    try dsimp only at c0 c1 c2 c3 c4
    refine Z02 (v:= .agg (Y8 p qx)) (W':=W2) rfl ?_ (hK.out _ _ (RJ.mk' (by decide) (RX.RI.pure hI (by decide) (fun v' h=>by cases h; rfl))));go_simp}
   refine StepsInv.cons2 _ rfl (fun d u W2 K' hs hI hd hw hK=> ?_) ?_
   {refine Z02 (v:= .pointer (some ⟨gb,ob,none⟩)) (W':=W2) rfl ?_ (hK.out _ _ (RJ.mk' (by decide) (RX.RI.pure hI (by decide) (fun v' h=>by cases h; rfl))));go_simp}
   refine StepsInv.cons2 _ rfl (fun d u W2 K' hs hI hd hw hK=> ?_) ?_
   {have d4:u 4= .pointer (some ⟨gb,ob,none⟩):=RX.RI.vals hI 4 (hw 4 (by kernel_rfl)) _ rfl;refine Z02 (v:= .pointer (some ⟨gb,ob,none⟩)) (W':=W2) rfl ?_ (hK.out _ _ (RJ.mk' (by decide) (RX.RI.pure hI (by decide) (fun v' h=>by cases h; rfl))));go_simp}
   refine StepsInv.cons2 _ rfl (fun d u W2 K' hs hI hd hw hK=> ?_) ?_
   {have d5:u 5= .pointer (some ⟨gb,ob,none⟩):=RX.RI.vals hI 5 (hw 5 (by kernel_rfl)) _ rfl;obtain ⟨_,⟨c0,c1,c2,c3,c4⟩,_⟩:=RX.RI.look hI HX.out
    try dsimp only at c0 c1 c2 c3 c4
    refine Z02 (v:= .agg (Y8 q qy)) (W':=W2) rfl ?_ (hK.out _ _ (RJ.mk' (by decide) (RX.RI.pure hI (by decide) (fun v' h=>by cases h; rfl))));go_simp}
   refine StepsInv.cons2 _ rfl (fun d u W2 K' hs hI hd hw hK=> ?_) ?_
   {have d0:u 0= .func (.func (bfn up)) #[] #[]:=RX.RI.vals hI 0 (hw 0 (by kernel_rfl)) _ rfl;have d3:u 3= .agg (Y8 p qx):=RX.RI.vals hI 3 (hw 3 (by kernel_rfl)) _ rfl;have d6:u 6= .agg (Y8 q qy):=RX.RI.vals hI 6 (hw 6 (by kernel_rfl)) _ rfl;have hen:=Zc6 up;have h8:d 8=false:=Z0i hs rfl (by kernel_rfl) hd;have h9:d 9=false:=Z0i hs rfl (by kernel_rfl) h8;have h10:d 10=false:=Z0i hs rfl (by kernel_rfl) h8;have h12:d 11=false:=Z0i hs rfl (by kernel_rfl) h9;have h13:d 12=false:=Z0i hs rfl (by kernel_rfl) h10;have hup:=RX.RI.up hI;have hx0:=HX.out;have hu:Upd (fun _=>False) W W2:=Upd.new hup;refine Z0F (f:=bfn up) (args:=#[.agg (Y8 p qx),.agg (Y8 q qy)]) (W':=W2) rfl ?_ ((hx0.ok up p q qx qy n0 W2 hx0.two (Z0a hx0.sa hx0.hn hu (fun _ _ h=>h)) (Z0a hx0.sb hx0.hn hu (fun _ _ h=>h)) (Nat.le_trans hx0.hn hu.size)).mono fun e w' hb=> ?_)
    {go_simp}
    {obtain ⟨v,he,hr⟩:=RX.RI.call hI HX.out hd (fun j hj=>by rcases hj with rfl | rfl | rfl | rfl | rfl <;> assumption) hb;exact ⟨v,he,hK.out _ _ (RJ.mk' (by decide) hr)⟩}}
   refine StepsInv.cons2 _ rfl (fun d u W2 K' hs hI hd hw hK=> ?_) ?_
   {have w7:=hw 7 (by kernel_rfl);obtain ⟨t,qt,W3,s,e7,_⟩:=RX.RI.ca hI w7;change u 7=_ at e7
    try dsimp only at e7
    refine Z02 (v:= .tuple #[.agg (Y8 t qt),.bool (bound f up p q).isSome]) (W':=W2) rfl ?_ (hK.out _ _ (RJ.mk' (by decide) (RX.RI.read hI w7 (by decide) hd (fun t' q' h=>⟨fun _=>e7.symm,nofun,nofun,nofun⟩))));go_simp}
   refine StepsInv.cons2 _ rfl (fun d u W2 K' hs hI hd hw hK=> ?_) ?_
   {have w8:=hw 8 (by kernel_rfl);have w7:d 7=true:=hs 8 _ rfl w8 7 (by kernel_rfl);obtain ⟨t,qt,W3,s,e7,_,_,_,e8,_⟩:=RX.RI.ca hI w7;change u 7=_ at e7;change d 8=true->u 8=u 7 at e8
    try dsimp only at e7
    have d8:=(e8 w8).trans e7;refine Z02 (v:= .agg (Y8 t qt)) (W':=W2) rfl ?_ (hK.out _ _ (RJ.mk' (by decide) (RX.RI.read hI w7 (by decide) hd (fun t' q' h=>⟨nofun,fun _=>by change u 7=_ at h; rw[e7] at h; simp only[Value.tuple.injEq] at h; have:=congrArg (fun a:Array Value=>a[0]?) h; simpa using this,nofun,nofun⟩))));go_simp}
   refine StepsInv.cons2 _ rfl (fun d u W2 K' hs hI hd hw hK=> ?_) ?_
   {have w8:=hw 8 (by kernel_rfl);have w7:d 7=true:=hs 8 _ rfl w8 7 (by kernel_rfl);obtain ⟨t,qt,W3,s,e7,_,_,_,e8,_⟩:=RX.RI.ca hI w7;change u 7=_ at e7;change d 8=true->u 8=u 7 at e8
    try dsimp only at e7
    have d8:=(e8 w8).trans e7;refine Z02 (v:= .bool (bound f up p q).isSome) (W':=W2) rfl ?_ (hK.out _ _ (RJ.mk' (by decide) (RX.RI.read hI w7 (by decide) hd (fun t' q' h=>⟨nofun,nofun,fun _=>rfl,nofun⟩))));go_simp}
   refine StepsInv.cons2 _ rfl (fun d u W2 K' hs hI hd hw hK=> ?_) ?_
   {have w9:=hw 9 (by kernel_rfl);have w7:=hw 7 (by kernel_rfl);obtain ⟨t,qt,W3,s,e7,_,_,_,_,e9,_⟩:=RX.RI.ca hI w7;change u 7=_ at e7;change d 9=true->u 9=_ at e9
    try dsimp only at e7
    have d9:=e9 w9;obtain ⟨g,e11,g1,g2,g3,g4⟩:=RX.RI.al hI rfl;have hst:=RX.RI.store hI w7 rfl e11 e7 (fun t' q' h=>ZbN h);obtain rfl:W.heap.size=g:=by change Value.pointer _=_ at e11; simpa using e11
    refine Z0q (W':=RX.lay W2 W.heap.size t qt) rfl ?_ (hK.out undef _ (RJ.mk' (by decide) hst));obtain ⟨v0,x0⟩:=g4 0 (by omega);obtain ⟨v1,x1⟩:=g4 1 (by omega);obtain ⟨v2,x2⟩:=g4 2 (by omega);obtain ⟨v3,x3⟩:=g4 3 (by omega);obtain ⟨v4,x4⟩:=g4 4 (by omega);have y0:=g3 0;have y1:=g3 1;have y2:=g3 2;have y3:=g3 3;have y4:=g3 4;unfold sv at d9;go_simp;rfl}
   refine StepsInv.cons2 _ rfl (fun d u W2 K' hs hI hd hw hK=> ?_) StepsInv.nil
   {have w10:=hw 10 (by kernel_rfl);have w8:d 8=true:=hs 10 _ rfl w10 8 (by kernel_rfl);have w7:d 7=true:=hs 8 _ rfl w8 7 (by kernel_rfl);obtain ⟨t,qt,W3,s,e7,_,_,_,_,_,e10,_⟩:=RX.RI.ca hI w7;change d 10=true->u 10=_ at e10;have d10:=e10 w10
    try dsimp only at d10
    refine Z02 (v:= .bool (bound f up p q).isSome) (W':=W2) rfl ?_ (hK.out _ _ (RJ.mk' (by decide) (RX.RI.read hI w7 (by decide) hd (fun t' q' h=>⟨nofun,nofun,nofun,fun _=>rfl⟩))));go_simp}
   {intro d u W2 hI hd;have w7:=hd 7 (by show 7 < 13; omega);have w13:=hd 12 (by show 12 < 13; omega);obtain ⟨g,e11,g1,g2,g3,g4⟩:=RX.RI.al hI rfl;obtain ⟨t,qt,W3,s,e7,s1,s2,hj,_,_,_,hu,hgs,h12,h13⟩:=RX.RI.ca hI w7
    try dsimp only at g1 s1 hj h13
    have d13:u 12= .bool (bound f up p q).isSome:=h13 w13;obtain ⟨x0,x1,x2,x3,x4⟩:=h12 (hd 11 (by show 11 < 13; omega)) g e11;obtain rfl:W.heap.size=g:=by change Value.pointer _=_ at e11; simpa using e11
    simp only[Nat.zero_add] at x0 x1 x2 x3 x4;have hup:=RX.RI.up hI
    try dsimp only at hup
    have hK1:=HKS0.out.new hpf hup;have hkp: ∀j,bound f up p q=some j->t=j/\Kept (Free n0 hi AN AP) W2 (j,qt):=fun j hb=>by
     obtain ⟨e1,e2⟩:=hj j hb;refine ⟨e1,e2.move hu (fun b hb hf=>⟨fun ht=> ?_, ?_⟩)⟩
     {have e3:W.heap.size=b:=by have:=ht.2; change Value.pointer _=_ at this; simpa using this
      rcases hgs W.heap.size rfl e11 with h | h
      {have:=HNW.out; rcases hf with hf | hf <;> omega}
      {omega}}
     {rcases hf with hf | hf
      {exact Or.inl hf}
      {have hw:=HKS0.out.mm.hw;exact Or.inr ⟨by omega,fun e=>by have:=(Z08 HKS0.out.mm.rN b e).2; omega,fun e=>by have:=(Z08 HKS0.out.mm.rP b e).2; omega⟩}}
    have HK1:=Y1 hK1;have HKP:=Y1 hkp;have HUP:=Y1 hup;have hlen:=HK1.out.len;have hL0:=HL.out;have HPW:=Y1 (Zcl w0 gm hi k [] [] (L.map Prod.fst) l AN cN AP cP nm t qt W2 HK1.out.mm (by rw[List.length_map]; omega) (by omega));unfold sv at HPW;rw[d13];clear hI hd hj hu hgs h12 h13 hup hK1 hkp g3 g4 e7 w7 w13 d13 hlen hL0;have HR:Hid (wideStep (bound f up) (nm,some p,some q)=(bound f up p q).map (fun x=>(nm,x))):=Y1 rfl;obtain ⟨o,ho⟩: ∃o,o=bound f up p q:=⟨_,rfl⟩;rw[<-ho] at HR HKP ⊢;clear ho
    go_wp2_with fail
    refine HPW.out.mono ?_;rintro e W4 ⟨rfl,AN',cN',AP',cP',hm,hp⟩;have HKN:Hid (∀ok',(ok'=true-> ∃j,o=some j)->KN w0 n0 gm hi pf (.func (.func (bfn up)) #[] #[]) k ok' (L++ [(nm,t)]) W4):=Y1 (fun ok' h=>HK1.out.put hn hpf hpg (nm:=nm) (t:=t) (q:=qt) (ok':=ok') (fun _=>rfl) (fun h2=>by
     obtain ⟨j,hj⟩:=h h2;obtain ⟨rfl,hkk⟩:=HKP.out j hj;exact hkk) hm hp)
    have HUD:Hid (Upd (fun b=>b=gm\/hi<=b) W W4):=Y1 ((Upd.new HUP.out).trans (HK1.out.turn hp));clear hm hp HPW x0 x1 x2 x3 x4;go_wp2;go_ret;rw[HR.out];refine ⟨by cases o <;> rfl,fun y hy=> ?_,fun h=>⟨t,HKN.out false nofun⟩,HUD.out⟩;obtain ⟨j,hj,rfl⟩:=Option.map_eq_some_iff.1 hy;obtain ⟨rfl,_⟩:=HKP.out j hj;exact HKN.out true (fun _=>⟨_,hj⟩)}
end SubM
end Go.Proofs.YtlomianlcnmfgaaGreatDoor
namespace Go.Proofs.YtlomianlcnmfgaaGreatDoor
open Go.RowKit Shp Sub
namespace SubM
def PlOk (w0:World) (n0 gm hi p1 p2:Nat) (f1 f2:Value) (k:Int) (o nm:List UInt8) (ps:List Sh) (r:Option Sh) (W:World) (e:Ending) (W':World):Prop:=
 e= .returned (.bool r.isSome)/\(∀x,r=some x->KP w0 n0 gm hi p1 p2 f1 f2 k o nm true (ps++ [x]) W')/\(r=none-> ∃t,KP w0 n0 gm hi p1 p2 f1 f2 k o nm false (ps++ [t]) W')/\Upd (fun b=>b=gm\/hi<=b) W W'
theorem Zd4 {f:Nat} (hI:BoundOk f) (up:Bool) (w0:World) (n0 gm hi p1 p2:Nat) (k:Int) (o nm:List UInt8) (ps:List Sh) (p q:Sh) (x y:Ptr) (last:Bool) (W:World) (h2:Two f p q)
 (hn:n0<=gm) (l1:p1 < hi) (l2:p2 < hi) (g1:p1≠gm) (g2:p2≠gm) (hL:ps.length<=900) (hx:ShAt W n0 x p) (hy:ShAt W n0 y q) (hk:KP w0 n0 gm hi p1 p2 (.func (.func (bfn !up)) #[] #[]) (.func (.func (bfn up)) #[] #[]) k o nm true ps W):
 Calls Tryz.prog 67 (sv p x::sv q y:: .bool last:: .pointer (some ⟨p1,0,none⟩):: .pointer (some ⟨p2,0,none⟩):: .pointer (some ⟨gm,0,none⟩):: []).toArray W
  (PlOk w0 n0 gm hi p1 p2 (.func (.func (bfn !up)) #[] #[]) (.func (.func (bfn up)) #[] #[]) k o nm ps (bound f (if last=true then up else !up) p q) W):=by
 obtain ⟨i0,hif0,hz0,hs0,hb0⟩:=Z0S Z1R;obtain ⟨l,AP,cP,hks⟩:=hk;obtain ⟨v,hv⟩: ∃v,v=if last=true then up else !up:=⟨_,rfl⟩;rw[<-hv];have hb1:=Z01 W (.cells (Y8 p x) 25);obtain ⟨w1,hw1⟩: ∃w1,w1=W.alloc (.cells (Y8 p x) 25):=⟨_,rfl⟩;have hb2:=Z01 w1 (.cells (Y8 q y) 25);obtain ⟨w2,hw2⟩: ∃w2,w2=w1.alloc (.cells (Y8 q y) 25):=⟨_,rfl⟩;have hs1:w1.heap.size=W.heap.size+1:=by rw[hw1]; simp
 rw[<-hw1] at hb1;rw[<-hw2] at hb2;have hB1:Box5 w1 W.heap.size p x:=by rw[hw1]; exact Z05 W p x
 have hB2:Box5 w2 w1.heap.size q y:=by rw[hw2]; exact Z05 w1 q y
 have hBA:=hB1.next hb2;rw[hs1] at hB2;have hbw:=Z00 hb1 hb2;have hnW:n0<=W.heap.size:=by have:=hks.mm.gh; have:=hks.mm.hw; omega
 have hu:Upd (fun _=>False) W w2:=Upd.new hbw;have hk2:=hks.new l1 l2 hbw;have HC:=Y1 (hI v p q x y n0 w2 h2 (Z0a hx hnW hu (fun _ _ h=>h)) (Z0a hy hnW hu (fun _ _ h=>h)) (by have:=hu.size; omega));have HK2:=Y1 hk2;have HBW:=Y1 hbw;have HKS:=Y1 hks;have HL:=Y1 hL;have HNW:=Y1 hnW;have hen:=Zc6 v;have fa:=hk2.fa;have fr:=hk2.fr;obtain ⟨_,⟨a0,a1,a2,a3,a4⟩,_⟩:=hBA;obtain ⟨_,⟨b0,b1,b2,b3,b4⟩,_⟩:=hB2;simp only[Nat.zero_add] at a0 a1 a2 a3 a4 b0 b1 b2 b3 b4;have hw1':=hw1.symm;have hw2':=hw2.symm;unfold sv at HC ⊢;clear hw1 hw2 hb1 hb2 hB1 hbw hu hk2 hks hx hy hI h2 hL hnW;cases last with
 | true=>
  simp only[if_true] at hv;subst hv;go_enter Tryz.func67,Tryz.ntmps67
  go_wp2_with fail
  refine HC.out.mono ?_;rintro e w3 ⟨t,qt,rfl,hb3,hj⟩;have hb4:=Z01 w3 (.cells (Y8 t qt) 25);have HBX:=Y1 (Z05 w3 t qt);have HK4:=Y1 (HK2.out.new l1 l2 (Z00 hb3 hb4));have HB4:=Y1 (Z00 HBW.out (Z00 hb3 hb4));have HB34:=Y1 hb4;have HZ3:Hid (w2.heap.size<=w3.heap.size):=Y1 hb3.size;have HJ:=Y1 hj;obtain ⟨w4,hw4⟩: ∃w4,w4=w3.alloc (.cells (Y8 t qt) 25):=⟨_,rfl⟩;rw[<-hw4] at HBX HK4 HB4 HB34;have hw4':=hw4.symm;clear hw4 hb3 hb4 hj HC a0 a1 a2 a3 a4 b0 b1 b2 b3 b4 fa fr hen;unfold sv
  go_wp2_with fail
  have hm4:=HK4.out.mm;have hlen:=HK4.out.len;have hX:QX.Good ⟨w4,gm,hi,w3.heap.size,AP,cP,l,(t,qt)⟩:=⟨hm4.gh,by have:=HKS.out.mm.hw; have:=HBW.out.size; have:=HZ3.out; show hi<=w3.heap.size; omega,HBX.out.1,hm4.c4,hm4.fz,hm4.rP,fun e=>by have:=(Z08 HKS.out.mm.rP w3.heap.size e).2; have:=HBW.out.size; have:=HZ3.out; omega,HBX.out.2.1,by have:=HL.out; show l.length<=1000; omega⟩;have HX:=Y1 hX;clear hm4 hlen hX;refine Z1u (rs:= [0,1,2,3,4,5,6,7,8,9])
   (fun u=> { tmps:=#[.agg (Y8 p x),.agg (Y8 q y),.bool true,.pointer (some { block:=p1,off:=0 }),.pointer (some { block:=p2,off:=0 }),.pointer (some { block:=gm,off:=0 }),.pointer (some { block:=W.heap.size,off:=0 }),.pointer (some { block:=W.heap.size+1,off:=0 }),undef,.bool false,.func (Fn.func (bfn v)) #[] #[],.pointer (some { block:=w3.heap.size,off:=0 }),.bool (bound f v p q).isSome,.func (Fn.func (bfn !v)) #[] #[],.bool true,.func (Fn.func (bfn v)) #[] #[],.tuple #[.agg (Y8 t qt),.bool (bound f v p q).isSome],.func (Fn.func (bfn v)) #[] #[],.agg (Y8 p x),.agg (Y8 q y),.tuple #[.agg (Y8 t qt),.bool (bound f v p q).isSome],.agg (Y8 t qt),.bool (bound f v p q).isSome,u 0,u 1,u 2,u 3,u 4,u 5,u 6,u 8,undef],defers:= [] })
   (fun j=>undef) (QX.QI ⟨w4,gm,hi,w3.heap.size,AP,cP,l,(t,qt)⟩) (by kernel_rfl) (by kernel_rfl) (by kernel_rfl) HX.out.start ?_ ?_
  refine StepsInv.cons2 _ rfl (fun d u W1 K' hs hI hd hw hK=> ?_) ?_
  {refine Z02 (v:= .pointer (some ⟨gm,4,none⟩)) (W':=W1) rfl ?_ (hK.out _ _ (hI.pure (by decide) (fun v' h=>by cases h; rfl)));go_simp}
  refine StepsInv.cons2 _ rfl (fun d u W1 K' hs hI hd hw hK=> ?_) ?_
  {have d0:u 0= .pointer (some ⟨gm,4,none⟩):=hI.vals 0 (hw 0 (by kernel_rfl)) _ rfl;have h9:d 9=false:=Z0i hs rfl (by kernel_rfl) hd;have c4:=hI.c4;rw[h9] at c4;simp only[Bool.false_eq_true,if_false] at c4;change W1.cell? ⟨gm,4,none⟩=_ at c4;refine Z02 (v:= .slice AP l.length cP) (W':=W1) rfl ?_ (hK.out _ _ (hI.pure (by decide) (fun v' h=>by cases h; rfl)));go_simp}
  refine StepsInv.cons2 _ rfl (fun d u W1 K' hs hI hd hw hK=> ?_) ?_
  {obtain ⟨b0,b1,b2,b3,b4⟩:=hI.box HX.out;simp only[Nat.zero_add] at b0 b1 b2 b3 b4;change W1.cell? ⟨w3.heap.size,0,none⟩=some (.int .i64 t.kind) at b0;change W1.cell? ⟨w3.heap.size,1,none⟩=some (.string ⟨t.of_.toArray⟩) at b1;change W1.cell? ⟨w3.heap.size,2,none⟩=some (.string ⟨t.name.toArray⟩) at b2;change W1.cell? ⟨w3.heap.size,3,none⟩=some (.slice qt.A t.names.length qt.c) at b3;change W1.cell? ⟨w3.heap.size,4,none⟩=some (.slice qt.P t.parts.length qt.d) at b4;refine Z02 (v:= .agg (Y8 t qt)) (W':=W1) rfl ?_ (hK.out _ _ (hI.pure (by decide) (fun v' h=>by cases h; rfl)));go_simp}
  refine StepsInv.cons2 _ rfl (fun d u W1 K' hs hI hd hw hK=> ?_) ?_
  {have d1:u 1= .slice AP l.length cP:=hI.vals 1 (hw 1 (by kernel_rfl)) _ rfl;refine Z02 (v:= .int .i64 (l.length:Int)) (W':=W1) rfl ?_ (hK.out _ _ (hI.pure (by decide) (fun v' h=>by cases h; rfl)));go_simp}
  refine StepsInv.cons2 _ rfl (fun d u W1 K' hs hI hd hw hK=> ?_) ?_
  {refine Z02 (v:= .slice (some ⟨W1.heap.size,0,none⟩) 1 1) (W':=W1.alloc (.cells Yb 25)) rfl ?_ (hK.out _ _ (hI.s4 HX.out));go_simp}
  refine StepsInv.cons2 _ rfl (fun d u W1 K' hs hI hd hw hK=> ?_) ?_
  {have d1:u 1= .slice AP l.length cP:=hI.vals 1 (hw 1 (by kernel_rfl)) _ rfl;obtain ⟨z,d4,z1,z2,z3⟩:=hI.f4 (hw 4 (by kernel_rfl)) hd;have h6:d 6=false:=Z0i hs rfl (by kernel_rfl) hd;have h7:d 7=false:=Z0i hs rfl (by kernel_rfl) hd;have h9:d 9=false:=Z0i hs rfl (by kernel_rfl) hd;have hll:=HX.out.ll;have hsz:=hI.up.size;have hpw:=HX.out.pw;have hhw:=HX.out.hw;refine step_append_lies W1 rfl _ _ 23 rfl hi 25 i0 (.agg #[.int .i64 0,.string ByteArray.empty,.string ByteArray.empty,.slice none 0 0,.slice none 0 0]) 5 88 Tryz.underlying23 hif0 hz0 hs0 hb0 rfl (by decide) _ _ _ (by show u 1=_; exact d1) (hI.p0 hd) ⟨z,0,none⟩ 1 1 Z0A (by show u 4=_; exact d4) rfl (fun j v hv=>by rw[Z0f,Nat.zero_add]; exact z3 j v hv) Z9n (by decide) (by show l.length+1<=maxLen; unfold maxLen; change l.length<=1000 at hll; omega) (by show (l.length+1) * 88<=140737488355328; change l.length<=1000 at hll; omega) (by change hi<=w3.heap.size at hhw; change w3.heap.size < w4.heap.size at hpw; change w4.heap.size<=_ at hsz; omega) _ rfl ?_;intro g cp W' hown hg hat hlt;rw[rowB_own] at hg hat;exact hK.out _ _ (hI.s5 HX.out hd h6 h7 h9 hown hg hat)}
  refine StepsInv.cons2 _ rfl (fun d u W1 K' hs hI hd hw hK=> ?_) ?_
  {have w5:=hw 5 (by kernel_rfl);have d3:u 3= .int .i64 (l.length:Int):=hI.vals 3 (hw 3 (by kernel_rfl)) _ rfl;obtain ⟨g,c,d5,r,n,m⟩:=hI.p1 w5;change u 5= .slice (some ⟨g,0,none⟩) (l.length+1) c at d5;refine Z02 (v:= .pointer (some ⟨g,l.length * 5,none⟩)) (W':=W1) rfl ?_ (hK.out _ _ (hI.s6 HX.out w5 (fun g' c' e=>by
    change u 5= .slice (some ⟨g',0,none⟩) (l.length+1) c' at e;rw[d5] at e;simp only[Value.slice.injEq,Option.some.injEq,Addr.mk.injEq,and_true] at e;rw[e.1])))
   go_simp;intro h; omega}
  refine StepsInv.cons2 _ rfl (fun d u W1 K' hs hI hd hw hK=> ?_) ?_
  {have w5:d 5=true:=hs 6 _ rfl (hw 6 (by kernel_rfl)) 5 (by kernel_rfl);have d2:u 2= .agg (Y8 t qt):=hI.vals 2 (hw 2 (by kernel_rfl)) _ rfl;obtain ⟨g,c,d5,r,n,m⟩:=hI.p1 w5;have d6:=m (hw 6 (by kernel_rfl));change u 6= .pointer (some ⟨g,l.length * 5,none⟩) at d6;rw[hd] at r;simp only[Bool.false_eq_true,if_false] at r;have hst:=hI.s7 HX.out w5 hd d5;refine Z0q (W':=layO W1 g (l.length * 5) (t,qt)) rfl ?_ (hK.out undef _ hst);have hzz:=Z2L (cellsE_len l) r;obtain ⟨v0,x0,y0⟩:=hzz 0 (by decide);obtain ⟨v1,x1,y1⟩:=hzz 1 (by decide);obtain ⟨v2,x2,y2⟩:=hzz 2 (by decide);obtain ⟨v3,x3,y3⟩:=hzz 3 (by decide);obtain ⟨v4,x4,y4⟩:=hzz 4 (by decide);simp only[Nat.add_zero] at x0 y0;clear d5 r n m hst hzz;go_simp;rfl}
  refine StepsInv.cons2 _ rfl (fun d u W1 K' hs hI hd hw hK=> ?_) ?_
  {refine Z02 (v:= .pointer (some ⟨gm,4,none⟩)) (W':=W1) rfl ?_ (hK.out _ _ (hI.pure (by decide) (fun v' h=>by cases h; rfl)));go_simp}
  refine StepsInv.cons2 _ rfl (fun d u W1 K' hs hI hd hw hK=> ?_) StepsInv.nil
  {have w5:=hw 5 (by kernel_rfl);have d8:u 8= .pointer (some ⟨gm,4,none⟩):=hI.vals 8 (hw 8 (by kernel_rfl)) _ rfl;obtain ⟨g,c,d5,r,n,m⟩:=hI.p1 w5;change u 5= .slice (some ⟨g,0,none⟩) (l.length+1) c at d5;have hst:=hI.s9 HX.out w5 hd;have cc:=hI.c4;rw[hd] at cc;simp only[Bool.false_eq_true,if_false] at cc;change W1.cell? ⟨gm,4,none⟩=_ at cc;have hfz:=hI.fz 4;change W1.frozen? ⟨gm,4,none⟩=_ at hfz;rw[d5] at hst;change QX.QI _ _ _ (W1.setCell ⟨gm,4,none⟩ _) at hst;refine Z0q (W':=W1.setCell ⟨gm,4,none⟩ (.slice (some ⟨g,0,none⟩) (l.length+1) c)) rfl ?_ (hK.out undef _ hst);clear r n m;go_simp}
  {intro d u W1 hI hd;have h5:=hd 5 (by show 5 < 10; omega);have c4:=hI.c4;rw[hd 9 (by show 9 < 10; omega)] at c4;obtain ⟨g,c,e,r,n,m⟩:=hI.p1 h5;rw[hd 7 (by show 7 < 10; omega)] at r;have hu:=hI.up;have hcr:=hI.cr;have hfz:=hI.fz;simp only[if_true] at c4 r;rw[e] at c4;have HFIN:Hid (Mk w0 gm hi k o nm [] (l++ [(t,qt)]) none 0 (some ⟨g,0,none⟩) c W1/\Upd (fun b=>b=gm\/rowB AP=some b) w4 W1/\ ∀b,rowB (some ⟨g,0,none⟩)=some b->rowB AP=some b\/w4.heap.size<=b):=Y1 (by
    have hm:=HK4.out.mm;have hrl: ∀b,(b=gm\/rowB AP=some b)->w0.heap.size<=b:=fun b hb=>by
     rcases hb with rfl | hb
     {exact hm.lo}
     {have:=(Z08 hm.rP b hb).1; have:=hm.lo; have:=hm.gh; omega}
    refine ⟨⟨hm.up.trans (hu.below hm.up.size hrl),hm.lo,hm.gh,Nat.le_trans hm.hw hu.size,(hcr 0 (by omega)).trans hm.c0,(hcr 1 (by omega)).trans hm.c1,(hcr 2 (by omega)).trans hm.c2,(hcr 3 (by omega)).trans hm.c3, ?_,hfz,Z0g hm.rN hu (fun b hb=>by cases hb), ?_,Or.inl rfl⟩,hu,fun b hb=> ?_⟩
    {rw[List.length_append]; exact c4}
    {rw[List.length_append,cellsE_append,cellsE_one]; exact r}
    · obtain rfl:g=b:=by simpa[rowB] using hb
      exact n)
   clear hI hd h5 c4 e r n m hu hcr hfz;go_wp2;go_ret;obtain ⟨hm,hu,hr⟩:=HFIN.out;have hput: ∀ok',(ok'=true-> ∃j,bound f v p q=some j)->KP w0 n0 gm hi p1 p2 (.func (.func (bfn !v)) #[] #[]) (.func (.func (bfn v)) #[] #[]) k o nm ok' (ps++ [t]) W1:=fun ok' h=>HK4.out.put hn l1 l2 g1 g2 (fun _=>rfl) (fun h2=>by
    obtain ⟨j,hb⟩:=h h2;obtain ⟨rfl,hkk⟩:=HJ.out j hb;refine hkk.move (T:=fun _=>False) (Upd.new HB34.out) (fun b hb hf=>⟨fun h=>h, ?_⟩);rcases hf with hf | hf
    {exact Or.inl hf}
    · have hw:=HKS.out.mm.hw
      have h3:=HBW.out.size;exact Or.inr ⟨by omega,nofun,fun e=>by have:=(Z08 HKS.out.mm.rP b e).2; omega⟩) hm hu hr
   refine ⟨rfl,fun y hy=> ?_,fun h=>⟨t,hput false nofun⟩,(Upd.new HB4.out).trans (hu.mono (fun b _ hb=> ?_))⟩
   {obtain ⟨rfl,_⟩:=HJ.out y hy;exact hput true (fun _=>⟨_,hy⟩)}
   {rcases hb with hb | hb
    {exact Or.inl hb}
    {exact Or.inr (Z08 HK4.out.mm.rP b hb).1}}}
 | false=>
  simp only[Bool.false_eq_true,if_false] at hv;go_enter Tryz.func67,Tryz.ntmps67;subst hv
  go_wp2_with fail
  refine HC.out.mono ?_;rintro e w3 ⟨t,qt,rfl,hb3,hj⟩;have hb4:=Z01 w3 (.cells (Y8 t qt) 25);have HBX:=Y1 (Z05 w3 t qt);have HK4:=Y1 (HK2.out.new l1 l2 (Z00 hb3 hb4));have HB4:=Y1 (Z00 HBW.out (Z00 hb3 hb4));have HB34:=Y1 hb4;have HZ3:Hid (w2.heap.size<=w3.heap.size):=Y1 hb3.size;have HJ:=Y1 hj;obtain ⟨w4,hw4⟩: ∃w4,w4=w3.alloc (.cells (Y8 t qt) 25):=⟨_,rfl⟩;rw[<-hw4] at HBX HK4 HB4 HB34;have hw4':=hw4.symm;clear hw4 hb3 hb4 hj HC a0 a1 a2 a3 a4 b0 b1 b2 b3 b4 fa fr hen;unfold sv
  go_wp2_with fail
  have hm4:=HK4.out.mm;have hlen:=HK4.out.len;have hX:QX.Good ⟨w4,gm,hi,w3.heap.size,AP,cP,l,(t,qt)⟩:=⟨hm4.gh,by have:=HKS.out.mm.hw; have:=HBW.out.size; have:=HZ3.out; show hi<=w3.heap.size; omega,HBX.out.1,hm4.c4,hm4.fz,hm4.rP,fun e=>by have:=(Z08 HKS.out.mm.rP w3.heap.size e).2; have:=HBW.out.size; have:=HZ3.out; omega,HBX.out.2.1,by have:=HL.out; show l.length<=1000; omega⟩;have HX:=Y1 hX;clear hm4 hlen hX;refine Z1u (rs:= [0,1,2,3,4,5,6,7,8,9])
   (fun u=> { tmps:=#[.agg (Y8 p x),.agg (Y8 q y),.bool false,.pointer (some { block:=p1,off:=0 }),.pointer (some { block:=p2,off:=0 }),.pointer (some { block:=gm,off:=0 }),.pointer (some { block:=W.heap.size,off:=0 }),.pointer (some { block:=W.heap.size+1,off:=0 }),undef,.bool false,.func (Fn.func (bfn !up)) #[] #[],.pointer (some { block:=w3.heap.size,off:=0 }),.bool (bound f (!up) p q).isSome,.func (Fn.func (bfn !up)) #[] #[],.bool false,undef,.tuple #[.agg (Y8 t qt),.bool (bound f (!up) p q).isSome],.func (Fn.func (bfn !up)) #[] #[],.agg (Y8 p x),.agg (Y8 q y),.tuple #[.agg (Y8 t qt),.bool (bound f (!up) p q).isSome],.agg (Y8 t qt),.bool (bound f (!up) p q).isSome,u 0,u 1,u 2,u 3,u 4,u 5,u 6,u 8,undef],defers:= [] })
   (fun j=>undef) (QX.QI ⟨w4,gm,hi,w3.heap.size,AP,cP,l,(t,qt)⟩) (by kernel_rfl) (by kernel_rfl) (by kernel_rfl) HX.out.start ?_ ?_
  refine StepsInv.cons2 _ rfl (fun d u W1 K' hs hI hd hw hK=> ?_) ?_
  {refine Z02 (v:= .pointer (some ⟨gm,4,none⟩)) (W':=W1) rfl ?_ (hK.out _ _ (hI.pure (by decide) (fun v' h=>by cases h; rfl)));go_simp}
  refine StepsInv.cons2 _ rfl (fun d u W1 K' hs hI hd hw hK=> ?_) ?_
  {have d0:u 0= .pointer (some ⟨gm,4,none⟩):=hI.vals 0 (hw 0 (by kernel_rfl)) _ rfl;have h9:d 9=false:=Z0i hs rfl (by kernel_rfl) hd;have c4:=hI.c4;rw[h9] at c4;simp only[Bool.false_eq_true,if_false] at c4;change W1.cell? ⟨gm,4,none⟩=_ at c4;refine Z02 (v:= .slice AP l.length cP) (W':=W1) rfl ?_ (hK.out _ _ (hI.pure (by decide) (fun v' h=>by cases h; rfl)));go_simp}
  refine StepsInv.cons2 _ rfl (fun d u W1 K' hs hI hd hw hK=> ?_) ?_
  {obtain ⟨b0,b1,b2,b3,b4⟩:=hI.box HX.out;simp only[Nat.zero_add] at b0 b1 b2 b3 b4;change W1.cell? ⟨w3.heap.size,0,none⟩=some (.int .i64 t.kind) at b0;change W1.cell? ⟨w3.heap.size,1,none⟩=some (.string ⟨t.of_.toArray⟩) at b1;change W1.cell? ⟨w3.heap.size,2,none⟩=some (.string ⟨t.name.toArray⟩) at b2;change W1.cell? ⟨w3.heap.size,3,none⟩=some (.slice qt.A t.names.length qt.c) at b3;change W1.cell? ⟨w3.heap.size,4,none⟩=some (.slice qt.P t.parts.length qt.d) at b4;refine Z02 (v:= .agg (Y8 t qt)) (W':=W1) rfl ?_ (hK.out _ _ (hI.pure (by decide) (fun v' h=>by cases h; rfl)));go_simp}
  refine StepsInv.cons2 _ rfl (fun d u W1 K' hs hI hd hw hK=> ?_) ?_
  {have d1:u 1= .slice AP l.length cP:=hI.vals 1 (hw 1 (by kernel_rfl)) _ rfl;refine Z02 (v:= .int .i64 (l.length:Int)) (W':=W1) rfl ?_ (hK.out _ _ (hI.pure (by decide) (fun v' h=>by cases h; rfl)));go_simp}
  refine StepsInv.cons2 _ rfl (fun d u W1 K' hs hI hd hw hK=> ?_) ?_
  {refine Z02 (v:= .slice (some ⟨W1.heap.size,0,none⟩) 1 1) (W':=W1.alloc (.cells Yb 25)) rfl ?_ (hK.out _ _ (hI.s4 HX.out));go_simp}
  refine StepsInv.cons2 _ rfl (fun d u W1 K' hs hI hd hw hK=> ?_) ?_
  {have d1:u 1= .slice AP l.length cP:=hI.vals 1 (hw 1 (by kernel_rfl)) _ rfl;obtain ⟨z,d4,z1,z2,z3⟩:=hI.f4 (hw 4 (by kernel_rfl)) hd;have h6:d 6=false:=Z0i hs rfl (by kernel_rfl) hd;have h7:d 7=false:=Z0i hs rfl (by kernel_rfl) hd;have h9:d 9=false:=Z0i hs rfl (by kernel_rfl) hd;have hll:=HX.out.ll;have hsz:=hI.up.size;have hpw:=HX.out.pw;have hhw:=HX.out.hw;refine step_append_lies W1 rfl _ _ 23 rfl hi 25 i0 (.agg #[.int .i64 0,.string ByteArray.empty,.string ByteArray.empty,.slice none 0 0,.slice none 0 0]) 5 88 Tryz.underlying23 hif0 hz0 hs0 hb0 rfl (by decide) _ _ _ (by show u 1=_; exact d1) (hI.p0 hd) ⟨z,0,none⟩ 1 1 Z0A (by show u 4=_; exact d4) rfl (fun j v hv=>by rw[Z0f,Nat.zero_add]; exact z3 j v hv) Z9n (by decide) (by show l.length+1<=maxLen; unfold maxLen; change l.length<=1000 at hll; omega) (by show (l.length+1) * 88<=140737488355328; change l.length<=1000 at hll; omega) (by change hi<=w3.heap.size at hhw; change w3.heap.size < w4.heap.size at hpw; change w4.heap.size<=_ at hsz; omega) _ rfl ?_;intro g cp W' hown hg hat hlt;rw[rowB_own] at hg hat;exact hK.out _ _ (hI.s5 HX.out hd h6 h7 h9 hown hg hat)}
  refine StepsInv.cons2 _ rfl (fun d u W1 K' hs hI hd hw hK=> ?_) ?_
  {have w5:=hw 5 (by kernel_rfl);have d3:u 3= .int .i64 (l.length:Int):=hI.vals 3 (hw 3 (by kernel_rfl)) _ rfl;obtain ⟨g,c,d5,r,n,m⟩:=hI.p1 w5;change u 5= .slice (some ⟨g,0,none⟩) (l.length+1) c at d5;refine Z02 (v:= .pointer (some ⟨g,l.length * 5,none⟩)) (W':=W1) rfl ?_ (hK.out _ _ (hI.s6 HX.out w5 (fun g' c' e=>by
    change u 5= .slice (some ⟨g',0,none⟩) (l.length+1) c' at e;rw[d5] at e;simp only[Value.slice.injEq,Option.some.injEq,Addr.mk.injEq,and_true] at e;rw[e.1])))
   go_simp;intro h; omega}
  refine StepsInv.cons2 _ rfl (fun d u W1 K' hs hI hd hw hK=> ?_) ?_
  {have w5:d 5=true:=hs 6 _ rfl (hw 6 (by kernel_rfl)) 5 (by kernel_rfl);have d2:u 2= .agg (Y8 t qt):=hI.vals 2 (hw 2 (by kernel_rfl)) _ rfl;obtain ⟨g,c,d5,r,n,m⟩:=hI.p1 w5;have d6:=m (hw 6 (by kernel_rfl));change u 6= .pointer (some ⟨g,l.length * 5,none⟩) at d6;rw[hd] at r;simp only[Bool.false_eq_true,if_false] at r;have hst:=hI.s7 HX.out w5 hd d5;refine Z0q (W':=layO W1 g (l.length * 5) (t,qt)) rfl ?_ (hK.out undef _ hst);have hzz:=Z2L (cellsE_len l) r;obtain ⟨v0,x0,y0⟩:=hzz 0 (by decide);obtain ⟨v1,x1,y1⟩:=hzz 1 (by decide);obtain ⟨v2,x2,y2⟩:=hzz 2 (by decide);obtain ⟨v3,x3,y3⟩:=hzz 3 (by decide);obtain ⟨v4,x4,y4⟩:=hzz 4 (by decide);simp only[Nat.add_zero] at x0 y0;clear d5 r n m hst hzz;go_simp;rfl}
  refine StepsInv.cons2 _ rfl (fun d u W1 K' hs hI hd hw hK=> ?_) ?_
  {refine Z02 (v:= .pointer (some ⟨gm,4,none⟩)) (W':=W1) rfl ?_ (hK.out _ _ (hI.pure (by decide) (fun v' h=>by cases h; rfl)));go_simp}
  refine StepsInv.cons2 _ rfl (fun d u W1 K' hs hI hd hw hK=> ?_) StepsInv.nil
  {have w5:=hw 5 (by kernel_rfl);have d8:u 8= .pointer (some ⟨gm,4,none⟩):=hI.vals 8 (hw 8 (by kernel_rfl)) _ rfl;obtain ⟨g,c,d5,r,n,m⟩:=hI.p1 w5;change u 5= .slice (some ⟨g,0,none⟩) (l.length+1) c at d5;have hst:=hI.s9 HX.out w5 hd;have cc:=hI.c4;rw[hd] at cc;simp only[Bool.false_eq_true,if_false] at cc;change W1.cell? ⟨gm,4,none⟩=_ at cc;have hfz:=hI.fz 4;change W1.frozen? ⟨gm,4,none⟩=_ at hfz;rw[d5] at hst;change QX.QI _ _ _ (W1.setCell ⟨gm,4,none⟩ _) at hst;refine Z0q (W':=W1.setCell ⟨gm,4,none⟩ (.slice (some ⟨g,0,none⟩) (l.length+1) c)) rfl ?_ (hK.out undef _ hst);clear r n m;go_simp}
  {intro d u W1 hI hd;have h5:=hd 5 (by show 5 < 10; omega);have c4:=hI.c4;rw[hd 9 (by show 9 < 10; omega)] at c4;obtain ⟨g,c,e,r,n,m⟩:=hI.p1 h5;rw[hd 7 (by show 7 < 10; omega)] at r;have hu:=hI.up;have hcr:=hI.cr;have hfz:=hI.fz;simp only[if_true] at c4 r;rw[e] at c4;have HFIN:Hid (Mk w0 gm hi k o nm [] (l++ [(t,qt)]) none 0 (some ⟨g,0,none⟩) c W1/\Upd (fun b=>b=gm\/rowB AP=some b) w4 W1/\ ∀b,rowB (some ⟨g,0,none⟩)=some b->rowB AP=some b\/w4.heap.size<=b):=Y1 (by
    have hm:=HK4.out.mm;have hrl: ∀b,(b=gm\/rowB AP=some b)->w0.heap.size<=b:=fun b hb=>by
     rcases hb with rfl | hb
     {exact hm.lo}
     {have:=(Z08 hm.rP b hb).1; have:=hm.lo; have:=hm.gh; omega}
    refine ⟨⟨hm.up.trans (hu.below hm.up.size hrl),hm.lo,hm.gh,Nat.le_trans hm.hw hu.size,(hcr 0 (by omega)).trans hm.c0,(hcr 1 (by omega)).trans hm.c1,(hcr 2 (by omega)).trans hm.c2,(hcr 3 (by omega)).trans hm.c3, ?_,hfz,Z0g hm.rN hu (fun b hb=>by cases hb), ?_,Or.inl rfl⟩,hu,fun b hb=> ?_⟩
    {rw[List.length_append]; exact c4}
    {rw[List.length_append,cellsE_append,cellsE_one]; exact r}
    · obtain rfl:g=b:=by simpa[rowB] using hb
      exact n)
   clear hI hd h5 c4 e r n m hu hcr hfz;go_wp2;go_ret;obtain ⟨hm,hu,hr⟩:=HFIN.out;have hput: ∀ok',(ok'=true-> ∃j,bound f (!up) p q=some j)->KP w0 n0 gm hi p1 p2 (.func (.func (bfn !up)) #[] #[]) (.func (.func (bfn up)) #[] #[]) k o nm ok' (ps++ [t]) W1:=fun ok' h=>HK4.out.put hn l1 l2 g1 g2 (fun _=>rfl) (fun h2=>by
    obtain ⟨j,hb⟩:=h h2;obtain ⟨rfl,hkk⟩:=HJ.out j hb;refine hkk.move (T:=fun _=>False) (Upd.new HB34.out) (fun b hb hf=>⟨fun h=>h, ?_⟩);rcases hf with hf | hf
    {exact Or.inl hf}
    · have hw:=HKS.out.mm.hw
      have h3:=HBW.out.size;exact Or.inr ⟨by omega,nofun,fun e=>by have:=(Z08 HKS.out.mm.rP b e).2; omega⟩) hm hu hr
   refine ⟨rfl,fun y hy=> ?_,fun h=>⟨t,hput false nofun⟩,(Upd.new HB4.out).trans (hu.mono (fun b _ hb=> ?_))⟩
   {obtain ⟨rfl,_⟩:=HJ.out y hy;exact hput true (fun _=>⟨_,hy⟩)}
   {rcases hb with hb | hb
    {exact Or.inl hb}
    {exact Or.inr (Z08 HK4.out.mm.rP b hb).1}}}
end SubM
end Go.Proofs.YtlomianlcnmfgaaGreatDoor
