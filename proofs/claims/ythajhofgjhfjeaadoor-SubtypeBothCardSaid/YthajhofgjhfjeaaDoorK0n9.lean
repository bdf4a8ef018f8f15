/- What the proofs of SubtypeBoth, SubtypeGreatest, SubtypeLeast, SubtypeOrder want, part 9. -/
import Derived.Test.YthajhofgjhfjeaaDoorK0n8
set_option linter.unusedVariables false
set_option linter.unusedSimpArgs false
set_option linter.unusedSectionVars false
set_option maxRecDepth 100000
set_option maxHeartbeats 16000000
namespace Go.Proofs.YthajhofgjhfjeaaDoor
open Go.RowKit Shp Sub
namespace SubM
def WideOk (w0:World) (n0 gm hi pf:Nat) (fv:Value) (k:Int) (L:List Fld) (nm:List UInt8) (o:Option Fld) (W:World) (e:Ending) (W':World):Prop:=
 e= .returned (.bool o.isSome)/\(∀x,o=some x->KN w0 n0 gm hi pf fv k true (L++ [x]) W')/\(o=none-> ∃t,KN w0 n0 gm hi pf fv k false (L++ [(nm,t)]) W')/\Upd (fun b=>b=gm\/hi<=b) W W'
section
variable {w0 W : World} {n0 gm hi pf : Nat} {fv : Value} {k : Int} {L : List Fld} {nm : List UInt8}
theorem ZbG (hn:n0<=gm) (hpf:pf < hi) (hpg:pf≠gm) (hL:L.length<=900) (hk:KN w0 n0 gm hi pf fv k true L W) (W3:World) (hb:Below W.heap.size W W3) (t:Sh) (q:Ptr) (hs:ShAt W n0 q t):
 Calls Tryd.prog 68 #[.pointer (some ⟨gm,0,none⟩),.string ⟨nm.toArray⟩,sv t q] W3 fun e W'=>e= .returned (.tuple #[])/\KN w0 n0 gm hi pf fv k true (L++ [(nm,t)]) W'/\Upd (fun b=>b=gm\/hi<=b) W W':=by
 obtain ⟨l,AN,cN,AP,cP,hks⟩:=hk;have hk3:=hks.new hpf hb;have hlen:=hk3.len;refine (Zbb w0 gm hi k [] [] (L.map Prod.fst) l AN cN AP cP nm t q W3 hk3.mm (by rw[List.length_map]; omega) (by omega)).mono ?_;rintro e W' ⟨rfl,AN',cN',AP',cP',hm,hp⟩;have hg:=hk3.mm.gh;have hw:=hk3.mm.hw;have hz:=hks.mm.hw;refine ⟨rfl,hk3.put hn hpf hpg (ok':=true) (fun _=>rfl) (fun _=> ?_) hm hp,(Upd.new hb).trans (hk3.turn hp)⟩;exact Kept.old (x:=(t,q)) (Za8 hs (by omega) (Upd.new (S:=fun _=>False) hb) (fun _ _ h=>h)) (by omega) (fun b hb=>Or.inl hb)
end
def tb (d:Nat->Bool) (j:Nat):Bool:=if j=11 then true else if j=12 then d 11 else if j=13 then d 12 else d j
def tu (g:Nat) (u:Nat->Value) (j:Nat):Value:=if j=11 then .pointer (some ⟨g,0,none⟩) else if j=12 then u 11 else if j=13 then u 12 else u j
def ti (i:Nat):Nat:=if i < 11 then i else i+1
theorem ZcS (d:Nat->Bool) {i:Nat} (hi:i < 13):tb (also d i)=also (tb d) (ti i):=by
 funext j;by_cases hj:j=ti i
 {subst hj;rw[Zab];unfold tb ti;by_cases h:i < 11
  {rw[if_pos h,if_neg (by omega),if_neg (by omega),if_neg (by omega),Zab]}
  {rw[if_neg h,if_neg (by omega)];by_cases h2:i=11
   {subst h2; rw[if_pos rfl,Zab]}
   {obtain rfl:i=12:=by omega
    rw[if_neg (by omega),if_pos rfl,Zab]}}}
 {rw[Za3 _ hj];unfold tb;unfold ti at hj;by_cases h11:j=11
  {rw[if_pos h11,if_pos h11]}
  {rw[if_neg h11,if_neg h11];by_cases h12:j=12
   {rw[if_pos h12,if_pos h12];by_cases h:i < 11
    {exact Za3 d (by omega)}
    {rw[if_neg h] at hj; exact Za3 d (by omega)}}
   {rw[if_neg h12,if_neg h12];by_cases h13:j=13
    {rw[if_pos h13,if_pos h13];by_cases h:i < 11
     {exact Za3 d (by omega)}
     {rw[if_neg h] at hj; exact Za3 d (by omega)}}
    {rw[if_neg h13,if_neg h13];by_cases h:i < 11
     {rw[if_pos h] at hj; exact Za3 d hj}
     {exact Za3 d (by omega)}}}}}
theorem Zd0 (g:Nat) (u:Nat->Value) {i:Nat} (hi:i < 13) (v:Value):tu g (upd u i v)=upd (tu g u) (ti i) v:=by
 funext j;by_cases hj:j=ti i
 {subst hj;rw[Z2p];unfold tu ti;by_cases h:i < 11
  {rw[if_pos h,if_neg (by omega),if_neg (by omega),if_neg (by omega),Z2p]}
  {rw[if_neg h,if_neg (by omega)];by_cases h2:i=11
   {subst h2; rw[if_pos rfl,Z2p]}
   {obtain rfl:i=12:=by omega
    rw[if_neg (by omega),if_pos rfl,Z2p]}}}
 {rw[Z15 _ _ hj];unfold tu;unfold ti at hj;by_cases h11:j=11
  {rw[if_pos h11,if_pos h11]}
  {rw[if_neg h11,if_neg h11];by_cases h12:j=12
   {rw[if_pos h12,if_pos h12];by_cases h:i < 11
    {exact Z15 u v (by omega)}
    {rw[if_neg h] at hj; exact Z15 u v (by omega)}}
   {rw[if_neg h12,if_neg h12];by_cases h13:j=13
    {rw[if_pos h13,if_pos h13];by_cases h:i < 11
     {exact Z15 u v (by omega)}
     {rw[if_neg h] at hj; exact Z15 u v (by omega)}}
    {rw[if_neg h13,if_neg h13];by_cases h:i < 11
     {rw[if_pos h] at hj; exact Z15 u v hj}
     {exact Z15 u v (by omega)}}}}}
def RJ (X:RX) (g:Nat) (d:Nat->Bool) (u:Nat->Value) (W:World):Prop:=X.RI (tb d) (tu g u) W
theorem RJ.mk' {X:RX} {g i:Nat} {d:Nat->Bool} {u:Nat->Value} {v:Value} {W:World} (hi:i < 13) (h:X.RI (also (tb d) (ti i)) (upd (tu g u) (ti i) v) W):RJ X g (also d i) (upd u i v) W:=by
 unfold RJ; rw[ZcS d hi,Zd0 g u hi v]; exact h
theorem ZbX {f:Nat} (hI:BoundOk f) (up:Bool) (w0:World) (n0 gm hi pf:Nat) (k:Int) (L:List Fld) (nm:List UInt8) (o1 o2:Option Sh) (x y:Value) (W:World) (h2: ∀p q,o1=some p->o2=some q->Two f p q) (hne:o1≠none\/o2≠none)
 (hn:n0<=gm) (hpf:pf < hi) (hpg:pf≠gm) (hL:L.length<=900) (hx:At W n0 o1 x) (hy:At W n0 o2 y) (hk:KN w0 n0 gm hi pf (.func (.func (bfn up)) #[] #[]) k true L W):
 Calls Tryd.prog 69 (.string ⟨nm.toArray⟩::x::y:: .pointer (some ⟨pf,0,none⟩):: .pointer (some ⟨gm,0,none⟩):: []).toArray W
  (WideOk w0 n0 gm hi pf (.func (.func (bfn up)) #[] #[]) k L nm (wideStep (bound f up) (nm,o1,o2)) W):=by
 cases o2 with
 | none=>
  have hy':y= .pointer none:=hy;subst hy';cases o1 with
  | none=>exact absurd rfl (hne.resolve_right (fun h=>h rfl))
  | some p=>
   obtain ⟨ga,oa,qx,rfl,hga,⟨x0,x1,x2,x3,x4⟩,hsa⟩:=hx;have hr:wideStep (bound f up) (nm,some p,none)=some (nm,p):=rfl;rw[hr];have hgw:ga < W.heap.size:=by obtain ⟨l,AN,cN,AP,cP,hks⟩:=hk; have:=hks.mm.gh; have:=hks.mm.hw; omega
   have HP:=Y1 (fun W3 hb=>ZbG (nm:=nm) hn hpf hpg hL hk W3 hb p qx hsa);have hbw:=Z01 W (.cells (Y8 p qx) 25);have HBW:=Y1 hbw;clear hI h2 hne hr hbw hk hsa hga hn hpf hpg hL;unfold sv at HP;go_enter Tryd.func69,Tryd.ntmps69
   go_wp2_with fail
   refine (HP.out _ HBW.out).mono ?_;rintro e W4 ⟨rfl,hk4,hu4⟩;have HK4:=Y1 hk4;have HU4:=Y1 hu4;clear hk4 hu4 HP x0 x1 x2 x3 x4;go_wp2;go_ret;exact ⟨rfl,fun x hx=>by cases hx; exact HK4.out,nofun,HU4.out⟩
 | some q=>
  obtain ⟨gb,ob,qy,rfl,hgb,h5b,hsb⟩:=hy;have hgb':gb < W.heap.size:=by obtain ⟨l,AN,cN,AP,cP,hks⟩:=hk; have:=hks.mm.gh; have:=hks.mm.hw; omega
  cases o1 with
  | none=>
   have hx':x= .pointer none:=hx;subst hx';obtain ⟨x0,x1,x2,x3,x4⟩:=h5b;have hr:wideStep (bound f up) (nm,none,some q)=some (nm,q):=rfl;rw[hr];have HP:=Y1 (fun W3 hb=>ZbG (nm:=nm) hn hpf hpg hL hk W3 hb q qy hsb);have hbw:=Z01 W (.cells (Y8 q qy) 25);have HBW:=Y1 hbw;clear hI h2 hne hr hbw hk hsb hgb hn hpf hpg hL;unfold sv at HP;go_enter Tryd.func69,Tryd.ntmps69
   go_wp2_with fail
   refine (HP.out _ HBW.out).mono ?_;rintro e W4 ⟨rfl,hk4,hu4⟩;have HK4:=Y1 hk4;have HU4:=Y1 hu4;clear hk4 hu4 HP x0 x1 x2 x3 x4;go_wp2;go_ret;exact ⟨rfl,fun x hx=>by cases hx; exact HK4.out,nofun,HU4.out⟩
  | some p=>
   obtain ⟨ga,oa,qx,rfl,hga,h5a,hsa⟩:=hx;obtain ⟨l,AN,cN,AP,cP,hks⟩:=hk;have hbw:=Z01 W (.cells Yb 25);obtain ⟨W1,hW1⟩: ∃W1,W1=W.alloc (.cells Yb 25):=⟨_,rfl⟩;have hz: ∀j,j < 5-> ∃v,W1.cell? ⟨W.heap.size,j,none⟩=some v:=fun j hj=>by
    rw[hW1];rcases j with _ | _ | _ | _ | _ | j
    {exact ⟨.int .i64 0,by simp[go_sem]⟩}
    {exact ⟨.string ⟨#[]⟩,by simp[go_sem]⟩}
    {exact ⟨.string ⟨#[]⟩,by simp[go_sem]⟩}
    {exact ⟨.slice none 0 0,by simp[go_sem]⟩}
    {exact ⟨.slice none 0 0,by simp[go_sem]⟩}
    {omega}
   have hzf: ∀j,W1.frozen? ⟨W.heap.size,j,none⟩=false:=fun j=>by rw[hW1]; simp[go_sem]
   have hs1:W1.heap.size=W.heap.size+1:=by rw[hW1]; simp
   rw[<-hW1] at hbw;have hnW:n0<=W.heap.size:=by have:=hks.mm.gh; have:=hks.mm.hw; omega
   have hu1:Upd (fun _=>False) W W1:=Upd.new hbw;have hX:RX.Good ⟨f,up,p,q,qx,qy,ga,oa,gb,ob,pf,n0,W⟩:=⟨h2 p q rfl rfl,hnW,hga,hgb,h5a,h5b,hsa,hsb,hks.fc,Nat.lt_of_lt_of_le hpf hks.mm.hw,hI⟩;have HX:=Y1 hX;have HKS0:=Y1 hks;have HNW:=Y1 hnW;have HL:=Y1 hL;have HZ:=Y1 hz;have HZF:=Y1 hzf;have HBW:=Y1 hbw;have HS1:=Y1 hs1;have HW1:=Y1 hW1;clear hX hks hI h2 h5a h5b hsa hsb hL hga hgb hbw hz hzf hW1 hu1 hs1 hnW;go_enter Tryd.func69,Tryd.ntmps69
   go_wp2_with fail
   rw[<-HW1.out];have hstart:RX.RI ⟨f,up,p,q,qx,qy,ga,oa,gb,ob,pf,n0,W⟩ (tb fun _=>false) (tu W.heap.size (fun j=>if j=12 then .bool true else undef)) W1.drew:=by
    refine ⟨fun j hj v hv=> ?_,HBW.out.drew,fun _=>⟨W.heap.size,rfl,Nat.le_refl _,by have:=HS1.out; show W.heap.size < W1.heap.size; omega,HZF.out,HZ.out⟩,nofun⟩;unfold tb at hj;by_cases h11:j=11
    {subst h11; cases hv}
    {rw[if_neg h11] at hj;split at hj
     {cases hj}
     {split at hj <;> cases hj}}
   refine ZaO (rs:= [0,1,2,3,4,5,6,7,8,9,10,11,12])
    (fun u=> { tmps:=#[.string ⟨nm.toArray⟩,.pointer (some ⟨ga,oa,none⟩),.pointer (some ⟨gb,ob,none⟩),.pointer (some ⟨pf,0,none⟩),.pointer (some ⟨gm,0,none⟩),undef,undef,undef,.bool false,.pointer (some ⟨W.heap.size,0,none⟩),u 12,.agg #[.int .i64 0,.string { data:=#[] },.string { data:=#[] },.slice none 0 0,.slice none 0 0],u 8,u 0,u 1,u 2,u 3,u 4,u 5,u 6,u 7,u 9,u 10,.bool false,.pointer (some ⟨gb,ob,none⟩),.bool false,undef,undef,undef,.bool false,.pointer (some ⟨ga,oa,none⟩),.bool false,undef,undef,undef,undef,undef,undef,undef],defers:= [] })
    (fun j=>if j=12 then .bool true else undef) (RJ ⟨f,up,p,q,qx,qy,ga,oa,gb,ob,pf,n0,W⟩ W.heap.size) (by kernel_rfl) (by kernel_rfl) (by kernel_rfl) hstart ?_ ?_
   refine StepsInv.cons2 _ rfl (fun d u W2 K' hs hI hd hw hK=> ?_) ?_
   {obtain ⟨_,_,c0⟩:=RX.RI.look hI HX.out
    try dsimp only at c0
    refine Z02 (v:= .func (.func (bfn up)) #[] #[]) (W':=W2) rfl ?_ (hK.out _ _ (RJ.mk' (by decide) (RX.RI.pure hI (by decide) (fun v' h=>by cases h; rfl))));go_simp}
   refine StepsInv.cons2 _ rfl (fun d u W2 K' hs hI hd hw hK=> ?_) ?_
   {refine Z02 (v:= .pointer (some ⟨ga,oa,none⟩)) (W':=W2) rfl ?_ (hK.out _ _ (RJ.mk' (by decide) (RX.RI.pure hI (by decide) (fun v' h=>by cases h; rfl))));go_simp}
   refine StepsInv.cons2 _ rfl (fun d u W2 K' hs hI hd hw hK=> ?_) ?_
   {have d1:u 1= .pointer (some ⟨ga,oa,none⟩):=RX.RI.vals hI 1 (hw 1 (by kernel_rfl)) _ rfl;refine Z02 (v:= .pointer (some ⟨ga,oa,none⟩)) (W':=W2) rfl ?_ (hK.out _ _ (RJ.mk' (by decide) (RX.RI.pure hI (by decide) (fun v' h=>by cases h; rfl))));go_simp}
   refine StepsInv.cons2 _ rfl (fun d u W2 K' hs hI hd hw hK=> ?_) ?_
   {have d2:u 2= .pointer (some ⟨ga,oa,none⟩):=RX.RI.vals hI 2 (hw 2 (by kernel_rfl)) _ rfl;obtain ⟨⟨c0,c1,c2,c3,c4⟩,_,_⟩:=RX.RI.look hI HX.out
    try dsimp only at c0 c1 c2 c3 c4
    refine Z02 (v:= .agg (Y8 p qx)) (W':=W2) rfl ?_ (hK.out _ _ (RJ.mk' (by decide) (RX.RI.pure hI (by decide) (fun v' h=>by cases h; rfl))));go_simp}
   refine StepsInv.cons2 _ rfl (fun d u W2 K' hs hI hd hw hK=> ?_) ?_
   {refine Z02 (v:= .pointer (some ⟨gb,ob,none⟩)) (W':=W2) rfl ?_ (hK.out _ _ (RJ.mk' (by decide) (RX.RI.pure hI (by decide) (fun v' h=>by cases h; rfl))));go_simp}
   refine StepsInv.cons2 _ rfl (fun d u W2 K' hs hI hd hw hK=> ?_) ?_
   {have d4:u 4= .pointer (some ⟨gb,ob,none⟩):=RX.RI.vals hI 4 (hw 4 (by kernel_rfl)) _ rfl;refine Z02 (v:= .pointer (some ⟨gb,ob,none⟩)) (W':=W2) rfl ?_ (hK.out _ _ (RJ.mk' (by decide) (RX.RI.pure hI (by decide) (fun v' h=>by cases h; rfl))));go_simp}
   refine StepsInv.cons2 _ rfl (fun d u W2 K' hs hI hd hw hK=> ?_) ?_
   {have d5:u 5= .pointer (some ⟨gb,ob,none⟩):=RX.RI.vals hI 5 (hw 5 (by kernel_rfl)) _ rfl;obtain ⟨_,⟨c0,c1,c2,c3,c4⟩,_⟩:=RX.RI.look hI HX.out
    try dsimp only at c0 c1 c2 c3 c4
    refine Z02 (v:= .agg (Y8 q qy)) (W':=W2) rfl ?_ (hK.out _ _ (RJ.mk' (by decide) (RX.RI.pure hI (by decide) (fun v' h=>by cases h; rfl))));go_simp}
   refine StepsInv.cons2 _ rfl (fun d u W2 K' hs hI hd hw hK=> ?_) ?_
   {have d0:u 0= .func (.func (bfn up)) #[] #[]:=RX.RI.vals hI 0 (hw 0 (by kernel_rfl)) _ rfl;have d3:u 3= .agg (Y8 p qx):=RX.RI.vals hI 3 (hw 3 (by kernel_rfl)) _ rfl;have d6:u 6= .agg (Y8 q qy):=RX.RI.vals hI 6 (hw 6 (by kernel_rfl)) _ rfl;have hen:=ZaL up;have h8:d 8=false:=Za2 hs rfl (by kernel_rfl) hd;have h9:d 9=false:=Za2 hs rfl (by kernel_rfl) h8;have h10:d 10=false:=Za2 hs rfl (by kernel_rfl) h8;have h12:d 11=false:=Za2 hs rfl (by kernel_rfl) h9;have h13:d 12=false:=Za2 hs rfl (by kernel_rfl) h10;have hup:=RX.RI.up hI;have hx0:=HX.out;have hu:Upd (fun _=>False) W W2:=Upd.new hup;refine Z0q (f:=bfn up) (args:=#[.agg (Y8 p qx),.agg (Y8 q qy)]) (W':=W2) rfl ?_ ((hx0.ok up p q qx qy n0 W2 hx0.two (Za8 hx0.sa hx0.hn hu (fun _ _ h=>h)) (Za8 hx0.sb hx0.hn hu (fun _ _ h=>h)) (Nat.le_trans hx0.hn hu.size)).mono fun e w' hb=> ?_)
    {go_simp}
    {obtain ⟨v,he,hr⟩:=RX.RI.call hI HX.out hd (fun j hj=>by rcases hj with rfl | rfl | rfl | rfl | rfl <;> assumption) hb;exact ⟨v,he,hK.out _ _ (RJ.mk' (by decide) hr)⟩}}
   refine StepsInv.cons2 _ rfl (fun d u W2 K' hs hI hd hw hK=> ?_) ?_
   {have w7:=hw 7 (by kernel_rfl);obtain ⟨t,qt,W3,s,e7,_⟩:=RX.RI.ca hI w7;change u 7=_ at e7
    try dsimp only at e7
    refine Z02 (v:= .tuple #[.agg (Y8 t qt),.bool (bound f up p q).isSome]) (W':=W2) rfl ?_ (hK.out _ _ (RJ.mk' (by decide) (RX.RI.read hI w7 (by decide) hd (fun t' q' h=>⟨fun _=>e7.symm,nofun,nofun,nofun⟩))));go_simp}
   refine StepsInv.cons2 _ rfl (fun d u W2 K' hs hI hd hw hK=> ?_) ?_
   {have w8:=hw 8 (by kernel_rfl);have w7:d 7=true:=hs 8 _ rfl w8 7 (by kernel_rfl);obtain ⟨t,qt,W3,s,e7,_,_,_,e8,_⟩:=RX.RI.ca hI w7;change u 7=_ at e7;change d 8=true->u 8=u 7 at e8
    try dsimp only at e7
    have d8:=(e8 w8).trans e7;refine Z02 (v:= .agg (Y8 t qt)) (W':=W2) rfl ?_ (hK.out _ _ (RJ.mk' (by decide) (RX.RI.read hI w7 (by decide) hd (fun t' q' h=>⟨nofun,fun _=>by change u 7=_ at h; rw[e7] at h; simp only[Value.tuple.injEq] at h; have:=congrArg (fun a:Array Value=>a[0]?) h; simpa using this,nofun,nofun⟩))));go_simp}
   refine StepsInv.cons2 _ rfl (fun d u W2 K' hs hI hd hw hK=> ?_) ?_
   {have w8:=hw 8 (by kernel_rfl);have w7:d 7=true:=hs 8 _ rfl w8 7 (by kernel_rfl);obtain ⟨t,qt,W3,s,e7,_,_,_,e8,_⟩:=RX.RI.ca hI w7;change u 7=_ at e7;change d 8=true->u 8=u 7 at e8
    try dsimp only at e7
    have d8:=(e8 w8).trans e7;refine Z02 (v:= .bool (bound f up p q).isSome) (W':=W2) rfl ?_ (hK.out _ _ (RJ.mk' (by decide) (RX.RI.read hI w7 (by decide) hd (fun t' q' h=>⟨nofun,nofun,fun _=>rfl,nofun⟩))));go_simp}
   refine StepsInv.cons2 _ rfl (fun d u W2 K' hs hI hd hw hK=> ?_) ?_
   {have w9:=hw 9 (by kernel_rfl);have w7:=hw 7 (by kernel_rfl);obtain ⟨t,qt,W3,s,e7,_,_,_,_,e9,_⟩:=RX.RI.ca hI w7;change u 7=_ at e7;change d 9=true->u 9=_ at e9
    try dsimp only at e7
    have d9:=e9 w9;obtain ⟨g,e11,g1,g2,g3,g4⟩:=RX.RI.al hI rfl;have hst:=RX.RI.store hI w7 rfl e11 e7 (fun t' q' h=>Zcw h);obtain rfl:W.heap.size=g:=by change Value.pointer _=_ at e11; simpa using e11
    refine Z8i (W':=RX.lay W2 W.heap.size t qt) rfl ?_ (hK.out undef _ (RJ.mk' (by decide) hst));obtain ⟨v0,x0⟩:=g4 0 (by omega);obtain ⟨v1,x1⟩:=g4 1 (by omega);obtain ⟨v2,x2⟩:=g4 2 (by omega);obtain ⟨v3,x3⟩:=g4 3 (by omega);obtain ⟨v4,x4⟩:=g4 4 (by omega);have y0:=g3 0;have y1:=g3 1;have y2:=g3 2;have y3:=g3 3;have y4:=g3 4;unfold sv at d9;go_simp;rfl}
   refine StepsInv.cons2 _ rfl (fun d u W2 K' hs hI hd hw hK=> ?_) StepsInv.nil
   {have w10:=hw 10 (by kernel_rfl);have w8:d 8=true:=hs 10 _ rfl w10 8 (by kernel_rfl);have w7:d 7=true:=hs 8 _ rfl w8 7 (by kernel_rfl);obtain ⟨t,qt,W3,s,e7,_,_,_,_,_,e10,_⟩:=RX.RI.ca hI w7;change d 10=true->u 10=_ at e10;have d10:=e10 w10
    try dsimp only at d10
    refine Z02 (v:= .bool (bound f up p q).isSome) (W':=W2) rfl ?_ (hK.out _ _ (RJ.mk' (by decide) (RX.RI.read hI w7 (by decide) hd (fun t' q' h=>⟨nofun,nofun,nofun,fun _=>rfl⟩))));go_simp}
   {intro d u W2 hI hd;have w7:=hd 7 (by show 7 < 13; omega);have w13:=hd 12 (by show 12 < 13; omega);obtain ⟨g,e11,g1,g2,g3,g4⟩:=RX.RI.al hI rfl;obtain ⟨t,qt,W3,s,e7,s1,s2,hj,_,_,_,hu,hgs,h12,h13⟩:=RX.RI.ca hI w7
    try dsimp only at g1 s1 hj h13
    have d13:u 12= .bool (bound f up p q).isSome:=h13 w13;obtain ⟨x0,x1,x2,x3,x4⟩:=h12 (hd 11 (by show 11 < 13; omega)) g e11;obtain rfl:W.heap.size=g:=by change Value.pointer _=_ at e11; simpa using e11
    simp only[Nat.zero_add] at x0 x1 x2 x3 x4;have hup:=RX.RI.up hI
    try dsimp only at hup
    have hK1:=HKS0.out.new hpf hup;have hkp: ∀j,bound f up p q=some j->t=j/\Kept (Free n0 hi AN AP) W2 (j,qt):=fun j hb=>by
     obtain ⟨e1,e2⟩:=hj j hb;refine ⟨e1,e2.move hu (fun b hb hf=>⟨fun ht=> ?_, ?_⟩)⟩
     {have e3:W.heap.size=b:=by have:=ht.2; change Value.pointer _=_ at this; simpa using this
      rcases hgs W.heap.size rfl e11 with h | h
      {have:=HNW.out; rcases hf with hf | hf <;> omega}
      {omega}}
     {rcases hf with hf | hf
      {exact Or.inl hf}
      {have hw:=HKS0.out.mm.hw;exact Or.inr ⟨by omega,fun e=>by have:=(Za0 HKS0.out.mm.rN b e).2; omega,fun e=>by have:=(Za0 HKS0.out.mm.rP b e).2; omega⟩}}
    have HK1:=Y1 hK1;have HKP:=Y1 hkp;have HUP:=Y1 hup;have hlen:=HK1.out.len;have hL0:=HL.out;have HPW:=Y1 (Zbb w0 gm hi k [] [] (L.map Prod.fst) l AN cN AP cP nm t qt W2 HK1.out.mm (by rw[List.length_map]; omega) (by omega));unfold sv at HPW;rw[d13];clear hI hd hj hu hgs h12 h13 hup hK1 hkp g3 g4 e7 w7 w13 d13 hlen hL0;have HR:Hid (wideStep (bound f up) (nm,some p,some q)=(bound f up p q).map (fun x=>(nm,x))):=Y1 rfl;obtain ⟨o,ho⟩: ∃o,o=bound f up p q:=⟨_,rfl⟩;rw[<-ho] at HR HKP ⊢;clear ho
    go_wp2_with fail
    refine HPW.out.mono ?_;rintro e W4 ⟨rfl,AN',cN',AP',cP',hm,hp⟩;have HKN:Hid (∀ok',(ok'=true-> ∃j,o=some j)->KN w0 n0 gm hi pf (.func (.func (bfn up)) #[] #[]) k ok' (L++ [(nm,t)]) W4):=Y1 (fun ok' h=>HK1.out.put hn hpf hpg (nm:=nm) (t:=t) (q:=qt) (ok':=ok') (fun _=>rfl) (fun h2=>by
     obtain ⟨j,hj⟩:=h h2;obtain ⟨rfl,hkk⟩:=HKP.out j hj;exact hkk) hm hp)
    have HUD:Hid (Upd (fun b=>b=gm\/hi<=b) W W4):=Y1 ((Upd.new HUP.out).trans (HK1.out.turn hp));clear hm hp HPW x0 x1 x2 x3 x4;go_wp2;go_ret;rw[HR.out];refine ⟨by cases o <;> rfl,fun y hy=> ?_,fun h=>⟨t,HKN.out false nofun⟩,HUD.out⟩;obtain ⟨j,hj,rfl⟩:=Option.map_eq_some_iff.1 hy;obtain ⟨rfl,_⟩:=HKP.out j hj;exact HKN.out true (fun _=>⟨_,hj⟩)}
end SubM
end Go.Proofs.YthajhofgjhfjeaaDoor
namespace Go.Proofs.YthajhofgjhfjeaaDoor
open Go.RowKit Shp Sub
namespace SubM
def Zag:List Value:= [.int .i64 0,.string ⟨#[]⟩,.string ⟨#[]⟩,.slice none 0 0,.slice none 0 0]
theorem Zbi: ∀u∈Zag,u.oneCell'=true:=by
 intro u hu;simp only[Zag,List.mem_cons,List.not_mem_nil,or_false] at hu;rcases hu with rfl | rfl | rfl | rfl | rfl <;> rfl
def layO (W:World) (g i:Nat) (x:El):World:=(((((W).setCell ⟨g,i+0,none⟩ (.int .i64 x.1.kind)).setCell ⟨g,i+1,none⟩ (.string ⟨x.1.of_.toArray⟩)).setCell ⟨g,i+2,none⟩ (.string ⟨x.1.name.toArray⟩)).setCell ⟨g,i+3,none⟩ (.slice x.2.A x.1.names.length x.2.c)).setCell ⟨g,i+4,none⟩ (.slice x.2.P x.1.parts.length x.2.d)
theorem ZaT {a b c:World} {r:Option Nat} (h:a.grownBy b r) (k:b.grownBy c r):a.grownBy c r:=
 ⟨k.os.trans h.os,k.tape.trans h.tape,k.output.trans h.output,Nat.le_trans h.size k.size,fun j hj hr=>(k.block j (Nat.lt_of_lt_of_le hj h.size) hr).trans (h.block j hj hr)⟩
theorem ZcT {W:World} (x:El) {g cp n B:Nat} {ys:List Value} (hn:ys.length=n * 5) (h:W.ownsRow B 25 5 (.slice (some ⟨g,0,none⟩) (n+1) cp) (n+1) (ys++Zag)):
 (layO W g (n * 5) x).ownsRow B 25 5 (.slice (some ⟨g,0,none⟩) (n+1) cp) (n+1) (ys++Za9 x)/\W.grownBy (layO W g (n * 5) x) (some g):=by
 obtain ⟨h0,g0⟩:=World.ownsRow.stored h (n * 5+0) (.int .i64 x.1.kind);obtain ⟨h1,g1⟩:=World.ownsRow.stored h0 (n * 5+1) (.string ⟨x.1.of_.toArray⟩);obtain ⟨h2,g2⟩:=World.ownsRow.stored h1 (n * 5+2) (.string ⟨x.1.name.toArray⟩);obtain ⟨h3,g3⟩:=World.ownsRow.stored h2 (n * 5+3) (.slice x.2.A x.1.names.length x.2.c);obtain ⟨h4,g4⟩:=World.ownsRow.stored h3 (n * 5+4) (.slice x.2.P x.1.parts.length x.2.d);refine ⟨?_,(ZaT (ZaT (ZaT (ZaT g0 g1) g2) g3) g4)⟩;have hs: ∀(zs:List Value) (k:Nat) (v:Value),(ys++zs).set (n * 5+k) v=ys++zs.set k v:=fun zs k v=>by rw[<-hn,List.set_append_right _ _ (by omega),Nat.add_sub_cancel_left]
 rw[hs,hs,hs,hs,hs] at h4;exact h4
theorem ZbH {W:World} {g cp n B:Nat} {ys:List Value} (hn:ys.length=n * 5) (h:W.ownsRow B 25 5 (.slice (some ⟨g,0,none⟩) (n+1) cp) (n+1) (ys++Zag)) (k:Nat) (hk:k < 5): ∃v,W.cell? ⟨g,n * 5+k,none⟩=some v/\W.frozen? ⟨g,n * 5+k,none⟩=false:=by
 have h1:=h.cellAt (n * 5+k) (by rw[Nat.add_mul]; omega);rw[List.getElem?_append_right (by omega),hn,Nat.add_sub_cancel_left] at h1;have h2:k < Zag.length:=hk;rw[List.getElem?_eq_getElem h2] at h1;exact ⟨_,h1,h.frozenAt _⟩
structure QX where
 W0:World
 gm:Nat
 hi:Nat
 gp:Nat
 AP:Option Addr
 cP:Nat
 l:List El
 x:El
namespace QX
variable (X : QX)
def val (j:Nat):Option Value:=match j with
 | 0 | 8=>some (.pointer (some ⟨X.gm,4,none⟩))
 | 1=>some (.slice X.AP X.l.length X.cP)
 | 2=>some (sv X.x.1 X.x.2)
 | 3=>some (.int .i64 (X.l.length:Int))
 | _=>none
def set (b:Nat):Prop:=b=X.gm\/rowB X.AP=some b
structure Good:Prop where
 gh:X.gm < X.hi
 hw:X.hi<=X.gp
 pw:X.gp < X.W0.heap.size
 c4:X.W0.cell? ⟨X.gm,4,none⟩=some (.slice X.AP X.l.length X.cP)
 fz: ∀j,X.W0.frozen? ⟨X.gm,j,none⟩=false
 rP:X.W0.ownsRow X.hi 25 5 (.slice X.AP X.l.length X.cP) X.l.length (cellsE X.l)
 bp:rowB X.AP≠some X.gp
 box:Sh5 X.W0 X.gp 0 X.x.1 X.x.2
 ll:X.l.length<=1000
structure QI (d:Nat->Bool) (u:Nat->Value) (W:World):Prop where
 vals: ∀j,d j=true-> ∀v,X.val j=some v->u j=v
 up:Upd X.set X.W0 W
 f4:d 4=true->d 5=false-> ∃z,u 4= .slice (some ⟨z,0,none⟩) 1 1/\X.W0.heap.size<=z/\z < W.heap.size/\ ∀(j:Nat) v,Zag[j]? =some v->W.cell? ⟨z,j,none⟩=some v
 p0:d 5=false->W.ownsRow X.hi 25 5 (.slice X.AP X.l.length X.cP) X.l.length (cellsE X.l)
 p1:d 5=true-> ∃g c,u 5= .slice (some ⟨g,0,none⟩) (X.l.length+1) c/\W.ownsRow X.hi 25 5 (.slice (some ⟨g,0,none⟩) (X.l.length+1) c) (X.l.length+1) (cellsE X.l++if d 7=true then Za9 X.x else Zag)/\(rowB X.AP=some g\/X.W0.heap.size<=g)/\
  (d 6=true->u 6= .pointer (some ⟨g,X.l.length * 5,none⟩))
 c4:W.cell? ⟨X.gm,4,none⟩=some (if d 9=true then u 5 else .slice X.AP X.l.length X.cP)
 cr: ∀j,j < 4->W.cell? ⟨X.gm,j,none⟩=X.W0.cell? ⟨X.gm,j,none⟩
 fz: ∀j,W.frozen? ⟨X.gm,j,none⟩=false
variable {X : QX} {d : Nat -> Bool} {u : Nat -> Value} {W W' : World}
theorem QI.vals' (h:X.QI d u W) {i:Nat} {v:Value} (hv: ∀v',X.val i=some v'->v=v'): ∀j,also d i j=true-> ∀v',X.val j=some v'->upd u i v j=v':=fun j hj v' hv'=>by
 by_cases hij:j=i
 {subst hij; rw[Z2p]; exact hv v' hv'}
 {rw[Za3 d hij] at hj; rw[Z15 u v hij]; exact h.vals j hj v' hv'}
theorem Good.start (h:X.Good):X.QI (fun _=>false) u X.W0.drew:=
 ⟨nofun,(Upd.refl _ _).drew,nofun,fun _=>h.rP,nofun,h.c4,fun _ _=>rfl,h.fz⟩
theorem QI.pure (h:X.QI d u W) {i:Nat} (hi:i≠4/\i≠5/\i≠6/\i≠7/\i≠9) {v:Value} (hv: ∀v',X.val i=some v'->v=v'):X.QI (also d i) (upd u i v) W:=by
 have k: ∀j,j=4\/j=5\/j=6\/j=7\/j=9->also d i j=d j/\upd u i v j=u j:=fun j hj=>⟨Za3 d (by omega),Z15 u v (by omega)⟩;refine ⟨h.vals' hv,h.up, ?_, ?_, ?_, ?_,h.cr,h.fz⟩
 {rw[(k 4 (by omega)).1,(k 4 (by omega)).2,(k 5 (by omega)).1]; exact h.f4}
 {rw[(k 5 (by omega)).1]; exact h.p0}
 {rw[(k 5 (by omega)).1,(k 5 (by omega)).2,(k 7 (by omega)).1,(k 6 (by omega)).1,(k 6 (by omega)).2]; exact h.p1}
 {rw[(k 9 (by omega)).1,(k 5 (by omega)).2]; exact h.c4}
theorem QI.box (h:X.QI d u W) (hX:X.Good):Sh5 W X.gp 0 X.x.1 X.x.2:=
 hX.box.of (fun k=>h.up.cell hX.pw (fun hs=>by
  rcases hs with hs | hs
  {have:=hX.gh; have:=hX.hw; omega}
  · exact hX.bp hs))
theorem QI.gmw (h:X.QI d u W) (hX:X.Good):X.gm < W.heap.size:=by have:=hX.gh; have:=hX.hw; have:=hX.pw; have:=h.up.size; omega
theorem not_gm (hX:X.Good) {W':World} {g n c e s m:Nat} {xs:List Value} (r:W'.ownsRow X.hi e s (.slice (some ⟨g,0,none⟩) n c) m xs):g≠X.gm:=by
 have h1:=(r.lt g rfl).1;have:=hX.gh;omega
section
variable (h : X.QI d u W) (hX : X.Good)
include h hX
theorem QI.s4:X.QI (also d 4) (upd u 4 (.slice (some ⟨W.heap.size,0,none⟩) 1 1)) (W.alloc (.cells Yb 25)):=by
 have hb:=Z01 W (.cells Yb 25);have hu:Upd (fun _=>False) W (W.alloc (.cells Yb 25)):=Upd.new hb;have k: ∀j,j≠4->also d 4 j=d j/\ ∀v,upd u 4 v j=u j:=fun j hj=>⟨Za3 d hj,fun v=>Z15 u v hj⟩;have hs:=h.up.size;have hgm:=h.gmw hX;refine ⟨h.vals' (fun v' h=>by cases h),h.up.trans (hu.mono (fun _ _ h=>h.elim)),fun _ _=>⟨W.heap.size,Z2p _ _ _,hs,by simp, ?_⟩, ?_, ?_, ?_,fun j hj=>(hu.cell hgm (fun h=>h)).trans (h.cr j hj),fun j=>(hu.frozen hgm (fun h=>h)).trans (h.fz j)⟩
 {intro j v hv;rcases j with _ | _ | _ | _ | _ | j
  {simp[Zag] at hv; subst hv; simp[go_sem]}
  {simp[Zag] at hv; subst hv; simp[go_sem]}
  {simp[Zag] at hv; subst hv; simp[go_sem]}
  {simp[Zag] at hv; subst hv; simp[go_sem]}
  {simp[Zag] at hv; subst hv; simp[go_sem]}
  {simp[Zag] at hv}}
 {rw[(k 5 (by omega)).1]; exact fun h5=>Za6 (h.p0 h5) hu (fun _ _ h=>h)}
 {rw[(k 5 (by omega)).1,(k 5 (by omega)).2,(k 7 (by omega)).1,(k 6 (by omega)).1,(k 6 (by omega)).2];intro h5;obtain ⟨g,c,e,r,n,m⟩:=h.p1 h5;exact ⟨g,c,e,Za6 r hu (fun _ _ h=>h),n,m⟩}
 {rw[(k 9 (by omega)).1,(k 5 (by omega)).2]; exact (hu.cell hgm (fun h=>h)).trans h.c4}
theorem QI.s5 (h5:d 5=false) (h6:d 6=false) (h7:d 7=false) (h9:d 9=false) {g c:Nat} (hown:W'.ownsRow X.hi 25 5 (.slice (some ⟨g,0,none⟩) (X.l.length+1) c) (X.l.length+1) (cellsE X.l++Zag))
 (hg:W.grownBy W' (rowB X.AP)) (hat:rowB X.AP=some g\/g=W.heap.size):X.QI (also d 5) (upd u 5 (.slice (some ⟨g,0,none⟩) (X.l.length+1) c)) W':=by
 have k: ∀j,j≠5->also d 5 j=d j/\ ∀v,upd u 5 v j=u j:=fun j hj=>⟨Za3 d hj,fun v=>Z15 u v hj⟩;have hu:Upd (fun b=>rowB X.AP=some b) W W':=(Upd.refl _ W).grown hg (fun k h _=>h);have hgm:=h.gmw hX;have hgN: ¬rowB X.AP=some X.gm:=fun e=>by have:=(Za0 hX.rP _ e).1; have:=hX.gh; omega
 have hnz: ∀z,X.W0.heap.size<=z-> ¬rowB X.AP=some z:=fun z hz e=>by have:=(Za0 hX.rP _ e).2; omega
 have hs:=h.up.size;refine ⟨h.vals' (fun v' h=>by cases h),h.up.trans (hu.mono (fun b _ hb=>Or.inr hb)), ?_, ?_, ?_, ?_,fun j hj=>(hu.cell hgm hgN).trans (h.cr j hj),fun j=>(hu.frozen hgm hgN).trans (h.fz j)⟩
 {rw[Zab]; nofun}
 {rw[Zab]; nofun}
 {rw[(k 7 (by omega)).1,(k 6 (by omega)).1,h6,h7];exact fun _=>⟨g,c,Z2p _ _ _,hown,hat.imp id (fun e=>by omega),nofun⟩}
 {rw[(k 9 (by omega)).1,h9];have:=h.c4;rw[h9] at this;exact (hu.cell hgm hgN).trans this}
theorem QI.s6 (h5:d 5=true) {v:Value} (hv: ∀g c,u 5= .slice (some ⟨g,0,none⟩) (X.l.length+1) c->v= .pointer (some ⟨g,X.l.length * 5,none⟩)):X.QI (also d 6) (upd u 6 v) W:=by
 have k: ∀j,j≠6->also d 6 j=d j/\ ∀v,upd u 6 v j=u j:=fun j hj=>⟨Za3 d hj,fun v=>Z15 u v hj⟩;refine ⟨h.vals' (fun v' h=>by cases h),h.up, ?_, ?_, ?_, ?_,h.cr,h.fz⟩
 {rw[(k 5 (by omega)).1,h5]; nofun}
 {rw[(k 5 (by omega)).1]; exact h.p0}
 {rw[(k 5 (by omega)).1,(k 5 (by omega)).2,(k 7 (by omega)).1,Z2p];intro h5;obtain ⟨g,c,e,r,n,m⟩:=h.p1 h5;exact ⟨g,c,e,r,n,fun _=>hv g c e⟩}
 {rw[(k 9 (by omega)).1,(k 5 (by omega)).2]; exact h.c4}
theorem QI.s7 (h5:d 5=true) (h7:d 7=false) {g c:Nat} (e5:u 5= .slice (some ⟨g,0,none⟩) (X.l.length+1) c):X.QI (also d 7) (upd u 7 undef) (layO W g (X.l.length * 5) X.x):=by
 have k: ∀j,j≠7->also d 7 j=d j/\ ∀v,upd u 7 v j=u j:=fun j hj=>⟨Za3 d hj,fun v=>Z15 u v hj⟩;obtain ⟨g',c',e,r,n,m⟩:=h.p1 h5;have ee:=e.symm.trans e5;simp only[Value.slice.injEq,Option.some.injEq,Addr.mk.injEq,and_true] at ee;obtain ⟨rfl,_,rfl⟩:=ee;rw[h7] at r;simp only[Bool.false_eq_true,if_false] at r;obtain ⟨r',hg⟩:=ZcT X.x (ZaH X.l) r;have hu:Upd (fun b=>b=g') W (layO W g' (X.l.length * 5) X.x):=(Upd.refl _ W).grown hg (fun k h _=>by cases h; rfl);have hgm:=h.gmw hX;have hne: ¬X.gm=g':=fun e=>not_gm hX r e.symm;have hs:=h.up.size;have hz: ∀z,X.W0.heap.size<=z->z=g'->X.W0.heap.size<=g':=fun z h1 h2=>by omega
 refine ⟨h.vals' (fun v' h=>by cases h), ?_, ?_, ?_, ?_, ?_,fun j hj=>(hu.cell hgm hne).trans (h.cr j hj),fun j=>(hu.frozen hgm hne).trans (h.fz j)⟩
 {refine ⟨hu.os.trans h.up.os,hu.tape.trans h.up.tape,hu.output.trans h.up.output,Nat.le_trans h.up.size hu.size,fun x h1 h2=>(hu.block x (by omega) (fun e=> ?_)).trans (h.up.block x h1 h2)⟩;have e:x=g':=e;rcases n with n | n
  {exact h2 (Or.inr (by rw[e]; exact n))}
  {omega}}
 {rw[(k 5 (by omega)).1,h5]; nofun}
 {rw[(k 5 (by omega)).1,h5]; nofun}
 {rw[(k 5 (by omega)).2,(k 6 (by omega)).1,(k 6 (by omega)).2,Zab];exact fun _=>⟨g',c',e,by simpa using r',n,m⟩}
 {rw[(k 9 (by omega)).1,(k 5 (by omega)).2]; exact (hu.cell hgm hne).trans h.c4}
theorem QI.s9 (h5:d 5=true) (h9:d 9=false):X.QI (also d 9) (upd u 9 undef) (W.setCell ⟨X.gm,4,none⟩ (u 5)):=by
 have k: ∀j,j≠9->also d 9 j=d j/\ ∀v,upd u 9 v j=u j:=fun j hj=>⟨Za3 d hj,fun v=>Z15 u v hj⟩;have hgm:=h.gmw hX;obtain ⟨g,c,e,r,n,m⟩:=h.p1 h5;have hu:Upd (fun b=>b=X.gm) W (W.setCell ⟨X.gm,4,none⟩ (u 5)):=Upd.set (Upd.refl (fun b=>b=X.gm) W) ⟨X.gm,4,none⟩ (fun _=>rfl) _;refine ⟨h.vals' (fun v' h=>by cases h),h.up.trans (hu.mono (fun b _ hb=>Or.inl hb)), ?_, ?_, ?_, ?_,fun j hj=>(World.cell?_setCell_other _ _ _ _ (fun e=>by have:=congrArg Addr.off e; simp at this; omega)).trans (h.cr j hj),fun j=>(World.frozen?_setCell ..).trans (h.fz j)⟩
 {rw[(k 5 (by omega)).1,h5]; nofun}
 {rw[(k 5 (by omega)).1,h5]; nofun}
 {rw[(k 5 (by omega)).2,(k 7 (by omega)).1,(k 6 (by omega)).1,(k 6 (by omega)).2];exact fun _=>⟨g,c,e,Za6 r hu (fun b hb e2=>not_gm hX r (Eq.trans (show g=b by simpa[rowB] using hb) e2)),n,m⟩}
 {rw[Zab,if_pos rfl,(k 5 (by omega)).2];exact World.cell?_setCell_same _ _ _ h.c4}
end
end QX
end SubM
end Go.Proofs.YthajhofgjhfjeaaDoor
