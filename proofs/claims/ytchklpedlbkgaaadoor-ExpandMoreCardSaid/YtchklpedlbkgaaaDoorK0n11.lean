/- What the proofs of ExpandMore want, part 11. -/
import Derived.Test.YtchklpedlbkgaaaDoorK0n10
set_option linter.unusedVariables false
set_option linter.unusedSimpArgs false
set_option linter.unusedSectionVars false
set_option maxRecDepth 100000
set_option maxHeartbeats 16000000
namespace Go.Proofs.YtchklpedlbkgaaaDoor
section
open Go.RowKit Shp
def Rt8 (t:Sh):Prop:= ∀x∈t.parts,∀(q:Ptr) (w:World),ShAt w w.heap.size q x->Calls Tryd.prog 19 #[.agg (Y8 x q)] w
 fun e w'=> ∃q' F,e= .returned (.agg (Y8 (turned x) q'))/\Own w' q' (turned x) F/\(∀b∈F,w.heap.size<=b)/\Below w.heap.size w w'
structure ChT (W0:World) (ty:TypeId) (size:Nat) (val:Nat->Option Value) (y z:List Value) (lz:Nat) (d:Nat->Bool) (u:Nat->Value) (W:World):Prop where
 bel:Below W0.heap.size W0 W
 vals: ∀j,d j=true-> ∀v,val j=some v->u j=v
 r5:d 5=true->d 8=false->W.ownsRow W0.heap.size ty size (u 5) 1 y
 r8:d 8=true->W.ownsRow W0.heap.size ty size (u 8) (1+lz) (y++z)
 o8:d 8=true->d 5=true
section
variable {W0 W : World} {ty size lz : Nat} {val : Nat -> Option Value} {y z : List Value} {d : Nat -> Bool} {u : Nat -> Value}
theorem ChT.start (W0:World) (ty:TypeId) (size:Nat) (val:Nat->Option Value) (y z:List Value) (lz:Nat) (u:Nat->Value):ChT W0 ty size val y z lz (fun _=>false) u W0:=⟨Below.refl _ _,nofun,nofun,nofun,nofun⟩
section
variable (h : ChT W0 ty size val y z lz d u W)
include h
theorem ChT.vals' {j:Nat} {v:Value} (hv: ∀v',val j=some v'->v=v'): ∀i,also d j i=true-> ∀v',val i=some v'->upd u j v i=v':=fun i hi v' hv'=>by
 by_cases hij:i=j
 {subst hij; rw[Z06]; exact hv v' hv'}
 {rw[Z04 d hij] at hi; rw[Z01 u v hij]; exact h.vals i hi v' hv'}
theorem ChT.pure {j:Nat} (hj:j≠5/\j≠8) (v:Value) (hv: ∀v',val j=some v'->v=v'):ChT W0 ty size val y z lz (also d j) (upd u j v) W:=by
 obtain ⟨j0,j1⟩:=hj;have k5:=Z04 d (show 5≠j by omega);have k8:=Z04 d (show 8≠j by omega);have l5:=Z01 u v (show 5≠j by omega);have l8:=Z01 u v (show 8≠j by omega);refine ⟨h.bel,h.vals' hv, ?_, ?_, ?_⟩
 {rw[k5,k8,l5]; exact h.r5}
 {rw[k8,l8]; exact h.r8}
 {rw[k5,k8]; exact h.o8}
theorem ChT.mk5 (hd:d 5=false) (hval:val 5=none) (hy:y.length=size):
 ChT W0 ty size val y z lz (also d 5) (upd u 5 (.slice (some ⟨W.heap.size,0,none⟩) 1 1)) (W.alloc (.cells y.toArray ty)):=by
 have n8:d 8=false:=by
  cases hq:d 8 with
  | false=>rfl
  | true=>have:=h.o8 hq; rw[hd] at this; cases this
 have k5:=Z0y d 5;have k8:=Z04 d (show 8≠5 by decide);refine ⟨h.bel.trans ((Z00 W (.cells y.toArray ty)).mono h.bel.size),h.vals' (fun v' hv=>by rw[hval] at hv; cases hv), ?_, ?_, ?_⟩
 {intro _ _;rw[Z06];have:=World.ownsRow_lit (base:=W0.heap.size) (e:=ty) (size:=size) W y.toArray 1 h.bel.size (by decide) (by simp[hy]);simpa using this}
 {rw[k8,n8]; exact nofun}
 {rw[k5]; intro _; rfl}
theorem ChT.ap8 (hd:d 8=false) (hval:val 8=none) (hp:d 5=true) {v:Value} {W':World} (hown:W'.ownsRow W0.heap.size ty size v (1+lz) (y++z)) (hg:W.grownBy W' (u 5).ownBlock):
 ChT W0 ty size val y z lz (also d 8) (upd u 8 v) W':=by
 have hr:=h.r5 hp hd;have k8:=Z0y d 8;have k5:=Z04 d (show 5≠8 by decide);refine ⟨h.bel.trans (Y2.grown hg h.bel.size (fun k hk=>(hr.lt k hk).1)),h.vals' (fun v' hv=>by rw[hval] at hv; cases hv), ?_, ?_, ?_⟩
 {rw[k8]; exact nofun}
 {intro _; rw[Z06]; exact hown}
 {rw[k5]; intro _; exact hp}
end
end
def valT (ob sb:Nat) (AN:Option Addr) (m cN:Nat) (qA:Option Addr) (tn qc i:Nat) (pn:Addr) (y:List UInt8):Nat->Option Value
 | 0=>some (.pointer (some ⟨sb,3,none⟩))
 | 1=>some (.slice qA tn qc)
 | 2=>some (.int .i64 (i:Int))
 | 3=>some (.pointer (some pn))
 | 4=>some (.string ⟨y.toArray⟩)
 | 6=>some (.pointer (some ⟨ob,3,none⟩))
 | 7=>some (.slice AN m cN)
 | 9=>some (.pointer (some ⟨ob,3,none⟩))
 | _=>none
def Ru7 (W1 wr:World) (ob:Nat) (t:Sh) (i:Nat):Prop:= ∃l AN cN AP cP,OutS W1 wr ob t.kind t.of_ t.name (l.map El.n) l AN cN AP cP/\l.map pr=((t.names.zip (t.parts.map turned)).take i).reverse
theorem Ru7.push {W1 wr W4 W5:World} {ob:Nat} {t:Sh} {i:Nat} {l:List El} {AN AP:Option Addr} {cN cP:Nat} {x:El} (hO:OutS W1 wr ob t.kind t.of_ t.name (l.map El.n) l AN cN AP cP)
 (hl:l.map pr=((t.names.zip (t.parts.map turned)).take i).reverse) (hi:i < (t.names.zip (t.parts.map turned)).length) (hx:pr x=(t.names.zip (t.parts.map turned))[i]'hi) (hxo:Own wr x.q x.t x.F) (hxf: ∀b∈x.F,W1.heap.size<=b/\rowB AN≠some b/\rowB AP≠some b)
 (f1:FinC wr ob 3 9 1 (l.length+1) ([.string ⟨x.n.toArray⟩]++namesE (l.map El.n)) W4)
 (f2:FinC W4 ob 4 25 5 (l.length+1) (cells5 x++cellsE l) W5):Ru7 W1 W5 ob t (i+1):=by
 obtain ⟨Wm,g,cap,b1,r1,hg,rfl⟩:=f1;obtain ⟨Wn,g2,cap2,b2,r2,hg2,rfl⟩:=f2;have hW:=hO.up.size;have en: [.string ⟨x.n.toArray⟩]++namesE (l.map El.n)=namesE ((x::l).map El.n):=by simp[namesE]
 have ec:cells5 x++cellsE l=cellsE (x::l):=by rw[show x::l= [x]++l from rfl,cellsE_append,cellsE_one]
 have el: (x::l).length=l.length+1:=by simp
 have elm: ((x::l).map El.n).length=l.length+1:=by rw[List.length_map,el]
 rw[en] at r1;rw[ec] at r2;have hO2:OutS W1 (Wm.setCell ⟨ob,3,none⟩ (.slice (some ⟨g,0,none⟩) ((x::l).map El.n).length cap)) ob t.kind t.of_ t.name ((x::l).map El.n) l (some ⟨g,0,none⟩) cap AP cP:=
  hO.putN b1 (by rw[elm]; exact Z47 r1 hW) hg
 rw[elm] at hO2;have hxo2:Own (Wm.setCell ⟨ob,3,none⟩ (.slice (some ⟨g,0,none⟩) (l.length+1) cap)) x.q x.t x.F:=(Z0p hxo b1).of (fun b hb=>Z0m _ _ _ (fun e=>by
  have:=(hxf b hb).1; have:=hO.lt;simp at e; omega)) (by simp[World.setCell])
 have hO3:=hO2.putP (l':=x::l) (g:=g2) (cap:=cap2) (Wm:=Wn) ⟨b2.os,b2.tape,b2.output,b2.size,fun j hj _=>b2.block j hj⟩
  (by rw[el]; exact Z47 r2 (hO2.up.size)) (Or.inr hg2) (fun y hy=>by
   rcases List.mem_cons.1 hy with rfl | hy
   {refine ⟨hxo2,fun b hb=>⟨(hxf b hb).1,fun e=> ?_,(hxf b hb).2.2⟩⟩;have e2:g=b:=Option.some.inj e;have:=hxo.lt b hb;omega}
   · exact ⟨hO2.own y hy,fun b hb=>hO2.fs y hy b hb⟩)
 rw[el] at hO3;refine ⟨x::l,some ⟨g,0,none⟩,cap,some ⟨g2,0,none⟩,cap2, ?_, ?_⟩
 {rw[<-elm, <-el] at *;exact hO3}
 {rw[Z1m hi,List.reverse_append, <-hl, <-hx]; rfl}
section
variable (t : Sh) (q : Ptr) (w : World) (hq : ShAt w w.heap.size q t) (hz : t.parts.length <= 400)
include t q w hq hz
theorem Z5R (hn:t.names= []) (hf:Rt8 t):
 Calls Tryd.prog 19 #[.agg #[.int .i64 t.kind,.string ⟨t.of_.toArray⟩,.string ⟨t.name.toArray⟩,.slice q.A t.names.length q.c,.slice q.P t.parts.length q.d]] w
  fun e w'=> ∃q' F,e= .returned (.agg #[.int .i64 (turned t).kind,.string ⟨(turned t).of_.toArray⟩,.string ⟨(turned t).name.toArray⟩,.slice q'.A (turned t).names.length q'.c,.slice q'.P (turned t).parts.length q'.d])/\Own w' q' (turned t) F/\(∀b∈F,w.heap.size<=b)/\Below w.heap.size w w':=by
 have HS:Hid (turned t=⟨t.kind,t.of_,t.name,[],t.parts.map turned⟩):=Y1 (by rw[Z16,if_pos hn]);have HBW:=Y1 (Z3o w t q);have HBA:=Y1 (Z54 w t q);have HBR:=Y1 (Z55 w t q);have HBO:=Y1 (Z56 w t q);have HSZ:=Y1 (Z46 w t q);have HQ:=Y1 hq;have HP:=Y1 hq.part;have HF:=Y1 hf;have hn0: (t.names.length:Int)=0:=by rw[hn]; rfl
 have HB0:=Y1 (Z07 w t q);obtain ⟨b1,⟨c0,c1,c2,c3,c4⟩,b2⟩:=HB0.out;clear hq hf hn b1 b2;go_enter Tryd.func19,Tryd.ntmps19
 go_wp2_with fail
 clear c0 c1 c2 c3 c4 HB0;change Code.wp _ _ _ _ (rW w t q);obtain ⟨ob,hob⟩: ∃ob,ob=w.heap.size+1+1:=⟨_,rfl⟩;have HOB:=Y1 hob;have HBO2:Hid (OutS (rW w t q) (rW w t q) ob t.kind t.of_ t.name [] [] none 0 none 0):=Y1 (by rw[hob]; exact HBO.out);rw[<-hob];generalize rW w t q=W1 at HBW HBA HBR HBO2 HSZ ⊢;have hsw:w.heap.size≠ob:=by omega
 clear HBO hob
 go_loopw [4] (fun ii wr=> ∃i:Nat,ii= .int .i64 i/\i<=t.parts.length/\Hid (Rp7 W1 wr ob t turned i)) (fun i _=>t.parts.length - (intOf i).toNat)
 case atStart=>exact ⟨0,rfl,Nat.zero_le _,Y1 ⟨[],none,0,HBO2.out,by simp⟩⟩
 case round=>
  obtain ⟨i,rfl,hi,HR⟩:=hrel;obtain ⟨l,AP,cP,hO,hl⟩:=HR.out;have hli:l.length=i:=by
   have:=congrArg List.length hl;rw[List.length_map,List.length_take,List.length_map] at this;omega
  have hbw:Below w.heap.size w wr:=hO.up.old HBW.out (by have:=HOB.out; omega);have HBX:=Y1 (hO.box HBA.out hsw);obtain ⟨b1,⟨c0,c1,c2,c3,c4⟩,b2⟩:=HBX.out;simp only[Nat.zero_add] at c0 c1 c2 c3 c4;clear b1 b2;by_cases hlt:i < t.parts.length
  {rcases HP.out with h0 | ⟨g,off,qs,hqP,hg,hc,hr⟩
   {omega}
   {obtain ⟨x,hx⟩: ∃x,x=t.parts[i]:=⟨_,rfl⟩;obtain ⟨p0,p1,p2,p3,p4⟩:=(hc i hlt).keep hg hbw;have IH:=Y1 (HF.out t.parts[i] (List.getElem_mem _) (qs i) wr ((hr i hlt).keep hbw (Nat.le_refl _) |>.more hbw.size));rw[<-hx] at p0 p1 p2 p3 p4 IH;have HX:=Y1 hx;have HL:=Y1 hl;have HO:=Y1 hO;have HLI:=Y1 hli;have HBWR:=Y1 hbw;have hi1: (i:Int) < (t.parts.length:Int):=by omega
    have hgw:g < wr.heap.size:=Nat.lt_of_lt_of_le hg hbw.size;rw[hqP] at c4;have HQP:=Y1 hqP;clear hx hl hO hli hbw hc hr hqP HR
    go_wp2_with fail
    refine IH.out.mono ?_;rintro e w2 ⟨q',F,rfl,ho,hF,hb2⟩;obtain ⟨z,hz⟩: ∃z,z=turned x:=⟨_,rfl⟩;rw[<-hz] at ho ⊢;have hO3:=(HO.out.below hb2).below (Z00 w2 (.cells #[.int .i64 z.kind,.string ⟨z.of_.toArray⟩,.string ⟨z.name.toArray⟩,.slice q'.A z.names.length q'.c,.slice q'.P z.parts.length q'.d] 25));have hBX3:=(HBX.out.next hb2).next (Z00 w2 (.cells #[.int .i64 z.kind,.string ⟨z.of_.toArray⟩,.string ⟨z.name.toArray⟩,.slice q'.A z.names.length q'.c,.slice q'.P z.parts.length q'.d] 25));have hnz:=Z07 w2 z q';have HO3:=Y1 hO3;have HOW:=Y1 (Z0p ho (Z00 w2 (.cells #[.int .i64 z.kind,.string ⟨z.of_.toArray⟩,.string ⟨z.name.toArray⟩,.slice q'.A z.names.length q'.c,.slice q'.P z.parts.length q'.d] 25)));have HFB:Hid (∀b∈F,W1.heap.size<=b/\rowB AP≠some b):=Y1 (fun b hb=>by
     have h1:=hF b hb;have h2:=HO.out.up.size;refine ⟨by omega,fun e=> ?_⟩;have:=(OutS.row HO.out.rP b e).2;omega)
    obtain ⟨b1,⟨k0,k1,k2,k3,k4⟩,b2⟩:=hBX3;obtain ⟨b3,⟨m0,m1,m2,m3,m4⟩,b4⟩:=hnz;simp only[Nat.zero_add] at k0 k1 k2 k3 k4 m0 m1 m2 m3 m4;have o4:=hO3.c4;have fz4:=hO3.fz 4;have HZ:=Y1 hz;have hl400:l.length<=400:=by have:=HLI.out; omega
    obtain ⟨i0,hi2,hz0,hz1,hz2⟩:=info_parts (P:=Tryd.prog) (e:=25) (z:= .agg #[.int .i64 0,.string ByteArray.empty,.string ByteArray.empty,.slice none 0 0,.slice none 0 0]) (size:=5) (bytes:=88) Z1e;clear hO3 ho hF hz b1 b2 b3 b4 c0 c1 c2 c3 c4 p0 p1 p2 p3 p4 IH
    go_wp2_with (at_builtin; refine wpList_append_own_at _ rfl _ _ 23 rfl W1.heap.size 25 i0 (.agg #[.int .i64 0,.string ByteArray.empty,.string ByteArray.empty,.slice none 0 0,.slice none 0 0]) 5 88 Tryd.underlying23 hi2 hz0 hz1 hz2 rfl (by decide) _ _ _ rfl (HO3.out.rP.alloc _) ⟨w2.heap.size+1,0,none⟩ 1 1 (cells5 ⟨[],z,q',F⟩) rfl rfl (Zay _ ⟨[],z,q',F⟩ _ (by simp)) (cells5_one _) (by unfold maxLen; omega) (by omega) (by have:=HO3.out.up.size; simp at this ⊢; omega) ?_)
    intro v' W3 hrow hg3 _ hat;obtain ⟨g3,cap,rfl,_,_⟩:=hrow.form (by omega);simp only[rowB_own] at hg3 hat;have hat2:rowB AP=some g3\/g3=((w2.alloc (.cells #[.int .i64 z.kind,.string ⟨z.of_.toArray⟩,.string ⟨z.name.toArray⟩,.slice q'.A z.names.length q'.c,.slice q'.P z.parts.length q'.d] 25)).alloc (.cells #[.int .i64 z.kind,.string ⟨z.of_.toArray⟩,.string ⟨z.name.toArray⟩,.slice q'.A z.names.length q'.c,.slice q'.P z.parts.length q'.d] 25)).heap.size:=by
     rcases hat with h | h
     {exact Or.inl h.symm}
     {exact Or.inr (by have:=Option.some.inj h; simp at this ⊢; omega)}
    have HN:Hid (Rp7 W1 (W3.setCell ⟨ob,4,none⟩ (.slice (some ⟨g3,0,none⟩) (l.length+1) cap)) ob t turned (i+1)):=Y1 (Rp7.push (x:=⟨[],z,q',F⟩) HO3.out HL.out hlt (by rw[<-HX.out, <-HZ.out]) HOW.out HFB.out hg3 hat2 hrow);have hobr:some ob≠rowB AP:=fun e=>by have:=(OutS.row HO3.out.rP ob e.symm).1; have:=HO3.out.lt; omega
    have hobl:ob < ((w2.alloc (.cells #[.int .i64 z.kind,.string ⟨z.of_.toArray⟩,.string ⟨z.name.toArray⟩,.slice q'.A z.names.length q'.c,.slice q'.P z.parts.length q'.d] 25)).alloc (.cells #[.int .i64 z.kind,.string ⟨z.of_.toArray⟩,.string ⟨z.name.toArray⟩,.slice q'.A z.names.length q'.c,.slice q'.P z.parts.length q'.d] 25)).heap.size:=by
     have:=HO3.out.up.size; have:=HO3.out.lt; simp at *; omega
    have x4:=(World.cell?_of_block (w:=(w2.alloc (.cells #[.int .i64 z.kind,.string ⟨z.of_.toArray⟩,.string ⟨z.name.toArray⟩,.slice q'.A z.names.length q'.c,.slice q'.P z.parts.length q'.d] 25)).alloc (.cells #[.int .i64 z.kind,.string ⟨z.of_.toArray⟩,.string ⟨z.name.toArray⟩,.slice q'.A z.names.length q'.c,.slice q'.P z.parts.length q'.d] 25)) (a:=⟨ob,4,none⟩) (hg3.block ob hobl hobr)).trans (((Z00 (w2.alloc (.cells #[.int .i64 z.kind,.string ⟨z.of_.toArray⟩,.string ⟨z.name.toArray⟩,.slice q'.A z.names.length q'.c,.slice q'.P z.parts.length q'.d] 25)) (.cells #[.int .i64 z.kind,.string ⟨z.of_.toArray⟩,.string ⟨z.name.toArray⟩,.slice q'.A z.names.length q'.c,.slice q'.P z.parts.length q'.d] 25)).cell (p:=⟨ob,4,none⟩) (by simp at hobl ⊢; have:=HO3.out.up.size; have:=HO3.out.lt; simp at *; omega)).trans HO3.out.c4);have xf:=(World.frozen?_of_block (w:=(w2.alloc (.cells #[.int .i64 z.kind,.string ⟨z.of_.toArray⟩,.string ⟨z.name.toArray⟩,.slice q'.A z.names.length q'.c,.slice q'.P z.parts.length q'.d] 25)).alloc (.cells #[.int .i64 z.kind,.string ⟨z.of_.toArray⟩,.string ⟨z.name.toArray⟩,.slice q'.A z.names.length q'.c,.slice q'.P z.parts.length q'.d] 25)) (a:=⟨ob,4,none⟩) (hg3.block ob hobl hobr)).trans (((Z00 (w2.alloc (.cells #[.int .i64 z.kind,.string ⟨z.of_.toArray⟩,.string ⟨z.name.toArray⟩,.slice q'.A z.names.length q'.c,.slice q'.P z.parts.length q'.d] 25)) (.cells #[.int .i64 z.kind,.string ⟨z.of_.toArray⟩,.string ⟨z.name.toArray⟩,.slice q'.A z.names.length q'.c,.slice q'.P z.parts.length q'.d] 25)).frozen (p:=⟨ob,4,none⟩) (by simp at hobl ⊢; have:=HO3.out.up.size; have:=HO3.out.lt; simp at *; omega)).trans (HO3.out.fz 4));clear hrow hg3 hat hat2 hobr hobl o4 fz4 k0 k1 k2 k3 k4 m0 m1 m2 m3 m4;go_wp2
    go_roundw
    case rel=>exact ⟨i+1,by go_num,by omega,HN⟩
    case measure=>simp[intOf]; omega}}
  {have hie:i=t.parts.length:=by omega
   have HLL:=Y1 hli;have HE:Hid (l.map El.t=t.parts.map turned):=Y1 (by rw[hl,hie,List.take_of_length_le (by simp)]);have hi1: ¬(i:Int) < (t.parts.length:Int):=by omega
   have HO:=Y1 hO;have HBWR:=Y1 hbw;have HER:=Y1 (hO.box HBR.out (by have:=HOB.out; omega));have HOO:=Y1 (show w.heap.size+1≠ob by have:=HOB.out; omega);obtain ⟨_,⟨r0,r1,r2,r3,r4⟩,f0,f1,f2,f3,f4⟩:=HER.out;simp only[Nat.zero_add] at r0 r1 r2 r3 r4;have o0:=hO.c0;have o1:=hO.c1;have o2:=hO.c2;have o3:=hO.c3;have o4:=hO.c4;clear hO hl hbw;have hne:ob≠w.heap.size+1:=fun e=>HOO.out e.symm;go_wp2;refine bodyPost_ret (v:= .agg #[.int .i64 t.kind,.string ⟨t.of_.toArray⟩,.string ⟨t.name.toArray⟩,.slice none 0 0,.slice AP t.parts.length cP]) (by simp[results,Tryd.results19,go_sem,r0,r1,r2,r3,r4]) rfl ?_;have hsm:=HQ.out.small;have hnn: (turned t).names= []:=by rw[HS.out]
   have hpp: (turned t).parts=l.map El.t:=by rw[HS.out,HE.out]
   have hoo: (turned t).of_=t.of_:=by rw[HS.out]
   have hna: (turned t).name=t.name:=by rw[HS.out]
   have hkk: (turned t).kind=t.kind:=by rw[HS.out]
   obtain ⟨ho,hF⟩:=HO.out.result (u:=turned t) hnn hpp (by rw[hoo]; exact hsm.o) (by rw[hna]; exact hsm.n) (by rw[hnn]; nofun) (by simp) (by have:=HLL.out; omega);have h5:=Z1a (b:=w.heap.size+1) ho (fun b hb e=>by have:=hF b hb; have:=HSZ.out; omega) (.int .i64 t.kind) (.string ⟨t.of_.toArray⟩) (.string ⟨t.name.toArray⟩) (.slice none 0 0) (.slice AP t.parts.length cP);have h6:=Z0n (b:=w.heap.size+1) HBWR.out (by omega) (.int .i64 t.kind) (.string ⟨t.of_.toArray⟩) (.string ⟨t.name.toArray⟩) (.slice none 0 0) (.slice AP t.parts.length cP);refine ⟨⟨none,0,AP,cP⟩, ?_,(rowB none).toList++(rowB AP).toList++l.flatMap El.F,h5,fun b hb=>by have:=hF b hb; have:=HSZ.out; omega,h6⟩;rw[hkk,hoo,hna,hnn,hpp,List.length_map,HLL.out,hie];rfl}
theorem Z5S (hn:t.names≠ []) (hlen:t.names.length=t.parts.length) (hf:Rt8 t):
 Calls Tryd.prog 19 #[.agg #[.int .i64 t.kind,.string ⟨t.of_.toArray⟩,.string ⟨t.name.toArray⟩,.slice q.A t.names.length q.c,.slice q.P t.parts.length q.d]] w
  fun e w'=> ∃q' F,e= .returned (.agg #[.int .i64 (turned t).kind,.string ⟨(turned t).of_.toArray⟩,.string ⟨(turned t).name.toArray⟩,.slice q'.A (turned t).names.length q'.c,.slice q'.P (turned t).parts.length q'.d])/\Own w' q' (turned t) F/\(∀b∈F,w.heap.size<=b)/\Below w.heap.size w w':=by
 have HS:Hid (turned t=⟨t.kind,t.of_,t.name,t.names.reverse,(t.parts.map turned).reverse⟩):=Y1 (by rw[Z16,if_neg hn]);have HZL:Hid ((t.names.zip (t.parts.map turned)).length=t.parts.length):=Y1 (by rw[List.length_zip,List.length_map]; omega);have HZA:Hid (∀i (h:i < t.parts.length) (h1:i < t.names.length) (h2:i < (t.names.zip (t.parts.map turned)).length),(t.names.zip (t.parts.map turned))[i]'h2=(t.names[i]'h1,turned (t.parts[i]'h))):=Y1 (fun i h h1 h2=>by rw[List.getElem_zip,List.getElem_map]);have HBW:=Y1 (Z3o w t q);have HBA:=Y1 (Z54 w t q);have HBR:=Y1 (Z55 w t q);have HBO:=Y1 (Z56 w t q);have HSZ:=Y1 (Z46 w t q);have HQ:=Y1 hq;have HP:=Y1 hq.part;have HT:=Y1 hq.strs;have HF:=Y1 hf;have HLEN:=Y1 hlen;have hn0: ((t.names.length:Int)==0)=false:=by
  rw[beq_eq_false_iff_ne];intro e;exact hn (List.eq_nil_of_length_eq_zero (by omega))
 have HB0:=Y1 (Z07 w t q);obtain ⟨b1,⟨c0,c1,c2,c3,c4⟩,b2⟩:=HB0.out;clear hq hf hn b1 b2 hlen;go_enter Tryd.func19,Tryd.ntmps19
 go_wp2_with fail
 clear c0 c1 c2 c3 c4 HB0;change Code.wp _ _ _ _ (rW w t q);obtain ⟨ob,hob⟩: ∃ob,ob=w.heap.size+1+1:=⟨_,rfl⟩;have HOB:=Y1 hob;have HBO2:Hid (OutS (rW w t q) (rW w t q) ob t.kind t.of_ t.name [] [] none 0 none 0):=Y1 (by rw[hob]; exact HBO.out);rw[<-hob];generalize rW w t q=W1 at HBW HBA HBR HBO2 HSZ ⊢;have hsw:w.heap.size≠ob:=by omega
 clear HBO hob
 go_loopw [4] (fun ii wr=> ∃i:Nat,ii= .int .i64 i/\i<=t.parts.length/\Hid (Ru7 W1 wr ob t i)) (fun i _=>t.parts.length - (intOf i).toNat)
 case atStart=>exact ⟨0,rfl,Nat.zero_le _,Y1 ⟨[],none,0,none,0,HBO2.out,rfl⟩⟩
 case round=>
  obtain ⟨i,rfl,hi,HR⟩:=hrel;obtain ⟨l,AN,cN,AP,cP,hO,hl⟩:=HR.out;have hli:l.length=i:=by
   have:=congrArg List.length hl;rw[List.length_map,List.length_reverse,List.length_take] at this;have:=HZL.out;omega
  have hbw:Below w.heap.size w wr:=hO.up.old HBW.out (by have:=HOB.out; omega);have HBX:=Y1 (hO.box HBA.out hsw);obtain ⟨b1,⟨c0,c1,c2,c3,c4⟩,b2⟩:=HBX.out;simp only[Nat.zero_add] at c0 c1 c2 c3 c4;clear b1 b2;by_cases hlt:i < t.parts.length
  {rcases HP.out with h0 | ⟨g,off,qs,hqP,hg,hc,hr⟩
   {omega}
   {have hin:i < t.names.length:=by have:=HLEN.out; omega
    rcases HT.out.cell7 with h0 | ⟨gn,offn,hqA,hgn,hcn⟩
    {omega}
    have y1:=(hbw.cell (p:=⟨gn,offn+i,none⟩) hgn).trans (hcn i hin);obtain ⟨x,hx⟩: ∃x,x=t.parts[i]:=⟨_,rfl⟩;obtain ⟨y,hy⟩: ∃y,y=t.names[i]'hin:=⟨_,rfl⟩;obtain ⟨p0,p1,p2,p3,p4⟩:=(hc i hlt).keep hg hbw;have IH:=Y1 (HF.out t.parts[i] (List.getElem_mem _) (qs i) wr ((hr i hlt).keep hbw (Nat.le_refl _) |>.more hbw.size));rw[<-hx] at p0 p1 p2 p3 p4 IH;rw[<-hy] at y1;have HZI:Hid (∀h,(t.names.zip (t.parts.map turned))[i]'h=(y,turned x)):=Y1 (fun h=>by rw[hx,hy]; exact HZA.out i hlt hin h);have HL:=Y1 hl;have HO:=Y1 hO;have HLI:=Y1 hli;have hl400:l.length<=400:=by omega
    have HBWR:=Y1 hbw;have HY1:=Y1 y1;have HGN:Hid (gn < w.heap.size):=Y1 hgn;have hi1: (i:Int) < (t.parts.length:Int):=by omega
    have hi2: (i:Int) < (t.names.length:Int):=by omega
    have hgw:g < wr.heap.size:=Nat.lt_of_lt_of_le hg hbw.size;rw[hqP] at c4;have HQA:=Y1 hqA;clear hx hy hl hO hli hbw hc hr hqP HR hqA hcn y1 hin
    go_wp2_with fail
    refine IH.out.mono ?_;rintro e w2 ⟨q',F,rfl,ho,hF,hb2⟩;obtain ⟨z,hz'⟩: ∃z,z=turned x:=⟨_,rfl⟩;rw[<-hz'] at ho HZI ⊢;have HPB:Hid (w2.heap.size≠ob):=Y1 (by have:=HO.out.lt; have:=HO.out.up.size; have:=hb2.size; omega);have HO3:=Y1 ((HO.out.below hb2).below (Z00 w2 (.cells #[.int .i64 z.kind,.string ⟨z.of_.toArray⟩,.string ⟨z.name.toArray⟩,.slice q'.A z.names.length q'.c,.slice q'.P z.parts.length q'.d] 25)));have HBX3:=Y1 ((HBX.out.next hb2).next (Z00 w2 (.cells #[.int .i64 z.kind,.string ⟨z.of_.toArray⟩,.string ⟨z.name.toArray⟩,.slice q'.A z.names.length q'.c,.slice q'.P z.parts.length q'.d] 25)));have HNZ:=Y1 (Z07 w2 z q');have HOW:=Y1 (Z0p ho (Z00 w2 (.cells #[.int .i64 z.kind,.string ⟨z.of_.toArray⟩,.string ⟨z.name.toArray⟩,.slice q'.A z.names.length q'.c,.slice q'.P z.parts.length q'.d] 25)));have HFB:Hid (∀b∈F,W1.heap.size<=b/\rowB AN≠some b/\rowB AP≠some b):=Y1 (fun b hb=>by
     have h1:=hF b hb;have h2:=HO.out.up.size;refine ⟨by omega,fun e=> ?_,fun e=> ?_⟩
     {have:=(OutS.row HO.out.rN b e).2; omega}
     · have:=(OutS.row HO.out.rP b e).2; omega)
    have hbw3:=Z02 (Z02 HBWR.out (hb2.mono (Nat.le_refl _))) (Z00 w2 (.cells #[.int .i64 z.kind,.string ⟨z.of_.toArray⟩,.string ⟨z.name.toArray⟩,.slice q'.A z.names.length q'.c,.slice q'.P z.parts.length q'.d] 25));have HBW3:=Y1 hbw3;have HY3:Hid ((w2.alloc (.cells #[.int .i64 z.kind,.string ⟨z.of_.toArray⟩,.string ⟨z.name.toArray⟩,.slice q'.A z.names.length q'.c,.slice q'.P z.parts.length q'.d] 25)).cell? ⟨gn,offn+i,none⟩=some (.string ⟨y.toArray⟩)):=Y1 ((((Z02 hb2 (Z00 w2 (.cells #[.int .i64 z.kind,.string ⟨z.of_.toArray⟩,.string ⟨z.name.toArray⟩,.slice q'.A z.names.length q'.c,.slice q'.P z.parts.length q'.d] 25)))).cell (p:=⟨gn,offn+i,none⟩) (Nat.lt_of_lt_of_le HGN.out HBWR.out.size)).trans HY1.out);obtain ⟨b1,⟨k0,k1,k2,k3,k4⟩,b2⟩:=HBX3.out;simp only[Nat.zero_add] at k0 k1 k2 k3 k4;clear ho hF hz' b1 b2 c0 c1 c2 c3 c4 p0 p1 p2 p3 p4 IH hbw3 hb2;have hxe: (⟨y,z,q',F⟩:El).n=y:=rfl
    go_wp2_with fail
    generalize w2.alloc (.cells #[.int .i64 z.kind,.string ⟨z.of_.toArray⟩,.string ⟨z.name.toArray⟩,.slice q'.A z.names.length q'.c,.slice q'.P z.parts.length q'.d] 25)=W3 at HO3 HBX3 HNZ HOW HBW3 HY3 k0 k1 k2 k3 k4 ⊢;clear k0 k1 k2 k3 k4;obtain ⟨wd,hwd⟩: ∃wd,wd=W3.drew:=⟨_,rfl⟩;have HDW:Hid (Below W3.heap.size W3 wd):=Y1 (by rw[hwd]; exact Y2.drew);have HO4:=Y1 (HO3.out.below HDW.out);have HBX4:=Y1 (HBX3.out.next HDW.out);have HNZ4:=Y1 (HNZ.out.next HDW.out);have HOW4:=Y1 (Z0p HOW.out HDW.out);have HY4:Hid (wd.cell? ⟨gn,offn+i,none⟩=some (.string ⟨y.toArray⟩)):=Y1 ((HDW.out.cell (p:=⟨gn,offn+i,none⟩) (Nat.lt_of_lt_of_le HGN.out HBW3.out.size)).trans HY3.out);have HGD:Hid (gn < wd.heap.size):=Y1 (Nat.lt_of_lt_of_le HGN.out (Nat.le_trans HBW3.out.size HDW.out.size));have HOBD:Hid (ob < wd.heap.size):=Y1 (Nat.lt_of_lt_of_le HO4.out.lt HO4.out.up.size);have HRN:Hid (wd.ownsRow W1.heap.size 9 1 (.slice AN l.length cN) l.length (namesE (l.map El.n))):=Y1 (by have:=HO4.out.rN; rwa [List.length_map] at this);have HRP:Hid (wd.ownsRow W1.heap.size 25 5 (.slice AP l.length cP) l.length (cellsE l)):=Y1 HO4.out.rP;have HC3:Hid (wd.cell? ⟨ob,3,none⟩=some (.slice AN l.length cN)):=Y1 (by have:=HO4.out.c3; rwa [List.length_map] at this);obtain ⟨i0n,hin,hzn0,hzn1,hzn2⟩:=info_parts (P:=Tryd.prog) (e:=9) (z:= .string ByteArray.empty) (size:=1) (bytes:=16) Z3I;obtain ⟨i0p,hip,hzp0,hzp1,hzp2⟩:=info_parts (P:=Tryd.prog) (e:=25) (z:= .agg #[.int .i64 0,.string ByteArray.empty,.string ByteArray.empty,.slice none 0 0,.slice none 0 0]) (size:=5) (bytes:=88) Z1e;rw[hwd] at HO4 HBX4 HNZ4 HOW4 HY4 HGD HOBD HRN HRP HC3;clear hwd HDW;refine Z30 (rs:= [0,1,2,3,4,5,6,7,8,9,10])
     (fun u'=> { tmps:=#[.agg #[.int .i64 t.kind,.string { data:=t.of_.toArray },.string { data:=t.name.toArray },.slice q.A t.names.length q.c,.slice q.P t.parts.length q.d],.pointer (some { block:=w.heap.size,off:=0 }),.pointer (some { block:=w.heap.size+1,off:=0 }),.pointer (some { block:=ob,off:=0 }),.int .i64 ↑i,.pointer (some { block:=w2.heap.size,off:=0 }),.pointer (some { block:=w.heap.size,off:=0 }),.int .i64 t.kind,.pointer (some { block:=w.heap.size,off:=1 }),.string { data:=t.of_.toArray },.pointer (some { block:=w.heap.size,off:=2 }),.string { data:=t.name.toArray },.agg #[.int .i64 t.kind,.string { data:=t.of_.toArray },.string { data:=t.name.toArray },.slice none 0 0,.slice none 0 0],.int .i64 ↑i,.pointer (some { block:=w.heap.size,off:=4 }),.slice (some { block:=g,off:=off }) t.parts.length q.d,.int .i64 ↑t.parts.length,.bool true,u18,u19,.pointer (some { block:=w.heap.size,off:=4 }),.slice (some { block:=g,off:=off }) t.parts.length q.d,.int .i64 ↑i,.pointer (some { block:=g,off:=off+i * 5 }),.agg #[.int .i64 x.kind,.string { data:=x.of_.toArray },.string { data:=x.name.toArray },.slice (qs i).A x.names.length (qs i).c,.slice (qs i).P x.parts.length (qs i).d],.agg #[.int .i64 z.kind,.string { data:=z.of_.toArray },.string { data:=z.name.toArray },.slice q'.A z.names.length q'.c,.slice q'.P z.parts.length q'.d],.pointer (some { block:=w.heap.size,off:=3 }),.slice q.A t.names.length q.c,.int .i64 ↑t.names.length,.bool false,u30,u31,u32,u33,u34,u35,u' 0,u' 1,u' 2,u' 3,u' 4,u' 5,u' 6,u' 7,u' 8,u' 9,u46,u47,u48,u49,u50,u51,undef],defers:= [] })
     (fun j=>([u36,u37,u38,u39,u40,u41,u42,u43,u44,u45,undef]:List Value).getD j undef) (InvC 10 (ChT W3.drew 9 1 (valT ob w.heap.size AN l.length cN (some ⟨gn,offn,none⟩) t.names.length q.c i ⟨gn,offn+i,none⟩ y) [.string ⟨y.toArray⟩] (namesE (l.map El.n)) l.length) (FinC W3.drew ob 3 9 1 (l.length+1) ([.string ⟨y.toArray⟩]++namesE (l.map El.n)))) (by kernel_rfl) (by kernel_rfl) (by kernel_rfl) (Or.inl ⟨rfl,ChT.start _ _ _ _ _ _ _ _⟩) ?_ ?_
    refine StepsInv.cons _ rfl (fun d u' W K' hI hd hw hK=> ?_) ?_
    {obtain ⟨hS,hC⟩:=hI.open hd (by decide);refine Z03 (v:= .pointer (some ⟨w.heap.size,3,none⟩)) (W':=W) rfl ?_ (hK.out _ _ (InvC.next hS (by decide) (hC.pure (by decide) _ (fun v' h=>by cases h; rfl))))
     try dsimp only
     go_simp}
    refine StepsInv.cons _ rfl (fun d u' W K' hI hd hw hK=> ?_) ?_
    {obtain ⟨hS,hC⟩:=hI.open hd (by decide);have d0:u' 0= .pointer (some ⟨w.heap.size,3,none⟩):=hC.vals 0 (hw 0 (by kernel_rfl)) _ rfl;obtain ⟨_,⟨y0,y1,y2,y3,y4⟩,_⟩:=HBX4.out.next hC.bel;simp only[Nat.zero_add] at y0 y1 y2 y3 y4;rw[HQA.out] at y3;refine Z03 (v:= .slice (some ⟨gn,offn,none⟩) t.names.length q.c) (W':=W) rfl ?_ (hK.out _ _ (InvC.next hS (by decide) (hC.pure (by decide) _ (fun v' h=>by cases h; rfl))))
     try dsimp only
     go_simp}
    refine StepsInv.cons _ rfl (fun d u' W K' hI hd hw hK=> ?_) ?_
    {obtain ⟨hS,hC⟩:=hI.open hd (by decide);refine Z03 (v:= .int .i64 (i:Int)) (W':=W) rfl ?_ (hK.out _ _ (InvC.next hS (by decide) (hC.pure (by decide) _ (fun v' h=>by cases h; rfl))))
     try dsimp only
     go_simp}
    refine StepsInv.cons _ rfl (fun d u' W K' hI hd hw hK=> ?_) ?_
    {obtain ⟨hS,hC⟩:=hI.open hd (by decide);have d1:u' 1= .slice (some ⟨gn,offn,none⟩) t.names.length q.c:=hC.vals 1 (hw 1 (by kernel_rfl)) _ rfl;have d2:u' 2= .int .i64 (i:Int):=hC.vals 2 (hw 2 (by kernel_rfl)) _ rfl;have hin2:=hi2;have hnl2:=HLEN.out;refine Z03 (v:= .pointer (some ⟨gn,offn+i,none⟩)) (W':=W) rfl ?_ (hK.out _ _ (InvC.next hS (by decide) (hC.pure (by decide) _ (fun v' h=>by cases h; rfl))))
     try dsimp only
     go_simp}
    refine StepsInv.cons _ rfl (fun d u' W K' hI hd hw hK=> ?_) ?_
    {obtain ⟨hS,hC⟩:=hI.open hd (by decide);have d3:u' 3= .pointer (some ⟨gn,offn+i,none⟩):=hC.vals 3 (hw 3 (by kernel_rfl)) _ rfl;have oy:=(hC.bel.cell (p:=⟨gn,offn+i,none⟩) HGD.out).trans HY4.out;refine Z03 (v:= .string ⟨y.toArray⟩) (W':=W) rfl ?_ (hK.out _ _ (InvC.next hS (by decide) (hC.pure (by decide) _ (fun v' h=>by cases h; rfl))))
     try dsimp only
     go_simp}
    refine StepsInv.cons _ rfl (fun d u' W K' hI hd hw hK=> ?_) ?_
    {obtain ⟨hS,hC⟩:=hI.open hd (by decide);have d4:u' 4= .string ⟨y.toArray⟩:=hC.vals 4 (hw 4 (by kernel_rfl)) _ rfl;refine Z03 (v:= .slice (some ⟨W.heap.size,0,none⟩) 1 1) (W':=W.alloc (.cells #[.string ⟨y.toArray⟩] 9)) rfl ?_ (hK.out _ _ (InvC.next hS (by decide) (hC.mk5 hd rfl rfl)))
     try dsimp only
     go_simp}
    refine StepsInv.cons _ rfl (fun d u' W K' hI hd hw hK=> ?_) ?_
    {obtain ⟨hS,hC⟩:=hI.open hd (by decide);refine Z03 (v:= .pointer (some ⟨ob,3,none⟩)) (W':=W) rfl ?_ (hK.out _ _ (InvC.next hS (by decide) (hC.pure (by decide) _ (fun v' h=>by cases h; rfl))))
     try dsimp only
     go_simp}
    refine StepsInv.cons _ rfl (fun d u' W K' hI hd hw hK=> ?_) ?_
    {obtain ⟨hS,hC⟩:=hI.open hd (by decide);have d6:u' 6= .pointer (some ⟨ob,3,none⟩):=hC.vals 6 (hw 6 (by kernel_rfl)) _ rfl;have o3:=(hC.bel.cell (p:=⟨ob,3,none⟩) HOBD.out).trans HC3.out;refine Z03 (v:= .slice AN l.length cN) (W':=W) rfl ?_ (hK.out _ _ (InvC.next hS (by decide) (hC.pure (by decide) _ (fun v' h=>by cases h; rfl))))
     try dsimp only
     go_simp}
    refine StepsInv.cons _ rfl (fun d u' W K' hI hd hw hK=> ?_) ?_
    {obtain ⟨hS,hC⟩:=hI.open hd (by decide);have d7:u' 7= .slice AN l.length cN:=hC.vals 7 (hw 7 (by kernel_rfl)) _ rfl;have hp:=hw 5 (by kernel_rfl);refine Z0e rfl (.tmp 41) (.tmp 43) 22 rfl W3.drew.heap.size 9 i0n (.string ByteArray.empty) 1 16 Tryd.underlying22 hin hzn0 hzn1 hzn2 rfl (by decide) (u' 5) 1 [.string ⟨y.toArray⟩] rfl (hC.r5 hp hd) AN l.length cN (namesE (l.map El.n)) d7 (Z48 HRN.out (Nat.le_refl _)) (by rw[namesE_len,List.length_map,Nat.mul_one]) (by have h:=Z87 HRN.out (Nat.le_refl _) hC.bel; rwa [List.take_of_length_le (by rw[List.length_map]; exact Nat.le_refl _)] at h) (Z23 _) (by unfold maxLen; omega) (by omega) hC.bel.size ?_;intro v' w' hown hg hat;exact (hK.out _ _ (InvC.next hS (by decide) (hC.ap8 hd rfl hp hown hg)))}
    refine StepsInv.cons _ rfl (fun d u' W K' hI hd hw hK=> ?_) ?_
    {obtain ⟨hS,hC⟩:=hI.open hd (by decide);refine Z03 (v:= .pointer (some ⟨ob,3,none⟩)) (W':=W) rfl ?_ (hK.out _ _ (InvC.next hS (by decide) (hC.pure (by decide) _ (fun v' h=>by cases h; rfl))))
     try dsimp only
     go_simp}
    refine StepsInv.cons _ rfl (fun d u' W K' hI hd hw hK=> ?_) StepsInv.nil
    {obtain ⟨hS,hC⟩:=hI.open hd (by decide);have hall: ∀j,j < 10->d j=true:=fun j hj=>by
      have:j∈ [0,1,2,3,4,5,6,7,8,9]:=by simp; omega
      simp only[List.mem_cons,List.not_mem_nil,or_false] at this;rcases this with rfl | rfl | rfl | rfl | rfl | rfl | rfl | rfl | rfl | rfl <;> exact hw _ (by kernel_rfl)
     have hE:=hC.r8 (hall 8 (by decide));obtain ⟨gg,cap,hu,hgb,hgl⟩:=hE.form (by omega);rw[hu] at hE;have d9:u' 9= .pointer (some ⟨ob,3,none⟩):=hC.vals 9 (hall 9 (by decide)) _ rfl;have o3:=(hC.bel.cell (p:=⟨ob,3,none⟩) HOBD.out).trans HC3.out;have of:=(hC.bel.frozen (p:=⟨ob,3,none⟩) HOBD.out).trans (HO4.out.fz 3);refine Z1I (W':=W.setCell ⟨ob,3,none⟩ (.slice (some ⟨gg,0,none⟩) (1+l.length) cap)) rfl ?_ (hK.out undef _ (InvC.last hall ⟨W,gg,cap,hC.bel, ?_,hgb, ?_⟩))
     {try dsimp only
      go_simp}
     {rw[Nat.add_comm 1] at hE; exact hE}
     {rw[Nat.add_comm 1]}}
    intro d' ua W4 hI hall;rcases hI with ⟨h1,_⟩ | ⟨_,_,h1⟩
    {rw[hall 10 (by decide)] at h1; cases h1}
    have HF1:=Y1 (h1:FinC W3.drew ob 3 9 1 (l.length+1) ([.string ⟨y.toArray⟩]++namesE (l.map El.n)) W4);have HNZ5:Hid (Box5 W4 w2.heap.size z q'):=Y1 (HNZ4.out.same (h1.same HNZ4.out.1 HPB.out) h1.size);have hobr:rowB AP≠some ob:=fun e=>by have:=(OutS.row HO4.out.rP ob e).1; have:=HO4.out.lt; omega
    have HRP5:Hid (W4.ownsRow W1.heap.size 25 5 (.slice AP l.length cP) l.length (cellsE l)):=Y1 (h1.row HRP.out hobr);have o4:W4.cell? ⟨ob,4,none⟩=some (.slice AP l.length cP):=(h1.other HOBD.out (by decide)).trans HO4.out.c4;have of:=(h1.frozen HOBD.out 4).trans (HO4.out.fz 4);have HO45:=Y1 o4;have HOF5:=Y1 of;have HOB5:Hid (ob < W4.heap.size):=Y1 (Nat.lt_of_lt_of_le HOBD.out h1.size);obtain ⟨b1,⟨m0,m1,m2,m3,m4⟩,b2⟩:=HNZ5.out;simp only[Nat.zero_add] at m0 m1 m2 m3 m4;have hpb:=HNZ5.out.1;have hob4:=HOB5.out;clear h1 hobr b1 b2
    try dsimp only
    go_wp2_with (at_builtin; refine Z12 _ rfl _ _ 23 rfl W4.heap.size 25 i0p (.agg #[.int .i64 0,.string ByteArray.empty,.string ByteArray.empty,.slice none 0 0,.slice none 0 0]) 5 88 Tryd.underlying23 hip hzp0 hzp1 hzp2 rfl (by decide) _ 1 (cells5 ⟨y,z,q',F⟩) rfl (World.ownsRow_lit W4 #[.int .i64 z.kind,.string ⟨z.of_.toArray⟩,.string ⟨z.name.toArray⟩,.slice q'.A z.names.length q'.c,.slice q'.P z.parts.length q'.d] 1 (Nat.le_refl _) (by decide) rfl) AP l.length cP (cellsE l) rfl (Z48 HRP5.out (Nat.le_refl _)) (cellsE_len _) (by have h:=Z88 HRP5.out (Nat.le_refl _) (Z00 W4 (.cells #[.int .i64 z.kind,.string ⟨z.of_.toArray⟩,.string ⟨z.name.toArray⟩,.slice q'.A z.names.length q'.c,.slice q'.P z.parts.length q'.d] 25)); rwa [List.take_of_length_le (Nat.le_refl _)] at h) (Z2O _) (by unfold maxLen; omega) (by omega) (by simp) ?_)
    intro v' W5 hrow hb5;obtain ⟨g3,cap,rfl,hg3,_⟩:=hrow.form (by omega);have hb45:Below W4.heap.size W4 W5:=(Z00 W4 (.cells #[.int .i64 z.kind,.string ⟨z.of_.toArray⟩,.string ⟨z.name.toArray⟩,.slice q'.A z.names.length q'.c,.slice q'.P z.parts.length q'.d] 25)).trans hb5;have x4:=(hb45.cell (p:=⟨ob,4,none⟩) HOB5.out).trans HO45.out;have xf:=(hb45.frozen (p:=⟨ob,4,none⟩) HOB5.out).trans HOF5.out;have HFC:Hid (FinC W4 ob 4 25 5 (l.length+1) (cells5 ⟨y,z,q',F⟩++cellsE l) (W5.setCell ⟨ob,4,none⟩ (.slice (some ⟨g3,0,none⟩) (1+l.length) cap))):=Y1 (by
     rw[Nat.add_comm 1] at hrow ⊢;exact ⟨W5,g3,cap,hb45,hrow,hg3,rfl⟩)
    have HN:Hid (Ru7 W1 (W5.setCell ⟨ob,4,none⟩ (.slice (some ⟨g3,0,none⟩) (1+l.length) cap)) ob t (i+1)):=Y1 (Ru7.push (x:=⟨y,z,q',F⟩) HO4.out HL.out (by rw[HZL.out]; exact hlt) (HZI.out _).symm HOW4.out HFB.out HF1.out HFC.out);clear hrow hb5 hb45 o4 of m0 m1 m2 m3 m4;go_wp2
    go_roundw
    case rel=>exact ⟨i+1,by go_num,by omega,HN⟩
    case measure=>simp[intOf]; omega}}
  {have hie:i=t.parts.length:=by omega
   have HLL:Hid (l.length=t.parts.length):=Y1 (by omega);have HE:Hid (l.map pr=(t.names.zip (t.parts.map turned)).reverse):=Y1 (by rw[hl,List.take_of_length_le (by rw[HZL.out]; omega)]);have hi1: ¬(i:Int) < (t.parts.length:Int):=by omega
   have HO:=Y1 hO;have HBWR:=Y1 hbw;have HER:=Y1 (hO.box HBR.out (by have:=HOB.out; omega));have HOO:=Y1 (show w.heap.size+1≠ob by have:=HOB.out; omega);obtain ⟨_,⟨r0,r1,r2,r3,r4⟩,f0,f1,f2,f3,f4⟩:=HER.out;simp only[Nat.zero_add] at r0 r1 r2 r3 r4;have o0:=hO.c0;have o1:=hO.c1;have o2:=hO.c2;have o3:=hO.c3;have o4:=hO.c4;rw[List.length_map,HLL.out] at o3;rw[HLL.out] at o4;clear hO hl hbw hli;have hne:ob≠w.heap.size+1:=fun e=>HOO.out e.symm;go_wp2;refine bodyPost_ret (v:= .agg #[.int .i64 t.kind,.string ⟨t.of_.toArray⟩,.string ⟨t.name.toArray⟩,.slice AN t.parts.length cN,.slice AP t.parts.length cP]) (by simp[results,Tryd.results19,go_sem,r0,r1,r2,r3,r4]) rfl ?_;have hsm:=HQ.out.small;have hz1: (t.names.zip (t.parts.map turned)).map Prod.fst=t.names:=List.map_fst_zip (by rw[List.length_map,HLEN.out]; exact Nat.le_refl _);have hz2: (t.names.zip (t.parts.map turned)).map Prod.snd=t.parts.map turned:=List.map_snd_zip (by rw[List.length_map,HLEN.out]; exact Nat.le_refl _);have hnn: (turned t).names=l.map El.n:=by
    rw[HS.out];show t.names.reverse=_;rw[show l.map El.n=(l.map pr).map Prod.fst by rw[List.map_map]; rfl,HE.out,List.map_reverse,hz1]
   have hpp: (turned t).parts=l.map El.t:=by
    rw[HS.out];show (t.parts.map turned).reverse=_;rw[show l.map El.t=(l.map pr).map Prod.snd by rw[List.map_map]; rfl,HE.out,List.map_reverse,hz2]
   have hoo: (turned t).of_=t.of_:=by rw[HS.out]
   have hna: (turned t).name=t.name:=by rw[HS.out]
   have hkk: (turned t).kind=t.kind:=by rw[HS.out]
   have hns: ∀x∈(turned t).names,x.length<=9223372036854775807:=fun x hx=>by
    refine hsm.ns x ?_;rw[HS.out] at hx;exact List.mem_reverse.1 hx
   obtain ⟨ho,hF⟩:=HO.out.result (u:=turned t) hnn hpp (by rw[hoo]; exact hsm.o) (by rw[hna]; exact hsm.n) hns (by rw[List.length_map,HLL.out]; omega) (by rw[HLL.out]; omega);have h5:=Z1a (b:=w.heap.size+1) ho (fun b hb e=>by have:=hF b hb; have:=HSZ.out; omega) (.int .i64 t.kind) (.string ⟨t.of_.toArray⟩) (.string ⟨t.name.toArray⟩) (.slice AN t.parts.length cN) (.slice AP t.parts.length cP);have h6:=Z0n (b:=w.heap.size+1) HBWR.out (by omega) (.int .i64 t.kind) (.string ⟨t.of_.toArray⟩) (.string ⟨t.name.toArray⟩) (.slice AN t.parts.length cN) (.slice AP t.parts.length cP);refine ⟨⟨AN,cN,AP,cP⟩, ?_,(rowB AN).toList++(rowB AP).toList++l.flatMap El.F,h5,fun b hb=>by have:=hF b hb; have:=HSZ.out; omega,h6⟩;rw[hkk,hoo,hna,hnn,hpp,List.length_map,List.length_map,HLL.out]}
end
theorem Z6L (t:Sh): ∀(q:Ptr) (w:World),ShAt w w.heap.size q t->right t=true->size t<=400->
 Calls Tryd.prog 19 #[.agg (Y8 t q)] w
  fun e w'=> ∃q' F,e= .returned (.agg (Y8 (turned t) q'))/\Own w' q' (turned t) F/\(∀b∈F,w.heap.size<=b)/\Below w.heap.size w w':=by
 induction t using Sh.ind with
 | h t ih=>
 intro q w hq hr hz;have hf:Rt8 t:=fun x hx q' w' h1=>ih x hx q' w' h1 (Z05 hr hx) (by have:=Z1l hx; rw[size_eq] at hz; omega);have hpl:t.parts.length<=400:=by have:=Z0L t.parts; rw[size_eq] at hz; omega
 by_cases h0:t.names= []
 {exact Z5R t q w hq hpl h0 hf}
 {exact Z5S t q w hq hpl h0 ((Z1s hr).resolve_left h0).1 hf}
end
end Go.Proofs.YtchklpedlbkgaaaDoor
namespace Go.Proofs.YtchklpedlbkgaaaDoor
open Go.RowKit Go.Maps Go.WideMaps Shp
namespace SubM
abbrev Ky:=List UInt8
def Fine (k:Ky):Prop:=k.length<=9223372036854775807
def KL (k:Ky):Lit:= .string k
theorem keyOf_keyV {k:Ky} (h:Fine k):keyOf Tryd.prog 9 (.string ⟨k.toArray⟩)=some (KL k):=keyOf_string_mk Tryd.underlying9 (by rw[Z0G]; unfold maxLen; exact h)
theorem KL_inj {k k':Ky} (h:Fine k) (h':Fine k') (e:KL k=KL k'):k=k':=by cases e; rfl
theorem KL_key (k:Ky):WideAt.IsKeyLit (KL k):=trivial
def slEl:Value->Option (DataW Unit×List MemPlace)
 | .pointer none=>some (.agg [],[])
 | .pointer (some ⟨g,o,none⟩)=>some (.agg [.lit (.int .i64 (g:Int)),.lit (.int .i64 (o:Int))],[])
 | _=>none
theorem slEl_inj {v v':Value} {d:DataW Unit} {p p':List MemPlace} (h:slEl v=some (d,p)) (h':slEl v'=some (d,p')):v=v':=by
 unfold slEl at h h';split at h <;> split at h' <;> simp only[Option.some.injEq,Prod.mk.injEq,reduceCtorEq] at h h'
 {rfl}
 {obtain ⟨rfl,_⟩:=h;simp at h'}
 {obtain ⟨rfl,_⟩:=h;simp at h'}
 {obtain ⟨rfl,_⟩:=h;simp at h';obtain ⟨⟨h1,h2⟩,_⟩:=h';have e1:_=_:=Int.ofNat_inj.1 h1;have e2:_=_:=Int.ofNat_inj.1 h2;rw[e1,e2]}
theorem zero_sl (w:World): (zeroValue 71).run Tryd.prog w= .ok (.pointer none) w:=by kernel_rfl
def Mp (W:World) (b N:Nat) (S:List Ky) (m:Ky->Value):Prop:=
 ∃D:DataW Unit,W.ownsMap Tryd.prog 9 slEl b N D/\Maps.size D=S.length/\S.Nodup/\(∀k∈S,Fine k)/\(∀k,Fine k->(Maps.has D (KL k)=true ↔ k∈S))/\
  ∀k,Fine k-> ∃p,slEl (if k∈S then m k else .pointer none)=some (D.atKey (KL k) (.agg []),p)
theorem Mp.made (W:World) (m:Ky->Value):Mp (W.alloc (.map #[] 0)) W.heap.size 0 [] m:=by
 refine ⟨.map [],World.ownsMap_made _ _ _ _,rfl,List.nodup_nil,nofun,fun k _=>⟨fun h=>by simp[Maps.has] at h,nofun⟩,fun k _=>⟨[], ?_⟩⟩;rw[if_neg (by simp)];rfl
theorem Mp.lt {W:World} {b N:Nat} {S:List Ky} {m:Ky->Value} (h:Mp W b N S m):b < W.heap.size:=by obtain ⟨_,h,_⟩:=h; exact h.lt
theorem Mp.kept {W W':World} {b N:Nat} {S:List Ky} {m:Ky->Value} (h:Mp W b N S m) {row:Option Nat} (hg:W.grownBy W' row) (hne:some b≠row):Mp W' b N S m:=by
 obtain ⟨D,h1,h2⟩:=h; exact ⟨D,h1.kept hg hne,h2⟩
theorem Mp.same {W W':World} {b N:Nat} {S:List Ky} {m:Ky->Value} (h:Mp W b N S m) (hb:W'.heap[b]? =W.heap[b]?):Mp W' b N S m:=by
 obtain ⟨D,⟨es,clock,h0,h1⟩,h2⟩:=h; exact ⟨D,⟨es,clock,hb.trans h0,h1⟩,h2⟩
end SubM
end Go.Proofs.YtchklpedlbkgaaaDoor
namespace Sub
section
open Shp
def look:List (List UInt8)->List Sh->List UInt8->Option Sh
 | x::ns,p::ps,n=>if x=n then some p else look ns ps n
 | [],_,_=>none
 | _::_,[],_=>none
def get (t:Sh) (n:List UInt8):Option Sh:=look t.names t.parts n
theorem Z6M {ns:List (List UInt8)} {ps:List Sh} {n:List UInt8} {p:Sh} (h:look ns ps n=some p):n∈ns/\p∈ps:=by
 induction ns generalizing ps with
 | nil=>cases ps <;> simp[look] at h
 | cons x ns ih=>
  cases ps with
  | nil=>simp[look] at h
  | cons q ps=>
   unfold look at h;split at h
   {rename_i e
    cases h;exact ⟨by simp[e],by simp⟩}
   {have:=ih h;exact ⟨by simp[this.1],by simp[this.2]⟩}
structure Rec (t:Sh):Prop where
 k:t.kind=6\/t.kind=7
 b:bare t=true
 l:t.names.length=t.parts.length
 a:areNames t.names=true
theorem Z09 {t p:Sh} {n:List UInt8} (h:get t n=some p):p∈t.parts:=(Z6M h).2
def Narrow (up:Bool) (k:Int):Prop:=(up=true/\k=6)\/(up=false/\k=7)
def Wide (up:Bool) (k:Int):Prop:=(up=true/\k=7)\/(up=false/\k=6)
instance (up:Bool) (k:Int):Decidable (Narrow up k):=by unfold Narrow; infer_instance
instance (up:Bool) (k:Int):Decidable (Wide up k):=by unfold Wide; infer_instance
def V:Nat->Bool->Sh->Sh->Prop
 | 0,_,_,_=>False
 | f+1,up,a,b=>a.kind=b.kind/\
  (Narrow up a.kind-> ∀n q,get b n=some q-> ∃p,get a n=some p/\V f up p q)/\
  (Wide up a.kind-> ∀n p,get a n=some p-> ∃q,get b n=some q/\V f up p q)/\
  (¬(a.kind=6\/a.kind=7)->a.of_=b.of_/\a.name=b.name/\a.parts.length=b.parts.length/\
   ∀i p q,a.parts[i]? =some p->b.parts[i]? =some q->V f (if i+1=a.parts.length then up else !up) p q)
theorem V.refl {f:Nat}: ∀ {up:Bool} {a:Sh},deep a<=f->V f up a a:=by
 induction f with
 | zero=>intro up a h; rw[Z0l] at h; omega
 | succ f ih=>
  intro up a h;have hp: ∀p∈a.parts,deep p<=f:=fun p hp=>by have:=Z0F hp; rw[Z0l] at h; omega
  refine ⟨rfl,fun _ n q hq=>⟨q,hq,ih (hp q (Z09 hq))⟩,fun _ n q hq=>⟨q,hq,ih (hp q (Z09 hq))⟩,fun _=>⟨rfl,rfl,rfl,fun i p q h1 h2=> ?_⟩⟩;rw[h1] at h2;cases h2;exact ih (hp p (List.mem_of_getElem? h1))
theorem V.trans {f:Nat}: ∀ {up:Bool} {a b c:Sh},V f up a b->V f up b c->V f up a c:=by
 induction f with
 | zero=>intro up a b c h; exact h.elim
 | succ f ih=>
  intro up a b c h k;obtain ⟨hk,h1,h2,h3⟩:=h;obtain ⟨kk,k1,k2,k3⟩:=k;rw[<-hk] at k1 k2 k3;refine ⟨hk.trans kk,fun h n r hr=> ?_,fun h n p hp=> ?_,fun h=> ?_⟩
  {obtain ⟨q,hq,hv⟩:=k1 h n r hr;obtain ⟨p,hp,hu⟩:=h1 h n q hq;exact ⟨p,hp,ih hu hv⟩}
  {obtain ⟨q,hq,hv⟩:=h2 h n p hp;obtain ⟨r,hr,hu⟩:=k2 h n q hq;exact ⟨r,hr,ih hv hu⟩}
  {obtain ⟨e1,e2,e3,e4⟩:=h3 h;obtain ⟨g1,g2,g3,g4⟩:=k3 h;refine ⟨e1.trans g1,e2.trans g2,e3.trans g3,fun i p r hp hr=> ?_⟩;have hi:i < a.parts.length:=(List.getElem?_eq_some_iff.1 hp).1;have hib:i < b.parts.length:=by omega
   obtain ⟨q,hq⟩: ∃q,b.parts[i]? =some q:=⟨_,List.getElem?_eq_getElem hib⟩;have:=g4 i q r hq hr;rw[<-e3] at this;exact ih (e4 i p q hp hq) this}
abbrev Cl:=List UInt8×Option Sh×Option Sh
def callsA (a b:Sh):List Cl:=(a.names.zip a.parts).map (fun x=>(x.1,some x.2,get b x.1))
def callsB (a b:Sh):List Cl:=((b.names.zip b.parts).filter (fun x=>(get a x.1).isNone)).map (fun x=>(x.1,none,some x.2))
def calls (a b:Sh):List Cl:=callsA a b++callsB a b
def narrowStep (g:Sh->Sh->Option Sh) (c:Cl):Option Fld:=
 match c with
 | (n,some p,some q)=>(g p q).map (fun x=>(n,x))
 | (_,some _,none)=>none
 | (_,none,_)=>none
def wideStep (g:Sh->Sh->Option Sh) (c:Cl):Option Fld:=
 match c with
 | (n,some p,some q)=>(g p q).map (fun x=>(n,x))
 | (n,some p,none)=>some (n,p)
 | (n,none,some q)=>some (n,q)
 | (_,none,none)=>none
def allOf (s:Cl->Option Fld):List Cl->Option (List Fld)
 | []=>some []
 | c::l=>(s c).bind (fun x=>(allOf s l).map (fun xs=>x::xs))
def placesOf (ga gr:Sh->Sh->Option Sh):List Sh->List Sh->Option (List Sh)
 | [],[]=>some []
 | a::us,b::bs=>(if us.isEmpty then gr a b else ga a b).bind (fun x=>(placesOf ga gr us bs).map (fun xs=>x::xs))
 | [],_::_=>none
 | _::_,[]=>none
def made (k:Int) (l:List Fld):Sh:=⟨k,[],[],l.map Prod.fst,l.map Prod.snd⟩
def bound:Nat->Bool->Sh->Sh->Option Sh
 | 0,_,_,_=>none
 | f+1,up,a,b=>
  if a.kind≠b.kind then none
  else if Narrow up a.kind then some (made a.kind ((calls a b).filterMap (narrowStep (bound f up))))
  else if Wide up a.kind then (allOf (wideStep (bound f up)) (calls a b)).map (made a.kind)
  else if a.of_=b.of_/\a.name=b.name then (placesOf (bound f (!up)) (bound f up) a.parts b.parts).map (fun ps=>⟨a.kind,a.of_,a.name,[],ps⟩)
  else none
def sz:Option Sh->Nat
 | some p=>size p
 | none=>0
end
end Sub
namespace Go.Proofs.YtchklpedlbkgaaaDoor
open Go.RowKit Shp
namespace SubM
abbrev sv (s:Sh) (q:Ptr):Value:= .agg (Y8 s q)
structure Upd (S:Nat->Prop) (a b:World):Prop where
 os:b.os=a.os
 tape:b.tape=a.tape
 output:b.output=a.output
 size:a.heap.size<=b.heap.size
 block: ∀x,x < a.heap.size-> ¬S x->b.heap[x]? =a.heap[x]?
section
variable {S T : Nat -> Prop} {a b c : World} {B n0 : Nat}
theorem Upd.refl (S:Nat->Prop) (a:World):Upd S a a:=⟨rfl,rfl,rfl,Nat.le_refl _,fun _ _ _=>rfl⟩
theorem Upd.trans (h:Upd S a b) (k:Upd S b c):Upd S a c:=
 ⟨k.os.trans h.os,k.tape.trans h.tape,k.output.trans h.output,Nat.le_trans h.size k.size,fun x h1 h2=>(k.block x (Nat.lt_of_lt_of_le h1 h.size) h2).trans (h.block x h1 h2)⟩
theorem Upd.mono (h:Upd S a b) (hs: ∀x,x < a.heap.size->S x->T x):Upd T a b:=⟨h.os,h.tape,h.output,h.size,fun x h1 h2=>h.block x h1 (fun hx=>h2 (hs x h1 hx))⟩
theorem Upd.of_below (h:Below B a b) (hB: ∀x,x < a.heap.size->B<=x->S x):Upd S a b:=
 ⟨h.os,h.tape,h.output,h.size,fun x h1 h2=>h.block x (Nat.lt_of_not_le (fun hx=>h2 (hB x h1 hx)))⟩
theorem Upd.new (h:Below a.heap.size a b):Upd S a b:=Upd.of_below h (fun x h1 h2=>absurd h1 (by omega))
theorem Upd.below (h:Upd S a b) (hB:B<=a.heap.size) (hS: ∀x,S x->B<=x):Below B a b:=⟨h.os,h.tape,h.output,h.size,fun x h1=>h.block x (by omega) (fun hx=>by have:=hS x hx; omega)⟩
theorem Upd.drew (h:Upd S a b):Upd S a b.drew:=⟨h.os,h.tape,h.output,h.size,h.block⟩
theorem Upd.grown (h:Upd S a b) {row:Option Nat} (hg:b.grownBy c row) (hr: ∀k,row=some k->k < a.heap.size->S k):Upd S a c:=
 ⟨hg.os.trans h.os,hg.tape.trans h.tape,hg.output.trans h.output,Nat.le_trans h.size hg.size,fun x h1 h2=>(hg.block x (Nat.lt_of_lt_of_le h1 h.size) (fun e=>h2 (hr x e.symm h1))).trans (h.block x h1 h2)⟩
theorem Upd.set (h:Upd S a b) (p:Addr) (hp:p.block < a.heap.size->S p.block) (v:Value):Upd S a (b.setCell p v):=
 ⟨h.os,h.tape,h.output,by simpa[World.setCell] using h.size,fun x h1 h2=>(Below.heap_setCell _ _ _ _ (fun e=>h2 (by
  have e':x=p.block:=by first | exact e | exact e.symm
  rw[e']; exact hp (e'▸h1)))).trans (h.block x h1 h2)⟩
theorem Upd.cell (h:Upd S a b) {g k:Nat} (hg:g < a.heap.size) (hS: ¬S g):b.cell? ⟨g,k,none⟩=a.cell? ⟨g,k,none⟩:=World.cell?_of_block (w:=a) (h.block g hg hS)
theorem Upd.frozen (h:Upd S a b) {g k:Nat} (hg:g < a.heap.size) (hS: ¬S g):b.frozen? ⟨g,k,none⟩=a.frozen? ⟨g,k,none⟩:=World.frozen?_of_block (w:=a) (h.block g hg hS)
theorem Z3q {g:Nat} {t:Sh} {q:Ptr} (h:Box5 a g t q) (hu:Upd S a b) (hS: ¬S g):Box5 b g t q:=by
 obtain ⟨h0,h1,f0,f1,f2,f3,f4⟩:=h;exact ⟨Nat.lt_of_lt_of_le h0 hu.size,h1.of (fun k=>hu.cell h0 hS),(hu.frozen h0 hS).trans f0,(hu.frozen h0 hS).trans f1,(hu.frozen h0 hS).trans f2,(hu.frozen h0 hS).trans f3,(hu.frozen h0 hS).trans f4⟩
theorem ZaE {t:Sh} {q:Ptr} (h:ShAt a n0 q t) (hn:n0<=a.heap.size) (hu:Upd S a b) (hS: ∀x,x < n0-> ¬S x):ShAt b n0 q t:=
 h.of (Nat.le_refl _) (fun g k hg=>hu.cell (by omega) (hS g hg))
theorem ZbX {g N:Nat} {K:List Ky} {m:Ky->Value} (h:Mp a g N K m) (hu:Upd S a b) (hS: ¬S g):Mp b g N K m:=h.same (hu.block g h.lt hS)
end
def At (W:World) (n0:Nat) (o:Option Sh) (v:Value):Prop:=
 match o with
 | none=>v= .pointer none
 | some p=> ∃g off q,v= .pointer (some ⟨g,off,none⟩)/\g < n0/\Sh5 W g off p q/\ShAt W n0 q p
theorem At.upd {a b:World} {S:Nat->Prop} {n0:Nat} {o:Option Sh} {v:Value} (h:At a n0 o v) (hn:n0<=a.heap.size) (hu:Upd S a b) (hS: ∀x,x < n0-> ¬S x):At b n0 o v:=by
 cases o with
 | none=>exact h
 | some p=>
  obtain ⟨g,off,q,h1,h2,h3,h4⟩:=h;exact ⟨g,off,q,h1,h2,h3.of (fun k=>hu.cell (by omega) (hS g h2)),ZaE h4 hn hu hS⟩
end SubM
end Go.Proofs.YtchklpedlbkgaaaDoor
namespace Go.Proofs.YtchklpedlbkgaaaDoor
open Go.RowKit Shp Sub
namespace SubM
structure Takes (n0 N:Nat) (a b:Sh) (fn:Nat) (cs:List Value) (step:Cl->Bool) (K:Bool->List Cl->World->Prop):Prop where
 keep: ∀ok done W W',K ok done W->Upd (fun x=>N<=x/\x < N+3) W W'->K ok done W'
 call: ∀done c rest W (x y:Value),calls a b=done++c::rest->N+3<=W.heap.size->K true done W->At W n0 c.2.1 x->At W n0 c.2.2 y->
  Calls Tryd.prog fn (.string ⟨c.1.toArray⟩::x::y::cs).toArray W fun e W'=>e= .returned (.bool (step c))/\K (step c) (done++ [c]) W'/\Upd (fun x=>n0<=x/\ ¬(N<=x/\x < N+3)) W W'
def numOf:List (List UInt8)->List UInt8->Nat
 | [],_=>0
 | x::l,n=>if x=n then 0 else numOf l n+1
def place (g off:Nat) (ns:List (List UInt8)) (n:List UInt8):Value:= .pointer (some ⟨g,off+numOf ns n * 5,none⟩)
def Parts (W:World) (n0:Nat) (t:Sh) (q:Ptr) (g off:Nat) (qs:Nat->Ptr):Prop:=
 t.parts.length=0\/(q.P=some ⟨g,off,none⟩/\g < n0/\ ∀i (h:i < t.parts.length),Sh5 W g (off+i * 5) (t.parts[i]'h) (qs i)/\ShAt W n0 (qs i) (t.parts[i]'h))
theorem Parts.upd {a b:World} {S:Nat->Prop} {n0:Nat} {t:Sh} {q:Ptr} {g off:Nat} {qs:Nat->Ptr} (h:Parts a n0 t q g off qs) (hn:n0<=a.heap.size) (hu:Upd S a b) (hS: ∀x,x < n0-> ¬S x):Parts b n0 t q g off qs:=by
 rcases h with h | ⟨hP,hg,hc⟩
 {exact Or.inl h}
 {exact Or.inr ⟨hP,hg,fun i hi=>⟨(hc i hi).1.of (fun k=>hu.cell (by omega) (hS g hg)),ZaE (hc i hi).2 hn hu hS⟩⟩}
structure L1 (N:Nat) (a b:Sh) (pa pb:Ptr) (g off:Nat) (w:World) (k:Nat) (W:World):Prop where
 ba:Box5 W N a pa
 bb:Box5 W (N+1) b pb
 mp: ∃S,Mp W (N+2) k S (place g off b.names)/\ ∀n,n∈S ↔ n∈b.names.take k
 up:Upd (fun x=>N<=x/\x < N+3) w W
structure L2 (n0 N:Nat) (a b:Sh) (pa pb:Ptr) (g off:Nat) (w:World) (K:Bool->List Cl->World->Prop) (gone:List (List UInt8)) (done:List Cl) (W:World):Prop where
 ba:Box5 W N a pa
 bb:Box5 W (N+1) b pb
 mp: ∃S,Mp W (N+2) b.names.length S (place g off b.names)/\ ∀n,n∈S ↔ n∈b.names/\n∉gone
 up:Upd (fun x=>n0<=x) w W
 sz:N+3<=W.heap.size
 k:K true done W
section
variable {n0 : Nat} {a b : Sh} {pa pb : Ptr} {g off : Nat} {w : World} {K : Bool -> List Cl -> World -> Prop} {gone : List (List UInt8)} {done : List Cl} {W W' : World} {fn : Nat} {cs : List Value} {step : Cl -> Bool}
theorem L2.upd (h:L2 n0 w.heap.size a b pa pb g off w K gone done W) (hn:n0<=w.heap.size) (hu:Upd (fun x=>n0<=x/\ ¬(w.heap.size<=x/\x < w.heap.size+3)) W W') {done':List Cl} (hk:K true done' W'):L2 n0 w.heap.size a b pa pb g off w K gone done' W':=by
 obtain ⟨S,hM,hS⟩:=h.mp;exact ⟨Z3q h.ba hu (by omega),Z3q h.bb hu (by omega),⟨S,ZbX hM hu (by omega),hS⟩,h.up.trans (hu.mono (fun x _ hx=>hx.1)),Nat.le_trans h.sz hu.size,hk⟩
theorem L2.drew (h:L2 n0 w.heap.size a b pa pb g off w K gone done W) (hT:Takes n0 w.heap.size a b fn cs step K) (hn:n0<=w.heap.size):L2 n0 w.heap.size a b pa pb g off w K gone done W.drew:=
 h.upd hn (Upd.refl _ W).drew (hT.keep _ _ _ _ h.k (Upd.refl _ W).drew)
end
end SubM
end Go.Proofs.YtchklpedlbkgaaaDoor
