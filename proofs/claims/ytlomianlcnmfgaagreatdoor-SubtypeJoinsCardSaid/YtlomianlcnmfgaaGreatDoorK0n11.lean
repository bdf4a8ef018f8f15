/- What the proofs of SubtypeJoins, SubtypeMeets want, part 11. -/
import Derived.Test.YtlomianlcnmfgaaGreatDoorK0n10
set_option linter.unusedVariables false
set_option linter.unusedSimpArgs false
set_option linter.unusedSectionVars false
set_option maxRecDepth 100000
set_option maxHeartbeats 16000000
namespace Go.Proofs.YtlomianlcnmfgaaGreatDoor
section
open Go.RowKit Shp
def rW (w:World) (t:Sh) (q:Ptr):World:=(sW w t q).alloc (.cells #[.int .i64 t.kind,.string ⟨t.of_.toArray⟩,.string ⟨t.name.toArray⟩,.slice none 0 0,.slice none 0 0] 25)
section
variable (w : World) (t : Sh) (q : Ptr)
include w t q
theorem Z8h: (rW w t q).heap.size=w.heap.size+3:=by simp[rW,sW]
theorem Z6U:Below w.heap.size w (rW w t q):=Z0x (Z1M w t q) _
theorem ZaL:Box5 (rW w t q) w.heap.size t q:=(Z6f w t q).next (Z01 _ _)
theorem ZaM:Box5 (rW w t q) (w.heap.size+1) Z5V noneQ:=(Z4S w t q).next (Z01 _ _)
theorem Z8i: (sW w t q).heap.size=w.heap.size+2:=by simp[sW]
theorem ZaN:OutS (rW w t q) (rW w t q) (w.heap.size+2) t.kind t.of_ t.name [] [] none 0 none 0:=by
 have h:=Z05 (sW w t q) ⟨t.kind,t.of_,t.name,[],[]⟩ noneQ;rw[Z8i] at h;refine OutS.start t.kind t.of_ t.name h (fun j=> ?_);unfold rW;have e:w.heap.size+2=(sW w t q).heap.size:=(Z8i w t q).symm;rw[e];simp[go_sem]
end
theorem UpF.old {ob:Nat} {w W1 W:World} (h:UpF [ob] W1 W) (hb:Below w.heap.size w W1) (ho:w.heap.size<=ob):Below w.heap.size w W:=
 ⟨h.os.trans hb.os,h.tape.trans hb.tape,h.output.trans hb.output,Nat.le_trans hb.size h.size,fun k hk=>(h.block k (Nat.lt_of_lt_of_le hk hb.size) (by simp; omega)).trans (hb.block k hk)⟩
theorem OutS.box {W1 W:World} {ob:Nat} {k:Int} {o n:List UInt8} {nl:List (List UInt8)} {l:List El} {AN AP:Option Addr} {cN cP:Nat} (h:OutS W1 W ob k o n nl l AN cN AP cP) {g:Nat} {t:Sh} {q:Ptr} (hb:Box5 W1 g t q) (hg:g≠ob):Box5 W g t q:=
 hb.same (h.up.same hb.1 (by simpa using hg)) h.up.size
def Rs7 (t:Sh):Prop:= ∀x∈t.parts,∀(q:Ptr) (w:World),ShAt w w.heap.size q x->Calls Tryz.prog 69 #[.agg (Y8 x q)] w
 fun e w'=> ∃q' F,e= .returned (.agg (Y8 (sorted x) q'))/\Own w' q' (sorted x) F/\(∀b∈F,w.heap.size<=b)/\Below w.heap.size w w'
theorem ZbP (W:World) (x:El) (H:Nat) (hH:W.heap.size=H): ∀j u,(cells5 x)[j]? =some u->(W.alloc (.cells (Y8 x.t x.q) 25)).cell? ((⟨H,0,none⟩:Addr).add j)=some u:=by
 subst hH;intro j u hj;rw[Z0f,Nat.zero_add,World.cell?_alloc_at _ _ _ _ rfl];simpa[cells5] using hj
def Rp7 (W1 wr:World) (ob:Nat) (t:Sh) (f:Sh->Sh) (i:Nat):Prop:= ∃l AP cP,OutS W1 wr ob t.kind t.of_ t.name [] l none 0 AP cP/\l.map El.t=(t.parts.map f).take i
theorem Rp7.push {W1 Wa W3:World} {ob:Nat} {t:Sh} {f:Sh->Sh} {i g cap:Nat} {l:List El} {AP:Option Addr} {cP:Nat} {x:El} {o:Obj} (hO:OutS W1 Wa ob t.kind t.of_ t.name [] l none 0 AP cP) (hl:l.map El.t=(t.parts.map f).take i) (hi:i < t.parts.length) (hx:x.t=f (t.parts[i]'hi))
 (hxo:Own Wa x.q x.t x.F) (hxf: ∀b∈x.F,W1.heap.size<=b/\rowB AP≠some b) (hg: (Wa.alloc o).grownBy W3 (rowB AP)) (hat:rowB AP=some g\/g=(Wa.alloc o).heap.size)
 (hrow:W3.ownsRow W1.heap.size 25 5 (.slice (some ⟨g,0,none⟩) (l.length+1) cap) (l.length+1) (cellsE l++cells5 x)):
 Rp7 W1 (W3.setCell ⟨ob,4,none⟩ (.slice (some ⟨g,0,none⟩) (l.length+1) cap)) ob t f (i+1):=by
 have hO2:=hO.below (Z01 Wa o);refine ⟨l++ [x],some ⟨g,0,none⟩,cap, ?_, ?_⟩
 {have e:l.length+1=(l++ [x]).length:=by simp
  rw[e] at hrow ⊢;refine hO2.putP hg (by rw[cellsE_append,cellsE_one]; exact hrow) (hat.imp id (fun h=>by omega)) (fun y hy=> ?_);rcases List.mem_append.1 hy with hy | hy
  {exact ⟨hO2.own y hy,fun b hb=>hO2.fs y hy b hb⟩}
  {obtain rfl:y=x:=by simpa using hy
   exact ⟨Z0P hxo (Z01 Wa o),fun b hb=>⟨(hxf b hb).1,nofun,(hxf b hb).2⟩⟩}}
 {rw[List.map_append,hl,Z2h (l:=t.parts.map f) (by simpa using hi)];simp[hx]}
theorem Z5S (t:Sh) (q:Ptr) (w:World) (hq:ShAt w w.heap.size q t) (hz:t.parts.length<=400) (hn:t.names= []) (hf:Rs7 t):
 Calls Tryz.prog 69 #[.agg #[.int .i64 t.kind,.string ⟨t.of_.toArray⟩,.string ⟨t.name.toArray⟩,.slice q.A t.names.length q.c,.slice q.P t.parts.length q.d]] w
  fun e w'=> ∃q' F,e= .returned (.agg #[.int .i64 (sorted t).kind,.string ⟨(sorted t).of_.toArray⟩,.string ⟨(sorted t).name.toArray⟩,.slice q'.A (sorted t).names.length q'.c,.slice q'.P (sorted t).parts.length q'.d])/\Own w' q' (sorted t) F/\(∀b∈F,w.heap.size<=b)/\Below w.heap.size w w':=by
 have HS:Hid (sorted t=⟨t.kind,t.of_,t.name,[],t.parts.map sorted⟩):=Y1 (by rw[Z0n,if_pos hn]);have HBW:=Y1 (Z6U w t q);have HBA:=Y1 (ZaL w t q);have HBR:=Y1 (ZaM w t q);have HBO:=Y1 (ZaN w t q);have HSZ:=Y1 (Z8h w t q);have HQ:=Y1 hq;have HP:=Y1 hq.part;have HF:=Y1 hf;have hn0: (t.names.length:Int)=0:=by rw[hn]; rfl
 have HB0:=Y1 (Z05 w t q);obtain ⟨b1,⟨c0,c1,c2,c3,c4⟩,b2⟩:=HB0.out;clear hq hf hn b1 b2;go_enter Tryz.func69,Tryz.ntmps69
 go_wp2_with fail
 clear c0 c1 c2 c3 c4 HB0;change Code.wp _ _ _ _ (rW w t q);obtain ⟨ob,hob⟩: ∃ob,ob=w.heap.size+1+1:=⟨_,rfl⟩;have HOB:=Y1 hob;have HBO2:Hid (OutS (rW w t q) (rW w t q) ob t.kind t.of_ t.name [] [] none 0 none 0):=Y1 (by rw[hob]; exact HBO.out);rw[<-hob];generalize rW w t q=W1 at HBW HBA HBR HBO2 HSZ ⊢;have hsw:w.heap.size≠ob:=by omega
 clear HBO hob
 go_loopw [4] (fun ii wr=> ∃i:Nat,ii= .int .i64 i/\i<=t.parts.length/\Hid (Rp7 W1 wr ob t sorted i)) (fun i _=>t.parts.length - (intOf i).toNat)
 case atStart=>exact ⟨0,rfl,Nat.zero_le _,Y1 ⟨[],none,0,HBO2.out,by simp⟩⟩
 case round=>
  obtain ⟨i,rfl,hi,HR⟩:=hrel;obtain ⟨l,AP,cP,hO,hl⟩:=HR.out;have hli:l.length=i:=by
   have:=congrArg List.length hl;rw[List.length_map,List.length_take,List.length_map] at this;omega
  have hbw:Below w.heap.size w wr:=hO.up.old HBW.out (by have:=HOB.out; omega);have HBX:=Y1 (hO.box HBA.out hsw);obtain ⟨b1,⟨c0,c1,c2,c3,c4⟩,b2⟩:=HBX.out;simp only[Nat.zero_add] at c0 c1 c2 c3 c4;clear b1 b2;by_cases hlt:i < t.parts.length
  {rcases HP.out with h0 | ⟨g,off,qs,hqP,hg,hc,hr⟩
   {omega}
   {obtain ⟨x,hx⟩: ∃x,x=t.parts[i]:=⟨_,rfl⟩;obtain ⟨p0,p1,p2,p3,p4⟩:=(hc i hlt).keep hg hbw;have IH:=Y1 (HF.out t.parts[i] (List.getElem_mem _) (qs i) wr ((hr i hlt).keep hbw (Nat.le_refl _) |>.more hbw.size));rw[<-hx] at p0 p1 p2 p3 p4 IH;have HX:=Y1 hx;have HL:=Y1 hl;have HO:=Y1 hO;have HLI:=Y1 hli;have HBWR:=Y1 hbw;have hi1: (i:Int) < (t.parts.length:Int):=by omega
    have hgw:g < wr.heap.size:=Nat.lt_of_lt_of_le hg hbw.size;rw[hqP] at c4;have HQP:=Y1 hqP;clear hx hl hO hli hbw hc hr hqP HR
    go_wp2_with fail
    refine IH.out.mono ?_;rintro e w2 ⟨q',F,rfl,ho,hF,hb2⟩;obtain ⟨z,hz⟩: ∃z,z=sorted x:=⟨_,rfl⟩;rw[<-hz] at ho ⊢;have hO3:=(HO.out.below hb2).below (Z01 w2 (.cells #[.int .i64 z.kind,.string ⟨z.of_.toArray⟩,.string ⟨z.name.toArray⟩,.slice q'.A z.names.length q'.c,.slice q'.P z.parts.length q'.d] 25));have hBX3:=(HBX.out.next hb2).next (Z01 w2 (.cells #[.int .i64 z.kind,.string ⟨z.of_.toArray⟩,.string ⟨z.name.toArray⟩,.slice q'.A z.names.length q'.c,.slice q'.P z.parts.length q'.d] 25));have hnz:=Z05 w2 z q';have HO3:=Y1 hO3;have HOW:=Y1 (Z0P ho (Z01 w2 (.cells #[.int .i64 z.kind,.string ⟨z.of_.toArray⟩,.string ⟨z.name.toArray⟩,.slice q'.A z.names.length q'.c,.slice q'.P z.parts.length q'.d] 25)));have HFB:Hid (∀b∈F,W1.heap.size<=b/\rowB AP≠some b):=Y1 (fun b hb=>by
     have h1:=hF b hb;have h2:=HO.out.up.size;refine ⟨by omega,fun e=> ?_⟩;have:=(OutS.row HO.out.rP b e).2;omega)
    obtain ⟨b1,⟨k0,k1,k2,k3,k4⟩,b2⟩:=hBX3;obtain ⟨b3,⟨m0,m1,m2,m3,m4⟩,b4⟩:=hnz;simp only[Nat.zero_add] at k0 k1 k2 k3 k4 m0 m1 m2 m3 m4;have o4:=hO3.c4;have fz4:=hO3.fz 4;have HZ:=Y1 hz;have hl400:l.length<=400:=by have:=HLI.out; omega
    obtain ⟨i0,hi2,hz0,hz1,hz2⟩:=info_parts (P:=Tryz.prog) (e:=25) (z:= .agg #[.int .i64 0,.string ByteArray.empty,.string ByteArray.empty,.slice none 0 0,.slice none 0 0]) (size:=5) (bytes:=88) Z2d;clear hO3 ho hF hz b1 b2 b3 b4 c0 c1 c2 c3 c4 p0 p1 p2 p3 p4 IH
    go_wp2_with (at_builtin; refine wpList_append_own_at _ rfl _ _ 23 rfl W1.heap.size 25 i0 (.agg #[.int .i64 0,.string ByteArray.empty,.string ByteArray.empty,.slice none 0 0,.slice none 0 0]) 5 88 Tryz.underlying23 hi2 hz0 hz1 hz2 rfl (by decide) _ _ _ rfl (HO3.out.rP.alloc _) ⟨w2.heap.size+1,0,none⟩ 1 1 (cells5 ⟨[],z,q',F⟩) rfl rfl (ZbP _ ⟨[],z,q',F⟩ _ (by simp)) (cells5_one _) (by unfold maxLen; omega) (by omega) (by have:=HO3.out.up.size; simp at this ⊢; omega) ?_)
    intro v' W3 hrow hg3 _ hat;obtain ⟨g3,cap,rfl,_,_⟩:=hrow.form (by omega);simp only[rowB_own] at hg3 hat;have hat2:rowB AP=some g3\/g3=((w2.alloc (.cells #[.int .i64 z.kind,.string ⟨z.of_.toArray⟩,.string ⟨z.name.toArray⟩,.slice q'.A z.names.length q'.c,.slice q'.P z.parts.length q'.d] 25)).alloc (.cells #[.int .i64 z.kind,.string ⟨z.of_.toArray⟩,.string ⟨z.name.toArray⟩,.slice q'.A z.names.length q'.c,.slice q'.P z.parts.length q'.d] 25)).heap.size:=by
     rcases hat with h | h
     {exact Or.inl h.symm}
     {exact Or.inr (by have:=Option.some.inj h; simp at this ⊢; omega)}
    have HN:Hid (Rp7 W1 (W3.setCell ⟨ob,4,none⟩ (.slice (some ⟨g3,0,none⟩) (l.length+1) cap)) ob t sorted (i+1)):=Y1 (Rp7.push (x:=⟨[],z,q',F⟩) HO3.out HL.out hlt (by rw[<-HX.out, <-HZ.out]) HOW.out HFB.out hg3 hat2 hrow);have hobr:some ob≠rowB AP:=fun e=>by have:=(OutS.row HO3.out.rP ob e.symm).1; have:=HO3.out.lt; omega
    have hobl:ob < ((w2.alloc (.cells #[.int .i64 z.kind,.string ⟨z.of_.toArray⟩,.string ⟨z.name.toArray⟩,.slice q'.A z.names.length q'.c,.slice q'.P z.parts.length q'.d] 25)).alloc (.cells #[.int .i64 z.kind,.string ⟨z.of_.toArray⟩,.string ⟨z.name.toArray⟩,.slice q'.A z.names.length q'.c,.slice q'.P z.parts.length q'.d] 25)).heap.size:=by
     have:=HO3.out.up.size; have:=HO3.out.lt; simp at *; omega
    have x4:=(World.cell?_of_block (w:=(w2.alloc (.cells #[.int .i64 z.kind,.string ⟨z.of_.toArray⟩,.string ⟨z.name.toArray⟩,.slice q'.A z.names.length q'.c,.slice q'.P z.parts.length q'.d] 25)).alloc (.cells #[.int .i64 z.kind,.string ⟨z.of_.toArray⟩,.string ⟨z.name.toArray⟩,.slice q'.A z.names.length q'.c,.slice q'.P z.parts.length q'.d] 25)) (a:=⟨ob,4,none⟩) (hg3.block ob hobl hobr)).trans (((Z01 (w2.alloc (.cells #[.int .i64 z.kind,.string ⟨z.of_.toArray⟩,.string ⟨z.name.toArray⟩,.slice q'.A z.names.length q'.c,.slice q'.P z.parts.length q'.d] 25)) (.cells #[.int .i64 z.kind,.string ⟨z.of_.toArray⟩,.string ⟨z.name.toArray⟩,.slice q'.A z.names.length q'.c,.slice q'.P z.parts.length q'.d] 25)).cell (p:=⟨ob,4,none⟩) (by simp at hobl ⊢; have:=HO3.out.up.size; have:=HO3.out.lt; simp at *; omega)).trans HO3.out.c4);have xf:=(World.frozen?_of_block (w:=(w2.alloc (.cells #[.int .i64 z.kind,.string ⟨z.of_.toArray⟩,.string ⟨z.name.toArray⟩,.slice q'.A z.names.length q'.c,.slice q'.P z.parts.length q'.d] 25)).alloc (.cells #[.int .i64 z.kind,.string ⟨z.of_.toArray⟩,.string ⟨z.name.toArray⟩,.slice q'.A z.names.length q'.c,.slice q'.P z.parts.length q'.d] 25)) (a:=⟨ob,4,none⟩) (hg3.block ob hobl hobr)).trans (((Z01 (w2.alloc (.cells #[.int .i64 z.kind,.string ⟨z.of_.toArray⟩,.string ⟨z.name.toArray⟩,.slice q'.A z.names.length q'.c,.slice q'.P z.parts.length q'.d] 25)) (.cells #[.int .i64 z.kind,.string ⟨z.of_.toArray⟩,.string ⟨z.name.toArray⟩,.slice q'.A z.names.length q'.c,.slice q'.P z.parts.length q'.d] 25)).frozen (p:=⟨ob,4,none⟩) (by simp at hobl ⊢; have:=HO3.out.up.size; have:=HO3.out.lt; simp at *; omega)).trans (HO3.out.fz 4));clear hrow hg3 hat hat2 hobr hobl o4 fz4 k0 k1 k2 k3 k4 m0 m1 m2 m3 m4;go_wp2
    go_roundw
    case rel=>exact ⟨i+1,by go_num,by omega,HN⟩
    case measure=>simp[intOf]; omega}}
  {have hie:i=t.parts.length:=by omega
   have HLL:=Y1 hli;have HE:Hid (l.map El.t=t.parts.map sorted):=Y1 (by rw[hl,hie,List.take_of_length_le (by simp)]);have hi1: ¬(i:Int) < (t.parts.length:Int):=by omega
   have HO:=Y1 hO;have HBWR:=Y1 hbw;have HER:=Y1 (hO.box HBR.out (by have:=HOB.out; omega));have HOO:=Y1 (show w.heap.size+1≠ob by have:=HOB.out; omega);obtain ⟨_,⟨r0,r1,r2,r3,r4⟩,f0,f1,f2,f3,f4⟩:=HER.out;simp only[Nat.zero_add] at r0 r1 r2 r3 r4;have o0:=hO.c0;have o1:=hO.c1;have o2:=hO.c2;have o3:=hO.c3;have o4:=hO.c4;clear hO hl hbw;have hne:ob≠w.heap.size+1:=fun e=>HOO.out e.symm;go_wp2;refine bodyPost_ret (v:= .agg #[.int .i64 t.kind,.string ⟨t.of_.toArray⟩,.string ⟨t.name.toArray⟩,.slice none 0 0,.slice AP t.parts.length cP]) (by simp[results,Tryz.results69,go_sem,r0,r1,r2,r3,r4]) rfl ?_;have hsm:=HQ.out.small;have hnn: (sorted t).names= []:=by rw[HS.out]
   have hpp: (sorted t).parts=l.map El.t:=by rw[HS.out,HE.out]
   have hoo: (sorted t).of_=t.of_:=by rw[HS.out]
   have hna: (sorted t).name=t.name:=by rw[HS.out]
   have hkk: (sorted t).kind=t.kind:=by rw[HS.out]
   obtain ⟨ho,hF⟩:=HO.out.result (u:=sorted t) hnn hpp (by rw[hoo]; exact hsm.o) (by rw[hna]; exact hsm.n) (by rw[hnn]; nofun) (by simp) (by have:=HLL.out; omega);have h5:=Z2F (b:=w.heap.size+1) ho (fun b hb e=>by have:=hF b hb; have:=HSZ.out; omega) (.int .i64 t.kind) (.string ⟨t.of_.toArray⟩) (.string ⟨t.name.toArray⟩) (.slice none 0 0) (.slice AP t.parts.length cP);have h6:=Z1n (b:=w.heap.size+1) HBWR.out (by omega) (.int .i64 t.kind) (.string ⟨t.of_.toArray⟩) (.string ⟨t.name.toArray⟩) (.slice none 0 0) (.slice AP t.parts.length cP);refine ⟨⟨none,0,AP,cP⟩, ?_,(rowB none).toList++(rowB AP).toList++l.flatMap El.F,h5,fun b hb=>by have:=hF b hb; have:=HSZ.out; omega,h6⟩;rw[hkk,hoo,hna,hnn,hpp,List.length_map,HLL.out,hie];rfl}
theorem Z8j {w:World} {base base' size n:Nat} {e:TypeId} {v:Value} {xs:List Value} (h:w.ownsRow base e size v n xs) (hb:base'<=base):w.ownsRow base' e size v n xs:=
 ⟨h.1,h.2.elim Or.inl (fun ⟨g,cap,cur,hv,hg,r⟩=>Or.inr ⟨g,cap,cur,hv,Nat.le_trans hb hg,r⟩)⟩
def hiA (A:Option Addr) (k c size:Nat):Option Addr:=if c=k then A else A.map (·.add (k * size))
section
variable {W W' : World} {B e size m c k : Nat} {A : Option Addr} {xs : List Value} (h : W.ownsRow B e size (.slice A m c) m xs) (hk : k <= m) (hb : Below W.heap.size W W')
include W W' B e size m c k A xs h hk hb
theorem ZaO:
 ∀ad,A=some ad-> ∀j u,(xs.take (k * size))[j]? =some u->W'.cell? (ad.add j)=some u:=by
 intro ad hA j u hj;rcases slice_form h with ⟨h1,_⟩ | ⟨g,h1,_⟩
 {rw[h1] at hA; cases hA}
 {rw[h1] at hA h;cases hA;have hjl:j < k * size:=by
   rcases Nat.lt_or_ge j (k * size) with hl | hl
   {exact hl}
   {rw[List.getElem?_eq_none (by rw[List.length_take]; omega)] at hj; cases hj}
  have hkm:k * size<=m * size:=Nat.mul_le_mul_right _ hk;rw[Z0f,Nat.zero_add,hb.cell (p:=⟨g,j,none⟩) (h.lt g rfl).2,h.cellAt j (by omega)]
  rwa [List.getElem?_take,if_pos hjl] at hj}
theorem ZaP:
 ∀ad,hiA A k c size=some ad-> ∀j u,(xs.drop (k * size))[j]? =some u->W'.cell? (ad.add j)=some u:=by
 intro ad hA j u hj;have hxl:=h.1;rcases slice_form h with ⟨h1,h2,h3⟩ | ⟨g,h1,h2⟩
 {rw[h1] at hA;unfold hiA at hA;split at hA <;> cases hA}
 {rw[h1] at hA h;unfold hiA at hA;have hjl:k * size+j < m * size:=by
   rcases Nat.lt_or_ge (k * size+j) (m * size) with hl | hl
   {exact hl}
   {rw[List.getElem?_eq_none (by rw[List.length_drop]; omega)] at hj; cases hj}
  split at hA
  {rename_i hck
   have:m * size<=k * size:=Nat.mul_le_mul_right _ (by omega);omega}
  {simp only[Option.map_some,Option.some.injEq] at hA;subst hA;rw[Z0f,Z0f,Nat.zero_add,hb.cell (p:=⟨g,k * size+j,none⟩) (h.lt g rfl).2,h.cellAt _ hjl]
   rwa [List.getElem?_drop] at hj}}
end
section
variable {W : World} {B e size m c k : Nat} {A : Option Addr} {xs : List Value} (h : W.ownsRow B e size (.slice A m c) m xs)
include W B e size m c k A xs h
theorem Z6V (hk:k<=m):hiA A k c size=none->m - k=0/\c - k=0:=by
 intro hA;rcases slice_form h with ⟨h1,h2,h3⟩ | ⟨g,h1,h2⟩
 {omega}
 {rw[h1] at hA;unfold hiA at hA;split at hA <;> cases hA}
theorem Z8k (hk:k<=m):A=none->k=0/\c=0:=by
 intro hA;rcases slice_form h with ⟨h1,h2,h3⟩ | ⟨g,h1,h2⟩
 {omega}
 {rw[h1] at hA; cases hA}
theorem Z5D (s:Nat):sliced A 0 k c s= .slice A k c:=by
 unfold sliced;rcases slice_form h with ⟨h1,_⟩ | ⟨g,h1,_⟩
 {rw[h1]; simp}
 {rw[h1]; simp[Addr.add]}
end
theorem Z5E (A:Option Addr) (k m c s:Nat):sliced A k m c s= .slice (hiA A k c s) (m - k) (c - k):=rfl
section
variable (W : World) (A : Option Addr) (m c k : Nat)
include W A m c k
theorem Z9u (hk:k<=c): (Instr.sliceAt 22 (.slice A m c) none (some (.int .i64 (k:Int))) none).run Tryz.prog W= .ok (sliced A 0 k c 1) W:=by
 have h1:Tryz.prog.underlying 22=some (.slice (Tryz.prog.elem 22)):=by kernel_rfl
 have h: (sizeOf (Tryz.prog.elem 22)).run Tryz.prog W= .ok 1 W:=by kernel_rfl
 rw[run_sliceAt_slice _ _ _ _ _ _ h1,run_slice_h _ _ _ _ _ h1 _ _ (by omega) (by omega),h,show (k:Int).toNat=k from by omega];rfl
theorem Z9v (hk:k<=m): (Instr.sliceAt 22 (.slice A m c) (some (.int .i64 (k:Int))) none none).run Tryz.prog W= .ok (sliced A k m c 1) W:=by
 have h1:Tryz.prog.underlying 22=some (.slice (Tryz.prog.elem 22)):=by kernel_rfl
 have h: (sizeOf (Tryz.prog.elem 22)).run Tryz.prog W= .ok 1 W:=by kernel_rfl
 rw[run_sliceAt_slice _ _ _ _ _ _ h1,run_slice_l _ _ _ _ _ h1 _ _ (by omega) (by omega),h,show (k:Int).toNat=k from by omega];rfl
theorem Z6W (hk:k<=c): (Instr.sliceAt 23 (.slice A m c) none (some (.int .i64 (k:Int))) none).run Tryz.prog W= .ok (sliced A 0 k c 5) W:=by
 have h1:Tryz.prog.underlying 23=some (.slice (Tryz.prog.elem 23)):=by kernel_rfl
 have h: (sizeOf (Tryz.prog.elem 23)).run Tryz.prog W= .ok 5 W:=by kernel_rfl
 rw[run_sliceAt_slice _ _ _ _ _ _ h1,run_slice_h _ _ _ _ _ h1 _ _ (by omega) (by omega),h,show (k:Int).toNat=k from by omega];rfl
theorem Z6X (hk:k<=m): (Instr.sliceAt 23 (.slice A m c) (some (.int .i64 (k:Int))) none none).run Tryz.prog W= .ok (sliced A k m c 5) W:=by
 have h1:Tryz.prog.underlying 23=some (.slice (Tryz.prog.elem 23)):=by kernel_rfl
 have h: (sizeOf (Tryz.prog.elem 23)).run Tryz.prog W= .ok 5 W:=by kernel_rfl
 rw[run_sliceAt_slice _ _ _ _ _ _ h1,run_slice_l _ _ _ _ _ h1 _ _ (by omega) (by omega),h,show (k:Int).toNat=k from by omega];rfl
end
def Rn7 (W1 wr:World) (ob:Nat) (t:Sh) (i:Nat):Prop:= ∃l AN cN AP cP,OutS W1 wr ob t.kind t.of_ t.name (l.map El.n) l AN cN AP cP/\l.map pr=sortF ((t.names.zip (t.parts.map sorted)).take i)
def FinC (W0:World) (ob c:Nat) (ty size n:Nat) (xs:List Value) (W:World):Prop:=
 ∃Wm g cap,Below W0.heap.size W0 Wm/\Wm.ownsRow W0.heap.size ty size (.slice (some ⟨g,0,none⟩) n cap) n xs/\W0.heap.size<=g/\W=Wm.setCell ⟨ob,c,none⟩ (.slice (some ⟨g,0,none⟩) n cap)
def Ahead (l:List El) (y:List UInt8) (k:Nat):Prop:= ∀j (h:j < l.length),j < k->(l[j]'h).n < y
theorem Rn7.push {W1 wr W3 W4 W5:World} {ob:Nat} {t:Sh} {i k:Nat} {l:List El} {AN AP:Option Addr} {cN cP:Nat} {x:El} (hO:OutS W1 wr ob t.kind t.of_ t.name (l.map El.n) l AN cN AP cP)
 (hl:l.map pr=sortF ((t.names.zip (t.parts.map sorted)).take i)) (hi:i < (t.names.zip (t.parts.map sorted)).length) (hx:pr x=(t.names.zip (t.parts.map sorted))[i]'hi) (hxo:Own wr x.q x.t x.F) (hxf: ∀b∈x.F,W1.heap.size<=b/\rowB AN≠some b/\rowB AP≠some b)
 (hk:k<=l.length) (h1:Ahead l x.n k) (h2: ∀h:k < l.length,¬(l[k]'h).n < x.n)
 (f1:FinC wr ob 3 9 1 (l.length+1) (namesE ((l.map El.n).take k)++ [.string ⟨x.n.toArray⟩]++namesE ((l.map El.n).drop k)) W4)
 (f2:FinC W4 ob 4 25 5 (l.length+1) (cellsE (l.take k)++cells5 x++cellsE (l.drop k)) W5):Rn7 W1 W5 ob t (i+1):=by
 obtain ⟨Wm,g,cap,b1,r1,hg,rfl⟩:=f1;obtain ⟨Wn,g2,cap2,b2,r2,hg2,rfl⟩:=f2;have hW:=hO.up.size;have en:namesE ((l.map El.n).take k)++ [.string ⟨x.n.toArray⟩]++namesE ((l.map El.n).drop k)=namesE ((l.take k++x::l.drop k).map El.n):=by
  simp[namesE,List.map_take,List.map_drop]
 have ec:cellsE (l.take k)++cells5 x++cellsE (l.drop k)=cellsE (l.take k++x::l.drop k):=by
  rw[show l.take k++x::l.drop k=l.take k++([x]++l.drop k) from rfl,cellsE_append,cellsE_append,cellsE_one,List.append_assoc]
 have el: (l.take k++x::l.drop k).length=l.length+1:=by simp; omega
 have elm: ((l.take k++x::l.drop k).map El.n).length=l.length+1:=by rw[List.length_map,el]
 rw[en] at r1;rw[ec] at r2;have hO2:OutS W1 (Wm.setCell ⟨ob,3,none⟩ (.slice (some ⟨g,0,none⟩) ((l.take k++x::l.drop k).map El.n).length cap)) ob t.kind t.of_ t.name ((l.take k++x::l.drop k).map El.n) l (some ⟨g,0,none⟩) cap AP cP:=
  hO.putN b1 (by rw[elm]; exact Z8j r1 hW) hg
 rw[elm] at hO2;have hxo2:Own (Wm.setCell ⟨ob,3,none⟩ (.slice (some ⟨g,0,none⟩) (l.length+1) cap)) x.q x.t x.F:=(Z0P hxo b1).of (fun b hb=>Z0z _ _ _ (fun e=>by
  have:=(hxf b hb).1; have:=hO.lt;simp at e; omega)) (by simp[World.setCell])
 have hsz: (Wm.setCell ⟨ob,3,none⟩ (.slice (some ⟨g,0,none⟩) (l.length+1) cap)).heap.size=Wm.heap.size:=by simp[World.setCell]
 have hO3:=hO2.putP (l':=l.take k++x::l.drop k) (g:=g2) (cap:=cap2) (Wm:=Wn) ⟨b2.os,b2.tape,b2.output,b2.size,fun j hj _=>b2.block j hj⟩
  (by rw[el]; exact Z8j r2 (hO2.up.size)) (Or.inr hg2) (fun y hy=>by
   rcases List.mem_append.1 hy with hy | hy
   {exact ⟨hO2.own y (List.mem_of_mem_take hy),fun b hb=>hO2.fs y (List.mem_of_mem_take hy) b hb⟩}
   · rcases List.mem_cons.1 hy with rfl | hy
     {refine ⟨hxo2,fun b hb=>⟨(hxf b hb).1,fun e=> ?_,(hxf b hb).2.2⟩⟩;have e2:g=b:=Option.some.inj e;have:=hxo.lt b hb;omega}
     · exact ⟨hO2.own y (List.mem_of_mem_drop hy),fun b hb=>hO2.fs y (List.mem_of_mem_drop hy) b hb⟩)
 rw[el] at hO3;refine ⟨l.take k++x::l.drop k,some ⟨g,0,none⟩,cap,some ⟨g2,0,none⟩,cap2, ?_, ?_⟩
 {rw[<-elm, <-el] at *;exact hO3}
 {rw[Z9t hi, <-hl, <-hx];rw[ZaK (L:=l.map pr) (x:=pr x) (k:=k) (by simpa using hk) (fun j h hj=>by
   have:=h1 j (by simpa using h) hj;simpa[pr] using this) (fun h=>by
   have:=h2 (by simpa using h);simpa[pr] using this)]
  simp[List.map_take,List.map_drop]}
end
end Go.Proofs.YtlomianlcnmfgaaGreatDoor
