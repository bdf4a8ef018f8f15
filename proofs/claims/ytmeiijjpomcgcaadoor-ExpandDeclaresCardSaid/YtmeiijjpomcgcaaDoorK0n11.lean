/- What the proofs of ExpandDeclares want, part 11. -/
import Derived.Test.YtmeiijjpomcgcaaDoorK0n10
set_option linter.unusedVariables false
set_option linter.unusedSimpArgs false
set_option linter.unusedSectionVars false
set_option maxRecDepth 100000
set_option maxHeartbeats 16000000
namespace Go.Proofs.YtmeiijjpomcgcaaDoor
section
open Go.RowKit Shp
theorem Z2c {d:Nat->Bool} (i:Nat) {k:Nat} (h:d k=true):also d i k=true:=by
 by_cases e:k=i
 {subst e; unfold also; rw[Nat.beq_refl]; rfl}
 {unfold also;have:Nat.beq k i=false:=by cases hb:Nat.beq k i <;> first | rfl | exact absurd (Nat.eq_of_beq_eq_true hb) e
  rw[this]; exact h}
theorem ne11 (d:Nat->Bool) {i j:Nat} (h:j≠i):also d i j=d j:=by
 unfold also;have:Nat.beq j i=false:=by cases hb:Nat.beq j i <;> first | rfl | exact absurd (Nat.eq_of_beq_eq_true hb) h
 rw[this]; rfl
theorem Z71 (d:Nat->Bool) (i:Nat):also d i i=true:=by unfold also; rw[Nat.beq_refl]; rfl
structure UpG (b B:Nat) (w w':World):Prop where
 os:w'.os=w.os
 tape:w'.tape=w.tape
 output:w'.output=w.output
 size:w.heap.size<=w'.heap.size
 block: ∀x,x < B->x≠b->w'.heap[x]? =w.heap[x]?
section
variable {b B : Nat} {w w' w'' : World}
theorem UpG.refl (b B:Nat) (w:World):UpG b B w w:=⟨rfl,rfl,rfl,Nat.le_refl _,fun _ _ _=>rfl⟩
theorem UpG.trans (h:UpG b B w w') (k:UpG b B w' w''):UpG b B w w'':=
 ⟨k.os.trans h.os,k.tape.trans h.tape,k.output.trans h.output,Nat.le_trans h.size k.size,fun x h1 h2=>(k.block x h1 h2).trans (h.block x h1 h2)⟩
theorem UpG.low (h:UpG b B w w') {B':Nat} (h1:B'<=B) (h2:B'<=b):Below B' w w':=⟨h.os,h.tape,h.output,h.size,fun x hx=>h.block x (by omega) (by omega)⟩
theorem UpG.cell (h:UpG b B w w') {g k:Nat} (h1:g < B) (h2:g≠b):w'.cell? ⟨g,k,none⟩=w.cell? ⟨g,k,none⟩:=World.cell?_of_block (w:=w) (h.block g h1 h2)
end
def plV (p:Nat×Nat):Value:= .pointer (some ⟨p.1,p.2 * 5,none⟩)
structure Grp (W:World) (B b N:Nat) (S:List Ky) (m:Ky->Value) (ps:Ky->List (Nat×Nat)):Prop where
 mp:Mp W b N S m
 row: ∀k∈S,W.ownsRow B 71 1 (m k) (ps k).length ((ps k).map plV)
 ne: ∀k∈S,ps k≠ []
 no: ∀k,k∉S->ps k= []
 far: ∀k∈S,∀k'∈S,k≠k'->(m k).ownBlock≠(m k').ownBlock
 len: ∀k,(ps k).length<=N
 bB:b < B
 Bw:B<=W.heap.size
theorem Grp.keep {W W':World} {B b N:Nat} {S:List Ky} {m:Ky->Value} {ps:Ky->List (Nat×Nat)} (h:Grp W B b N S m ps) (hb:Below W.heap.size W W'):Grp W' B b N S m ps:=by
 have hg:W.grownBy W' none:=⟨hb.os,hb.tape,hb.output,hb.size,fun k h1 _=>hb.block k h1⟩;exact ⟨h.mp.kept hg (by simp),fun k hk=>(h.row k hk).kept hg (by cases (m k).ownBlock <;> simp),h.ne,h.no,h.far,h.len,h.bB,Nat.le_trans h.Bw hb.size⟩
theorem Grp.own {W:World} {B b N:Nat} {S:List Ky} {m:Ky->Value} {ps:Ky->List (Nat×Nat)} (h:Grp W B b N S m ps) {k:Ky} (hk:k∈S):
 ∃g c,m k= .slice (some ⟨g,0,none⟩) (ps k).length c/\B<=g/\g < W.heap.size/\ ∀j (hj:j < (ps k).length),W.cell? ⟨g,j,none⟩=some (plV ((ps k)[j]'hj)):=by
 have hr:=h.row k hk;have hne:=h.ne k hk;have hlen:0 < (ps k).length:=List.length_pos_iff.2 hne;obtain ⟨g,c,e,_,hlt⟩:=hr.form hlen;have hB:=hr.lt g (by rw[e]; rfl);refine ⟨g,c,e,hB.1,hlt,fun j hj=> ?_⟩;have:=hr.cells (g:=g) (by rw[e]; rfl) j (plV ((ps k)[j]'hj)) (by simp[hj]);have ha: (⟨g,0,none⟩:Addr).add j=⟨g,j,none⟩:=by unfold Addr.add; split <;> simp_all
 rwa [ha] at this
structure UpM (b:Nat) (S:List Ky) (m:Ky->Value) (w:World) (S':List Ky) (m':Ky->Value) (w':World):Prop where
 os:w'.os=w.os
 tape:w'.tape=w.tape
 output:w'.output=w.output
 size:w.heap.size<=w'.heap.size
 block: ∀x,x < w.heap.size->x≠b->(∀k∈S,(m k).ownBlock≠some x)->w'.heap[x]? =w.heap[x]?
 rows: ∀k∈S',∀x,(m' k).ownBlock=some x->(∃k0∈S,(m k0).ownBlock=some x)\/w.heap.size<=x
section
variable {b : Nat} {S S' S'' : List Ky} {m m' m'' : Ky -> Value} {w w' w'' : World}
theorem UpM.refl (b:Nat) (S:List Ky) (m:Ky->Value) (w:World):UpM b S m w S m w:=⟨rfl,rfl,rfl,Nat.le_refl _,fun _ _ _ _=>rfl,fun k hk x hx=>Or.inl ⟨k,hk,hx⟩⟩
theorem UpM.trans (h:UpM b S m w S' m' w') (k:UpM b S' m' w' S'' m'' w''):UpM b S m w S'' m'' w'':=by
 refine ⟨k.os.trans h.os,k.tape.trans h.tape,k.output.trans h.output,Nat.le_trans h.size k.size,fun x h1 h2 h3=> ?_,fun y hy x hx=> ?_⟩
 {refine (k.block x (Nat.lt_of_lt_of_le h1 h.size) h2 (fun y hy e=> ?_)).trans (h.block x h1 h2 h3);rcases h.rows y hy x e with ⟨k0,h4,h5⟩ | h4
  {exact h3 k0 h4 h5}
  {omega}}
 {rcases k.rows y hy x hx with ⟨k0,h4,h5⟩ | h4
  {exact h.rows k0 h4 x h5}
  {exact Or.inr (Nat.le_trans h.size h4)}}
theorem Z2G (S:List Ky) (m:Ky->Value) (h:Below w.heap.size w w'):UpM b S m w S m w':=⟨h.os,h.tape,h.output,h.size,fun x h1 _ _=>h.block x h1,fun k hk x hx=>Or.inl ⟨k,hk,hx⟩⟩
theorem UpM.cell (h:UpM b S m w S' m' w') {g k:Nat} (h1:g < w.heap.size) (h2:g≠b) (h3: ∀k∈S,(m k).ownBlock≠some g):w'.cell? ⟨g,k,none⟩=w.cell? ⟨g,k,none⟩:=World.cell?_of_block (w:=w) (h.block g h1 h2 h3)
end
theorem Grp.notRow {W:World} {B b N:Nat} {S:List Ky} {m:Ky->Value} {ps:Ky->List (Nat×Nat)} (h:Grp W B b N S m ps) {x:Nat} (hx:x < B\/W.heap.size<=x): ∀k∈S,(m k).ownBlock≠some x:=fun k hk e=>by
 have:=(h.row k hk).lt x e;omega
section
variable (W2 : World) (h b N B : Nat) (S : List Ky) (m : Ky -> Value) (ps : Ky -> List (Nat × Nat)) (k : Ky) (p : Nat × Nat)
def slOf:Value:=if k∈S then m k else .slice none 0 0
def opVal (j:Nat):Option Value:=match j with
 | 0=>some (.pointer (some ⟨h,0,none⟩))
 | 1=>some (.map (some b))
 | 2=>some (keyV k)
 | 3=>some (.pointer (some ⟨h,0,none⟩))
 | 4=>some (.map (some b))
 | 5=>some (keyV k)
 | 6=>some (slOf S m k)
 | 7=>some (plV p)
 | _=>none
def OpFin (W:World):Prop:=
 ∃S' m',Grp W B b (N+1) S' m' (fun x=>if x=k then ps x++ [p] else ps x)/\(∀x,x∈S' ↔ x=k\/x∈S)/\UpM b S m W2 S' m' W
structure OpI (d:Nat->Bool) (u:Nat->Value) (W:World):Prop where
 vals: ∀j,d j=true-> ∀v,opVal h b S m k p j=some v->u j=v
 c0:W.cell? ⟨h,0,none⟩=some (.map (some b))
 c1:W.cell? ⟨h+1,0,none⟩=some (.string ⟨k.1.toArray⟩)
 c2:W.cell? ⟨h+1,1,none⟩=some (.string ⟨k.2.toArray⟩)
 e9:d 9=true->d 6=true/\d 8=true
 e10:d 10=true-> ∀j,j < 10->d j=true
 lo:d 9=false->Below W2.heap.size W2 W
 a8:d 8=true-> ∃z,u 8= .slice (some ⟨z,0,none⟩) 1 1/\(d 9=false->W2.heap.size<=z/\z < W.heap.size/\W.cell? ⟨z,0,none⟩=some (plV p))
 a9:d 9=true->d 10=false-> ∃g cp,u 9= .slice (some ⟨g,0,none⟩) ((ps k).length+1) cp/\W.ownsRow B 71 1 (.slice (some ⟨g,0,none⟩) ((ps k).length+1) cp) ((ps k).length+1) ((ps k).map plV++ [plV p])/\
  W2.grownBy W (slOf S m k).ownBlock/\((slOf S m k).ownBlock=some g\/W2.heap.size<=g)
 fin:d 10=true->OpFin W2 b N B S m ps k p W
variable {W2 h b N B S m ps k p} {d : Nat -> Bool} {u : Nat -> Value} {W : World}
section
variable (H : OpI W2 h b N B S m ps k p d u W) {i : Nat}
include H i
theorem OpI.vals' {v:Value} (hv: ∀v',opVal h b S m k p i=some v'->v=v'): ∀j,also d i j=true-> ∀v',opVal h b S m k p j=some v'->upd u i v j=v':=fun j hj v' hv'=>by
 by_cases hij:j=i
 {subst hij; rw[Z06]; exact hv v' hv'}
 {rw[ne11 d hij] at hj; rw[Z02 u v hij]; exact H.vals j hj v' hv'}
theorem OpI.pure (hi:i < 8) {v:Value} (hv: ∀v',opVal h b S m k p i=some v'->v=v'):OpI W2 h b N B S m ps k p (also d i) (upd u i v) W:=by
 have k8:=ne11 d (i:=i) (j:=8) (by omega);have k9:=ne11 d (i:=i) (j:=9) (by omega);have k10:=ne11 d (i:=i) (j:=10) (by omega);have u8:=Z02 u (i:=i) (j:=8) v (by omega);have u9:=Z02 u (i:=i) (j:=9) v (by omega);refine ⟨H.vals' hv,H.c0,H.c1,H.c2, ?_, ?_, ?_, ?_, ?_, ?_⟩
 {rw[k9]; exact fun e=>⟨Z2c i (H.e9 e).1,Z2c i (H.e9 e).2⟩}
 {rw[k10]; exact fun e j hj=>Z2c i (H.e10 e j hj)}
 {rw[k9]; exact H.lo}
 {rw[k8,u8,k9]; exact H.a8}
 {rw[k9,k10,u9]; exact H.a9}
 {rw[k10]; exact H.fin}
theorem OpI.not10 (hi:i < 10) (hd:d i=false):d 10=false:=by
 cases e:d 10 with
 | false=>rfl
 | true=>have:=H.e10 e i hi; rw[hd] at this; cases this
theorem OpI.not9 (hi:i=6\/i=8) (hd:d i=false):d 9=false:=by
 cases e:d 9 with
 | false=>rfl
 | true=>rcases hi with rfl | rfl <;> have:=H.e9 e <;> rw[hd] at this <;> simp at this
end
end
theorem Zcu: (Tryd.prog.info? 71).map (fun i=>(i.zero,i.size,i.bytes))=some (some (.pointer none),1,8):=by kernel_rfl
section
variable {P : Program} {ρ : Operand -> Value} {o : Oper} {t : TypeId}
include P ρ o t
theorem Z86 {x ix:Operand} {ok:Bool} {W W':World} {v:Value} (ho:o.op=Op.lookup t x ix ok) (h: (Instr.lookup t (ρ x) (ρ ix) ok).run P W= .ok v W'): (execOp ρ o).run P W= .ok (.value v) W':=by
 simp[execOp,ho,h,Result.andThen]
theorem Z87 {m k x:Operand} {W W':World} (ho:o.op=Op.mapUpdate t m k x) (h: (Instr.mapUpdate t (ρ m) (ρ k) (ρ x)).run P W= .ok () W'): (execOp ρ o).run P W= .ok .skip W':=by
 simp[execOp,ho,h,Result.andThen]
end
theorem Zcv (p:Nat×Nat): ∀u∈ [plV p],u.oneCell'=true:=by intro u hu; simp at hu; subst hu; rfl
theorem ZaP (W:World) (B b N:Nat) (S:List Ky) (m:Ky->Value) (ps:Ky->List (Nat×Nat)) (k:Ky) (p:Nat×Nat) (hk:Fine k) (hG:Grp W B b N S m ps) (hN:N<=1000):
 Calls Tryd.prog 50 #[.agg #[.map (some b)],keyV k,plV p] W fun e W'=>e= .returned (.tuple #[])/\OpFin W b N B S m ps k p W':=by
 have hb2:Below W.heap.size W ((W.alloc (.cells #[.map (some b)] 69)).alloc (.cells #[.string ⟨k.1.toArray⟩,.string ⟨k.2.toArray⟩] 76)):=Z0h (Z01 _ _) _;have HB2:=Y1 hb2;have HG2:=Y1 (hG.keep hb2);have HG0:=Y1 hG;have HBw:=Y1 hG.Bw;have HbB:=Y1 hG.bB;have c0: ((W.alloc (.cells #[.map (some b)] 69)).alloc (.cells #[.string ⟨k.1.toArray⟩,.string ⟨k.2.toArray⟩] 76)).cell? ⟨W.heap.size,0,none⟩=some (.map (some b)):=by simp[go_sem]
 have c1: ((W.alloc (.cells #[.map (some b)] 69)).alloc (.cells #[.string ⟨k.1.toArray⟩,.string ⟨k.2.toArray⟩] 76)).cell? ⟨W.heap.size+1,0,none⟩=some (.string ⟨k.1.toArray⟩):=by simp[go_sem]
 have c2: ((W.alloc (.cells #[.map (some b)] 69)).alloc (.cells #[.string ⟨k.1.toArray⟩,.string ⟨k.2.toArray⟩] 76)).cell? ⟨W.heap.size+1,1,none⟩=some (.string ⟨k.2.toArray⟩):=by simp[go_sem]
 have C0:=Y1 c0;have C1:=Y1 c1;have C2:=Y1 c2;have HZ2:=Y1 (show W.heap.size+2=((W.alloc (.cells #[.map (some b)] 69)).alloc (.cells #[.string ⟨k.1.toArray⟩,.string ⟨k.2.toArray⟩] 76)).heap.size from by simp);obtain ⟨i0,hif,hz0,hz1,hz2⟩:=info_parts Zcu;clear hb2 hG c0 c1 c2;unfold keyV plV;go_enter Tryd.func50,Tryd.ntmps50;go_wp2;generalize (W.alloc (.cells #[.map (some b)] 69)).alloc (.cells #[.string ⟨k.1.toArray⟩,.string ⟨k.2.toArray⟩] 76)=W2 at HB2 HG2 C0 C1 C2 HZ2 ⊢;refine Z3a (rs:= [0,1,2,3,4,5,6,7,8,9,10])
  (fun u=> { tmps:=#[.agg #[.map (some b)],.agg #[.string ⟨k.1.toArray⟩,.string ⟨k.2.toArray⟩],.pointer (some ⟨p.1,p.2 * 5,none⟩),.pointer (some ⟨W.heap.size,0,none⟩),.pointer (some ⟨W.heap.size+1,0,none⟩),undef,u 0,u 1,u 2,u 3,u 4,u 5,u 6,u 7,u 8,u 9],defers:= [] })
  (fun _=>undef) (OpI W2 W.heap.size b N B S m ps k p) (by kernel_rfl) (by kernel_rfl) (by kernel_rfl) ?_ ?_ ?_
 {exact ⟨nofun,C0.out,C1.out,C2.out,nofun,nofun,fun _=>Y2.drew,nofun,nofun,nofun⟩}
 {refine StepsInv.cons _ rfl (fun d u W1 K' hI hd hw hK=> ?_) ?_
  {refine Z00 (v:= .pointer (some ⟨W.heap.size,0,none⟩)) (W':=W1) rfl ?_ (hK.out _ _ (hI.pure (by decide) (fun v' h=>by cases h; rfl)));go_simp}
  refine StepsInv.cons _ rfl (fun d u W1 K' hI hd hw hK=> ?_) ?_
  {have d0:u 0= .pointer (some ⟨W.heap.size,0,none⟩):=hI.vals 0 (hw 0 (by kernel_rfl)) _ rfl;have c0:=hI.c0;refine Z00 (v:= .map (some b)) (W':=W1) rfl ?_ (hK.out _ _ (hI.pure (by decide) (fun v' h=>by cases h; rfl)));go_simp}
  refine StepsInv.cons _ rfl (fun d u W1 K' hI hd hw hK=> ?_) ?_
  {have c1:=hI.c1;have c2:=hI.c2;refine Z00 (v:= .agg #[.string ⟨k.1.toArray⟩,.string ⟨k.2.toArray⟩]) (W':=W1) rfl ?_ (hK.out _ _ (hI.pure (by decide) (fun v' h=>by cases h; rfl)));go_simp}
  refine StepsInv.cons _ rfl (fun d u W1 K' hI hd hw hK=> ?_) ?_
  {refine Z00 (v:= .pointer (some ⟨W.heap.size,0,none⟩)) (W':=W1) rfl ?_ (hK.out _ _ (hI.pure (by decide) (fun v' h=>by cases h; rfl)));go_simp}
  refine StepsInv.cons _ rfl (fun d u W1 K' hI hd hw hK=> ?_) ?_
  {have d3:u 3= .pointer (some ⟨W.heap.size,0,none⟩):=hI.vals 3 (hw 3 (by kernel_rfl)) _ rfl;have c0:=hI.c0;refine Z00 (v:= .map (some b)) (W':=W1) rfl ?_ (hK.out _ _ (hI.pure (by decide) (fun v' h=>by cases h; rfl)));go_simp}
  refine StepsInv.cons _ rfl (fun d u W1 K' hI hd hw hK=> ?_) ?_
  {have c1:=hI.c1;have c2:=hI.c2;refine Z00 (v:= .agg #[.string ⟨k.1.toArray⟩,.string ⟨k.2.toArray⟩]) (W':=W1) rfl ?_ (hK.out _ _ (hI.pure (by decide) (fun v' h=>by cases h; rfl)));go_simp}
  refine StepsInv.cons _ rfl (fun d u W1 K' hI hd hw hK=> ?_) ?_
  {have d4:u 4= .map (some b):=hI.vals 4 (hw 4 (by kernel_rfl)) _ rfl;have d5:u 5=keyV k:=hI.vals 5 (hw 5 (by kernel_rfl)) _ rfl;have hlo:=hI.lo (hI.not9 (Or.inl rfl) hd);have hl:=(HG2.out.mp.same (hlo.block b (Nat.lt_of_lt_of_le HbB.out HG2.out.Bw))).look hk;refine Z00 (v:=slOf S m k) (W':=W1) rfl ?_ (hK.out _ _ (hI.pure (by decide) (fun v' h=>by cases h; rfl)));refine Z86 (t:=67) (x:= .tmp 10) (ix:= .tmp 11) rfl ?_;change (Instr.lookup _ (u 4) (u 5) false).run _ W1=_;rw[d4,d5];exact hl}
  refine StepsInv.cons _ rfl (fun d u W1 K' hI hd hw hK=> ?_) ?_
  {refine Z00 (v:= .pointer (some ⟨p.1,p.2 * 5,none⟩)) (W':=W1) rfl ?_ (hK.out _ _ (hI.pure (by decide) (fun v' h=>by cases h; rfl)));go_simp}
  refine StepsInv.cons _ rfl (fun d u W1 K' hI hd hw hK=> ?_) ?_
  {have d7:u 7= .pointer (some ⟨p.1,p.2 * 5,none⟩):=hI.vals 7 (hw 7 (by kernel_rfl)) _ rfl;refine Z00 (v:= .slice (some ⟨W1.heap.size,0,none⟩) 1 1) (W':=W1.alloc (.cells #[.pointer (some ⟨p.1,p.2 * 5,none⟩)] 71)) rfl ?_ (hK.out _ _ ?_)
   {go_simp}
   {have n9:=hI.not9 (Or.inr rfl) hd;have n10:=hI.not10 (by decide) hd;have hb:=Z01 W1 (.cells #[.pointer (some ⟨p.1,p.2 * 5,none⟩)] 71);have hlo:=hI.lo n9;have hz:W.heap.size+2<=W1.heap.size:=by have:=hlo.size; have:=HZ2.out; omega
    refine ⟨hI.vals' (by intro v' h; cases h),(hb.cell (p:=⟨W.heap.size,0,none⟩) (by show W.heap.size < _; omega)).trans hI.c0,(hb.cell (p:=⟨W.heap.size+1,0,none⟩) (by show W.heap.size+1 < _; omega)).trans hI.c1,(hb.cell (p:=⟨W.heap.size+1,1,none⟩) (by show W.heap.size+1 < _; omega)).trans hI.c2, ?_, ?_, ?_, ?_, ?_, ?_⟩
    {rw[ne11 d (by decide),n9]; nofun}
    {rw[ne11 d (by decide),n10]; nofun}
    {exact fun _=>Z03 hlo hb}
    {exact fun _=>⟨W1.heap.size,Z06 _ _ _,fun _=>⟨hlo.size,by simp,by simp[go_sem,plV]⟩⟩}
    {rw[ne11 d (by decide),n9]; nofun}
    {rw[ne11 d (by decide),n10]; nofun}}}
  refine StepsInv.cons _ rfl (fun d u W1 K' hI hd hw hK=> ?_) ?_
  {have d6:u 6=slOf S m k:=hI.vals 6 (hw 6 (by kernel_rfl)) _ rfl;have w6:=hw 6 (by kernel_rfl);have w8:=hw 8 (by kernel_rfl);have n10:=hI.not10 (by decide) hd;have hlo:=hI.lo hd;obtain ⟨z,u8,hz⟩:=hI.a8 w8;obtain ⟨z1,z2,z3⟩:=hz hd;have hgW:W2.grownBy W1 none:=⟨hlo.os,hlo.tape,hlo.output,hlo.size,fun x h1 _=>hlo.block x h1⟩;have hrow:W1.ownsRow B 71 1 (slOf S m k) (ps k).length ((ps k).map plV):=by
    unfold slOf;by_cases hS:k∈S
    {rw[if_pos hS]; exact (HG2.out.row k hS).kept hgW (by cases (m k).ownBlock <;> simp)}
    {rw[if_neg hS,HG2.out.no k hS]; exact World.ownsRow_nil _ _ _ _}
   have hlen:=HG2.out.len k;have hB1:B<=W1.heap.size:=Nat.le_trans HG2.out.Bw hlo.size;have hold: ∀x,(slOf S m k).ownBlock=some x->x < W.heap.size:=fun x hx=>by
    unfold slOf at hx;by_cases hS:k∈S
    {rw[if_pos hS] at hx; exact ((HG0.out.row k hS).lt x hx).2}
    {rw[if_neg hS] at hx; cases hx}
   refine step_append_lies W1 rfl _ _ 90 rfl B 71 i0 (.pointer none) 1 8 Tryd.underlying90 hif hz0 hz1 hz2 rfl (by decide) (slOf S m k) (ps k).length ((ps k).map plV) (by show u 6=_; exact d6) hrow ⟨z,0,none⟩ 1 1 [plV p] (by show u 8=_; exact u8) (by simp) (by
    intro j v hv;rcases j with _ | j
    {have ha: (⟨z,0,none⟩:Addr).add 0=⟨z,0,none⟩:=by unfold Addr.add; split <;> simp_all
     rw[ha,z3]; simpa using hv}
    · simp at hv) (Zcv p) (by decide) (by unfold maxLen; omega) (by omega) hB1 _ rfl ?_
   intro g cp W' hown hg hat hlt;refine hK.out _ _ ?_;have hzz:W.heap.size+2<=W1.heap.size:=by have:=hlo.size; have:=HZ2.out; omega
   have far: ∀(x o:Nat),x < W1.heap.size->W.heap.size<=x->W'.cell? ⟨x,o,none⟩=W1.cell? ⟨x,o,none⟩:=fun x o h1 h2=>hg.cell_far ⟨x,o,none⟩ h1 (fun e=>by have:=hold x e.symm; omega);refine ⟨hI.vals' (by intro v' h; cases h),(far _ _ (by omega) (by omega)).trans hI.c0,(far _ _ (by omega) (by omega)).trans hI.c1,(far _ _ (by omega) (by omega)).trans hI.c2, ?_, ?_, ?_, ?_, ?_, ?_⟩
   {exact fun _=>⟨Z2c 9 w6,Z2c 9 w8⟩}
   {rw[ne11 d (by decide),n10]; nofun}
   {rw[Z71]; nofun}
   {exact fun _=>⟨z,by rw[Z02 u _ (by decide)]; exact u8,by rw[Z71]; nofun⟩}
   {refine fun _ _=>⟨g,cp,Z06 _ _ _,hown, ?_, ?_⟩
    {exact World.grownBy.trans ⟨hlo.os,hlo.tape,hlo.output,hlo.size,fun x h1 _=>hlo.block x h1⟩ hg}
    {rcases hat with h | h
     {exact Or.inl h}
     {exact Or.inr (by rw[h]; exact hlo.size)}}}
   {rw[ne11 d (by decide),n10]; nofun}}
  refine StepsInv.cons _ rfl (fun d u W1 K' hI hd hw hK=> ?_) StepsInv.nil
  {have d1:u 1= .map (some b):=hI.vals 1 (hw 1 (by kernel_rfl)) _ rfl;have d2:u 2=keyV k:=hI.vals 2 (hw 2 (by kernel_rfl)) _ rfl;obtain ⟨g,cp,u9,hown,hg,hat⟩:=hI.a9 (hw 9 (by kernel_rfl)) hd;have hsl: ∀x,(slOf S m k).ownBlock=some x->k∈S/\(m k).ownBlock=some x:=fun x hx=>by
    unfold slOf at hx;by_cases hS:k∈S
    {rw[if_pos hS] at hx; exact ⟨hS,hx⟩}
    {rw[if_neg hS] at hx; cases hx}
   have hbB:=HbB.out;have hrowB: ∀x,(slOf S m k).ownBlock=some x->B<=x/\x < W2.heap.size:=fun x hx=>(HG2.out.row k (hsl x hx).1).lt x (hsl x hx).2;have hB2:=HG2.out.Bw;have hMp:=HG2.out.mp.same (hg.block b (by omega) (fun e=>by have:=(hrowB b e.symm).1; omega));obtain ⟨W',hr,hMp',hturn⟩:=hMp.put hk (by unfold maxLen; omega) (v:= .slice (some ⟨g,0,none⟩) ((ps k).length+1) cp) (z:=_) rfl;refine Z2E (W':=W') rfl ?_ (hK.out undef _ ?_)
   {refine Z87 (t:=67) (m:= .tmp 7) (k:= .tmp 8) (x:= .tmp 15) rfl ?_;change (Instr.mapUpdate _ (u 1) (u 2) (u 9)).run _ W1=_;rw[d1,d2,u9];exact hr}
   {have hgt:=hturn.grown;have hgB:B<=g/\g < W1.heap.size:=hown.lt g rfl;have hzz:W.heap.size+2<=W1.heap.size:=by have:=hg.size; have:=HZ2.out; omega
    have hBW:=HBw.out;have far: ∀(x o:Nat),x < W1.heap.size->W.heap.size<=x->W'.cell? ⟨x,o,none⟩=W1.cell? ⟨x,o,none⟩:=fun x o h1 h2=>hgt.cell_far ⟨x,o,none⟩ h1 (fun e=>by have e2:x=b:=Option.some.inj e; omega);refine ⟨hI.vals' (by intro v' h; cases h),(far _ _ (by omega) (by omega)).trans hI.c0,(far _ _ (by omega) (by omega)).trans hI.c1,(far _ _ (by omega) (by omega)).trans hI.c2, ?_, ?_, ?_, ?_, ?_, ?_⟩
    {exact fun _=>⟨Z2c 10 (hw 6 (by kernel_rfl)),Z2c 10 (hw 8 (by kernel_rfl))⟩}
    {intro _ j hj;refine Z2c 10 (hw j ?_);rcases j with _ | _ | _ | _ | _ | _ | _ | _ | _ | _ | j
     {kernel_rfl}
     {kernel_rfl}
     {kernel_rfl}
     {kernel_rfl}
     {kernel_rfl}
     {kernel_rfl}
     {kernel_rfl}
     {kernel_rfl}
     {kernel_rfl}
     {kernel_rfl}
     {omega}}
    {rw[ne11 d (by decide),hw 9 (by kernel_rfl)]; nofun}
    {intro _;obtain ⟨z,u8,_⟩:=hI.a8 (hw 8 (by kernel_rfl));exact ⟨z,by rw[Z02 u _ (by decide)]; exact u8,by rw[ne11 d (by decide),hw 9 (by kernel_rfl)]; nofun⟩}
    {rw[Z71]; intro _ h; cases h}
    {intro _;have hmem: ∀x,x∈(if k∈S then S else k::S) ↔ x=k\/x∈S:=fun x=>by
      by_cases e:k∈S
      {rw[if_pos e]; exact ⟨Or.inr,fun h=>h.elim (fun h=>h▸e) id⟩}
      {rw[if_neg e]; exact List.mem_cons}
     refine ⟨_,_,⟨hMp', ?_, ?_, ?_, ?_, ?_,hbB, ?_⟩,hmem,⟨hgt.os.trans hg.os,hgt.tape.trans hg.tape,hgt.output.trans hg.output,Nat.le_trans hg.size hgt.size, ?_, ?_⟩⟩
     {intro x hx;by_cases e:x=k
      {subst e;simp only[if_true,List.length_append,List.map_append,List.length_singleton,List.map_cons,List.map_nil];exact hown.kept hgt (Or.inr (fun e=>by have e2:g=b:=Option.some.inj e; omega))}
      {simp only[if_neg e];have hxS:=((hmem x).1 hx).resolve_left e;have hrx:=HG2.out.row x hxS;have h1:=hrx.kept hg (by
        cases hm: (m x).ownBlock with
        | none=>exact Or.inl rfl
        | some y=>
         refine Or.inr (fun e2=> ?_);obtain ⟨h3,h4⟩:=hsl y e2.symm;exact HG2.out.far x hxS k h3 e (by rw[hm,h4]))
       exact h1.kept hgt (by
        cases hm: (m x).ownBlock with
        | none=>exact Or.inl rfl
        | some y=>
         refine Or.inr (fun e2=> ?_);have:=(hrx.lt y hm).1;have:=Option.some.inj e2;omega)}}
     {intro x hx;by_cases e:x=k
      {simp only[if_pos e]; simp}
      {simp only[if_neg e]; exact HG2.out.ne x (((hmem x).1 hx).resolve_left e)}}
     {intro x hx;have e:x≠k:=fun e=>hx ((hmem x).2 (Or.inl e));simp only[if_neg e];exact HG2.out.no x (fun h=>hx ((hmem x).2 (Or.inr h)))}
     {have key: ∀x,x∈S->x≠k->(m x).ownBlock≠some g:=fun x hxS e h=>by
       rcases hat with h2 | h2
       {obtain ⟨h3,h4⟩:=hsl g h2;exact HG2.out.far x hxS k h3 e (by rw[h,h4])}
       {have:=((HG2.out.row x hxS).lt g h).2; omega}
      intro x hx y hy hxy;by_cases e:x=k
      {by_cases e2:y=k
       {exact absurd (e.trans e2.symm) hxy}
       {simp only[if_pos e,if_neg e2];exact fun h=>key y (((hmem y).1 hy).resolve_left e2) e2 h.symm}}
      {by_cases e2:y=k
       {simp only[if_neg e,if_pos e2];exact key x (((hmem x).1 hx).resolve_left e) e}
       {simp only[if_neg e,if_neg e2];exact HG2.out.far x (((hmem x).1 hx).resolve_left e) y (((hmem y).1 hy).resolve_left e2) hxy}}}
     {intro x;have:=HG2.out.len x;by_cases e:x=k
      {simp only[if_pos e,List.length_append,List.length_singleton]; omega}
      {simp only[if_neg e]; omega}}
     {exact Nat.le_trans hB2 (Nat.le_trans hg.size hgt.size)}
     {intro x h1 h2 h3;refine (hgt.block x (Nat.lt_of_lt_of_le h1 hg.size) (fun e=>h2 (Option.some.inj e))).trans (hg.block x h1 (fun e=> ?_));obtain ⟨h4,h5⟩:=hsl x e.symm;exact h3 k h4 h5}
     {intro y hy x hx;by_cases e:y=k
      {simp only[if_pos e] at hx;have e2:g=x:=Option.some.inj hx;subst e2;rcases hat with h2 | h2
       {exact Or.inl ⟨k,hsl g h2⟩}
       {exact Or.inr h2}}
      {simp only[if_neg e] at hx;exact Or.inl ⟨y,((hmem y).1 hy).resolve_left e,hx⟩}}}}}}
 {intro d u W1 hI hd;have hf:=hI.fin (hd 10 (by show 10 < 11; omega));go_wp2;refine bodyPost_end (v:= .tuple #[]) (by simp[results,Tryd.results50,go_sem]) rfl ?_;obtain ⟨S',m',h1,h2,h3⟩:=hf;exact ⟨rfl,S',m',h1,h2,(Z2G S m HB2.out).trans h3⟩}
end
section
open Go.RowKit Shp
open Expd (keys)
abbrev Plc:=Ky×Nat×Nat
inductive Pls (W:World) (B0:Nat):Nat->Nat->Sh->List Plc->Prop
 | name (g i:Nat) (t:Sh) (q:Ptr) (hk:t.kind=9) (hp:t.parts.length=0) (hg:g < B0) (hs:Sh5 W g (i * 5) t q) (hsm:Small t q) (hn:t.names.length=0):Pls W B0 g i t [((t.of_,t.name),g,i)]
 | node (g i:Nat) (t:Sh) (q:Ptr) (b:Nat) (pls:Nat->List Plc) (hk: ¬t.kind=9) (hg:g < B0) (hs:Sh5 W g (i * 5) t q) (hsm:Small t q) (hn:t.names.length=0\/ ∃bn,q.A=some ⟨bn,0,none⟩/\bn < B0/\ ∀j (h:j < t.names.length),W.cell? ⟨bn,j,none⟩=some (.string ⟨(t.names[j]'h).toArray⟩)) (hp:t.parts.length=0\/q.P=some ⟨b,0,none⟩/\b < B0)
  (hr: ∀j (h:j < t.parts.length),Pls W B0 b j (t.parts[j]'h) (pls j)):Pls W B0 g i t ((List.range t.parts.length).flatMap pls)
theorem Pls.of {W W':World} {B0 B1 g i:Nat} {t:Sh} {pl:List Plc} (h:Pls W B0 g i t pl) (hB:B0<=B1) (hc: ∀g k,g < B0->W'.cell? ⟨g,k,none⟩=W.cell? ⟨g,k,none⟩):Pls W' B1 g i t pl:=by
 induction h with
 | name g i t q hk hp hg hs hsm hn=>exact .name g i t q hk hp (by omega) (hs.of (fun k=>hc g k hg)) hsm hn
 | node g i t q b pls hk hg hs hsm hn hp hr ih=>
  refine .node g i t q b pls hk (by omega) (hs.of (fun k=>hc g k hg)) hsm ?_ (hp.imp id (fun h=>⟨h.1,by omega⟩)) ih;rcases hn with h | ⟨bn,h1,h2,h3⟩
  {exact Or.inl h}
  {exact Or.inr ⟨bn,h1,by omega,fun j hj=>(hc bn j h2).trans (h3 j hj)⟩}
theorem Pls.keys {W:World} {B0 g i:Nat} {t:Sh} {pl:List Plc} (h:Pls W B0 g i t pl):pl.map Prod.fst=Expd.keys t:=by
 induction h with
 | name g i t q hk hp hg hs hsm hn=>rw[Expd.keys_name hk]; rfl
 | node g i t q b pls hk hg hs hsm hn hp hr ih=>
  rw[Expd.keys_node hk,List.map_flatMap];have:t.parts.flatMap Expd.keys=(List.range t.parts.length).flatMap fun j=>(pls j).map Prod.fst:=by
   conv=>lhs; rw[show t.parts=(List.range t.parts.length).attach.map (fun j=>t.parts[j.1]'(List.mem_range.1 j.2)) from by
    refine List.ext_getElem (by simp) (fun n h1 h2=>by simp)]
   rw[List.flatMap_map]
   conv=>rhs; rw[<-List.attach_map_subtype_val (List.range t.parts.length),List.flatMap_map]
   congr 1;funext j;exact (ih j.1 (List.mem_range.1 j.2)).symm
  rw[this]
def more (ps:Ky->List (Nat×Nat)) (pl:List Plc):Ky->List (Nat×Nat):=fun k=>ps k++(pl.filter (fun e=>e.1=k)).map Prod.snd
section
variable (ps : Ky -> List (Nat × Nat))
include ps
theorem ZbC:more ps []=ps:=by funext k; simp[more]
theorem Z88 (l m:List Plc):more ps (l++m)=more (more ps l) m:=by
 funext k; simp[more,List.append_assoc]
theorem ZbD (k:Ky) (p:Nat×Nat):more ps [(k,p)]=fun x=>if x=k then ps x++ [p] else ps x:=by
 funext x;unfold more;by_cases e:x=k
 {subst e; simp}
 {rw[if_neg e,List.filter_cons_of_neg (by simpa using fun h=>e h.symm)]; simp}
end
def NmFin (W0:World) (b N B:Nat) (S:List Ky) (m:Ky->Value) (ps:Ky->List (Nat×Nat)) (pl:List Plc) (W:World):Prop:=
 ∃S' m',Grp W B b (N+pl.length) S' m' (more ps pl)/\(∀x,x∈S' ↔ x∈S\/x∈pl.map Prod.fst)/\UpM b S m W0 S' m' W
theorem Z9u (W1:World) (B0:Nat) (g i:Nat) (t:Sh) (pl:List Plc) (h:Pls W1 B0 g i t pl): ∀(W:World) (B b N:Nat) (S:List Ky) (m:Ky->Value) (ps:Ky->List (Nat×Nat)),(∀g k,g < B0->W.cell? ⟨g,k,none⟩=W1.cell? ⟨g,k,none⟩)->B0<=b->Grp W B b N S m ps->N+pl.length<=1000->
 Calls Tryd.prog 31 #[.agg #[.map (some b)],plV (g,i)] W fun e W'=>e= .returned (.tuple #[])/\NmFin W b N B S m ps pl W':=by
 induction h with
 | name g i t q hk hp hg hs hsm hn=>
  intro W B b N S m ps hc hb hG hN;have hf:Fine (t.of_,t.name):=⟨hsm.o,hsm.n⟩;clear hsm hn;obtain ⟨s0,s1,s2,s3,s4⟩:=hs.of (fun k=>hc g k hg);have hb1:=Z01 W (.cells #[.map (some b)] 69);have hgW:g < W.heap.size:=by have:=hG.bB; have:=hG.Bw; omega
  have c0: (W.alloc (.cells #[.map (some b)] 69)).cell? ⟨W.heap.size,0,none⟩=some (.map (some b)):=by simp[go_sem]
  have hO:=ZaP (W.alloc (.cells #[.map (some b)] 69)).drew B b N S m ps (t.of_,t.name) (g,i) hf (hG.keep hb1.drew) (by simp at hN; omega);have HO:=Y1 hO;have HB1:=Y1 hb1;have HBw:=Y1 hG.Bw;have HGR:Hid (∀x,x < B-> ∀k∈S,(m k).ownBlock≠some x):=Y1 (fun x hx=>hG.notRow (Or.inl hx));have hbB:=hG.bB;have hk9:=Y4 9 hk rfl;rw[<-hb1.cell (p:=⟨g,i * 5,none⟩) hgW] at s0;rw[<-hb1.cell (p:=⟨g,i * 5+1,none⟩) hgW] at s1;rw[<-hb1.cell (p:=⟨g,i * 5+2,none⟩) hgW] at s2;rw[<-hb1.cell (p:=⟨g,i * 5+4,none⟩) hgW] at s4;clear hO hb1 hG hk hc hs s3;unfold plV;simp only;go_enter Tryd.func31,Tryd.ntmps31
  go_wp2_with fail
  generalize W.alloc (.cells #[.map (some b)] 69)=Wa at HO HB1 c0 s0 s1 s2 s4 ⊢
  go_still_tail 11,(by kernel_rfl)
  change wpList _ _ _ _ _ Wa.drew
  go_wp2_with fail
  refine HO.out.mono ?_;rintro e W2 ⟨rfl,hF⟩;obtain ⟨S',m',hG',hS',hU'⟩:=hF;have s4:=(hU'.cell (g:=g) (k:=i * 5+4) (by have h1:=HB1.out.size; show g < Wa.heap.size; omega) (by omega) (HGR.out g (by omega))).trans s4;have HG':=Y1 hG';have HS':=Y1 hS';have HU':=Y1 hU';have hp0: ¬(0:Int) < (t.parts.length:Int):=by omega
  clear hG' hS' hU' s0 s1 s2 hp
  go_wp2_with fail
  go_loopw [27] (fun c wr=>c= .int .i64 0/\wr=W2) (fun _ _=>0)
  case atStart=>exact ⟨rfl,rfl⟩
  case round=>
   obtain ⟨rfl,rfl⟩:=hrel;go_wp2;refine bodyPost_end (v:= .tuple #[]) (by simp[results,Tryd.results31,go_sem]) rfl ?_;refine ⟨rfl,S',m', ?_, ?_,(Z2G S m HB1.out.drew).trans HU'.out⟩
   {rw[ZbD]; exact HG'.out}
   {intro x; rw[HS'.out]; simp[or_comm]}
 | node g i t q b0 pls hk hg hs hsm hn hp hr ih=>
  intro W B b N S m ps hc hb hG hN;have hl:=hsm.m
  replace hp:=hp.imp id And.left
  clear hsm hn;obtain ⟨s0,s1,s2,s3,s4⟩:=hs.of (fun k=>hc g k hg);have hb1:=Z01 W (.cells #[.map (some b)] 69);have hbB:=hG.bB;have hBW:=hG.Bw;have hgW:g < W.heap.size:=by omega
  have c0: (W.alloc (.cells #[.map (some b)] 69)).cell? ⟨W.heap.size,0,none⟩=some (.map (some b)):=by simp[go_sem]
  have HB1:=Y1 hb1;have HG:=Y1 (hG.keep hb1);have hk9: (t.kind==9)=false:=by rw[beq_eq_false_iff_ne]; exact hk
  have hz1:W.heap.size+1=(W.alloc (.cells #[.map (some b)] 69)).heap.size:=by simp
  have HZ1:=Y1 hz1;rw[<-hb1.cell (p:=⟨g,i * 5,none⟩) hgW] at s0;rw[<-hb1.cell (p:=⟨g,i * 5+4,none⟩) hgW] at s4;have HS4:=Y1 s4;have HC0:=Y1 c0;have HP:=Y1 hp;have HIH:=Y1 ih;have HR:=Y1 hr;have HC:Hid (∀g k,g < B0->(W.alloc (.cells #[.map (some b)] 69)).cell? ⟨g,k,none⟩=W1.cell? ⟨g,k,none⟩):=Y1 (fun g k hgk=>(hb1.cell (p:=⟨g,k,none⟩) (by show g < _; omega)).trans (hc g k hgk));have HN:=Y1 hN;have HGR:Hid (∀x,x < B\/W.heap.size<=x-> ∀k∈S,(m k).ownBlock≠some x):=Y1 (fun x hx=>hG.notRow hx);clear hb1 hG hk hc hs s1 s2 s3 hp ih hr hz1 hN;unfold plV;simp only;go_enter Tryd.func31,Tryd.ntmps31
  go_wp2_with fail
  generalize W.alloc (.cells #[.map (some b)] 69)=Wa at HG HB1 HZ1 HC HS4 HC0 c0 s0 s4 ⊢
  go_loopw [27] (fun c wr=> ∃j:Nat,c= .int .i64 (j:Int)/\j<=t.parts.length/\Hid (∃S' m',Grp wr B b (N+((List.range j).flatMap pls).length) S' m' (more ps ((List.range j).flatMap pls))/\(∀x,x∈S' ↔ x∈S\/x∈((List.range j).flatMap pls).map Prod.fst)/\UpM b S m Wa S' m' wr)) (fun c _=>t.parts.length - (intOf c).toNat)
  case atStart=>
   refine ⟨0,rfl,Nat.zero_le _,Y1 ⟨S,m, ?_, ?_,UpM.refl _ _ _ _⟩⟩
   {simp only[List.range_zero,List.flatMap_nil,List.length_nil,Nat.add_zero,ZbC]; exact HG.out}
   {intro x; simp}
  case round=>
   obtain ⟨j,rfl,hj,HI⟩:=hrel;clear s0 s4 c0;obtain ⟨S',m',hG',hS',hU'⟩:=HI.out;have hzz:=HZ1.out;have c0:=(hU'.cell (g:=W.heap.size) (k:=0) (by omega) (by omega) (HGR.out W.heap.size (by omega))).trans HC0.out;have s4:=(hU'.cell (g:=g) (k:=i * 5+4) (by omega) (by omega) (HGR.out g (by omega))).trans HS4.out;have hsucc: ∀n,(List.range (n+1)).flatMap pls=(List.range n).flatMap pls++pls n:=fun n=>by rw[List.range_succ,List.flatMap_append]; simp
   by_cases hjn:j < t.parts.length
   {have hjn': (j:Int) < (t.parts.length:Int):=by omega
    have hq:q.P=some ⟨b0,0,none⟩:=HP.out.resolve_left (by omega);rw[hq] at s4;have hlen: ((List.range j).flatMap pls).length+(pls j).length<=((List.range t.parts.length).flatMap pls).length:=by
     have h1: ∀d,((List.range (j+1)).flatMap pls).length<=((List.range (j+1+d)).flatMap pls).length:=fun d=>by
      induction d with
      | zero=>exact Nat.le_refl _
      | succ d ihd=>rw[show j+1+(d+1)=(j+1+d)+1 from rfl,hsucc (j+1+d),List.length_append]; omega
     have h2:=h1 (t.parts.length - (j+1));rw[show j+1+(t.parts.length - (j+1))=t.parts.length by omega,hsucc j,List.length_append] at h2;exact h2
    have hdr:Below wr.heap.size wr wr.drew:=Y2.drew;have hIH:=HIH.out j hjn wr.drew B b (N+((List.range j).flatMap pls).length) S' m' (more ps ((List.range j).flatMap pls)) (fun g k hgk=>(hU'.cell (g:=g) (k:=k) (by omega) (by omega) (HGR.out g (by omega))).trans (HC.out g k hgk)) hb (hG'.keep hdr) (by have:=HN.out; omega);have IH:=Y1 hIH;have HU':=Y1 hU';have HS':=Y1 hS';have HDR:=Y1 hdr;have HSU:=Y1 hsucc;clear hIH hU' hS' hG' hdr hlen hsucc hq HI;unfold plV at IH;simp only at IH
    go_wp2_with fail
    go_still_tail 7,(by kernel_rfl)
    change wpList _ _ _ _ _ wr.drew
    go_wp2_with fail
    refine IH.out.mono ?_;rintro e w2 ⟨rfl,S2,m2,hG2,hS2,hU2⟩;have HG2:=Y1 hG2;have HS2:=Y1 hS2;have HU2:=Y1 hU2;clear hG2 hS2 hU2 IH;go_wp2
    go_roundw
    case rel=>
     refine ⟨j+1,by go_num,by omega,Y1 ⟨S2,m2, ?_, ?_,(HU'.out.trans (Z2G S' m' HDR.out)).trans HU2.out⟩⟩
     {rw[HSU.out,Z88,List.length_append, <-Nat.add_assoc]; exact HG2.out}
     {intro x;rw[HS2.out,HS'.out,HSU.out,List.map_append,List.mem_append,or_assoc]}
    case measure=>simp[intOf]; omega}
   {obtain rfl:j=t.parts.length:=by omega
    have HG':=Y1 hG';have HU':=Y1 hU';have HS':=Y1 hS';clear hG' hU' hS' hsucc HI;go_wp2;refine bodyPost_end (v:= .tuple #[]) (by simp[results,Tryd.results31,go_sem]) rfl ?_;exact ⟨rfl,S',m',HG'.out,HS'.out,(Z2G S m HB1.out).trans HU'.out⟩}
end
section
open Go.RowKit Shp
theorem Z4s (W:World) (b N:Nat) (S:List Ky) (m:Ky->Value) (h:Mp W b N S m):
 Calls Tryd.prog 33 #[.agg #[.map (some b)]] W fun e W'=>e= .returned (.bool (decide (S= [])))/\Below W.heap.size W W':=by
 have hb1:=Z01 W (.cells #[.map (some b)] 69);have HB1:=Y1 hb1;have hM:Mp (W.alloc (.cells #[.map (some b)] 69)) b N S m:=h.same (hb1.block b h.lt);have c0: (W.alloc (.cells #[.map (some b)] 69)).cell? ⟨W.heap.size,0,none⟩=some (.map (some b)):=by simp[go_sem]
 have HM:=Y1 hM;clear hb1 hM h;go_enter Tryd.func33,Tryd.ntmps33;go_wp2;rw[HM.out.len];go_wp2;go_ret;refine ⟨Z0p ?_,HB1.out⟩;rw[Bool.eq_iff_iff,beq_iff_eq,decide_eq_true_eq];cases S with
 | nil=>simp
 | cons a l=>simp; omega
structure FR (W wr:World) (L:List (Nat×Nat)) (s:Sh) (q:Ptr):Prop where
 os:wr.os=W.os
 tape:wr.tape=W.tape
 output:wr.output=W.output
 size:wr.heap.size=W.heap.size
 block: ∀x,(∀p∈L,p.1≠x)->wr.heap[x]? =W.heap[x]?
 cell: ∀g c,(∀p∈L,¬(p.1=g/\p.2 * 5<=c/\c < p.2 * 5+5))->wr.cell? ⟨g,c,none⟩=W.cell? ⟨g,c,none⟩
 fz: ∀g c,wr.frozen? ⟨g,c,none⟩=W.frozen? ⟨g,c,none⟩
 ex: ∀g c,(∃v,W.cell? ⟨g,c,none⟩=some v)-> ∃v,wr.cell? ⟨g,c,none⟩=some v
 put: ∀p∈L,Sh5 wr p.1 (p.2 * 5) s q
theorem FR.refl (W:World) (s:Sh) (q:Ptr):FR W W [] s q:=⟨rfl,rfl,rfl,rfl,fun _ _=>rfl,fun _ _ _=>rfl,fun _ _=>rfl,fun _ _ h=>h,nofun⟩
def putAt (W:World) (g o:Nat) (s:Sh) (q:Ptr):World:=
 ((((W.setCell ⟨g,o,none⟩ (.int .i64 s.kind)).setCell ⟨g,o+1,none⟩ (.string ⟨s.of_.toArray⟩)).setCell ⟨g,o+2,none⟩ (.string ⟨s.name.toArray⟩)).setCell ⟨g,o+3,none⟩ (.slice q.A s.names.length q.c)).setCell ⟨g,o+4,none⟩ (.slice q.P s.parts.length q.d)
theorem Z0Y (W:World) (g o:Nat) (s:Sh) (q:Ptr) {g' c:Nat} (h: ¬(g=g'/\o<=c/\c < o+5)): (putAt W g o s q).cell? ⟨g',c,none⟩=W.cell? ⟨g',c,none⟩:=by
 have ne: ∀k,k < 5->(⟨g,o+k,none⟩:Addr)≠⟨g',c,none⟩:=fun k hk e=>by
  simp only[Addr.mk.injEq,and_true] at e;exact h ⟨e.1,by omega,by omega⟩
 unfold putAt;exact (World.cell?_setCell_other _ _ _ _ (ne 4 (by omega))).trans ((World.cell?_setCell_other _ _ _ _ (ne 3 (by omega))).trans ((World.cell?_setCell_other _ _ _ _ (ne 2 (by omega))).trans ((World.cell?_setCell_other _ _ _ _ (ne 1 (by omega))).trans (World.cell?_setCell_other _ _ _ _ (ne 0 (by omega))))))
theorem Z2k {W:World} {g o:Nat} {s:Sh} {q:Ptr} (h: ∀k,k < 5-> ∃v,W.cell? ⟨g,o+k,none⟩=some v):Sh5 (putAt W g o s q) g o s q:=by
 obtain ⟨v0,h0⟩:=h 0 (by omega);obtain ⟨v1,h1⟩:=h 1 (by omega);obtain ⟨v2,h2⟩:=h 2 (by omega);obtain ⟨v3,h3⟩:=h 3 (by omega);obtain ⟨v4,h4⟩:=h 4 (by omega);have so: ∀(w:World) (j k:Nat) (v:Value),j≠k->(w.setCell ⟨g,o+j,none⟩ v).cell? ⟨g,o+k,none⟩=w.cell? ⟨g,o+k,none⟩:=fun w j k v hjk=>World.cell?_setCell_other _ _ _ _ (fun e=>by simp only[Addr.mk.injEq,true_and,and_true] at e; omega);have ss: ∀(w:World) (k:Nat) (v:Value) {u:Value},w.cell? ⟨g,o+k,none⟩=some u->(w.setCell ⟨g,o+k,none⟩ v).cell? ⟨g,o+k,none⟩=some v:=fun w k v u hu=>World.cell?_setCell_same _ _ _ hu;unfold putAt;refine ⟨?_, ?_, ?_, ?_, ?_⟩
 {exact (so _ 4 0 _ (by decide)).trans ((so _ 3 0 _ (by decide)).trans ((so _ 2 0 _ (by decide)).trans ((so _ 1 0 _ (by decide)).trans (ss _ 0 _ h0))))}
 {exact (so _ 4 1 _ (by decide)).trans ((so _ 3 1 _ (by decide)).trans ((so _ 2 1 _ (by decide)).trans (ss _ 1 _ ((so _ 0 1 _ (by decide)).trans h1))))}
 {exact (so _ 4 2 _ (by decide)).trans ((so _ 3 2 _ (by decide)).trans (ss _ 2 _ ((so _ 1 2 _ (by decide)).trans ((so _ 0 2 _ (by decide)).trans h2))))}
 {exact (so _ 4 3 _ (by decide)).trans (ss _ 3 _ ((so _ 2 3 _ (by decide)).trans ((so _ 1 3 _ (by decide)).trans ((so _ 0 3 _ (by decide)).trans h3))))}
 {exact ss _ 4 _ ((so _ 3 4 _ (by decide)).trans ((so _ 2 4 _ (by decide)).trans ((so _ 1 4 _ (by decide)).trans ((so _ 0 4 _ (by decide)).trans h4))))}
section
variable (W : World) (g o : Nat) (s : Sh) (q : Ptr)
include W g o s q
theorem ZaQ:Below 0 W (putAt W g o s q):=
 ((((((Below.refl 0 W).setCell (p:=⟨g,o,none⟩) (Nat.zero_le _) _).setCell (p:=⟨g,o+1,none⟩) (Nat.zero_le _) _).setCell (p:=⟨g,o+2,none⟩) (Nat.zero_le _) _).setCell (p:=⟨g,o+3,none⟩) (Nat.zero_le _) _).setCell (p:=⟨g,o+4,none⟩) (Nat.zero_le _) _)
theorem Z5f: (putAt W g o s q).heap.size=W.heap.size:=by unfold putAt; simp only[World.size_setCell]
theorem ZbE (a:Addr): (putAt W g o s q).frozen? a=W.frozen? a:=by unfold putAt; simp only[World.frozen?_setCell]
theorem Z5g {x:Nat} (h:g≠x): (putAt W g o s q).heap[x]? =W.heap[x]? :=by
 unfold putAt;have hs: ∀(w:World) (k:Nat) (v:Value),(w.setCell ⟨g,k,none⟩ v).heap[x]? =w.heap[x]? :=fun w k v=>Below.heap_setCell w ⟨g,k,none⟩ v x (Ne.symm h);rw[hs,hs,hs,hs,hs]
end
theorem FR.snoc {W wr:World} {L:List (Nat×Nat)} {s:Sh} {q:Ptr} (h:FR W wr L s q) (p:Nat×Nat) (he: ∀k,k < 5-> ∃v,W.cell? ⟨p.1,p.2 * 5+k,none⟩=some v):FR W (putAt wr p.1 (p.2 * 5) s q) (L++ [p]) s q:=by
 have he': ∀k,k < 5-> ∃v,wr.cell? ⟨p.1,p.2 * 5+k,none⟩=some v:=fun k hk=>h.ex _ _ (he k hk);have hl:=ZaQ wr p.1 (p.2 * 5) s q;refine ⟨hl.os.trans h.os,hl.tape.trans h.tape,hl.output.trans h.output,(Z5f _ _ _ _ _).trans h.size,fun x hx=> ?_,fun g c hc=> ?_,fun g c=> ?_,fun g c hv=> ?_,fun p' hp'=> ?_⟩
 {rw[Z5g _ _ _ _ _ (hx p (by simp))]; exact h.block x (fun p' hp'=>hx p' (by simp[hp']))}
 {rw[Z0Y _ _ _ _ _ (hc p (by simp))]; exact h.cell g c (fun p' hp'=>hc p' (by simp[hp']))}
 {exact (ZbE _ _ _ _ _ _).trans (h.fz g c)}
 {by_cases e:p.1=g/\p.2 * 5<=c/\c < p.2 * 5+5
  {obtain ⟨rfl,h1,h2⟩:=e;have hp:=Z2k (s:=s) (q:=q) he';obtain ⟨s0,s1,s2,s3,s4⟩:=hp;have:c=p.2 * 5\/c=p.2 * 5+1\/c=p.2 * 5+2\/c=p.2 * 5+3\/c=p.2 * 5+4:=by omega
   rcases this with rfl | rfl | rfl | rfl | rfl
   {exact ⟨_,s0⟩}
   {exact ⟨_,s1⟩}
   {exact ⟨_,s2⟩}
   {exact ⟨_,s3⟩}
   {exact ⟨_,s4⟩}}
  {rw[Z0Y _ _ _ _ _ e]; exact h.ex g c hv}}
 {by_cases e:p'=p
  {subst e; exact Z2k he'}
  {have hp2:p'∈L:=by simpa[e] using hp'
   obtain ⟨s0,s1,s2,s3,s4⟩:=h.put p' hp2;have ne: ∀c,p'.2 * 5<=c->c < p'.2 * 5+5-> ¬(p.1=p'.1/\p.2 * 5<=c/\c < p.2 * 5+5):=fun c h1 h2 h3=>e (by
    obtain ⟨h4,h5,h6⟩:=h3;exact Prod.ext h4.symm (by omega))
   exact ⟨(Z0Y _ _ _ _ _ (ne _ (by omega) (by omega))).trans s0,(Z0Y _ _ _ _ _ (ne _ (by omega) (by omega))).trans s1,(Z0Y _ _ _ _ _ (ne _ (by omega) (by omega))).trans s2,(Z0Y _ _ _ _ _ (ne _ (by omega) (by omega))).trans s3,(Z0Y _ _ _ _ _ (ne _ (by omega) (by omega))).trans s4⟩}}
structure FlOut (b:Nat) (W W':World) (L:List (Nat×Nat)) (s:Sh) (q:Ptr):Prop where
 os:W'.os=W.os
 tape:W'.tape=W.tape
 output:W'.output=W.output
 size:W.heap.size<=W'.heap.size
 block: ∀x,x < W.heap.size->x≠b->(∀p∈L,p.1≠x)->W'.heap[x]? =W.heap[x]?
 cell: ∀g c,g < W.heap.size->g≠b->(∀p∈L,¬(p.1=g/\p.2 * 5<=c/\c < p.2 * 5+5))->W'.cell? ⟨g,c,none⟩=W.cell? ⟨g,c,none⟩
 fz: ∀g c,g < W.heap.size->g≠b->W'.frozen? ⟨g,c,none⟩=W.frozen? ⟨g,c,none⟩
 ex: ∀g c,g < W.heap.size->g≠b->(∃v,W.cell? ⟨g,c,none⟩=some v)-> ∃v,W'.cell? ⟨g,c,none⟩=some v
 put: ∀p∈L,Sh5 W' p.1 (p.2 * 5) s q
theorem FlOut.pre {b:Nat} {W0 W W':World} {L:List (Nat×Nat)} {s:Sh} {q:Ptr} (hb:Below W0.heap.size W0 W) (h:FlOut b W W' L s q):FlOut b W0 W' L s q:=by
 have hz:=hb.size;refine ⟨h.os.trans hb.os,h.tape.trans hb.tape,h.output.trans hb.output,Nat.le_trans hz h.size,fun x h1 h2 h3=>(h.block x (by omega) h2 h3).trans (hb.block x h1),fun g c h1 h2 h3=>(h.cell g c (by omega) h2 h3).trans (hb.cell (p:=⟨g,c,none⟩) h1),
  fun g c h1 h2=>(h.fz g c (by omega) h2).trans (hb.frozen (p:=⟨g,c,none⟩) h1),fun g c h1 h2 h3=>h.ex g c (by omega) h2 ?_,h.put⟩
 obtain ⟨v,hv⟩:=h3;exact ⟨v,(hb.cell (p:=⟨g,c,none⟩) h1).trans hv⟩
theorem Z72 {b:Nat} {W W1 W':World} {L:List (Nat×Nat)} {s:Sh} {q:Ptr} (h:FR W W1 L s q) (ht:W1.mapTurned W' b) (hL: ∀p∈L,p.1≠b):FlOut b W W' L s q:=by
 have hg:=ht.grown;have hz: ∀x,x < W.heap.size->x < W1.heap.size:=fun x hx=>by rw[h.size]; exact hx
 have hc: ∀g c,g < W.heap.size->g≠b->W'.cell? ⟨g,c,none⟩=W1.cell? ⟨g,c,none⟩:=fun g c h1 h2=>hg.cell_far ⟨g,c,none⟩ (hz g h1) (fun e=>h2 (Option.some.inj e));refine ⟨hg.os.trans h.os,hg.tape.trans h.tape,hg.output.trans h.output,by have:=hg.size; rw[h.size] at this; exact this,fun x h1 h2 h3=>(hg.block x (hz x h1) (fun e=>h2 (Option.some.inj e))).trans (h.block x h3),fun g c h1 h2 h3=>(hc g c h1 h2).trans (h.cell g c h3),
  fun g c h1 h2=>(hg.frozen_far ⟨g,c,none⟩ (hz g h1) (fun e=>h2 (Option.some.inj e))).trans (h.fz g c),fun g c h1 h2 h3=> ?_,fun p hp=> ?_⟩
 {obtain ⟨v,hv⟩:=h.ex g c h3;exact ⟨v,(hc g c h1 h2).trans hv⟩}
 {have h5:=h.put p hp;have hlt:p.1 < W.heap.size:=by
   have:=h5.1;rcases Nat.lt_or_ge p.1 W1.heap.size with h' | h'
   {rw[h.size] at h'; exact h'}
   {simp[World.cell?,Array.getElem?_eq_none h'] at this}
  exact h5.of (fun c=>hc p.1 c hlt (hL p hp))}
abbrev shV (s:Sh) (q:Ptr):Value:= .agg (Y8 s q)
def flW (W:World) (b:Nat) (k:Ky) (s:Sh) (q:Ptr):World:=
 ((W.alloc (.cells #[.map (some b)] 69)).alloc (.cells #[.string ⟨k.1.toArray⟩,.string ⟨k.2.toArray⟩] 76)).alloc (.cells (Y8 s q) 25)
section
variable (W : World) (b : Nat) (k : Ky) (s : Sh) (q : Ptr)
include W b k s q
theorem Z8t:Below W.heap.size W (flW W b k s q):=Z0h (Z0h (Z01 _ _) _) _
theorem ZbF: (flW W b k s q).heap.size=W.heap.size+3:=by simp[flW]
theorem Z5L: (flW W b k s q).cell? ⟨W.heap.size,0,none⟩=some (.map (some b))/\(flW W b k s q).cell? ⟨W.heap.size+1,0,none⟩=some (.string ⟨k.1.toArray⟩)/\(flW W b k s q).cell? ⟨W.heap.size+1,1,none⟩=some (.string ⟨k.2.toArray⟩)/\Sh5 (flW W b k s q) (W.heap.size+2) 0 s q:=by
 refine ⟨by simp[flW,go_sem],by simp[flW,go_sem],by simp[flW,go_sem],by simp[flW,go_sem],by simp[flW,go_sem],by simp[flW,go_sem],by simp[flW,go_sem],by simp[flW,go_sem]⟩
end
theorem Z5h {W W1 W':World} {B b N:Nat} {S:List Ky} {m:Ky->Value} {ps:Ky->List (Nat×Nat)} {k:Ky} {s:Sh} {q:Ptr} (hG:Grp W B b N S m ps) (h:FR W W1 (ps k) s q) (hL: ∀p∈ps k,p.1 < b) (hM:Mp W' b N (S.filter (· ≠k)) m) (ht:W1.mapTurned W' b):
 Grp W' B b N (S.filter (· ≠k)) m (fun x=>if x=k then [] else ps x):=by
 have hbB:=hG.bB;have hmem: ∀x,x∈S.filter (· ≠k) ↔ x∈S/\x≠k:=fun x=>by simp[List.mem_filter]
 have hg1: ∀v:Value,∀xs n,W.ownsRow B 71 1 v n xs->W'.ownsRow B 71 1 v n xs:=fun v xs n hr=>by
  obtain ⟨h1,h2⟩:=hr;refine ⟨h1, ?_⟩;rcases h2 with h2 | ⟨g,cap,cur,e1,e2,e3,e4⟩
  {exact Or.inl h2}
  {refine Or.inr ⟨g,cap,cur,e1,e2, ?_,e4⟩;have hlt:g < W.heap.size:=(Array.getElem?_eq_some_iff.1 e3).1;exact (ht.grown.block g (by rw[h.size]; exact hlt) (fun e=>by have e5:g=b:=Option.some.inj e; omega)).trans ((h.block g (fun p hp=>by have:=hL p hp; omega)).trans e3)}
 refine ⟨hM,fun x hx=> ?_,fun x hx=> ?_,fun x hx=> ?_,fun x hx y hy hxy=> ?_,fun x=> ?_,hbB, ?_⟩
 {simp only[if_neg ((hmem x).1 hx).2]; exact hg1 _ _ _ (hG.row x ((hmem x).1 hx).1)}
 {simp only[if_neg ((hmem x).1 hx).2]; exact hG.ne x ((hmem x).1 hx).1}
 {by_cases e:x=k
  {simp only[if_pos e]}
  {simp only[if_neg e]; exact hG.no x (fun hS=>hx ((hmem x).2 ⟨hS,e⟩))}}
 {exact hG.far x ((hmem x).1 hx).1 y ((hmem y).1 hy).1 hxy}
 {have:=hG.len x;by_cases e:x=k
  {simp only[if_pos e]; simp}
  {simp only[if_neg e]; exact this}}
 {have:=ht.grown.size; have:=h.size; have:=hG.Bw; omega}
section
variable (W : World) (B b N : Nat) (S : List Ky) (m : Ky -> Value) (ps : Ky -> List (Nat × Nat)) (k : Ky) (s : Sh) (q : Ptr) (hk : Fine k)
include W B b N S m ps k s q hk
theorem ZaR (hG:Grp W B b N S m ps) (hS:k∉S):
 Calls Tryd.prog 34 #[.agg #[.map (some b)],keyV k,shV s q] W fun e W'=>e= .returned (.tuple #[])/\Grp W' B b N (S.filter (· ≠k)) m (fun x=>if x=k then [] else ps x)/\FlOut b W W' (ps k) s q:=by
 obtain ⟨c0,c1,c2,c3,c4,c5,c6,c7⟩:=Z5L W b k s q;have hlow:=Z8t W b k s q;have hG3:=hG.keep hlow;have HL:=Y1 hlow;have HG:=Y1 hG3;have hl:=hG3.mp.look hk;rw[if_neg hS] at hl;obtain ⟨W',hr,hM,ht⟩:=hG3.mp.del hk 0;have HF:Hid (Grp W' B b N (S.filter (· ≠k)) m (fun x=>if x=k then [] else ps x)/\FlOut b (flW W b k s q) W' (ps k) s q):=by
  have h0:=FR.refl (flW W b k s q) s q;rw[<-hG.no k hS] at h0;exact Y1 ⟨Z5h hG3 h0 (by rw[hG.no k hS]; nofun) hM ht,Z72 h0 ht (by rw[hG.no k hS]; nofun)⟩
 clear hlow hG3 hG hM ht hS;unfold keyV shV;unfold keyV at hl hr;go_enter Tryd.func34,Tryd.ntmps34
 go_wp2_with fail
 obtain ⟨W3,hW3⟩: ∃W3,flW W b k s q=W3:=⟨_,rfl⟩;rw[hW3] at hl hr c0 c1 c2 c3 c4 c5 c6 c7 HL HF;unfold flW at hW3;rw[hW3,hl];clear hW3
 go_wp2_with fail
 go_loopw [13] (fun c wr=>c= .int .i64 0/\wr=W3) (fun _ _=>0)
 case atStart=>exact ⟨rfl,rfl⟩
 case round=>
  obtain ⟨rfl,rfl⟩:=hrel;go_wp2;refine bodyPost_end (v:= .tuple #[]) (by simp[results,Tryd.results34,go_sem]) rfl ?_;exact ⟨rfl,HF.out.1,HF.out.2.pre HL.out⟩
theorem ZaS (hN:N<=1000) (hG:Grp W B b N S m ps) (hS:k∈S) (hL: ∀p∈ps k,p.1 < b/\(∀c,c < 5-> ∃v,W.cell? ⟨p.1,p.2 * 5+c,none⟩=some v)/\ ∀c,W.frozen? ⟨p.1,c,none⟩=false):
 Calls Tryd.prog 34 #[.agg #[.map (some b)],keyV k,shV s q] W fun e W'=>e= .returned (.tuple #[])/\Grp W' B b N (S.filter (· ≠k)) m (fun x=>if x=k then [] else ps x)/\FlOut b W W' (ps k) s q:=by
 obtain ⟨c0,c1,c2,c3,c4,c5,c6,c7⟩:=Z5L W b k s q;have hlow:=Z8t W b k s q;have hsz:=ZbF W b k s q;have hG3:=hG.keep hlow;have hbB:=hG.bB;have hBw:=hG.Bw;have hl:=hG3.mp.look hk;rw[if_pos hS] at hl;obtain ⟨gr,cr,hm,hgr1,hgr2,hcells⟩:=hG3.own hS;rw[hm] at hl;have hlen:=hG.len k;have hL3: ∀p∈ps k,p.1 < b/\(∀c,c < 5-> ∃v,(flW W b k s q).cell? ⟨p.1,p.2 * 5+c,none⟩=some v)/\ ∀c,(flW W b k s q).frozen? ⟨p.1,c,none⟩=false:=fun p hp=>by
  obtain ⟨h1,h2,h3⟩:=hL p hp;refine ⟨h1,fun c hc=> ?_,fun c=>(hlow.frozen (p:=⟨p.1,c,none⟩) (by show p.1 < _; omega)).trans (h3 c)⟩;obtain ⟨v,hv⟩:=h2 c hc;exact ⟨v,(hlow.cell (p:=⟨p.1,p.2 * 5+c,none⟩) (by show p.1 < _; omega)).trans hv⟩
 have HG:=Y1 hG3;have HL3:=Y1 hL3;have HLO:=Y1 hlow;have HCE:=Y1 hcells;have HS5:Hid (Sh5 (flW W b k s q) (W.heap.size+2) 0 s q):=Y1 ⟨c3,c4,c5,c6,c7⟩;have HC0:=Y1 c0;have HC12:=Y1 (And.intro c1 c2);have HZ:=Y1 hsz;have hgb:gr < W.heap.size:=by
  have:=(hG.row k hS).lt gr (by rw[hm]; rfl); exact this.2
 clear hlow hG3 hL3 hL hG hcells hm hsz;unfold keyV shV;unfold keyV at hl;go_enter Tryd.func34,Tryd.ntmps34
 go_wp2_with fail
 obtain ⟨W3,hW3⟩: ∃W3,flW W b k s q=W3:=⟨_,rfl⟩;rw[hW3] at hl c0 c1 c2 c3 c4 c5 c6 c7 HLO HG HL3 HCE HS5 HC0 HC12 HZ hgr2;unfold flW at hW3;rw[hW3,hl];clear hW3 hl c0 c1 c2 c3 c4 c5 c6 c7
 go_wp2_with fail
 go_loopw [13] (fun c wr=> ∃j:Nat,c= .int .i64 (j:Int)/\j<=(ps k).length/\Hid (FR W3 wr ((ps k).take j) s q)) (fun c _=>(ps k).length - (intOf c).toNat)
 case atStart=>exact ⟨0,rfl,Nat.zero_le _,Y1 (by rw[List.take_zero]; exact FR.refl _ _ _)⟩
 case round=>
  obtain ⟨j,rfl,hj,HI⟩:=hrel;have hz:=HZ.out;have far: ∀g c,b<=g->wr.cell? ⟨g,c,none⟩=W3.cell? ⟨g,c,none⟩:=fun g c hg=>HI.out.cell g c (fun p hp e=>by have:=(HL3.out p (List.mem_of_mem_take hp)).1; omega);by_cases hjn:j < (ps k).length
  {have hjn': (j:Int) < ((ps k).length:Int):=by omega
   obtain ⟨h1,h2,h3⟩:=HL3.out _ (List.getElem_mem hjn);have cr0:=(far gr j (by omega)).trans (HCE.out j hjn);obtain ⟨a0,a1,a2,a3,a4⟩:=HS5.out.of (w':=wr) (fun c=>far _ c (by omega));have hsn:=HI.out.snoc ((ps k)[j]'hjn) h2;rw[<-Z1C hjn] at hsn;have HSN:=Y1 hsn;obtain ⟨p,hp⟩: ∃p,p=(ps k)[j]'hjn:=⟨_,rfl⟩;rw[<-hp] at h1 h2 h3 cr0 HSN;unfold plV at cr0;obtain ⟨v0,x0⟩:=HI.out.ex _ _ (h2 0 (by omega));obtain ⟨v1,x1⟩:=HI.out.ex _ _ (h2 1 (by omega));obtain ⟨v2,x2⟩:=HI.out.ex _ _ (h2 2 (by omega));obtain ⟨v3,x3⟩:=HI.out.ex _ _ (h2 3 (by omega));obtain ⟨v4,x4⟩:=HI.out.ex _ _ (h2 4 (by omega));have z0:=(HI.out.fz p.1 (p.2 * 5)).trans (h3 _);have z1:=(HI.out.fz p.1 (p.2 * 5+1)).trans (h3 _);have z2:=(HI.out.fz p.1 (p.2 * 5+2)).trans (h3 _);have z3:=(HI.out.fz p.1 (p.2 * 5+3)).trans (h3 _);have z4:=(HI.out.fz p.1 (p.2 * 5+4)).trans (h3 _);simp only[Nat.add_zero,Nat.zero_add] at x0 a0 a1 a2 a3 a4;clear hsn h2 h3 far hz hp;go_wp2
   go_roundw
   case rel=>exact ⟨j+1,by go_num,by omega,HSN⟩
   case measure=>simp[intOf]; omega}
  {obtain rfl:j=(ps k).length:=by omega
   have hR:=HI.out;rw[List.take_length] at hR;have hbl:wr.heap[b]? =W3.heap[b]? :=hR.block b (fun p hp=>Nat.ne_of_lt (HL3.out p hp).1);obtain ⟨W',hr,hM,ht⟩:=(HG.out.mp.same hbl).del hk 0;have HF:Hid (Grp W' B b N (S.filter (· ≠k)) m (fun x=>if x=k then [] else ps x)/\FlOut b W3 W' (ps k) s q):=
    Y1 ⟨Z5h HG.out hR (fun p hp=>(HL3.out p hp).1) hM ht,Z72 hR ht (fun p hp=>Nat.ne_of_lt (HL3.out p hp).1)⟩
   have c0:=(far W.heap.size 0 (by omega)).trans HC0.out;have c1:=(far (W.heap.size+1) 0 (by omega)).trans HC12.out.1;have c2:=(far (W.heap.size+1) 1 (by omega)).trans HC12.out.2;unfold keyV at hr;clear hR hbl hM ht far hz HI;go_wp2;refine bodyPost_end (v:= .tuple #[]) (by simp[results,Tryd.results34,go_sem]) rfl ?_;exact ⟨rfl,HF.out.1,HF.out.2.pre HLO.out⟩}
theorem ZaT (hN:N<=1000) (hG:Grp W B b N S m ps) (hL: ∀p∈ps k,p.1 < b/\(∀c,c < 5-> ∃v,W.cell? ⟨p.1,p.2 * 5+c,none⟩=some v)/\ ∀c,W.frozen? ⟨p.1,c,none⟩=false):
 Calls Tryd.prog 34 #[.agg #[.map (some b)],keyV k,shV s q] W fun e W'=>e= .returned (.tuple #[])/\Grp W' B b N (S.filter (· ≠k)) m (fun x=>if x=k then [] else ps x)/\FlOut b W W' (ps k) s q:=by
 by_cases hS:k∈S
 {exact ZaS W B b N S m ps k s q hk hN hG hS hL}
 {exact ZaR W B b N S m ps k s q hk hG hS}
end
end
end Go.Proofs.YtmeiijjpomcgcaaDoor
