/- What the proofs of ParseAround want, part 31. -/
import Derived.Test.YtkncdbaoaeeoiaaGreatDoorL0n30
set_option linter.unusedVariables false
set_option linter.unusedSimpArgs false
set_option linter.unusedSectionVars false
set_option maxRecDepth 100000
set_option maxHeartbeats 16000000
namespace Go.Proofs.YtkncdbaoaeeoiaaGreatDoor
section
open Go.RowKit Tms
open Shp (Sh)
theorem Zfs (d:Nat->Bool) {i j:Nat} (h:j≠i):also d i j=d j:=by
 unfold also;cases a:Nat.beq j i with
 | false=>rfl
 | true=>exact absurd (Nat.eq_of_beq_eq_true a) h
theorem ZgK (d:Nat->Bool) (i:Nat):also d i i=true:=by
 unfold also;rw[show Nat.beq i i=true from Nat.beq_refl i]; rfl
theorem Zfu (u:Nat->Value) {i j:Nat} (v:Value) (h:j≠i):upd u i v j=u j:=by
 unfold upd;cases a:Nat.beq j i with
 | false=>rfl
 | true=>exact absurd (Nat.eq_of_beq_eq_true a) h
theorem ZgQ (u:Nat->Value) (i:Nat) (v:Value):upd u i v i=v:=by
 unfold upd;rw[show Nat.beq i i=true from Nat.beq_refl i]; rfl
def RestAt (W:World) (q:TP) (t:Tm):Prop:=Strs W W.heap.size q.A (strs t.names)/\Strs W W.heap.size q.V (strs t.vars)/\ShsAt W W.heap.size q.S t.shapes
def Rest (W:World) (N:List Nat) (q:TP) (t:Tm):Prop:= ∀W',(∀b∈N,Z7N W W' b)->W.heap.size<=W'.heap.size->RestAt W' q t
theorem Rest.of {W W':World} {N a:List Nat} {q:TP} {t:Tm} (h:Rest W N q t) (d: ∀b∈N,Z7N W W' b) (e:W.heap.size<=W'.heap.size) (c: ∀b∈N,b∈a):Rest W' a q t:=
 fun W'' h1 h2=>h W'' (fun b hb=>(d b hb).trans (h1 b (c b hb))) (Nat.le_trans e h2)
structure UpN (g o:Nat) (w w':World):Prop where
 os:w'.os=w.os
 tape:w'.tape=w.tape
 output:w'.output=w.output
 size:w.heap.size<=w'.heap.size
 block: ∀k,k < w.heap.size->k≠g->w'.heap[k]? =w.heap[k]?
 cells: ∀k,k≠o+4->k≠o+5->k≠o+6->w'.cell? ⟨g,k,none⟩=w.cell? ⟨g,k,none⟩
 fz: ∀k,w'.frozen? ⟨g,k,none⟩=w.frozen? ⟨g,k,none⟩
theorem UpN.same {g o:Nat} {w w':World} (h:UpN g o w w') {b:Nat} (a:b < w.heap.size) (c:b≠g):Z7N w w' b:=
 ⟨fun k=>World.cell?_of_block (w:=w) (h.block b a c),fun k=>World.frozen?_of_block (w:=w) (h.block b a c)⟩
theorem UpN.toBelow {g o B:Nat} {w w':World} (h:UpN g o w w') (a:B<=g) (b:B<=w.heap.size):Below B w w':=
 ⟨h.os,h.tape,h.output,h.size,fun k hk=>h.block k (by omega) (by omega)⟩
def finO (g o:Nat) (d:Nat->Bool) (u:Nat->Value) (W:World):World:=
 bif d 26 then ((W.setCell ⟨g,o+4,none⟩ (u 7)).setCell ⟨g,o+5,none⟩ (u 12)).setCell ⟨g,o+6,none⟩ (u 17)
 else bif d 23 then (W.setCell ⟨g,o+4,none⟩ (u 7)).setCell ⟨g,o+5,none⟩ (u 12)
 else bif d 20 then W.setCell ⟨g,o+4,none⟩ (u 7)
 else W
structure Told (w Wb:World) (t:Tm) (rs:Nat->Ptr) (d:Nat->Bool) (u:Nat->Value):Prop where
 bel:Below w.heap.size w Wb
 c7:d 7=true-> ∃A' c',u 7= .slice A' t.names.length c'/\TxC w Wb t.names A' c'
 c12:d 12=true-> ∃A' c',u 12= .slice A' t.vars.length c'/\TxC w Wb t.vars A' c'
 c17:d 17=true-> ∃A' c',u 17= .slice A' t.shapes.length c'/\PaC w Wb t.shapes rs A' c'
theorem TxC.next {w W W':World} {l:List (List UInt8)} {A:Option Addr} {c:Nat} (h:TxC w W l A c) (e:Below W.heap.size W W'):TxC w W' l A c:=by
 obtain ⟨f,g,a⟩:=h;refine ⟨f,g, ?_⟩;rcases a with a | ⟨b,i,j,d⟩
 {exact Or.inl a}
 {exact Or.inr ⟨b,i,j,d.of (Z7N.below e d.lt) e.size⟩}
theorem PaC.next {w W W':World} {l:List Sh} {rs:Nat->Ptr} {A:Option Addr} {c:Nat} (h:PaC w W l rs A c) (e:Below W.heap.size W W'):PaC w W' l rs A c:=by
 obtain ⟨f,g,a⟩:=h;refine ⟨f,g, ?_⟩;rcases a with a | ⟨b,i,j,d⟩
 {exact Or.inl a}
 {exact Or.inr ⟨b,i,j,d.of (Z7N.below e d.lt) e.size⟩}
structure OwnI (w:World) (g o:Nat) (t:Tm) (rs:Nat->Ptr) (val:Nat->Option Value) (d:Nat->Bool) (u:Nat->Value) (W:World):Prop where
 ex: ∃Wb,Told w Wb t rs d u/\W=finO g o d u Wb
 vals: ∀j,d j=true-> ∀v,val j=some v->u j=v
 l20:d 20=true->d 6=true/\d 7=true/\d 11=true/\d 12=true/\d 16=true/\d 17=true
 l23:d 23=true->d 20=true
 l26:d 26=true->d 23=true
section
variable {w W : World} {g o : Nat} {t : Tm} {rs : Nat -> Ptr} {val : Nat -> Option Value} {d : Nat -> Bool} {u : Nat -> Value}
theorem off8 {b:Bool} (h: ¬b=true):b=false:=by cases b <;> simp_all
section
variable (h : OwnI w g o t rs val d u W)
include h
theorem OwnI.clean (a:d 20=false):Told w W t rs d u:=by
 obtain ⟨Wb,i,c⟩:=h.ex;have b:d 23=false:=off8 (fun e=>by rw[h.l23 e] at a; cases a);have f:d 26=false:=off8 (fun e=>by rw[h.l26 e] at b; cases b);unfold finO at c;rw[a,b,f] at c;rw[show W=Wb from c]; exact i
theorem OwnI.early {j:Nat} (l:j=6\/j=7\/j=11\/j=12\/j=16\/j=17) (i:d j=false):d 20=false:=
 off8 (fun e=>by
  obtain ⟨a,b,c,d',k,f⟩:=h.l20 e;rcases l with rfl | rfl | rfl | rfl | rfl | rfl
  {rw[a] at i; cases i}
  {rw[b] at i; cases i}
  {rw[c] at i; cases i}
  {rw[d'] at i; cases i}
  {rw[k] at i; cases i}
  · rw[f] at i; cases i)
end
theorem ZgC {val:Nat->Option Value} (h: ∀j,d j=true-> ∀v,val j=some v->u j=v) (i:Nat) (x:Value) (c: ∀v,val i=some v->x=v): ∀j,also d i j=true-> ∀v,val j=some v->upd u i x j=v:=by
 intro j a v b;by_cases e:j=i
 {subst e; rw[ZgQ]; exact c v b}
 {rw[Zfu u x e]; rw[Zfs d e] at a; exact h j a v b}
section
variable (h : OwnI w g o t rs val d u W) (i : Nat) (x : Value)
include h i x
theorem OwnI.pure (H:i≠7/\i≠12/\i≠17/\i≠20/\i≠23/\i≠26) (I: ∀v,val i=some v->x=v):OwnI w g o t rs val (also d i) (upd u i x) W:=by
 obtain ⟨Wb,s,G⟩:=h.ex;obtain ⟨E,q,r,A,B,C⟩:=H;have D:=Zfu u x (Ne.symm E);have m:=Zfu u x (Ne.symm q);have n:=Zfu u x (Ne.symm r);have F:=Zfs d (Ne.symm E);have y:=Zfs d (Ne.symm q);have z:=Zfs d (Ne.symm r);have k:=Zfs d (Ne.symm A);have l:=Zfs d (Ne.symm B);have p:=Zfs d (Ne.symm C);have mono: ∀j,d j=true->also d i j=true:=fun j hj=>by
  by_cases e:j=i
  {subst e; exact ZgK d j}
  {rw[Zfs d e]; exact hj}
 refine ⟨⟨Wb,⟨s.bel,fun e=> ?_,fun e=> ?_,fun e=> ?_⟩, ?_⟩,ZgC h.vals i x I,fun e=> ?_,fun e=> ?_,fun e=> ?_⟩
 {rw[D]; exact s.c7 (by rwa [F] at e)}
 {rw[m]; exact s.c12 (by rwa [y] at e)}
 {rw[n]; exact s.c17 (by rwa [z] at e)}
 {unfold finO; rw[D,m,n,k,l,p]; exact G}
 {obtain ⟨a,b,c,d',e',f⟩:=h.l20 (by rwa [k] at e);exact ⟨mono _ a,mono _ b,mono _ c,mono _ d',mono _ e',mono _ f⟩}
 {rw[k]; exact h.l23 (by rwa [l] at e)}
 {rw[l]; exact h.l26 (by rwa [p] at e)}
theorem OwnI.call {W':World} (D:i=7\/i=12\/i=17) (B:d i=false) (C:val i=none) (s:Below W.heap.size W W')
 (A:i=7-> ∃c c',x= .slice c t.names.length c'/\TxC w W' t.names c c') (y:i=12-> ∃c c',x= .slice c t.vars.length c'/\TxC w W' t.vars c c') (z:i=17-> ∃c c',x= .slice c t.shapes.length c'/\PaC w W' t.shapes rs c c'):OwnI w g o t rs val (also d i) (upd u i x) W':=by
 have k:=h.early (j:=i) (by omega) B;have l:d 23=false:=off8 (fun e=>by rw[h.l23 e] at k; cases k);have q:d 26=false:=off8 (fun e=>by rw[h.l26 e] at l; cases l);have r:=h.clean k;have m:=Zfs d (show 20≠i by omega);have n:=Zfs d (show 23≠i by omega);have p:=Zfs d (show 26≠i by omega);refine ⟨⟨W',⟨r.bel.trans (s.mono r.bel.size),fun e=> ?_,fun e=> ?_,fun e=> ?_⟩, ?_⟩,ZgC h.vals i x (fun v hv'=>by rw[C] at hv'; cases hv'),fun e=> ?_,fun e=> ?_,fun e=> ?_⟩
 {by_cases f:7=i
  {subst f; rw[ZgQ]; exact A rfl}
  {rw[Zfu u x f]; rw[Zfs d f] at e;obtain ⟨c,c',a,b⟩:=r.c7 e;exact ⟨c,c',a,b.next s⟩}}
 {by_cases f:12=i
  {subst f; rw[ZgQ]; exact y rfl}
  {rw[Zfu u x f]; rw[Zfs d f] at e;obtain ⟨c,c',a,b⟩:=r.c12 e;exact ⟨c,c',a,b.next s⟩}}
 {by_cases f:17=i
  {subst f; rw[ZgQ]; exact z rfl}
  {rw[Zfu u x f]; rw[Zfs d f] at e;obtain ⟨c,c',a,b⟩:=r.c17 e;exact ⟨c,c',a,b.next s⟩}}
 {unfold finO; rw[m,n,p,k,l,q]; rfl}
 {rw[m,k] at e; cases e}
 {rw[n,l] at e; cases e}
 {rw[p,q] at e; cases e}
end
theorem Told.mono (h:Told w W t rs d u) (i:Nat) (x:Value) (f:i≠7/\i≠12/\i≠17):Told w W t rs (also d i) (upd u i x):=by
 obtain ⟨c,a,b⟩:=f;refine ⟨h.bel,fun e=> ?_,fun e=> ?_,fun e=> ?_⟩
 {rw[Zfu u x (Ne.symm c)]; exact h.c7 (by rwa [Zfs d (Ne.symm c)] at e)}
 {rw[Zfu u x (Ne.symm a)]; exact h.c12 (by rwa [Zfs d (Ne.symm a)] at e)}
 {rw[Zfu u x (Ne.symm b)]; exact h.c17 (by rwa [Zfs d (Ne.symm b)] at e)}
section
variable (h : OwnI w g o t rs val d u W)
include h
theorem OwnI.st20 (x:Value) (c:d 20=false) (j:val 20=none) (f:d 6=true/\d 7=true/\d 11=true/\d 12=true/\d 16=true/\d 17=true):
 OwnI w g o t rs val (also d 20) (upd u 20 x) (W.setCell ⟨g,o+4,none⟩ (u 7)):=by
 have a:d 23=false:=off8 (fun e=>by rw[h.l23 e] at c; cases c);have b:d 26=false:=off8 (fun e=>by rw[h.l26 e] at a; cases a);have i:=h.clean c;refine ⟨⟨W,i.mono 20 x (by decide), ?_⟩,ZgC h.vals 20 x (fun v hv'=>by rw[j] at hv'; cases hv'),fun _=> ?_,fun e=> ?_,fun e=> ?_⟩
 {unfold finO; rw[Zfs d (show 26≠20 by decide),Zfs d (show 23≠20 by decide),ZgK,b,a,Zfu u x (show 7≠20 by decide)]; rfl}
 {rw[Zfs d (by decide),Zfs d (by decide),Zfs d (by decide),Zfs d (by decide),Zfs d (by decide),Zfs d (by decide)]; exact f}
 {exact ZgK d 20}
 {rw[Zfs d (by decide),b] at e; cases e}
theorem OwnI.w20 (i:d 20=true) (a:d 23=false): ∃Wb,Told w Wb t rs d u/\W=Wb.setCell ⟨g,o+4,none⟩ (u 7):=by
 obtain ⟨Wb,f,b⟩:=h.ex;have c:d 26=false:=off8 (fun e=>by rw[h.l26 e] at a; cases a);unfold finO at b;rw[i,a,c] at b;exact ⟨Wb,f,b⟩
theorem OwnI.st23 (x:Value) (c:d 20=true) (a:d 23=false) (i:val 23=none):
 OwnI w g o t rs val (also d 23) (upd u 23 x) (W.setCell ⟨g,o+5,none⟩ (u 12)):=by
 obtain ⟨Wb,f,rfl⟩:=h.w20 c a;have b:d 26=false:=off8 (fun e=>by rw[h.l26 e] at a; cases a);refine ⟨⟨Wb,f.mono 23 x (by decide), ?_⟩,ZgC h.vals 23 x (fun v hv'=>by rw[i] at hv'; cases hv'),fun _=> ?_,fun e=> ?_,fun e=> ?_⟩
 {unfold finO; rw[Zfs d (show 26≠23 by decide),ZgK,b,Zfu u x (show 7≠23 by decide),Zfu u x (show 12≠23 by decide)]; rfl}
 {rw[Zfs d (by decide),Zfs d (by decide),Zfs d (by decide),Zfs d (by decide),Zfs d (by decide),Zfs d (by decide)]; exact h.l20 c}
 {rw[Zfs d (by decide)]; exact c}
 {exact ZgK d 23}
theorem OwnI.w23 (e:d 23=true) (b:d 26=false): ∃Wb,Told w Wb t rs d u/\W=(Wb.setCell ⟨g,o+4,none⟩ (u 7)).setCell ⟨g,o+5,none⟩ (u 12):=by
 obtain ⟨Wb,c,a⟩:=h.ex;unfold finO at a;rw[e,b] at a;exact ⟨Wb,c,a⟩
theorem OwnI.st26 (x:Value) (a:d 23=true) (b:d 26=false) (f:val 26=none):
 OwnI w g o t rs val (also d 26) (upd u 26 x) (W.setCell ⟨g,o+6,none⟩ (u 17)):=by
 obtain ⟨Wb,c,rfl⟩:=h.w23 a b;refine ⟨⟨Wb,c.mono 26 x (by decide), ?_⟩,ZgC h.vals 26 x (fun v hv'=>by rw[f] at hv'; cases hv'),fun _=> ?_,fun e=> ?_,fun e=> ?_⟩
 {unfold finO; rw[ZgK,Zfu u x (show 7≠26 by decide),Zfu u x (show 12≠26 by decide),Zfu u x (show 17≠26 by decide)]; rfl}
 {rw[Zfs d (by decide),Zfs d (by decide),Zfs d (by decide),Zfs d (by decide),Zfs d (by decide),Zfs d (by decide)]; exact h.l20 (h.l23 a)}
 {rw[Zfs d (by decide)]; exact h.l23 a}
 {rw[Zfs d (by decide)]; exact a}
theorem OwnI.done (f: ∀j,j < 27->d j=true): ∃Wb a c1 b c2 c c3,Below w.heap.size w Wb/\TxC w Wb t.names a c1/\TxC w Wb t.vars b c2/\PaC w Wb t.shapes rs c c3/\
 W=((Wb.setCell ⟨g,o+4,none⟩ (.slice a t.names.length c1)).setCell ⟨g,o+5,none⟩ (.slice b t.vars.length c2)).setCell ⟨g,o+6,none⟩ (.slice c t.shapes.length c3):=by
 obtain ⟨Wb,e,i⟩:=h.ex;obtain ⟨a,c1,k,n⟩:=e.c7 (f 7 (by decide));obtain ⟨b,c2,l,p⟩:=e.c12 (f 12 (by decide));obtain ⟨c,c3,m,q⟩:=e.c17 (f 17 (by decide));unfold finO at i;rw[f 26 (by decide),k,l,m] at i;exact ⟨Wb,a,c1,b,c2,c,c3,e.bel,n,p,q,i⟩
end
end
theorem ZhJ (S:Option Addr) (s:Nat) (l:List Sh) (rs:Nat->Ptr) (W0 w:World) (t:W0.heap.size<=w.heap.size) (n:l.length=0\/ ∃g off,S=some ⟨g,off,none⟩/\g < w.heap.size/\ ∀i (h:i < l.length),Sh5 w g (off+i * 5) (l[i]'h) (rs i)) (q:l.length<=1000000000) (j:S=none->s=0):
 Calls Tryz.prog 29 #[.slice S l.length s] w fun e w'=>(∃a c,e= .returned (.slice a l.length c)/\PaC W0 w' l rs a c)/\Below w.heap.size w w':=by
 by_cases d:l.length=0
 {rw[d];refine (Zhe S s w j).mono ?_;rintro e w' ⟨⟨a,d',rfl,f⟩,k⟩;exact ⟨⟨a,d',rfl,by omega,f,Or.inl d⟩,k⟩}
 {rcases n with h | ⟨g,off,rfl,p,o⟩
  {exact absurd h d}
  {refine (Zh6 g off s l rs w p o q (by omega)).mono ?_;rintro e w' ⟨⟨b,c,rfl,f,r,m⟩,k⟩;exact ⟨⟨_,c,rfl,f,nofun,Or.inr ⟨b,rfl,by omega,m⟩⟩,k⟩}}
def valO (g o:Nat) (t:Tm) (q:TP):Nat->Option Value
 | 0=>some (.pointer (some ⟨g,o,none⟩))
 | 1=>some (.pointer (some ⟨g,o,none⟩))
 | 2=>some (.pointer (some ⟨g,o,none⟩))
 | 3=>some (.pointer (some ⟨g,o,none⟩))
 | 4=>some (.pointer (some ⟨g,o,none⟩))
 | 5=>some (.pointer (some ⟨g,o+4,none⟩))
 | 6=>some (.slice q.A t.names.length q.c)
 | 8=>some (.pointer (some ⟨g,o,none⟩))
 | 9=>some (.pointer (some ⟨g,o,none⟩))
 | 10=>some (.pointer (some ⟨g,o+5,none⟩))
 | 11=>some (.slice q.V t.vars.length q.e)
 | 13=>some (.pointer (some ⟨g,o,none⟩))
 | 14=>some (.pointer (some ⟨g,o,none⟩))
 | 15=>some (.pointer (some ⟨g,o+6,none⟩))
 | 16=>some (.slice q.S t.shapes.length q.s)
 | 18=>some (.pointer (some ⟨g,o,none⟩))
 | 19=>some (.pointer (some ⟨g,o+4,none⟩))
 | 21=>some (.pointer (some ⟨g,o,none⟩))
 | 22=>some (.pointer (some ⟨g,o+5,none⟩))
 | 24=>some (.pointer (some ⟨g,o,none⟩))
 | 25=>some (.pointer (some ⟨g,o+6,none⟩))
 | _=>none
def ZgB (W:World) (b o:Nat) (t:Sh) (q:Ptr):World:=((((W.setCell ⟨b,o,none⟩ (.int .i64 t.kind)).setCell ⟨b,o+1,none⟩ (.string ⟨t.of_.toArray⟩)).setCell ⟨b,o+2,none⟩ (.string ⟨t.name.toArray⟩)).setCell ⟨b,o+3,none⟩ (.slice q.A t.names.length q.c)).setCell ⟨b,o+4,none⟩ (.slice q.P t.parts.length q.d)
section
variable (W : World) (b o : Nat)
include W b o
theorem ZgT (t:Sh) (q:Ptr): (ZgB W b o t q).heap.size=W.heap.size:=by simp[ZgB,World.setCell]
theorem Zh7 (t:Sh) (q:Ptr) {x:Nat} (h:b≠x):Z7N W (ZgB W b o t q) x:=
 ((((Zfr _ ⟨b,o,none⟩ _ h).trans (Zfr _ ⟨b,o+1,none⟩ _ h)).trans (Zfr _ ⟨b,o+2,none⟩ _ h)).trans (Zfr _ ⟨b,o+3,none⟩ _ h)).trans (Zfr _ ⟨b,o+4,none⟩ _ h)
theorem Ziv (t:Sh) (q:Ptr) {k:Nat} (h:k < o\/o+5<=k): (ZgB W b o t q).cell? ⟨b,k,none⟩=W.cell? ⟨b,k,none⟩:=by
 have a: ∀c,c < 5->(⟨b,o+c,none⟩:Addr)≠⟨b,k,none⟩:=fun c hc e=>by have:=congrArg Addr.off e; simp at this; omega
 unfold ZgB;have d: (⟨b,o,none⟩:Addr)≠⟨b,k,none⟩:=fun e=>by have:=congrArg Addr.off e; simp at this; omega
 rw[World.cell?_setCell_other _ _ _ _ (a 4 (by omega)),World.cell?_setCell_other _ _ _ _ (a 3 (by omega)),World.cell?_setCell_other _ _ _ _ (a 2 (by omega)),World.cell?_setCell_other _ _ _ _ (a 1 (by omega)),World.cell?_setCell_other _ _ _ _ d]
theorem ZiO (t m:Sh) (q l:Ptr) (h:Sh5 W b o m l):Sh5 (ZgB W b o t q) b o t q:=by
 obtain ⟨f,g,i,j,k⟩:=h;unfold ZgB;have a: ∀c d,c≠d->(⟨b,o+c,none⟩:Addr)≠⟨b,o+d,none⟩:=fun c d hc e=>by have:=congrArg Addr.off e; simp at this; omega
 have nz: ∀c,c≠0->(⟨b,o+c,none⟩:Addr)≠⟨b,o,none⟩:=fun c hc e=>by have:=congrArg Addr.off e; simp at this; omega
 refine ⟨?_, ?_, ?_, ?_, ?_⟩
 {rw[World.cell?_setCell_other _ _ _ _ (nz 4 (by decide)),World.cell?_setCell_other _ _ _ _ (nz 3 (by decide)),World.cell?_setCell_other _ _ _ _ (nz 2 (by decide)),World.cell?_setCell_other _ _ _ _ (nz 1 (by decide))];exact World.cell?_setCell_same _ _ _ f}
 {rw[World.cell?_setCell_other _ _ _ _ (a 4 1 (by decide)),World.cell?_setCell_other _ _ _ _ (a 3 1 (by decide)),World.cell?_setCell_other _ _ _ _ (a 2 1 (by decide))];exact World.cell?_setCell_same _ _ _ ((World.cell?_setCell_other _ _ _ _ (nz 1 (by decide)).symm).trans g)}
 {rw[World.cell?_setCell_other _ _ _ _ (a 4 2 (by decide)),World.cell?_setCell_other _ _ _ _ (a 3 2 (by decide))];exact World.cell?_setCell_same _ _ _ ((World.cell?_setCell_other _ _ _ _ (a 1 2 (by decide))).trans ((World.cell?_setCell_other _ _ _ _ (nz 2 (by decide)).symm).trans i))}
 {rw[World.cell?_setCell_other _ _ _ _ (a 4 3 (by decide))];exact World.cell?_setCell_same _ _ _ ((World.cell?_setCell_other _ _ _ _ (a 2 3 (by decide))).trans ((World.cell?_setCell_other _ _ _ _ (a 1 3 (by decide))).trans ((World.cell?_setCell_other _ _ _ _ (nz 3 (by decide)).symm).trans j)))}
 {exact World.cell?_setCell_same _ _ _ ((World.cell?_setCell_other _ _ _ _ (a 3 4 (by decide))).trans ((World.cell?_setCell_other _ _ _ _ (a 2 4 (by decide))).trans ((World.cell?_setCell_other _ _ _ _ (a 1 4 (by decide))).trans ((World.cell?_setCell_other _ _ _ _ (nz 4 (by decide)).symm).trans k))))}
theorem Zjb (t:Sh) (q:Ptr) (x k:Nat): (ZgB W b o t q).frozen? ⟨x,k,none⟩=W.frozen? ⟨x,k,none⟩:=by
 unfold ZgB; rw[World.frozen?_setCell,World.frozen?_setCell,World.frozen?_setCell,World.frozen?_setCell,World.frozen?_setCell]
theorem Ziw (t:Sh) (q:Ptr) {x:Nat} (h:x≠b): (ZgB W b o t q).heap[x]? =W.heap[x]? :=by
 unfold ZgB;rw[Below.heap_setCell _ _ _ _ h,Below.heap_setCell _ _ _ _ h,Below.heap_setCell _ _ _ _ h,Below.heap_setCell _ _ _ _ h,Below.heap_setCell _ _ _ _ h]
end
structure ShL (W1 wr:World) (sb:Nat) (l:List Sh) (rs:Nat->Ptr) (i:Nat):Prop where
 os:wr.os=W1.os
 tape:wr.tape=W1.tape
 output:wr.output=W1.output
 size:W1.heap.size<=wr.heap.size
 block: ∀k,k < W1.heap.size->k≠sb->wr.heap[k]? =W1.heap[k]?
 lt:sb < W1.heap.size
 fz: ∀k,wr.frozen? ⟨sb,k,none⟩=false
 dn: ∃(qs:Nat->Ptr) (Fs:Nat->List Nat),∀j (h:j < l.length),j < i->Sh5 wr sb (j * 5) (l[j]'h) (qs j)/\Own wr (qs j) (l[j]'h) (Fs j)/\ ∀b∈Fs j,W1.heap.size<=b
 rest: ∀j (h:j < l.length),i<=j->Sh5 wr sb (j * 5) (l[j]'h) (rs j)
theorem ShL.same {W1 d:World} {sb:Nat} {l:List Sh} {rs:Nat->Ptr} {i:Nat} (h:ShL W1 d sb l rs i) {b:Nat} (a:b < W1.heap.size) (c:b≠sb):Z7N W1 d b:=
 ⟨fun k=>World.cell?_of_block (w:=W1) (h.block b a c),fun k=>World.frozen?_of_block (w:=W1) (h.block b a c)⟩
theorem ShL.start {W1:World} {sb:Nat} {l:List Sh} {rs:Nat->Ptr} (h:PaR W1 sb l rs):ShL W1 W1 sb l rs 0:=
 ⟨rfl,rfl,rfl,Nat.le_refl _,fun _ _ _=>rfl,h.lt,h.fz,⟨rs,fun _=> [],fun j _ hj=>absurd hj (by omega)⟩,fun j hj _=>h.at_ j hj⟩
theorem ShL.step {W1 f W:World} {sb:Nat} {l:List Sh} {rs:Nat->Ptr} {i:Nat} (h:ShL W1 f sb l rs i) (m:i < l.length) (a:Below f.heap.size f W) {q':Ptr} {F:List Nat} (w:Own W q' (l[i]'m) F) (s: ∀b∈F,f.heap.size<=b):
 ShL W1 (ZgB W sb (i * 5) (l[i]'m) q') sb l rs (i+1):=by
 have o:sb < f.heap.size:=Nat.lt_of_lt_of_le h.lt h.size;obtain ⟨qs,Fs,v⟩:=h.dn;have t:=a.size;have g: ∀k,W.cell? ⟨sb,k,none⟩=f.cell? ⟨sb,k,none⟩:=fun k=>a.cell (p:=⟨sb,k,none⟩) o;have n:Sh5 W sb (i * 5) (l[i]'m) (rs i):=(h.rest i m (Nat.le_refl _)).of g;have d: ∀j (hj:j < l.length) (q:Ptr),j≠i->Sh5 f sb (j * 5) (l[j]'hj) q->Sh5 (ZgB W sb (i * 5) (l[i]'m) q') sb (j * 5) (l[j]'hj) q:=fun j hj q hne h5=>by
  refine Zhr (fun c hc=> ?_);rw[Ziv _ _ _ _ _ (by omega),g];exact Zhq h5 hc
 refine ⟨a.os.trans h.os,a.tape.trans h.tape,a.output.trans h.output,by rw[ZgT]; exact Nat.le_trans h.size t,fun k hk hne=> ?_,h.lt,fun k=> ?_,⟨fun j=>if j=i then q' else qs j,fun j=>if j=i then F else Fs j,fun j hj hji=> ?_⟩,fun j hj hji=>d j hj _ (by omega) (h.rest j hj (by omega))⟩
 {rw[Ziw _ _ _ _ _ hne,a.block k (Nat.lt_of_lt_of_le hk h.size)];exact h.block k hk hne}
 {rw[Zjb];exact (a.frozen (p:=⟨sb,k,none⟩) o).trans (h.fz k)}
 {by_cases e:j=i
  {subst e;dsimp only;rw[show (if j=j then q' else qs j)=q' from if_pos rfl,show (if j=j then F else Fs j)=F from if_pos rfl];refine ⟨ZiO _ _ _ _ _ _ _ n,w.of (fun b hb'=>Zh7 _ _ _ _ _ (fun e=>by have:=s b hb'; omega)) (by rw[ZgT]; exact Nat.le_refl _),fun b hb'=>Nat.le_trans h.size (s b hb')⟩}
  {dsimp only;rw[show (if j=i then q' else qs j)=qs j from if_neg e,show (if j=i then F else Fs j)=Fs j from if_neg e];obtain ⟨u,a2,r⟩:=v j hj (by omega);refine ⟨d j hj _ e u,a2.of (fun b hb'=>(Z7N.below a (a2.lt b hb')).trans (Zh7 _ _ _ _ _ (fun e=>by have:=r b hb'; have:=h.lt; omega))) (by rw[ZgT]; exact t),r⟩}}
structure ChS (Wd:World) (x:Sh) (val:Nat->Option Value) (d:Nat->Bool) (u:Nat->Value) (W:World):Prop where
 bel:Below Wd.heap.size Wd W
 vals: ∀j,d j=true-> ∀v,val j=some v->u j=v
 c6:d 6=true-> ∃(q':Ptr) (F:List Nat),u 6= .agg (Y8 x q')/\Own W q' x F/\ ∀b∈F,Wd.heap.size<=b
theorem ChS.pure {a W:World} {x:Sh} {val:Nat->Option Value} {d:Nat->Bool} {u:Nat->Value} (h:ChS a x val d u W) (i:Nat) (v:Value) (b:i≠6) (c: ∀v',val i=some v'->v=v'):ChS a x val (also d i) (upd u i v) W:=
 ⟨h.bel,ZgC h.vals i v c,fun e=>by rw[Zfu u v (Ne.symm b)]; exact h.c6 (by rwa [Zfs d (Ne.symm b)] at e)⟩
theorem ChS.call {a W W':World} {x:Sh} {val:Nat->Option Value} {d:Nat->Bool} {u:Nat->Value} (h:ChS a x val d u W) (v:Value) (e:val 6=none) (c:Below W.heap.size W W') (f: ∃(q':Ptr) (F:List Nat),v= .agg (Y8 x q')/\Own W' q' x F/\ ∀b∈F,a.heap.size<=b):ChS a x val (also d 6) (upd u 6 v) W':=
 ⟨h.bel.trans (c.mono h.bel.size),ZgC h.vals 6 v (fun v' h'=>by rw[e] at h'; cases h'),fun _=>by rw[ZgQ]; exact f⟩
theorem Zhw {W1 c:World} {t:Tm} {q':TP} {rs:Nat->Ptr} {sb:Nat} {base:Nat} (q:base<=W1.heap.size)
 (K:t.names.length=0\/ ∃b,q'.A=some ⟨b,0,none⟩/\base<=b/\TxR W1 b t.names) (L:t.vars.length=0\/ ∃b,q'.V=some ⟨b,0,none⟩/\base<=b/\TxR W1 b t.vars)
 (u:t.shapes.length=0/\c=W1\/q'.S=some ⟨sb,0,none⟩/\base<=sb/\0 < t.shapes.length/\PaR W1 sb t.shapes rs/\ShL W1 c sb t.shapes rs t.shapes.length):
 ∃N,Rest c N q' t/\ ∀b∈N,base<=b/\b < c.heap.size:=by
 have k:W1.heap.size<=c.heap.size:=by
  rcases u with ⟨_,rfl⟩ | ⟨_,_,_,_,h⟩
  {exact Nat.le_refl _}
  {exact h.size}
 have z: ∀(l:List (List UInt8)) (A:Option Addr),(l.length=0\/ ∃b,A=some ⟨b,0,none⟩/\base<=b/\TxR W1 b l)-> ∃N:List Nat,(∀b∈N,base<=b/\b < c.heap.size)/\ ∀W',(∀b∈N,Z7N c W' b)->c.heap.size<=W'.heap.size->Strs W' W'.heap.size A (strs l):=by
  intro l A h;rcases h with h | ⟨b,o,p,m⟩
  {exact ⟨[],nofun,fun _ _ _=>Or.inl (by rw[Z2j]; exact h)⟩}
  {by_cases s:l.length=0
   {exact ⟨[],nofun,fun _ _ _=>Or.inl (by rw[Z2j]; exact s)⟩}
   have f:Z7N W1 c b:=by
    rcases u with ⟨_,rfl⟩ | ⟨_,_,d,y,h⟩
    {exact ⟨fun _=>rfl,fun _=>rfl⟩}
    {refine h.same m.lt (fun e=> ?_);subst e;have I:=m.at_ 0 (by omega);have n:=(y.at_ 0 d).1;simp only[Nat.zero_mul] at n;rw[I] at n;cases n}
   refine ⟨[b],fun x hx=>by rw[List.mem_singleton] at hx; subst hx; exact ⟨p,Nat.lt_of_lt_of_le m.lt k⟩,fun W' hs' hz=> ?_⟩;have w:=(m.of f k).of (hs' b (by simp)) hz;refine Or.inr ⟨b,0,o,w.lt,fun i hi=> ?_⟩;rw[Z2j] at hi;rw[Nat.zero_add,w.at_ i hi];simp[strs]}
 obtain ⟨B,E,F⟩:=z t.names q'.A K;obtain ⟨C,G,H⟩:=z t.vars q'.V L;have J: ∃N:List Nat,(∀b∈N,base<=b/\b < c.heap.size)/\ ∀W',(∀b∈N,Z7N c W' b)->c.heap.size<=W'.heap.size->ShsAt W' W'.heap.size q'.S t.shapes:=by
  rcases u with ⟨h,_⟩ | ⟨o,p,d,y,h⟩
  {exact ⟨[],nofun,fun _ _ _=>Or.inl h⟩}
  {obtain ⟨qs,Fs,r⟩:=h.dn;refine ⟨sb::(List.range t.shapes.length).flatMap Fs,fun b a=> ?_,fun W' hs' hz=> ?_⟩
   {rcases List.mem_cons.1 a with rfl | a
    {exact ⟨p,Nat.lt_of_lt_of_le h.lt h.size⟩}
    {obtain ⟨j,hj,a⟩:=List.mem_flatMap.1 a;obtain ⟨_,c2,c3⟩:=r j (List.mem_range.1 hj) (List.mem_range.1 hj);exact ⟨Nat.le_trans q (c3 b a),c2.lt b a⟩}}
   {have v:=hs' sb (by simp);refine Or.inr ⟨sb,0,qs,o,Nat.lt_of_lt_of_le (Nat.lt_of_lt_of_le h.lt h.size) hz,fun i hi=> ?_,fun i hi=> ?_⟩
    {rw[Nat.zero_add]; exact (r i hi hi).1.of v.1}
    {obtain ⟨_,c2,_⟩:=r i hi hi;have g:=c2.of (fun b a=>hs' b (List.mem_cons_of_mem _ (List.mem_flatMap.2 ⟨i,List.mem_range.2 hi,a⟩))) hz;exact g.at_ g.lt}}}
 obtain ⟨D,c1,c2⟩:=J;refine ⟨B++C++D,fun W' hs' hz=>⟨F W' (fun b a=>hs' b (by simp[a])) hz,H W' (fun b a=>hs' b (by simp[a])) hz,c2 W' (fun b a=>hs' b (by simp[a])) hz⟩,fun b a=> ?_⟩;rcases List.mem_append.1 a with a | a
 {rcases List.mem_append.1 a with a | a
  {exact E b a}
  {exact G b a}}
 {exact c1 b a}
def valSC (g o sb n c i:Nat) (x:Sh) (r:Ptr):Nat->Option Value
 | 0=>some (.pointer (some ⟨g,o,none⟩))
 | 1=>some (.pointer (some ⟨g,o,none⟩))
 | 2=>some (.pointer (some ⟨g,o+6,none⟩))
 | 3=>some (.slice (some ⟨sb,0,none⟩) n c)
 | 4=>some (.int .i64 (i:Int))
 | 5=>some (.agg (Y8 x r))
 | 7=>some (.pointer (some ⟨sb,i * 5,none⟩))
 | _=>none
theorem ZiP (g o B:Nat) (t:Tm) (q:TP) (rs:Nat->Ptr) (w:World) (hg:g < w.heap.size) (h9:Tm9 w g o t q) (hf: ∀k,w.frozen? ⟨g,k,none⟩=false) (J:TSmall t q) (hA:Strs w w.heap.size q.A (strs t.names)) (hV:Strs w w.heap.size q.V (strs t.vars))
 (G:t.shapes.length=0\/ ∃g off,q.S=some ⟨g,off,none⟩/\g < w.heap.size/\ ∀i (h:i < t.shapes.length),Sh5 w g (off+i * 5) (t.shapes[i]'h) (rs i)) (g2: ∀i (h:i < t.shapes.length),ShAt w B (rs i) (t.shapes[i]'h)) (hB:B<=g) (q2:B<=w.heap.size)
 (l3:t.names.length<=1000000000) (l5:t.vars.length<=1000000000) (l4:t.shapes.length<=1000000000) (hr: ∀s∈t.shapes,Shp.size s<=400/\Shp.right s=true):
 Calls Tryz.prog 27 #[.pointer (some ⟨g,o,none⟩)] w fun e w'=>e= .returned (.tuple #[])/\ ∃q' N,q'.P=q.P/\q'.d=q.d/\Tm9 w' g o t q'/\TSmall t q'/\Rest w' N q' t/\(∀b∈N,w.heap.size<=b/\b < w'.heap.size)/\UpN g o w w':=by
 have H9:=Y1 h9;have a7:=Y1 hf;have j9:=Y1 J;have H:=Y1 hg;have C7:=Y1 (fun (W:World) (hb:Below w.heap.size w W)=>ZgP q.A q.c t.names W (hA.next hb) l3 J.c J.A0);have b9:=Y1 (fun (W:World) (hb:Below w.heap.size w W)=>ZgP q.V q.e t.vars W (hV.next hb) l5 J.e J.V0);have c0:=Y1 (fun (W:World) (hb:Below w.heap.size w W)=>ZhJ q.S q.s t.shapes rs w W hb.size (by
  rcases G with h | ⟨g',off,h1,h2,X⟩
  {exact Or.inl h}
  · exact Or.inr ⟨g',off,h1,Nat.lt_of_lt_of_le h2 hb.size,fun i hi=>(X i hi).keep h2 hb⟩) l4 J.S0)
 have k0:=Y1 g2;have HR:=Y1 hr;clear hA hV G g2 J hr h9 hf;go_enter Tryz.func27,Tryz.ntmps27
 go_wp2_with fail
 refine Z2c (rs:= [0,1,2,3,4,5,6,7,8,9,10,11,12,13,14,15,16,17,18,19,20,21,22,23,24,25,26])
  (fun m=> { tmps:=#[.pointer (some { block:=g,off:=o }),undef,undef,undef,m 0,m 1,m 2,m 3,m 4,m 5,m 6,m 7,m 8,m 9,m 10,m 11,m 12,m 13,m 14,m 15,m 16,m 17,m 18,m 19,m 21,m 22,m 24,m 25,undef,undef,undef,undef,undef,undef,undef,undef,undef,undef,undef,undef,undef,undef,undef,undef,undef,undef,undef],defers:= [] })
  (fun j=>([undef,undef,undef,undef,undef,undef,undef,undef,undef,undef,undef,undef,undef,undef,undef,undef,undef,undef,undef,undef,undef,undef,undef,undef,undef,undef,undef]:List Value).getD j undef) (OwnI w.drew g o t rs (valO g o t q)) (by kernel_rfl) (by kernel_rfl) (by kernel_rfl) ⟨⟨w.drew,⟨Below.refl _ _,nofun,nofun,nofun⟩,rfl⟩,nofun,nofun,nofun,nofun⟩ ?_ ?_
 refine StepsInv.cons _ rfl (fun d m W K' a hd hw hK=> ?_) ?_
 {refine Z02 (v:= .pointer (some ⟨g,o,none⟩)) (W':=W) rfl ?_ (hK.out _ _ (a.pure 0 _ (by decide) (fun v' h=>by cases h; rfl)))
  try dsimp only
  go_simp}
 refine StepsInv.cons _ rfl (fun d m W K' a hd hw hK=> ?_) ?_
 {refine Z02 (v:= .pointer (some ⟨g,o,none⟩)) (W':=W) rfl ?_ (hK.out _ _ (a.pure 1 _ (by decide) (fun v' h=>by cases h; rfl)))
  try dsimp only
  go_simp}
 refine StepsInv.cons _ rfl (fun d m W K' a hd hw hK=> ?_) ?_
 {refine Z02 (v:= .pointer (some ⟨g,o,none⟩)) (W':=W) rfl ?_ (hK.out _ _ (a.pure 2 _ (by decide) (fun v' h=>by cases h; rfl)))
  try dsimp only
  go_simp}
 refine StepsInv.cons _ rfl (fun d m W K' a hd hw hK=> ?_) ?_
 {refine Z02 (v:= .pointer (some ⟨g,o,none⟩)) (W':=W) rfl ?_ (hK.out _ _ (a.pure 3 _ (by decide) (fun v' h=>by cases h; rfl)))
  try dsimp only
  go_simp}
 refine StepsInv.cons _ rfl (fun d m W K' a hd hw hK=> ?_) ?_
 {have d3:m 3= .pointer (some ⟨g,o,none⟩):=a.vals 3 (hw 3 (by kernel_rfl)) _ rfl;refine Z02 (v:= .pointer (some ⟨g,o,none⟩)) (W':=W) rfl ?_ (hK.out _ _ (a.pure 4 _ (by decide) (fun v' h=>by cases h; rfl)))
  try dsimp only
  go_simp}
 refine StepsInv.cons _ rfl (fun d m W K' a hd hw hK=> ?_) ?_
 {have d4:m 4= .pointer (some ⟨g,o,none⟩):=a.vals 4 (hw 4 (by kernel_rfl)) _ rfl;refine Z02 (v:= .pointer (some ⟨g,o+4,none⟩)) (W':=W) rfl ?_ (hK.out _ _ (a.pure 5 _ (by decide) (fun v' h=>by cases h; rfl)))
  try dsimp only
  go_simp}
 refine StepsInv.cons _ rfl (fun d m W K' a hd hw hK=> ?_) ?_
 {have d5:m 5= .pointer (some ⟨g,o+4,none⟩):=a.vals 5 (hw 5 (by kernel_rfl)) _ rfl;have n:=(a.clean (a.early (j:=6) (by decide) hd)).bel;obtain ⟨U,y1,y2,y3,y4,y5,y6,y7,y8⟩:=H9.out.keep H.out (show Below w.heap.size w W from Y2.drew.trans n);refine Z02 (v:= .slice q.A t.names.length q.c) (W':=W) rfl ?_ (hK.out _ _ (a.pure 6 _ (by decide) (fun v' h=>by cases h; rfl)))
  try dsimp only
  go_simp}
 refine StepsInv.cons _ rfl (fun d m W K' a hd hw hK=> ?_) ?_
 {have d6:m 6= .slice q.A t.names.length q.c:=a.vals 6 (hw 6 (by kernel_rfl)) _ rfl;have n:Below w.heap.size w W:=Y2.drew.trans (a.clean (a.early (j:=7) (by decide) hd)).bel;refine Z0M (f:=28) (args:=#[.slice q.A t.names.length q.c]) (W':=W) rfl ?_ ((C7.out W n).mono fun e w' ⟨⟨A',c',he,h1,h2,X⟩,hb⟩=>⟨_,he,hK.out _ _ (a.call 7 _ (by decide) hd rfl hb (fun _=>⟨A',c',rfl,h1,h2,by rcases X with X | ⟨b,h4,h5,h6⟩; exact Or.inl X; exact Or.inr ⟨b,h4,Nat.le_trans n.size h5,h6⟩⟩) (fun h=>by cases h) (fun h=>by cases h))⟩)
  try dsimp only
  go_simp}
 refine StepsInv.cons _ rfl (fun d m W K' a hd hw hK=> ?_) ?_
 {refine Z02 (v:= .pointer (some ⟨g,o,none⟩)) (W':=W) rfl ?_ (hK.out _ _ (a.pure 8 _ (by decide) (fun v' h=>by cases h; rfl)))
  try dsimp only
  go_simp}
 refine StepsInv.cons _ rfl (fun d m W K' a hd hw hK=> ?_) ?_
 {have d8:m 8= .pointer (some ⟨g,o,none⟩):=a.vals 8 (hw 8 (by kernel_rfl)) _ rfl;refine Z02 (v:= .pointer (some ⟨g,o,none⟩)) (W':=W) rfl ?_ (hK.out _ _ (a.pure 9 _ (by decide) (fun v' h=>by cases h; rfl)))
  try dsimp only
  go_simp}
 refine StepsInv.cons _ rfl (fun d m W K' a hd hw hK=> ?_) ?_
 {have d9:m 9= .pointer (some ⟨g,o,none⟩):=a.vals 9 (hw 9 (by kernel_rfl)) _ rfl;refine Z02 (v:= .pointer (some ⟨g,o+5,none⟩)) (W':=W) rfl ?_ (hK.out _ _ (a.pure 10 _ (by decide) (fun v' h=>by cases h; rfl)))
  try dsimp only
  go_simp}
 refine StepsInv.cons _ rfl (fun d m W K' a hd hw hK=> ?_) ?_
 {have n9:m 10= .pointer (some ⟨g,o+5,none⟩):=a.vals 10 (hw 10 (by kernel_rfl)) _ rfl;have n:=(a.clean (a.early (j:=11) (by decide) hd)).bel;obtain ⟨U,y1,y2,y3,y4,y5,y6,y7,y8⟩:=H9.out.keep H.out (show Below w.heap.size w W from Y2.drew.trans n);refine Z02 (v:= .slice q.V t.vars.length q.e) (W':=W) rfl ?_ (hK.out _ _ (a.pure 11 _ (by decide) (fun v' h=>by cases h; rfl)))
  try dsimp only
  go_simp}
 refine StepsInv.cons _ rfl (fun d m W K' a hd hw hK=> ?_) ?_
 {have o0:m 11= .slice q.V t.vars.length q.e:=a.vals 11 (hw 11 (by kernel_rfl)) _ rfl;have n:Below w.heap.size w W:=Y2.drew.trans (a.clean (a.early (j:=12) (by decide) hd)).bel;refine Z0M (f:=28) (args:=#[.slice q.V t.vars.length q.e]) (W':=W) rfl ?_ ((b9.out W n).mono fun e w' ⟨⟨A',c',he,h1,h2,X⟩,hb⟩=>⟨_,he,hK.out _ _ (a.call 12 _ (by decide) hd rfl hb (fun h=>by cases h) (fun _=>⟨A',c',rfl,h1,h2,by rcases X with X | ⟨b,h4,h5,h6⟩; exact Or.inl X; exact Or.inr ⟨b,h4,Nat.le_trans n.size h5,h6⟩⟩) (fun h=>by cases h))⟩)
  try dsimp only
  go_simp}
 refine StepsInv.cons _ rfl (fun d m W K' a hd hw hK=> ?_) ?_
 {refine Z02 (v:= .pointer (some ⟨g,o,none⟩)) (W':=W) rfl ?_ (hK.out _ _ (a.pure 13 _ (by decide) (fun v' h=>by cases h; rfl)))
  try dsimp only
  go_simp}
 refine StepsInv.cons _ rfl (fun d m W K' a hd hw hK=> ?_) ?_
 {have o1:m 13= .pointer (some ⟨g,o,none⟩):=a.vals 13 (hw 13 (by kernel_rfl)) _ rfl;refine Z02 (v:= .pointer (some ⟨g,o,none⟩)) (W':=W) rfl ?_ (hK.out _ _ (a.pure 14 _ (by decide) (fun v' h=>by cases h; rfl)))
  try dsimp only
  go_simp}
 refine StepsInv.cons _ rfl (fun d m W K' a hd hw hK=> ?_) ?_
 {have o2:m 14= .pointer (some ⟨g,o,none⟩):=a.vals 14 (hw 14 (by kernel_rfl)) _ rfl;refine Z02 (v:= .pointer (some ⟨g,o+6,none⟩)) (W':=W) rfl ?_ (hK.out _ _ (a.pure 15 _ (by decide) (fun v' h=>by cases h; rfl)))
  try dsimp only
  go_simp}
 refine StepsInv.cons _ rfl (fun d m W K' a hd hw hK=> ?_) ?_
 {have o3:m 15= .pointer (some ⟨g,o+6,none⟩):=a.vals 15 (hw 15 (by kernel_rfl)) _ rfl;have n:=(a.clean (a.early (j:=16) (by decide) hd)).bel;obtain ⟨U,y1,y2,y3,y4,y5,y6,y7,y8⟩:=H9.out.keep H.out (show Below w.heap.size w W from Y2.drew.trans n);refine Z02 (v:= .slice q.S t.shapes.length q.s) (W':=W) rfl ?_ (hK.out _ _ (a.pure 16 _ (by decide) (fun v' h=>by cases h; rfl)))
  try dsimp only
  go_simp}
 refine StepsInv.cons _ rfl (fun d m W K' a hd hw hK=> ?_) ?_
 {have o4:m 16= .slice q.S t.shapes.length q.s:=a.vals 16 (hw 16 (by kernel_rfl)) _ rfl;have n:Below w.heap.size w W:=Y2.drew.trans (a.clean (a.early (j:=17) (by decide) hd)).bel;refine Z0M (f:=29) (args:=#[.slice q.S t.shapes.length q.s]) (W':=W) rfl ?_ ((c0.out W n).mono fun e w' ⟨⟨A',c',he,h1⟩,hb⟩=>⟨_,he,hK.out _ _ (a.call 17 _ (by decide) hd rfl hb (fun h=>by cases h) (fun h=>by cases h) (fun _=>⟨A',c',rfl,h1⟩))⟩)
  try dsimp only
  go_simp}
 refine StepsInv.cons _ rfl (fun d m W K' a hd hw hK=> ?_) ?_
 {have d0:m 0= .pointer (some ⟨g,o,none⟩):=a.vals 0 (hw 0 (by kernel_rfl)) _ rfl;refine Z02 (v:= .pointer (some ⟨g,o,none⟩)) (W':=W) rfl ?_ (hK.out _ _ (a.pure 18 _ (by decide) (fun v' h=>by cases h; rfl)))
  try dsimp only
  go_simp}
 refine StepsInv.cons _ rfl (fun d m W K' a hd hw hK=> ?_) ?_
 {have o5:m 18= .pointer (some ⟨g,o,none⟩):=a.vals 18 (hw 18 (by kernel_rfl)) _ rfl;refine Z02 (v:= .pointer (some ⟨g,o+4,none⟩)) (W':=W) rfl ?_ (hK.out _ _ (a.pure 19 _ (by decide) (fun v' h=>by cases h; rfl)))
  try dsimp only
  go_simp}
 refine StepsInv.cons _ rfl (fun d m W K' a hd hw hK=> ?_) ?_
 {have o6:m 19= .pointer (some ⟨g,o+4,none⟩):=a.vals 19 (hw 19 (by kernel_rfl)) _ rfl;have tt:=a.clean hd;obtain ⟨A',c',e7,_⟩:=tt.c7 (hw 7 (by kernel_rfl));have n:Below w.heap.size w W:=Y2.drew.trans tt.bel;obtain ⟨U,y1,y2,y3,y4,y5,y6,y7,y8⟩:=H9.out.keep H.out n;have z4:=(n.frozen (p:=⟨g,o+4,none⟩) H.out).trans (a7.out (o+4));have hn:=a.st20 undef hd rfl ⟨hw 6 (by kernel_rfl),hw 7 (by kernel_rfl),hw 11 (by kernel_rfl),hw 12 (by kernel_rfl),hw 16 (by kernel_rfl),hw 17 (by kernel_rfl)⟩;refine Z0B (W':=W.setCell ⟨g,o+4,none⟩ (m 7)) rfl ?_ (hK.out undef _ hn);rw[e7]
  try dsimp only
  go_simp}
 refine StepsInv.cons _ rfl (fun d m W K' a hd hw hK=> ?_) ?_
 {have d1:m 1= .pointer (some ⟨g,o,none⟩):=a.vals 1 (hw 1 (by kernel_rfl)) _ rfl;refine Z02 (v:= .pointer (some ⟨g,o,none⟩)) (W':=W) rfl ?_ (hK.out _ _ (a.pure 21 _ (by decide) (fun v' h=>by cases h; rfl)))
  try dsimp only
  go_simp}
 refine StepsInv.cons _ rfl (fun d m W K' a hd hw hK=> ?_) ?_
 {have o8:m 21= .pointer (some ⟨g,o,none⟩):=a.vals 21 (hw 21 (by kernel_rfl)) _ rfl;refine Z02 (v:= .pointer (some ⟨g,o+5,none⟩)) (W':=W) rfl ?_ (hK.out _ _ (a.pure 22 _ (by decide) (fun v' h=>by cases h; rfl)))
  try dsimp only
  go_simp}
 refine StepsInv.cons _ rfl (fun d m W K' a hd hw hK=> ?_) ?_
 {have o9:m 22= .pointer (some ⟨g,o+5,none⟩):=a.vals 22 (hw 22 (by kernel_rfl)) _ rfl;obtain ⟨Wb,tt,D⟩:=a.w20 (hw 20 (by kernel_rfl)) hd;obtain ⟨A',c',e12,_⟩:=tt.c12 (hw 12 (by kernel_rfl));have n:Below w.heap.size w Wb:=Y2.drew.trans tt.bel;obtain ⟨U,y1,y2,y3,y4,y5,y6,y7,y8⟩:=H9.out.keep H.out n;have z4:=(n.frozen (p:=⟨g,o+5,none⟩) H.out).trans (a7.out (o+5));have x5:W.cell? ⟨g,o+5,none⟩=some (.slice q.V t.vars.length q.e):=by rw[D]; exact (World.cell?_setCell_other _ _ _ _ (fun e=>by have:=congrArg Addr.off e; simp at this)).trans y5
  have x6:W.frozen? ⟨g,o+5,none⟩=false:=by rw[D,World.frozen?_setCell]; exact z4
  have hn:=a.st23 undef (hw 20 (by kernel_rfl)) hd rfl;clear D;refine Z0B (W':=W.setCell ⟨g,o+5,none⟩ (m 12)) rfl ?_ (hK.out undef _ hn);rw[e12]
  try dsimp only
  go_simp}
 refine StepsInv.cons _ rfl (fun d m W K' a hd hw hK=> ?_) ?_
 {have d2:m 2= .pointer (some ⟨g,o,none⟩):=a.vals 2 (hw 2 (by kernel_rfl)) _ rfl;refine Z02 (v:= .pointer (some ⟨g,o,none⟩)) (W':=W) rfl ?_ (hK.out _ _ (a.pure 24 _ (by decide) (fun v' h=>by cases h; rfl)))
  try dsimp only
  go_simp}
 refine StepsInv.cons _ rfl (fun d m W K' a hd hw hK=> ?_) ?_
 {have p6:m 24= .pointer (some ⟨g,o,none⟩):=a.vals 24 (hw 24 (by kernel_rfl)) _ rfl;refine Z02 (v:= .pointer (some ⟨g,o+6,none⟩)) (W':=W) rfl ?_ (hK.out _ _ (a.pure 25 _ (by decide) (fun v' h=>by cases h; rfl)))
  try dsimp only
  go_simp}
 refine StepsInv.cons _ rfl (fun d m W K' a hd hw hK=> ?_) StepsInv.nil
 {have p7:m 25= .pointer (some ⟨g,o+6,none⟩):=a.vals 25 (hw 25 (by kernel_rfl)) _ rfl;obtain ⟨Wb,tt,D⟩:=a.w23 (hw 23 (by kernel_rfl)) hd;obtain ⟨A',c',e17,_⟩:=tt.c17 (hw 17 (by kernel_rfl));have n:Below w.heap.size w Wb:=Y2.drew.trans tt.bel;obtain ⟨U,y1,y2,y3,y4,y5,y6,y7,y8⟩:=H9.out.keep H.out n;have z4:=(n.frozen (p:=⟨g,o+6,none⟩) H.out).trans (a7.out (o+6));have x5:W.cell? ⟨g,o+6,none⟩=some (.slice q.S t.shapes.length q.s):=by rw[D]; exact (World.cell?_setCell_other _ _ _ _ (fun e=>by have:=congrArg Addr.off e; simp at this)).trans ((World.cell?_setCell_other _ _ _ _ (fun e=>by have:=congrArg Addr.off e; simp at this)).trans y6)
  have x6:W.frozen? ⟨g,o+6,none⟩=false:=by rw[D,World.frozen?_setCell,World.frozen?_setCell]; exact z4
  have hn:=a.st26 undef (hw 23 (by kernel_rfl)) hd rfl;clear D;refine Z0B (W':=W.setCell ⟨g,o+6,none⟩ (m 17)) rfl ?_ (hK.out undef _ hn);rw[e17]
  try dsimp only
  go_simp}
 intro d' m W a C;obtain ⟨Wb,A1,c1,A2,c2,A3,c3,n,k1,k2,k3,D⟩:=a.done C;have u:Below w.heap.size w Wb:=Y2.drew.trans n;have l1:g < Wb.heap.size:=Nat.lt_of_lt_of_le H.out u.size;have g1:=H9.out.keep H.out u;have b4:W.heap.size=Wb.heap.size:=by rw[D,Zgq,Zgq,Zgq]
 have y: ∀k,k≠o+4->k≠o+5->k≠o+6->W.cell? ⟨g,k,none⟩=Wb.cell? ⟨g,k,none⟩:=fun k e4 e5 e6=>by
  rw[D,World.cell?_setCell_other _ _ _ _ (fun e=>e6 (congrArg Addr.off e).symm),World.cell?_setCell_other _ _ _ _ (fun e=>e5 (congrArg Addr.off e).symm),World.cell?_setCell_other _ _ _ _ (fun e=>e4 (congrArg Addr.off e).symm)]
 have P: ∀b,b≠g->Z7N Wb W b:=fun b hb=>by
  rw[D];exact ((Zfr _ ⟨g,o+4,none⟩ _ (Ne.symm hb)).trans (Zfr _ ⟨g,o+5,none⟩ _ (Ne.symm hb))).trans (Zfr _ ⟨g,o+6,none⟩ _ (Ne.symm hb))
 have g0:Tm9 W g o t ⟨A1,c1,A2,c2,A3,c3,q.P,q.d⟩:=by
  obtain ⟨U,y1,y2,y3,y4,y5,y6,y7,y8⟩:=g1;have ne: ∀c d,c≠d->(⟨g,o+c,none⟩:Addr)≠⟨g,o+d,none⟩:=fun c d hc e=>by have:=congrArg Addr.off e; simp at this; omega
  refine ⟨(y _ (by omega) (by omega) (by omega)).trans U,(y _ (by omega) (by omega) (by omega)).trans y1,(y _ (by omega) (by omega) (by omega)).trans y2,(y _ (by omega) (by omega) (by omega)).trans y3, ?_, ?_, ?_,(y _ (by omega) (by omega) (by omega)).trans y7,(y _ (by omega) (by omega) (by omega)).trans y8⟩
  {rw[D,World.cell?_setCell_other _ _ _ _ (ne 6 4 (by decide)),World.cell?_setCell_other _ _ _ _ (ne 5 4 (by decide))];exact World.cell?_setCell_same _ _ _ y4}
  {rw[D,World.cell?_setCell_other _ _ _ _ (ne 6 5 (by decide))];exact World.cell?_setCell_same _ _ _ ((World.cell?_setCell_other _ _ _ _ (ne 4 5 (by decide))).trans y5)}
  {rw[D];exact World.cell?_setCell_same _ _ _ ((World.cell?_setCell_other _ _ _ _ (ne 5 6 (by decide))).trans ((World.cell?_setCell_other _ _ _ _ (ne 4 6 (by decide))).trans y6))}
 have i0:UpN g o w W:=⟨by rw[D]; exact u.os,by rw[D]; exact u.tape,by rw[D]; exact u.output,by rw[b4]; exact u.size,fun k hk hne=>by
  rw[D,Below.heap_setCell _ _ _ _ hne,Below.heap_setCell _ _ _ _ hne,Below.heap_setCell _ _ _ _ hne]; exact u.block k hk,
  fun k e4 e5 e6=>(y k e4 e5 e6).trans (u.cell (p:=⟨g,k,none⟩) H.out),fun k=>by rw[D,World.frozen?_setCell,World.frozen?_setCell,World.frozen?_setCell]; exact u.frozen (p:=⟨g,k,none⟩) H.out⟩
 have a6:TSmall t ⟨A1,c1,A2,c2,A3,c3,q.P,q.d⟩:=by
  obtain ⟨i1,i2,i3,i4,i5,i6,i7,i8,i9,q6,q7,l6,q8,q9,r0,l7,l8,l9,m0⟩:=j9.out;exact ⟨i1,i2,i3,i4,i5,i6,i7,i8,k1.1,k2.1,k3.1,l6,k1.2.1,k2.2.1,k3.2.1,l7,l8,l9,m0⟩
 have tx: ∀(l:List (List UInt8)) (A:Option Addr) (c:Nat),TxC w.drew Wb l A c->l.length=0\/ ∃b,A=some ⟨b,0,none⟩/\w.heap.size<=b/\TxR W b l:=fun l A c h=>by
  rcases h.2.2 with h | ⟨b,e1,e2,e3⟩
  {exact Or.inl h}
  {have k7:w.heap.size<=b:=e2;exact Or.inr ⟨b,e1,e2,e3.of (P b (by have:=H.out; omega)) (by omega)⟩}
 have f6:=Y1 (tx _ _ _ k1);have f8:=Y1 (tx _ _ _ k2);have g8:t.shapes.length=0\/ ∃b,A3=some ⟨b,0,none⟩/\w.heap.size<=b/\PaR W b t.shapes rs:=by
  rcases k3.2.2 with h | ⟨b,e1,e2,e3⟩
  {exact Or.inl h}
  {have k7:w.heap.size<=b:=e2;exact Or.inr ⟨b,e1,e2,e3.of (P b (by have:=H.out; omega)) (by omega)⟩}
 have E:Hid (w.heap.size<=W.heap.size):=Y1 (by rw[b4]; exact u.size);have c8:=Y1 g0;have b0:=Y1 i0;have a3:=Y1 a6;have m9:=k3.1;clear n u l1 g1 D b4 y P k1 k2 k3 tx C a i0 a6 H9 C7 b9 c0;obtain ⟨W1,l0⟩: ∃W1,W1=W:=⟨W,rfl⟩;subst l0;obtain ⟨U,y1,y2,y3,y4,y5,y6,y7,y8⟩:=g0;clear U y1 y2 y3 y4 y5 y7 y8;by_cases h0:t.shapes.length=0
 {have b2: ¬(0:Int) < (t.shapes.length:Int):=by omega
  have S:=Zhw (t:=t) (q':=⟨A1,c1,A2,c2,A3,c3,q.P,q.d⟩) (rs:=rs) (sb:=0) E.out f6.out f8.out (Or.inl ⟨h0,rfl⟩);have a8:=Y1 S;clear S g8 h0;have HE:=Y1 b2;clear b2
  go_wp2_with fail
  go_loopw [33] (fun ii wr=>ii= .int .i64 0/\wr=W1) (fun _ _=>0)
  case atStart=>exact ⟨rfl,rfl⟩
  case round=>
   obtain ⟨rfl,rfl⟩:=hrel;have b2:=HE.out;go_wp2;refine bodyPost_end (v:= .tuple #[]) (by simp[results,Tryz.results27,go_sem]) rfl ?_;obtain ⟨N,n1,n2⟩:=a8.out;exact ⟨rfl,⟨A1,c1,A2,c2,A3,c3,q.P,q.d⟩,N,rfl,rfl,c8.out,a3.out,n1,n2,b0.out⟩}
 {rcases g8 with h | ⟨sb,rfl,g9,Q⟩
  {exact absurd h h0}
  have k4:=Y1 (ShL.start Q);have j8:=Y1 Q;have a9:=Y1 g9;have h7:g≠sb:=by have:=H.out; omega
  have g3:g < W1.heap.size:=Nat.lt_of_lt_of_le H.out E.out;have H6:=Y1 y6;have k5:=Y1 h0;clear Q g9 h0
  go_wp2_with fail
  clear y6
  go_loopw [33] (fun ii wr=> ∃i:Nat,ii= .int .i64 i/\i<=t.shapes.length/\Hid (ShL W1 wr sb t.shapes rs i)) (fun ii _=>t.shapes.length - (intOf ii).toNat)
  case atStart=>exact ⟨0,rfl,Nat.zero_le _,k4⟩
  case round=>
   obtain ⟨i,rfl,hi,V⟩:=hrel;by_cases L:i < t.shapes.length
   {have l2: (i:Int) < (t.shapes.length:Int):=by omega
    obtain ⟨x,hx⟩: ∃x,x=t.shapes[i]'L:=⟨_,rfl⟩;have K:=V.out.rest i L (Nat.le_refl _);have Y:ShAt wr B (rs i) (t.shapes[i]'L):=(k0.out i L).of (Nat.le_refl _) (fun x k hx=>(V.out.same (by have:=E.out; omega) (by have:=a9.out; omega)).1 k |>.trans (b0.out.same (by omega) (by omega) |>.1 k));obtain ⟨j0,g7⟩:=HR.out _ (List.getElem_mem L);rw[<-hx] at K Y j0 g7;obtain ⟨r,hr⟩: ∃r,r=rs i:=⟨_,rfl⟩;rw[<-hr] at K Y;have HX:=Y1 hx;have q4:=V.out.size;have a4:ShAt wr wr.heap.size r x:=Y.more (by have:=E.out; omega);have b1:=Z01 wr (.cells (Y8 x r) 43);have c9:=Y1 (a4.next b1);have e9:=Y1 (Z0k wr x r);have e8:=Y1 b1;have k6:wr.cell? ⟨g,o+6,none⟩=some (.slice (some ⟨sb,0,none⟩) t.shapes.length c3):=((V.out.same g3 h7).1 _).trans H6.out;have j6:=Y1 (show ∀W,Below wr.heap.size wr W->W.cell? ⟨g,o+6,none⟩=some (.slice (some ⟨sb,0,none⟩) t.shapes.length c3) from fun W D=>(D.cell (p:=⟨g,o+6,none⟩) (by show g < wr.heap.size; omega)).trans k6);have f7:=Y1 K;obtain ⟨p0,p1,p2,p3,p4⟩:=K;clear hx Y a4 b1 k6 hr
    go_wp2_with fail
    obtain ⟨Wd,O⟩: ∃Wd,Wd=wr.alloc (.cells (Y8 x r) 43):=⟨_,rfl⟩;have M:Hid (Below wr.heap.size wr Wd.drew):=Y1 (by rw[O]; exact e8.out.drew);have e0:Hid (ShAt Wd.drew Wd.drew.heap.size r x):=Y1 (by rw[O]; exact c9.out.next Y2.drew);have f5:Hid (Box5 Wd.drew wr.heap.size x r):=Y1 (by rw[O]; exact e9.out.next Y2.drew);rw[<-O];clear O c9 e9 e8 p0 p1 p2 p3 p4;refine Z2c (rs:= [0,1,2,3,4,5,6,7,8])
     (fun ux=> { tmps:=#[.pointer (some { block:=g,off:=o }),undef,.int .i64 ↑i,.pointer (some { block:=wr.heap.size,off:=0 }),m 0,m 1,m 2,m 3,m 4,m 5,m 6,m 7,m 8,m 9,m 10,m 11,m 12,m 13,m 14,m 15,m 16,m 17,m 18,m 19,m 21,m 22,m 24,m 25,.pointer (some { block:=g,off:=o }),.pointer (some { block:=g,off:=o }),.pointer (some { block:=g,off:=o+6 }),.slice (some { block:=sb,off:=0 }) t.shapes.length c3,.int .i64 ↑t.shapes.length,.int .i64 ↑i,.bool true,.int .i64 ↑i,.pointer (some { block:=sb,off:=i * 5 }),.agg (Y8 x r),ux 0,ux 1,ux 2,ux 3,ux 4,ux 5,ux 6,ux 7,u46],defers:= [] })
     (fun j=>([u38,u39,u40,u41,u42,u43,u44,u45,undef]:List Value).getD j undef) (InvC 8 (ChS Wd.drew x (valSC g o sb t.shapes.length c3 i x r)) (fun W=>Hid (ShL W1 W sb t.shapes rs (i+1)))) (by kernel_rfl) (by kernel_rfl) (by kernel_rfl) (Or.inl ⟨rfl,⟨Below.refl _ _,nofun,nofun⟩⟩) ?_ ?_
    refine StepsInv.cons _ rfl (fun dx ux W K' a hd hw hK=> ?_) ?_
    {obtain ⟨G,z⟩:=a.open hd (by decide);refine Z02 (v:= .pointer (some ⟨g,o,none⟩)) (W':=W) rfl ?_ (hK.out _ _ (InvC.next G (by decide) (z.pure 0 _ (by decide) (fun v' h=>by cases h; rfl))))
     try dsimp only
     go_simp}
    refine StepsInv.cons _ rfl (fun dx ux W K' a hd hw hK=> ?_) ?_
    {obtain ⟨G,z⟩:=a.open hd (by decide);have d0:ux 0= .pointer (some ⟨g,o,none⟩):=z.vals 0 (hw 0 (by kernel_rfl)) _ rfl;refine Z02 (v:= .pointer (some ⟨g,o,none⟩)) (W':=W) rfl ?_ (hK.out _ _ (InvC.next G (by decide) (z.pure 1 _ (by decide) (fun v' h=>by cases h; rfl))))
     try dsimp only
     go_simp}
    refine StepsInv.cons _ rfl (fun dx ux W K' a hd hw hK=> ?_) ?_
    {obtain ⟨G,z⟩:=a.open hd (by decide);have d1:ux 1= .pointer (some ⟨g,o,none⟩):=z.vals 1 (hw 1 (by kernel_rfl)) _ rfl;refine Z02 (v:= .pointer (some ⟨g,o+6,none⟩)) (W':=W) rfl ?_ (hK.out _ _ (InvC.next G (by decide) (z.pure 2 _ (by decide) (fun v' h=>by cases h; rfl))))
     try dsimp only
     go_simp}
    refine StepsInv.cons _ rfl (fun dx ux W K' a hd hw hK=> ?_) ?_
    {obtain ⟨G,z⟩:=a.open hd (by decide);have d2:ux 2= .pointer (some ⟨g,o+6,none⟩):=z.vals 2 (hw 2 (by kernel_rfl)) _ rfl;have y6:=j6.out W (M.out.trans (z.bel.mono M.out.size));refine Z02 (v:= .slice (some ⟨sb,0,none⟩) t.shapes.length c3) (W':=W) rfl ?_ (hK.out _ _ (InvC.next G (by decide) (z.pure 3 _ (by decide) (fun v' h=>by cases h; rfl))))
     try dsimp only
     go_simp}
    refine StepsInv.cons _ rfl (fun dx ux W K' a hd hw hK=> ?_) ?_
    {obtain ⟨G,z⟩:=a.open hd (by decide);refine Z02 (v:= .int .i64 (i:Int)) (W':=W) rfl ?_ (hK.out _ _ (InvC.next G (by decide) (z.pure 4 _ (by decide) (fun v' h=>by cases h; rfl))))
     try dsimp only
     go_simp}
    refine StepsInv.cons _ rfl (fun dx ux W K' a hd hw hK=> ?_) ?_
    {obtain ⟨G,z⟩:=a.open hd (by decide);obtain ⟨_,⟨U,y1,y2,y3,y4⟩,_⟩:=f5.out.next z.bel;simp only[Nat.zero_add] at U y1 y2 y3 y4;refine Z02 (v:= .agg (Y8 x r)) (W':=W) rfl ?_ (hK.out _ _ (InvC.next G (by decide) (z.pure 5 _ (by decide) (fun v' h=>by cases h; rfl))))
     try dsimp only
     go_simp}
    refine StepsInv.cons _ rfl (fun dx ux W K' a hd hw hK=> ?_) ?_
    {obtain ⟨G,z⟩:=a.open hd (by decide);have d5:ux 5= .agg (Y8 x r):=z.vals 5 (hw 5 (by kernel_rfl)) _ rfl;refine Z0M (f:=30) (args:=#[.agg (Y8 x r)]) (W':=W) rfl ?_ ((Zi3 x r W (e0.out.next z.bel) j0 g7).mono fun e w' ⟨q',F,he,ho,_,hF,hb⟩=>⟨_,he,hK.out _ _ (InvC.next G (by decide) (z.call _ rfl hb ⟨q',F,rfl,ho,fun b hb'=>Nat.le_trans z.bel.size (hF b hb')⟩))⟩)
     try dsimp only
     go_simp}
    refine StepsInv.cons _ rfl (fun dx ux W K' a hd hw hK=> ?_) ?_
    {obtain ⟨G,z⟩:=a.open hd (by decide);have d3:ux 3= .slice (some ⟨sb,0,none⟩) t.shapes.length c3:=z.vals 3 (hw 3 (by kernel_rfl)) _ rfl;have d4:ux 4= .int .i64 (i:Int):=z.vals 4 (hw 4 (by kernel_rfl)) _ rfl;refine Z02 (v:= .pointer (some ⟨sb,i * 5,none⟩)) (W':=W) rfl ?_ (hK.out _ _ (InvC.next G (by decide) (z.pure 7 _ (by decide) (fun v' h=>by cases h; rfl))))
     try dsimp only
     go_simp}
    refine StepsInv.cons _ rfl (fun dx ux W K' a hd hw hK=> ?_) StepsInv.nil
    {obtain ⟨G,z⟩:=a.open hd (by decide);have d7:ux 7= .pointer (some ⟨sb,i * 5,none⟩):=z.vals 7 (hw 7 (by kernel_rfl)) _ rfl;have C: ∀j,j < 8->dx j=true:=by
      intro j hj;have:j∈ [0,1,2,3,4,5,6,7]:=by simp; omega
      simp only[List.mem_cons,List.not_mem_nil,or_false] at this;rcases this with rfl | rfl | rfl | rfl | rfl | rfl | rfl | rfl <;> exact hw _ (by kernel_rfl)
     obtain ⟨q',F,d6,ho,hF⟩:=z.c6 (hw 6 (by kernel_rfl));have Z:Below wr.heap.size wr W:=M.out.trans (z.bel.mono M.out.size);have h8:sb < wr.heap.size:=Nat.lt_of_lt_of_le V.out.lt V.out.size;obtain ⟨z0,z1,z2,z3,z4⟩:=f7.out.of (w':=W) (fun k=>Z.cell (p:=⟨sb,k,none⟩) h8);have zf: ∀k,W.frozen? ⟨sb,k,none⟩=false:=fun k=>(Z.frozen (p:=⟨sb,k,none⟩) h8).trans (V.out.fz k);have f0:=zf (i * 5);have f1:=zf (i * 5+1);have f2:=zf (i * 5+2);have f3:=zf (i * 5+3);have f4:=zf (i * 5+4);have b3:ShL W1 (ZgB W sb (i * 5) x q') sb t.shapes rs (i+1):=by
      have:=V.out.step L Z (q':=q') (F:=F) (by rw[<-HX.out]; exact ho) (fun b hb'=>Nat.le_trans M.out.size (hF b hb'))
      rwa [<-HX.out] at this
     clear zf ho hF Z;refine Z0B (W':=ZgB W sb (i * 5) x q') rfl ?_ (hK.out undef _ (InvC.last C (Y1 b3)));unfold ZgB
     try dsimp only
     go_simp}
    intro n6 ua W4 a C;rcases a with ⟨h1,_⟩ | ⟨_,_,h1⟩
    {rw[C 8 (by decide)] at h1; cases h1}
    have j7:=Y1 h1;clear h1 C;go_wp2
    go_roundw
    case rel=>exact ⟨i+1,by go_num,by omega,j7.out⟩
    case measure=>simp[intOf]; omega}
   {have g4:i=t.shapes.length:=by omega
    have a5:0 < t.shapes.length:=by
     rcases Nat.eq_zero_or_pos t.shapes.length with h | h
     {exact absurd h k5.out}
     {exact h}
    have I:Hid (ShL W1 wr sb t.shapes rs t.shapes.length):=Y1 (by rw[<-g4]; exact V.out);have a8:=Y1 (Zhw (t:=t) (q':=⟨A1,c1,A2,c2,some ⟨sb,0,none⟩,c3,q.P,q.d⟩) (rs:=rs) (sb:=sb) E.out f6.out f8.out (Or.inr ⟨rfl,a9.out,a5,j8.out,I.out⟩));have l2: ¬(i:Int) < (t.shapes.length:Int):=by omega
    clear g4 V a5;go_wp2;refine bodyPost_end (v:= .tuple #[]) (by simp[results,Tryz.results27,go_sem]) rfl ?_;obtain ⟨N,n1,n2⟩:=a8.out;have T:=I.out.same g3 h7;have u1:=b0.out;exact ⟨rfl,⟨A1,c1,A2,c2,some ⟨sb,0,none⟩,c3,q.P,q.d⟩,rfl,rfl,c8.out.of T.1,a3.out,N,n1,n2,⟨I.out.os.trans u1.os,I.out.tape.trans u1.tape,I.out.output.trans u1.output,Nat.le_trans u1.size I.out.size,fun k hk hne=>(I.out.block k (by have:=E.out; omega) (by have:=a9.out; omega)).trans (u1.block k hk hne),fun k e4 e5 e6=>(T.1 k).trans (u1.cells k e4 e5 e6),fun k=>(T.2 k).trans (u1.fz k)⟩⟩}}
end
end Go.Proofs.YtkncdbaoaeeoiaaGreatDoor
