/- What the proofs of ParseAround want, part 33. -/
import Derived.Test.YtkncdbaoaeeoiaaGreatDoorL0n32
set_option linter.unusedVariables false
set_option linter.unusedSimpArgs false
set_option linter.unusedSectionVars false
set_option maxRecDepth 100000
set_option maxHeartbeats 16000000
namespace Go.Proofs.YtkncdbaoaeeoiaaGreatDoor
section
open Go.RowKit Tms
structure UpZ (S R:Nat->Prop) (W W':World):Prop where
 os:W'.os=W.os
 tape:W'.tape=W.tape
 output:W'.output=W.output
 size:W'.heap.size=W.heap.size
 other: ∀b,¬R b-> ¬S b->W'.heap[b]? =W.heap[b]?
 keep: ∀b k,¬R b->k % 9≠8->W'.cell? ⟨b,k,none⟩=W.cell? ⟨b,k,none⟩
 zero: ∀b i,¬R b->W'.cell? ⟨b,i * 9+8,none⟩=W.cell? ⟨b,i * 9+8,none⟩\/W'.cell? ⟨b,i * 9+8,none⟩=some (.int .i64 0)
 fz: ∀b k,¬R b->W'.frozen? ⟨b,k,none⟩=W.frozen? ⟨b,k,none⟩
def noR (_:Nat):Prop:=False
theorem UpZ.refl (S R:Nat->Prop) (W:World):UpZ S R W W:=⟨rfl,rfl,rfl,rfl,fun _ _ _=>rfl,fun _ _ _ _=>rfl,fun _ _ _=>Or.inl rfl,fun _ _ _=>rfl⟩
theorem UpZ.trans {S R:Nat->Prop} {a b c:World} (h:UpZ S R a b) (k:UpZ S R b c):UpZ S R a c:=
 ⟨k.os.trans h.os,k.tape.trans h.tape,k.output.trans h.output,k.size.trans h.size,fun x hr hx=>(k.other x hr hx).trans (h.other x hr hx),fun x y hr hy=>(k.keep x y hr hy).trans (h.keep x y hr hy),fun x y hr=>by
  rcases k.zero x y hr with e | e
  {rw[e]; exact h.zero x y hr}
  · exact Or.inr e,fun x y hr=>(k.fz x y hr).trans (h.fz x y hr)⟩
theorem UpZ.weak {S:Nat->Prop} (R:Nat->Prop) {a b:World} (h:UpZ S noR a b):UpZ S R a b:=
 ⟨h.os,h.tape,h.output,h.size,fun x _ hx=>h.other x (fun e=>e) hx,fun x y _ hy=>h.keep x y (fun e=>e) hy,fun x y _=>h.zero x y (fun e=>e),fun x y _=>h.fz x y (fun e=>e)⟩
section
variable {S R : Nat -> Prop}
include S R
theorem UpZ.set {W:World} {b i:Nat} {u:Value} (a:S b) (c:W.cell? ⟨b,i * 9+8,none⟩=some u):UpZ S R W (W.setCell ⟨b,i * 9+8,none⟩ (.int .i64 0)):=
 ⟨rfl,rfl,rfl,Zgq _ _ _,fun x _ hx=>Below.heap_setCell _ _ _ _ (fun e=>hx (by rw[e]; exact a)),fun x y _ hy=>World.cell?_setCell_other _ _ _ _ (fun e=>by have:=congrArg Addr.off e; simp at this; omega),fun x y _=>by
  by_cases e: (⟨b,i * 9+8,none⟩:Addr)=⟨x,y * 9+8,none⟩
  {rw[<-e]; exact Or.inr (World.cell?_setCell_same _ _ _ c)}
  · exact Or.inl (World.cell?_setCell_other _ _ _ _ e),fun x y _=>World.frozen?_setCell ..⟩
theorem UpZ.same {W W':World} (h:UpZ S R W W') {b:Nat} (a: ¬S b) (c: ¬R b):Z7N W W' b:=
 ⟨fun k=>World.cell?_of_block (w:=W) (h.other b c a),fun k=>World.frozen?_of_block (w:=W) (h.other b c a)⟩
theorem UpZ.at8 {W W':World} (h:UpZ S R W W') {b i:Nat} {u:Value} (a: ¬R b) (c:W.cell? ⟨b,i * 9+8,none⟩=some u): ∃v,W'.cell? ⟨b,i * 9+8,none⟩=some v:=by
 rcases h.zero b i a with e | e
 {exact ⟨u,e.trans c⟩}
 {exact ⟨_,e⟩}
theorem UpZ.none8 {W W':World} (h:UpZ S R W W') {b i:Nat} (a: ¬R b) (c:W.cell? ⟨b,i * 9+8,none⟩=some (.int .i64 0)):W'.cell? ⟨b,i * 9+8,none⟩=some (.int .i64 0):=by
 rcases h.zero b i a with e | e
 {exact e.trans c}
 {exact e}
end
theorem ZhN {t:Tm} {q:TP} (h:TSmall t q):TSmall (strip t) q:=by
 obtain ⟨k,m,n,o,p,r,s,u,v,a,b,c,d,e,f,g,i,l,j⟩:=h;rw[Z13];exact ⟨k,m,n,o,p,r,s,by simpa using u,v,a,b,by simpa using c,d,e,f,g,i,⟨by show (-9223372036854775808:Int)<=0; omega,by show (0:Int)<=9223372036854775807; omega⟩,j⟩
theorem ZiX {S R:Nat->Prop} {W0 W W':World} {b i:Nat} {t:Tm} {q:TP} (c: ¬R b) (h:Tm9 W0 b (i * 9) t q) (p:UpZ S noR W0 W) (r:W.cell? ⟨b,i * 9+8,none⟩=some (.int .i64 0)) (a:UpZ S R W W'):Tm9 W' b (i * 9) (strip t) q:=by
 obtain ⟨d,f,g,j,l,m,n,o,s⟩:=h;have e: ∀k,k % 9≠8->W'.cell? ⟨b,k,none⟩=W0.cell? ⟨b,k,none⟩:=fun k hk=>(a.keep b k c hk).trans (p.keep b k (fun e=>e) hk);rw[Z13];refine ⟨(e _ (by omega)).trans d,(e _ (by omega)).trans f,(e _ (by omega)).trans g,(e _ (by omega)).trans j,(e _ (by omega)).trans l,(e _ (by omega)).trans m,(e _ (by omega)).trans n, ?_,a.none8 c r⟩;refine (e _ (by omega)).trans (o.trans ?_);simp
theorem Ziz {S R:Nat->Prop} {W0 W:World} {Ψ:Nat->Option (List Tm)} {N:List Nat} {t:Tm} {q:TP} {pb:Nat} {qs:Nat->TP} (a: ∀b∈N,¬S b/\ ¬R b) (d:NodeOk W0 Ψ N q t) (f:UpZ S R W0 W)
 (i:t.parts.length=0\/q.P=some ⟨pb,0,none⟩/\pb < W.heap.size) (e: ∀j (h:j < t.parts.length),Tm9 W pb (j * 9) (strip (t.parts[j]'h)) (qs j)/\TmAt W W.heap.size (qs j) (strip (t.parts[j]'h))):TmAt W W.heap.size q (strip t):=by
 obtain ⟨k,l,m⟩:=d.rest W (fun b hb=>f.same (a b hb).1 (a b hb).2) (by rw[f.size]; exact Nat.le_refl _);have g: (strip t).parts.length=t.parts.length:=by rw[Z13]; simp
 have c: ∀j (h:j < (strip t).parts.length),(strip t).parts[j]'h=strip (t.parts[j]'(by omega)):=by
  intro j h;simp[Z13]
 refine TmAt.mk q (strip t) pb 0 qs (ZhN d.sm) (by rw[Z13]; exact k) (by rw[Z13]; exact l) (by rw[Z13]; exact m) (by rw[g]; exact i) (fun j hj=> ?_) (fun j hj=> ?_)
 {rw[c j hj,Nat.zero_add]; exact (e j (by omega)).1}
 {rw[c j hj]; exact (e j (by omega)).2}
theorem ZhO (S R:Nat->Prop) (base:Nat) (W0:World) (Ψ:Nat->Option (List Tm)) (N:List Nat) (L:Typed base W0 Ψ N) (hS: ∀b l,Ψ b=some l->S b) (X: ∀b,S b-> ¬R b) (hN: ∀b∈N,¬S b/\ ¬R b) (t:Tm):
 ∀(q:TP) (b i:Nat) (W:World),S b->b < W0.heap.size->Tm9 W0 b (i * 9) t q->(∀k,W0.frozen? ⟨b,k,none⟩=false)->NodeOk W0 Ψ N q t->UpZ S noR W0 W->
 Calls Tryz.prog 18 #[.pointer (some ⟨b,i * 9,none⟩)] W fun e w'=>e= .returned (.tuple #[])/\UpZ S noR W w'/\ ∀w'',UpZ S R w' w''->Tm9 w'' b (i * 9) (strip t) q/\TmAt w'' w''.heap.size q (strip t):=by
 induction t using Tm.ind with
 | h t ih=>
 intro q b i W o hb V hf M O;have H9:=Y1 V;have HK:=Y1 M;have Q:=Y1 O;have P:=Y1 o;have HF:=Y1 hf;have hm:=M.sm.m;obtain ⟨u8,s⟩: ∃u,W.cell? ⟨b,i * 9+8,none⟩=some u:=by
  obtain ⟨_,_,_,_,_,_,_,_,h8⟩:=V;exact O.at8 (fun e=>e) h8
 have a1:W.frozen? ⟨b,i * 9+8,none⟩=false:=(O.fz _ _ (fun e=>e)).trans (hf _);have C:=UpZ.set (R:=noR) o s;have H: (W.setCell ⟨b,i * 9+8,none⟩ (.int .i64 0)).cell? ⟨b,i * 9+8,none⟩=some (.int .i64 0):=World.cell?_setCell_same _ _ _ s;have c:=Y1 C;have z:=Y1 H;have A: ∀wr,UpZ S noR (W.setCell ⟨b,i * 9+8,none⟩ (.int .i64 0)) wr->wr.cell? ⟨b,i * 9+7,none⟩=some (.slice q.P t.parts.length q.d):=fun wr hw=>by
  obtain ⟨_,_,_,_,_,_,_,A,_⟩:=H9.out;exact (hw.keep b _ (fun e=>e) (by omega)).trans ((c.out.keep b _ (fun e=>e) (by omega)).trans ((Q.out.keep b _ (fun e=>e) (by omega)).trans A))
 have H7:=Y1 A;obtain ⟨qs,pb,F,G⟩: ∃(qs:Nat->TP) (pb:Nat),(t.parts.length=0\/q.P=some ⟨pb,0,none⟩/\Ψ pb=some t.parts)/\ ∀j (h:j < t.parts.length),Tm9 W0 pb (j * 9) (t.parts[j]'h) (qs j)/\NodeOk W0 Ψ N (qs j) (t.parts[j]'h):=by
  rcases M.parts with K | ⟨pb,e1,U⟩
  {exact ⟨fun _=>noneT,0,Or.inl K,fun j hj=>by omega⟩}
  {refine ⟨fun j=>if h:j < t.parts.length then Classical.choose (L.ok pb _ U j h) else noneT,pb,Or.inr ⟨e1,U⟩,fun j hj=> ?_⟩;simp only[dif_pos hj];exact Classical.choose_spec (L.ok pb _ U j hj)}
 have w:=Y1 F;have y:=Y1 G;have IH:=Y1 ih;have B:=A _ (UpZ.refl _ _ _);clear A M O o hf V C H F G ih;go_enter Tryz.func18,Tryz.ntmps18
 go_wp2_with fail
 obtain ⟨W1,p⟩: ∃W1,W1=W.setCell ⟨b,i * 9+8,none⟩ (.int .i64 0):=⟨_,rfl⟩;rw[<-p] at c z H7 B
 try rw[<-p]
 clear p s a1
 go_wp2_with fail
 clear B
 go_loopw [11] (fun ii wr=> ∃n:Nat,ii= .int .i64 n/\n<=t.parts.length/\Hid (UpZ S noR W1 wr)/\Hid (∀j (h:j < t.parts.length),j < n-> ∀w'',UpZ S R wr w''->Tm9 w'' pb (j * 9) (strip (t.parts[j]'h)) (qs j)/\TmAt w'' w''.heap.size (qs j) (strip (t.parts[j]'h)))) (fun ii _=>t.parts.length - (intOf ii).toNat)
 case atStart=>exact ⟨0,rfl,Nat.zero_le _,Y1 (UpZ.refl _ _ _),Y1 (fun j h hj=>absurd hj (by omega))⟩
 case round=>
  obtain ⟨n,rfl,hn,d,HD⟩:=hrel;have a:UpZ S noR W0 wr:=(Q.out.trans c.out).trans d.out;by_cases g:n < t.parts.length
  {rcases w.out with K | ⟨f,J⟩
   {omega}
   {have a2: (n:Int) < (t.parts.length:Int):=by omega
    have k7:=H7.out _ d.out;rw[f] at k7;obtain ⟨x,hx⟩: ∃x,x=t.parts[n]'g:=⟨_,rfl⟩;obtain ⟨Y,D,Z,E⟩:=L.blk pb _ J;have m:=IH.out (t.parts[n]'g) (List.getElem_mem _) (qs n) pb n _ (hS pb _ J) D (y.out n g).1 E (y.out n g).2 a;clear J Y D Z E a;rw[f];clear f
    go_wp2_with fail
    refine m.mono ?_;rintro e w2 ⟨rfl,r,I⟩;have HN:Hid (∀j (h:j < t.parts.length),j < n+1-> ∀w'',UpZ S R w2 w''->Tm9 w'' pb (j * 9) (strip (t.parts[j]'h)) (qs j)/\TmAt w'' w''.heap.size (qs j) (strip (t.parts[j]'h))):=Y1 (fun j h hj w'' hw=>by
     by_cases e:j=n
     {subst e; exact I w'' hw}
     · exact HD.out j h (by omega) w'' ((r.weak R).trans hw))
    have T:=Y1 (d.out.trans r);clear r I m k7;go_wp2
    go_roundw
    case rel=>exact ⟨n+1,by go_num,by omega,T,HN⟩
    case measure=>simp[intOf]; omega}}
  {have a2: ¬(n:Int) < (t.parts.length:Int):=by omega
   have HE:Hid (UpZ S R W0 wr):=Y1 (a.weak R);clear a;go_wp2;refine bodyPost_end (v:= .tuple #[]) (by simp[results,Tryz.results18,go_sem]) rfl ?_;refine ⟨rfl,c.out.trans d.out,fun w'' hw=>⟨ZiX (X b P.out) H9.out (Q.out.trans c.out) z.out ((d.out.weak R).trans hw),Ziz hN HK.out (HE.out.trans hw) ?_ (fun j hj=>HD.out j hj (by omega) w'' hw)⟩⟩;rcases w.out with K | ⟨f,J⟩
   {exact Or.inl K}
   {exact Or.inr ⟨f,by rw[(HE.out.trans hw).size]; exact (L.blk pb _ J).2.1⟩}}
theorem UpZ.toBelow {S:Nat->Prop} {B:Nat} {a b:World} (h:UpZ S noR a b) (c: ∀x,S x->B<=x):Below B a b:=
 ⟨h.os,h.tape,h.output,by rw[h.size]; exact Nat.le_refl _,fun k hk=>h.other k (fun e=>e) (fun hs=>by have:=c k hs; omega)⟩
theorem ZgD (S:Nat->Prop) (W:World) (r k:Nat) (u:Value):UpZ S (fun b=>b=r) W (W.setCell ⟨r,k,none⟩ u):=
 ⟨rfl,rfl,rfl,Zgq _ _ _,fun b h _=>Below.heap_setCell _ _ _ _ h,fun b i h _=>(Zfr W ⟨r,k,none⟩ u (Ne.symm h)).1 i,fun b i h=>Or.inl ((Zfr W ⟨r,k,none⟩ u (Ne.symm h)).1 _),fun b i h=>(Zfr W ⟨r,k,none⟩ u (Ne.symm h)).2 i⟩
theorem Zjd (S:Nat->Prop) (W:World) (r:Nat) (a c d e f g h i j:Value):UpZ S (fun b=>b=r) W (put9 W r a c d e f g h i j):=by
 unfold put9;exact (((((((((ZgD S _ r 0 a).trans (ZgD S _ r 1 c)).trans (ZgD S _ r 2 d)).trans (ZgD S _ r 3 e)).trans (ZgD S _ r 4 f)).trans (ZgD S _ r 5 g)).trans (ZgD S _ r 6 h)).trans (ZgD S _ r 7 i)).trans (ZgD S _ r 8 j))
theorem Zhh (t:Tm) (q:TP) (w:World) (hq:TmAt w w.heap.size q t) (hg:WGlobs w) (hu:Z0J w) (ht:slim t=true) (hc:check t=0):
 Calls Tryz.prog 8 #[.agg (Y7 t q)] w fun e w'=> ∃q',e= .returned (.agg (Y7 (strip t) q'))/\TmAt w' w'.heap.size q' (strip t)/\Below w.heap.size w w':=by
 obtain ⟨hz,_,hr⟩:=Tms.Z3X hc;have HS:=Y1 (ZgL w t q);have HA:=Y1 (ZiV w t q);have HE:=Y1 (ZiW w t q);have F:=Y1 (show (tW w t q).heap.size=w.heap.size+2 from by simp[tW]);have Z:=Y1 (hq.next (ZgL w t q));have HG:=Y1 (hg.next (ZgL w t q));have HU:=Y1 (hu.next (ZgL w t q));have z:=Y1 (Ziy t q (tW w t q) Z.out hz hr ht);obtain ⟨_,⟨J,c1,c2,c3,c4,c5,c6,c7,K⟩,_⟩:=ZiV w t q;simp only[Nat.zero_add] at J c1 c2 c3 c4 c5 c6 c7 K;clear hq hg hu;go_enter Tryz.func8,Tryz.ntmps8
 go_wp2_with fail
 change Calls _ _ _ (tW w t q) _;clear J c1 c2 c3 c4 c5 c6 c7 K;generalize tW w t q=W at HS HA HE F Z HG HU z ⊢;refine z.out.mono ?_;rintro e o ⟨q1,Ψ,N,rfl,S,P,g⟩;have n:=Y1 S;have Y:=Y1 P;have I:=Y1 (Z00 HS.out g);have U:=Y1 (HA.out.next g);have V:=Y1 (HE.out.next g);have a0:=Y1 (Z.out.next g);have X:=Y1 (HG.out.next g);have a1:=Y1 (HU.out.next g);have p:=Y1 (show W.heap.size<=o.heap.size from g.size);clear S P g z;have A:=Z01 o (.cells (Y7 t q1) 26);have m:=Y1 A;have G:=Y1 (Z1c o t q1);obtain ⟨_,⟨J,c1,c2,c3,c4,c5,c6,c7,K⟩,_⟩:=U.out.next A;simp only[Nat.zero_add] at J c1 c2 c3 c4 c5 c6 c7 K;clear A
 go_wp2_with fail
 clear J c1 c2 c3 c4 c5 c6 c7 K;obtain ⟨T,s⟩: ∃T,T=o.alloc (.cells (Y7 t q1) 26):=⟨_,rfl⟩;rw[<-s] at m G;rw[<-s];have g8:T.heap.size=o.heap.size+1:=by rw[s]; simp
 clear s;have HM:=ZhT t q T (a0.out.next m.out) (X.out.next m.out) (a1.out.next m.out) (Zj7 ht);refine HM.mono ?_;rintro e E ⟨rfl,r⟩;rw[hc,show decide ((0:Int)=0)=true from rfl];have c:Below o.heap.size o E:=m.out.trans (r.mono (by omega));have g9:=r.size;have j:Typed (W.heap.size+2) E Ψ N:=n.out.of (fun b l i=>Z7N.below c (n.out.blk b l i).2.1) (fun b i=>Z7N.below c (n.out.nn b i).2) c.size;have H:NodeOk E Ψ N q1 t:=Y.out.of (fun b i=>Z7N.below c (n.out.nn b i).2) c.size;obtain ⟨O,L,M⟩:=G.out.next r;have k:=ZhO (fun b=>Ψ b≠none\/b=o.heap.size) (fun b=>b=w.heap.size+1) (W.heap.size+2) E Ψ N j (fun b l i=>Or.inl (by rw[i]; nofun)) (fun b i e=>by
  have e':b=w.heap.size+1:=e;have:=F.out; have:=p.out;rcases i with i | i
  {rcases h:Ψ b with _ | l
   {exact i h}
   {have:=(j.blk b l h).1; omega}}
  · omega)
  (fun b i=>by
   have h1:=j.nn b i;have h2:=n.out.nn b i;refine ⟨fun e=> ?_,fun e=> ?_⟩
   {rcases e with e | e
    {rcases h:Ψ b with _ | l
     {exact e h}
     {exact (j.blk b l h).2.2.1 i}}
    {omega}}
   · have e':b=w.heap.size+1:=e
     have:=F.out;omega) t q1 o.heap.size 0 E (Or.inr rfl) O (by rw[Nat.zero_mul]; exact L) M H (UpZ.refl _ _ _)
 rw[Nat.zero_mul] at k;have u:=Y1 c;have y:=Y1 j;clear r c j H O L M HM
 go_wp2_with fail
 refine k.mono ?_;rintro e w4 ⟨rfl,C,D⟩;have a2:=Y1 C;have a3:=Y1 D;obtain ⟨d9,_⟩:=D w4 (UpZ.refl _ _ _);obtain ⟨d0,d1,d2,d3,d4,d5,d6,d7,d8⟩:=d9;simp only[Nat.zero_add] at d0 d1 d2 d3 d4 d5 d6 d7 d8;obtain ⟨_,Q,f⟩:=V.out.keep (show w.heap.size+1 < o.heap.size by have:=F.out; have:=p.out; omega) u.out;have d:Z7N E w4 (w.heap.size+1):=C.same (fun e=>by
  have:=F.out; have:=p.out;rcases e with e | e
  {rcases h:Ψ (w.heap.size+1) with _ | l
   {exact e h}
   {have:=(y.out.blk _ l h).1; omega}}
  · omega) (fun e=>e)
 obtain ⟨r0,r1,r2,r3,r4,r5,r6,r7,r8⟩:=Q.of d.1;simp only[Nat.zero_add] at r0 r1 r2 r3 r4 r5 r6 r7 r8;have f0:=(d.2 0).trans (f 0);have f1:=(d.2 1).trans (f 1);have f2:=(d.2 2).trans (f 2);have f3:=(d.2 3).trans (f 3);have f4:=(d.2 4).trans (f 4);have f5:=(d.2 5).trans (f 5);have f6:=(d.2 6).trans (f 6);have f7:=(d.2 7).trans (f 7);have f8:=(d.2 8).trans (f 8);clear C D k Q f d;go_wp2;refine bodyPost_ret (v:= .agg (Y7 (strip t) q1)) (by simp[results,Tryz.results8,go_sem,r0,r1,r2,r3,r4,r5,r6,r7,r8]) rfl ?_;refine ⟨q1,rfl,(a3.out _ (Zjd _ w4 (w.heap.size+1) _ _ _ _ _ _ _ _ _)).2,Zhg (B:=w.heap.size) (a:=w) ?_ (by omega) _ _ _ _ _ _ _ _ _⟩;have b1:Below w.heap.size w E:=I.out.trans (u.out.mono I.out.size);refine b1.trans (a2.out.toBelow (fun x hx=> ?_));have:=F.out; have:=p.out;rcases hx with e | e
 {rcases h:Ψ x with _ | l
  {exact absurd h e}
  {have:=(y.out.blk _ l h).1; omega}}
 {omega}
end
section
open Go.RowKit Shp
theorem Zje {l m:List Sh} {i:Nat} (a:i < l.length) (b:i < m.length) (h:eqB (l[i]'a) (m[i]'b)=false):eqs l m=false:=by
 cases e:eqs l m with
 | false=>rfl
 | true=>
  have:=(Zan l m).1 e;subst this;rw[eqB_refl] at h; cases h
theorem Zie {l m:List Sh} (a:l.length=m.length) (h: ∀j (hj:j < l.length),eqB (l[j]'hj) (m[j]'(by omega))=true):eqs l m=true:=
 (Zan l m).2 (List.ext_getElem a (fun j h1 h2=>(eqB_iff _ _).1 (h j h1)))
def headB (t u:Sh):Bool:=t.kind==u.kind&&t.of_==u.of_&&t.name==u.name&&decide (t.names.length=u.names.length)&&decide (t.parts.length=u.parts.length)
theorem Zjf {t u:Sh} (h:headB t u=false):eqB t u=false:=by
 apply Zhi;rintro rfl;simp[headB] at h
theorem ZiY {t u:Sh} {i:Nat} (a:i < t.names.length) (b:i < u.names.length) (h:t.names[i]'a≠u.names[i]'b):eqB t u=false:=by
 apply Zhi;rintro rfl;exact h rfl
theorem ZiZ {t u:Sh} {i:Nat} (a:i < t.parts.length) (b:i < u.parts.length) (h:eqB (t.parts[i]'a) (u.parts[i]'b)=false):eqB t u=false:=by
 apply Zhi;rintro rfl;rw[eqB_refl] at h; cases h
theorem Zju {t u:Sh} (h:headB t u=true) (i: ∀j (hj:j < t.names.length) (hj':j < u.names.length),t.names[j]'hj=u.names[j]'hj') (k: ∀j (hj:j < t.parts.length) (hj':j < u.parts.length),eqB (t.parts[j]'hj) (u.parts[j]'hj')=true):eqB t u=true:=by
 simp only[headB,Bool.and_eq_true,beq_iff_eq,decide_eq_true_eq] at h;obtain ⟨⟨⟨⟨c,d⟩,e⟩,f⟩,g⟩:=h;rw[eqB_eq,c,d,e];simp only[beq_self_eq_true,Bool.true_and,Bool.and_eq_true];exact ⟨beq_iff_eq.2 (List.ext_getElem f (fun j a b=>i j a b)),Zie g (fun j hj=>k j hj (by omega))⟩
theorem Zi5 (t u:Sh) (q r:Ptr) (w:World) (E:ShAt w w.heap.size q t) (F:ShAt w w.heap.size r u) (i:headB t u=false):
 Y9 15 #[.agg (Y8 t q),.agg (Y8 u r)] w (.bool (eqB t u)):=by
 have c:=Y1 (Zjf i);have hb0:=Z01 w (.cells (Y8 t q) 43);have d:=Z03 hb0 (.cells (Y8 u r) 43);have a:=Y1 d;have v:=(Z0k w t q).next (Z01 _ (.cells (Y8 u r) 43));have y:=Z0k (w.alloc (.cells (Y8 t q) 43)) u r;obtain ⟨_,⟨D,c1,c2,c3,c4⟩,_⟩:=v;obtain ⟨_,⟨l,m,n,o,p⟩,_⟩:=y;clear hb0 d;rw[World.size_alloc] at l m n o p;have b:=Y1 i;clear i;have j: ((t.names.length:Int)==(u.names.length:Int))=decide (t.names.length=u.names.length):=by rw[Bool.eq_iff_iff,beq_iff_eq,decide_eq_true_eq]; omega
 have k: ((t.parts.length:Int)==(u.parts.length:Int))=decide (t.parts.length=u.parts.length):=by rw[Bool.eq_iff_iff,beq_iff_eq,decide_eq_true_eq]; omega
 unfold headB at b;rw[<-j, <-k] at b;clear j k;cases e: (t.kind==u.kind)
 {have z: (t.kind !=u.kind)=true:=by unfold bne; rw[e]; rfl
  go_enter Tryz.func15,Tryz.ntmps15;go_wp2;go_ret;exact ⟨by rw[c.out]; rfl,a.out⟩}
 {have z: (t.kind !=u.kind)=false:=by unfold bne; rw[e]; rfl
  rw[e,Bool.true_and] at b;cases f: (t.of_==u.of_)
  {have A: (t.of_ !=u.of_)=true:=by unfold bne; rw[f]; rfl
   go_enter Tryz.func15,Tryz.ntmps15;go_wp2;go_ret;exact ⟨by rw[c.out]; rfl,a.out⟩}
  {have A: (t.of_ !=u.of_)=false:=by unfold bne; rw[f]; rfl
   rw[f,Bool.true_and] at b;cases g: (t.name==u.name)
   {have B: (t.name !=u.name)=true:=by unfold bne; rw[g]; rfl
    go_enter Tryz.func15,Tryz.ntmps15;go_wp2;go_ret;exact ⟨by rw[c.out]; rfl,a.out⟩}
   {have B: (t.name !=u.name)=false:=by unfold bne; rw[g]; rfl
    rw[g,Bool.true_and] at b;cases h: ((t.names.length:Int)==(u.names.length:Int))
    {have C: ((t.names.length:Int) !=(u.names.length:Int))=true:=by unfold bne; rw[h]; rfl
     go_enter Tryz.func15,Tryz.ntmps15;go_wp2;go_ret;exact ⟨by rw[c.out]; rfl,a.out⟩}
    {have C: ((t.names.length:Int) !=(u.names.length:Int))=false:=by unfold bne; rw[h]; rfl
     rw[h,Bool.true_and] at b;have s:=b.out;have G: ((t.parts.length:Int) !=(u.parts.length:Int))=true:=by unfold bne; rw[s]; rfl
     go_enter Tryz.func15,Tryz.ntmps15;go_wp2;go_ret;exact ⟨by rw[c.out]; rfl,a.out⟩}}}}
theorem Zi6 (t:Sh): ∀(u:Sh) (q r:Ptr) (w:World),ShAt w w.heap.size q t->ShAt w w.heap.size r u->
 Y9 15 #[.agg (Y8 t q),.agg (Y8 u r)] w (.bool (eqB t u)):=by
 induction t using Sh.ind with
 | h t ih=>
 intro u q r w D hr;cases hh:headB t u with
 | false=>exact Zi5 t u q r w D hr hh
 | true=>
 have HH:=Y1 hh;have hs:=hh;simp only[headB,Bool.and_eq_true,beq_iff_eq,decide_eq_true_eq] at hs;obtain ⟨⟨⟨⟨g1,g2⟩,g3⟩,Y⟩,Z⟩:=hs;have a7:=Y1 Y;have a8:=Y1 Z;have HL:=Y1 D.small.l;have HM:=Y1 D.small.m;have HP:=Y1 D.part;have HR:=Y1 hr.part;have b1:=Y1 D.strs;have b0:=Y1 hr.strs;have hb0:=Z01 w (.cells (Y8 t q) 43);have K:=Z03 hb0 (.cells (Y8 u r) 43);have f:=Y1 K;have hB:=(Z0k w t q).next (Z01 _ (.cells (Y8 u r) 43));have hC:=Z0k (w.alloc (.cells (Y8 t q) 43)) u r;rw[World.size_alloc] at hC;have HB:=Y1 hB;have HC:=Y1 hC;obtain ⟨_,⟨W,c1,c2,c3,c4⟩,_⟩:=hB;obtain ⟨_,⟨X,d1,d2,H,I⟩,_⟩:=hC;have n1: (t.kind !=u.kind)=false:=by rw[g1]; simp
 have n2: (t.of_ !=u.of_)=false:=by rw[g2]; simp
 have n3: (t.name !=u.name)=false:=by rw[g3]; simp
 have n4: ((t.names.length:Int) !=(u.names.length:Int))=false:=by rw[Y]; simp
 have n5: ((t.parts.length:Int) !=(u.parts.length:Int))=false:=by rw[Z]; simp
 have e1: (t.kind==u.kind)=true:=by rw[g1]; simp
 have e2: (t.of_==u.of_)=true:=by rw[g2]; simp
 have e3: (t.name==u.name)=true:=by rw[g3]; simp
 have e4: ((t.names.length:Int)==(u.names.length:Int))=true:=by rw[Y]; simp
 have e5: ((t.parts.length:Int)==(u.parts.length:Int))=true:=by rw[Z]; simp
 clear hb0 K D hr hh g1 g2 g3 Y Z;go_enter Tryz.func15,Tryz.ntmps15
 go_wp2_with fail
 generalize hW0: (w.alloc (.cells (Y8 t q) 43)).alloc (.cells (Y8 u r) 43)=W0 at HB HC f ⊢;clear hW0 W c1 c2 c3 c4 X d1 d2 H I n1 n2 n3 n4 n5 e1 e2 e3 e4 e5
 go_loopw [5] (fun ii wr=> ∃i:Nat,ii= .int .i64 i/\i<=t.names.length/\Hid (∀j (h:j < t.names.length) (h':j < u.names.length),j < i->t.names[j]'h=u.names[j]'h')/\Below W0.heap.size W0 wr) (fun i _=>t.names.length - (intOf i).toNat)
 case atStart=>exact ⟨0,rfl,Nat.zero_le _,Y1 (fun j _ _ hj=>absurd hj (by omega)),Below.refl _ _⟩
 case round=>
  obtain ⟨i,rfl,hi,C,l⟩:=hrel;have b:Below w.heap.size w wr:=f.out.trans (l.mono f.out.size);have hl:=HL.out;obtain ⟨_,⟨W,_,_,c3,c4⟩,_⟩:=HB.out.next l;obtain ⟨_,⟨X,_,_,H,I⟩,_⟩:=HC.out.next l;by_cases n:i < t.names.length
  {have b7: (i:Int) < (t.names.length:Int):=by omega
   have b8: (i:Int) < (u.names.length:Int):=by have:=a7.out; omega
   have c:i < u.names.length:=by omega
   rcases (b1.out.next b).cell7 with h0 | ⟨g,off,N,hg,L⟩
   {omega}
   {rcases (b0.out.next b).cell7 with h0 | ⟨g',T,P,M,m⟩
    {omega}
    {have p:=L i n;have p':=m i c;obtain ⟨x,v⟩: ∃x,x=t.names[i]'n:=⟨_,rfl⟩;obtain ⟨y,z⟩: ∃y,y=u.names[i]'c:=⟨_,rfl⟩;rw[<-v] at p;rw[<-z] at p';have F:=Y1 v;have G:=Y1 z;rw[N] at c3;rw[P] at H;clear v z L m N P;cases a: (x==y)
     {have E:Hid (eqB t u=false):=Y1 (ZiY n c (by rw[<-F.out, <-G.out]; intro h; rw[h] at a; simp at a));have n1: (x !=y)=true:=by unfold bne; rw[a]; rfl
      go_wp2_with fail
      go_quiet (fail)
      go_wp2;go_ret;exact ⟨by rw[E.out]; rfl,Z0b b _⟩}
     {have n1: (x !=y)=false:=by unfold bne; rw[a]; rfl
      have HE:Hid (t.names[i]'n=u.names[i]'c):=Y1 (by rw[<-F.out, <-G.out]; simpa using a)
      go_wp2_with fail
      go_quiet (fail)
      go_wp2
      go_roundw
      case rel=>exact ⟨i+1,by go_num,by omega,Y1 (fun j hj hj' hji=>by
       rcases Nat.lt_succ_iff_lt_or_eq.1 hji with h | rfl
       {exact C.out j hj hj' h}
       · exact HE.out),Z0b l _⟩
      case measure=>simp[intOf]; omega}}}}
  {have a9:Hid (∀j (h:j < t.names.length) (h':j < u.names.length),t.names[j]'h=u.names[j]'h'):=Y1 (fun j h h'=>C.out j h h' (by omega));have a3:=Y1 l;clear b l C
   go_wp2_with fail
   go_loopw [6] (fun ii wx=> ∃k:Nat,ii= .int .i64 k/\k<=t.parts.length/\Hid (∀j (h:j < t.parts.length) (h':j < u.parts.length),j < k->eqB (t.parts[j]'h) (u.parts[j]'h')=true)/\Hid (Below W0.heap.size W0 wx)) (fun i _=>t.parts.length - (intOf i).toNat)
   case atStart=>exact ⟨0,rfl,Nat.zero_le _,Y1 (fun j _ _ hj=>absurd hj (by omega)),a3⟩
   case round=>
    obtain ⟨k,rfl,hk,C,a4⟩:=hrel;have l:=a4.out;have b:Below w.heap.size w wr:=f.out.trans (l.mono f.out.size);have hm:=HM.out;clear W c3 c4 X H I;obtain ⟨_,⟨W,_,_,c3,c4⟩,_⟩:=HB.out.next l;obtain ⟨_,⟨X,_,_,H,I⟩,_⟩:=HC.out.next l;by_cases d:k < t.parts.length
    {have b7: (k:Int) < (t.parts.length:Int):=by omega
     have b8: (k:Int) < (u.parts.length:Int):=by have:=a8.out; omega
     have c:k < u.parts.length:=by omega
     rcases HP.out with h0 | ⟨g,off,qs,O,hg,L,S⟩
     {omega}
     {rcases HR.out with h0 | ⟨g',T,U,Q,M,m,s⟩
      {omega}
      {obtain ⟨x,v⟩: ∃x,x=t.parts[k]:=⟨_,rfl⟩;obtain ⟨y,z⟩: ∃y,y=u.parts[k]:=⟨_,rfl⟩;obtain ⟨p0,p1,p2,p3,p4⟩:=(L k d).keep hg b;obtain ⟨s0,s1,s2,s3,s4⟩:=(m k c).keep M b;have J:ShAt wr wr.heap.size (qs k) x:=by rw[v]; exact (S k d).next b
       have o:ShAt wr wr.heap.size (U k) y:=by rw[z]; exact (s k c).next b
       have B:=ih t.parts[k] (List.getElem_mem _) y (qs k) (U k) wr.drew;rw[<-v] at p0 p1 p2 p3 p4 B;rw[<-z] at s0 s1 s2 s3 s4;have V:=B (J.next Y2.drew) (o.next Y2.drew);rw[O] at c4;rw[Q] at I;have F:=Y1 v;have G:=Y1 z;clear v z L m S s J o B ih O Q
       go_wp2_with fail
       cases a:eqB x y
       {have E:Hid (eqB t u=false):=Y1 (ZiZ d c (by rw[<-F.out, <-G.out]; exact a));rw[a] at V;clear a
        go_still_tail 10,(by kernel_rfl)
        change wpList _ _ _ _ _ wr.drew
        go_wp2_with fail
        refine V.mono ?_;rintro e w2 ⟨rfl,A⟩;go_wp2;go_ret;exact ⟨by rw[E.out]; rfl,Z00 b.drew A⟩}
       {have HE:Hid (eqB (t.parts[k]'d) (u.parts[k]'c)=true):=Y1 (by rw[<-F.out, <-G.out]; exact a);rw[a] at V;clear a
        go_still_tail 10,(by kernel_rfl)
        change wpList _ _ _ _ _ wr.drew
        go_wp2_with fail
        refine V.mono ?_;rintro e w2 ⟨rfl,A⟩;go_wp2
        go_roundw
        case rel=>exact ⟨k+1,by go_num,by omega,Y1 (fun j hj hj' hji=>by
         rcases Nat.lt_succ_iff_lt_or_eq.1 hji with h | rfl
         {exact C.out j hj hj' h}
         · exact HE.out),Y1 (Z00 l.drew A)⟩
        case measure=>simp[intOf]; omega}}}}
    {have E:Hid (eqB t u=true):=Y1 (Zju HH.out a9.out (fun j hj hj'=>C.out j hj hj' (by omega)));go_wp2;go_ret;exact ⟨by rw[E.out]; rfl,b⟩}}
end
section
open Go.RowKit Tms
open Shp (Sh)
theorem Zgz (A B:Option Addr) (c K:Nat) (l m:List (List UInt8)) (w:World) (F:Strs w w.heap.size A (strs l)) (o:Strs w w.heap.size B (strs m)) (U:l.length<=9223372036854775807) (V:m.length<=9223372036854775807):
 Y9 14 #[.slice A l.length c,.slice B m.length K] w (.bool (l==m)):=by
 have I:=Y1 F;have t:=Y1 o;clear F o;by_cases a:l.length=m.length
 {have s: ((l.length:Int) !=(m.length:Int))=false:=by rw[a]; simp
  have u: ((l.length:Int)==(m.length:Int))=true:=by rw[a]; simp
  have n:=Y1 a;clear a;go_enter Tryz.func14,Tryz.ntmps14
  go_wp2_with fail
  clear s u
  go_loopw [5] (fun ii wr=> ∃i:Nat,ii= .int .i64 i/\i<=l.length/\Hid (∀j (h:j < l.length) (h':j < m.length),j < i->l[j]'h=m[j]'h')/\Below w.heap.size w wr) (fun i _=>l.length - (intOf i).toNat)
  case atStart=>exact ⟨0,rfl,Nat.zero_le _,Y1 (fun j _ _ hj=>absurd hj (by omega)),Below.refl _ _⟩
  case round=>
   obtain ⟨i,rfl,T,C,q⟩:=hrel;by_cases f:i < l.length
   {have N: (i:Int) < (l.length:Int):=by omega
    have O: (i:Int) < (m.length:Int):=by have:=n.out; omega
    have d:i < m.length:=by omega
    rcases (I.out.next q).cell7 with L | ⟨g,off,rfl,S,G⟩
    {omega}
    {rcases (t.out.next q).cell7 with L | ⟨Q,H,rfl,M,r⟩
     {omega}
     {have p:=G i f;have P:=r i d;obtain ⟨x,v⟩: ∃x,x=l[i]'f:=⟨_,rfl⟩;obtain ⟨y,z⟩: ∃y,y=m[i]'d:=⟨_,rfl⟩;rw[<-v] at p;rw[<-z] at P;have D:=Y1 v;have E:=Y1 z;clear v z G r;cases b: (x==y)
      {have k:Hid ((l==m)=false):=Y1 (by
        cases e: (l==m) with
        | false=>rfl
        | true=>
         have:=eq_of_beq e;subst this;exact absurd (D.out.trans E.out.symm) (by intro h; rw[h] at b; simp at b))
       have s: (x !=y)=true:=by unfold bne; rw[b]; rfl
       go_wp2_with fail
       go_quiet (fail)
       go_wp2;go_ret;exact ⟨by rw[k.out]; rfl,Z0b q _⟩}
      {have s: (x !=y)=false:=by unfold bne; rw[b]; rfl
       have J:Hid (l[i]'f=m[i]'d):=Y1 (by rw[<-D.out, <-E.out]; simpa using b)
       go_wp2_with fail
       go_quiet (fail)
       go_wp2
       go_roundw
       case rel=>exact ⟨i+1,by go_num,by omega,Y1 (fun j hj hj' hji=>by
        rcases Nat.lt_succ_iff_lt_or_eq.1 hji with h | rfl
        {exact C.out j hj hj' h}
        · exact J.out),Z0b q _⟩
       case measure=>simp[intOf]; omega}}}}
   {have k:Hid ((l==m)=true):=Y1 (beq_iff_eq.2 (List.ext_getElem n.out (fun j h h'=>C.out j h h' (by omega))));go_wp2;go_ret;exact ⟨by rw[k.out]; rfl,q⟩}}
 {have u: ((l.length:Int)==(m.length:Int))=false:=by
   cases e: ((l.length:Int)==(m.length:Int)) with
   | false=>rfl
   | true=>exact absurd (by have:=eq_of_beq e; omega) a
  have s: ((l.length:Int) !=(m.length:Int))=true:=by unfold bne; rw[u]; rfl
  have k:Hid ((l==m)=false):=Y1 (by
   cases e: (l==m) with
   | false=>rfl
   | true=>exact absurd (by rw[eq_of_beq e]) a)
  clear a;go_enter Tryz.func14,Tryz.ntmps14;go_wp2;go_ret;exact ⟨by rw[k.out]; rfl,Below.refl _ _⟩}
def hd1 (pl:Bool) (t u:Tm):Bool:=t.kind==u.kind&&t.of_==u.of_&&t.name==u.name&&t.n==u.n&&(!pl||t.at_==u.at_)
def hd2 (t u:Tm):Bool:=t.names==u.names&&t.vars==u.vars&&decide (t.shapes.length=u.shapes.length)&&decide (t.parts.length=u.parts.length)
theorem ZgY (pl:Bool) (t u:Tm):eqB pl t u=(hd1 pl t u&&t.names==u.names&&t.vars==u.vars&&Shp.eqs t.shapes u.shapes&&eqs pl t.parts u.parts):=eqB_eq pl t u
theorem Zif {pl:Bool} {t u:Tm} (h:hd1 pl t u=false):eqB pl t u=false:=by rw[ZgY,h]; rfl
theorem ZhP {pl:Bool}: ∀ {l m:List Tm},eqs pl l m=true->l.length=m.length
 | [],[],_=>rfl
 | _::l,_::m,h=>by
  simp only[eqs,Bool.and_eq_true] at h;simp[ZhP h.2]
 | [],_::_,h=>by simp[eqs] at h
 | _::_,[],h=>by simp[eqs] at h
theorem ZhQ {pl:Bool}: ∀ {l m:List Tm},eqs pl l m=true-> ∀i (h:i < l.length) (h':i < m.length),eqB pl (l[i]'h) (m[i]'h')=true
 | [],[],_,i,h,_=>absurd h (by simp)
 | a::l,b::m,e,i,h,h'=>by
  simp only[eqs,Bool.and_eq_true] at e;cases i with
  | zero=>exact e.1
  | succ i=>exact ZhQ e.2 i (by simpa using h) (by simpa using h')
 | [],_::_,h,_,_,_=>by simp[eqs] at h
 | _::_,[],h,_,_,_=>by simp[eqs] at h
theorem ZhR {pl:Bool}: ∀ {l m:List Tm},l.length=m.length->(∀j (hj:j < l.length) (hj':j < m.length),eqB pl (l[j]'hj) (m[j]'hj')=true)->eqs pl l m=true
 | [],[],_,_=>rfl
 | a::l,b::m,e,h=>by
  simp only[eqs,Bool.and_eq_true];exact ⟨h 0 (by simp) (by simp),ZhR (by simpa using e) (fun j hj hj'=>h (j+1) (by simpa using hj) (by simpa using hj'))⟩
 | [],_::_,h,_=>by simp at h
 | _::_,[],h,_=>by simp at h
section
variable {pl : Bool} {t u : Tm}
include pl t u
theorem Zig (h:hd2 t u=false):eqB pl t u=false:=by
 cases e:eqB pl t u with
 | false=>rfl
 | true=>
  rw[ZgY] at e;simp only[Bool.and_eq_true] at e;obtain ⟨⟨⟨⟨_,b⟩,c⟩,d⟩,f⟩:=e;rw[<-h];have a:=(Shp.Zan _ _).1 d;simp[hd2,b,c,a,ZhP f]
theorem ZiB {i:Nat} (a:i < t.shapes.length) (b:i < u.shapes.length) (h:Shp.eqB (t.shapes[i]'a) (u.shapes[i]'b)=false):eqB pl t u=false:=by
 rw[ZgY,Zje a b h]; simp
theorem ZiC {i:Nat} (a:i < t.parts.length) (b:i < u.parts.length) (h:eqB pl (t.parts[i]'a) (u.parts[i]'b)=false):eqB pl t u=false:=by
 cases e:eqs pl t.parts u.parts with
 | false=>rw[ZgY,e]; simp
 | true=>rw[ZhQ e i a b] at h; cases h
theorem Zjg (b:hd1 pl t u=true) (a:hd2 t u=true) (h: ∀j (hj:j < t.shapes.length) (hj':j < u.shapes.length),Shp.eqB (t.shapes[j]'hj) (u.shapes[j]'hj')=true)
 (g: ∀j (hj:j < t.parts.length) (hj':j < u.parts.length),eqB pl (t.parts[j]'hj) (u.parts[j]'hj')=true):eqB pl t u=true:=by
 simp only[hd2,Bool.and_eq_true,decide_eq_true_eq] at a;obtain ⟨⟨⟨c,d⟩,e⟩,f⟩:=a;rw[ZgY,b,c,d,Zie e (fun j hj=>h j hj (by omega)),ZhR f (fun j hj hj'=>g j hj hj')];rfl
end
section
variable (t u : Tm) (q r : TP) (w : World) (hq : TmAt w w.heap.size q t) (hr : TmAt w w.heap.size r u)
include t u q r w hq hr
theorem Zh3 (g:hd1 true t u=false):
 Y9 7 #[.agg (Y7 t q),.agg (Y7 u r),.bool true] w (.bool (eqB true t u)):=by
 have b:=Y1 (Zif g);have hb0:=Z01 w (.cells (Y7 t q) 26);have c:=Z03 hb0 (.cells (Y7 u r) 26);have a:=Y1 c;have i:=(Z1c w t q).next (Z01 _ (.cells (Y7 u r) 26));have f:=Z1c (w.alloc (.cells (Y7 t q) 26)) u r;rw[World.size_alloc] at f;have o:=Y1 i;have p:=Y1 f;have h:=Y1 g;clear g hb0 c hq hr;obtain ⟨_,⟨s,c1,c2,c3,c4,c5,c6,c7,v⟩,_⟩:=i;obtain ⟨_,⟨y,z,A,B,C,D,E,F,G⟩,_⟩:=f;unfold hd1 at h;cases d: (t.kind==u.kind)
 {have j: (t.kind !=u.kind)=true:=by unfold bne; rw[d]; rfl
  go_enter Tryz.func7,Tryz.ntmps7;go_wp2;go_ret;exact ⟨by rw[b.out]; rfl,a.out⟩}
 {have j: (t.kind !=u.kind)=false:=by unfold bne; rw[d]; rfl
  cases e2: (t.of_==u.of_)
  {have k: (t.of_ !=u.of_)=true:=by unfold bne; rw[e2]; rfl
   go_enter Tryz.func7,Tryz.ntmps7;go_wp2;go_ret;exact ⟨by rw[b.out]; rfl,a.out⟩}
  {have k: (t.of_ !=u.of_)=false:=by unfold bne; rw[e2]; rfl
   cases e3: (t.name==u.name)
   {have l: (t.name !=u.name)=true:=by unfold bne; rw[e3]; rfl
    go_enter Tryz.func7,Tryz.ntmps7;go_wp2;go_ret;exact ⟨by rw[b.out]; rfl,a.out⟩}
   {have l: (t.name !=u.name)=false:=by unfold bne; rw[e3]; rfl
    cases e4: (t.n==u.n)
    {have m: (t.n !=u.n)=true:=by unfold bne; rw[e4]; rfl
     go_enter Tryz.func7,Tryz.ntmps7;go_wp2;go_ret;exact ⟨by rw[b.out]; rfl,a.out⟩}
    {have m: (t.n !=u.n)=false:=by unfold bne; rw[e4]; rfl
     cases e: (t.at_==u.at_)
     {have n: (t.at_ !=u.at_)=true:=by unfold bne; rw[e]; rfl
      go_enter Tryz.func7,Tryz.ntmps7;go_wp2;go_ret;exact ⟨by rw[b.out]; rfl,a.out⟩}
     {have n: (t.at_ !=u.at_)=false:=by unfold bne; rw[e]; rfl
      exact absurd h.out (by simp[d,e2,e3,e4,e])}}}}}
theorem Zh4 (U:hd1 true t u=true) (n:hd2 t u=false):
 Y9 7 #[.agg (Y7 t q),.agg (Y7 u r),.bool true] w (.bool (eqB true t u)):=by
 have F:=Y1 (Zig (pl:=true) n);have Z:=Y1 n;clear n;have hb0:=Z01 w (.cells (Y7 t q) 26);have a:=Z03 hb0 (.cells (Y7 u r) 26);have l:=Y1 a;have W:=(Z1c w t q).next (Z01 _ (.cells (Y7 u r) 26));have T:=Z1c (w.alloc (.cells (Y7 t q) 26)) u r;rw[World.size_alloc] at T;have I:=Y1 W;have K:=Y1 T;have G:=Y1 hq;have H:=Y1 hr;clear hb0 a hq hr;obtain ⟨_,⟨o,c1,c2,c3,c4,c5,c6,c7,p⟩,_⟩:=W;obtain ⟨_,⟨s,v,y,z,A,B,C,D,E⟩,_⟩:=T;have X:=U;simp only[hd1,Bool.and_eq_true,beq_iff_eq,Bool.or_eq_true,Bool.not_eq_true',Bool.not_true,Bool.not_false,Bool.false_or,Bool.true_or,Bool.true_eq_false,Bool.and_true,false_or,true_or,and_true] at X;obtain ⟨⟨⟨⟨N,O⟩,P⟩,Q⟩,S⟩:=X;have n1: (t.kind !=u.kind)=false:=by rw[N]; simp
 have e1: (t.kind==u.kind)=true:=by rw[N]; simp
 have n2: (t.of_ !=u.of_)=false:=by rw[O]; simp
 have e2: (t.of_==u.of_)=true:=by rw[O]; simp
 have n3: (t.name !=u.name)=false:=by rw[P]; simp
 have e3: (t.name==u.name)=true:=by rw[P]; simp
 have n4: (t.n !=u.n)=false:=by rw[Q]; simp
 have e4: (t.n==u.n)=true:=by rw[Q]; simp
 have n5: (t.at_ !=u.at_)=false:=by rw[S]; simp
 have e5: (t.at_==u.at_)=true:=by rw[S]; simp
 clear N O P Q S;go_enter Tryz.func7,Tryz.ntmps7
 go_wp2_with fail
 generalize hW0: (w.alloc (.cells (Y7 t q) 26)).alloc (.cells (Y7 u r) 26)=W0 at I K l ⊢;clear hW0 o c1 c2 c3 c4 c5 c6 c7 p s v y z A B C D E n1 e1 n2 e2 n3 e3 n4 e4 n5 e5;have b:Hid (Below w.heap.size w W0):=Y1 l.out;have k:=I;have m:=K;clear I K;obtain ⟨_,⟨o,c1,c2,c3,c4,c5,c6,c7,p⟩,_⟩:=k.out;obtain ⟨_,⟨s,v,y,z,A,B,C,D,E⟩,_⟩:=m.out;have h:=Zgz q.A r.A q.c r.c t.names u.names W0 (G.out.strs.next b.out) (H.out.strs.next b.out) G.out.small.l H.out.small.l
 go_wp2_with fail
 cases e6: (t.names==u.names)
 {rw[e6] at h;refine h.mono ?_;rintro e Y ⟨rfl,a⟩;go_wp2;go_ret;exact ⟨by rw[F.out]; rfl,Z00 b.out a⟩}
 {rw[e6] at h;refine h.mono ?_;rintro e Y ⟨rfl,a⟩;have c:=Y1 (Z00 b.out a);have f:=Y1 (k.out.next a);have g:=Y1 (m.out.next a);clear h a k m l;clear o c1 c2 c3 c4 c5 c6 c7 p s v y z A B C D E;obtain ⟨_,⟨o,c1,c2,c3,c4,c5,c6,c7,p⟩,_⟩:=f.out;obtain ⟨_,⟨s,v,y,z,A,B,C,D,E⟩,_⟩:=g.out;have i:=Zgz q.V r.V q.e r.e t.vars u.vars Y (G.out.vars.next c.out) (H.out.vars.next c.out) G.out.small.v H.out.small.v
  go_wp2_with fail
  cases e7: (t.vars==u.vars)
  {rw[e7] at i;refine i.mono ?_;rintro e w2 ⟨rfl,d⟩;go_wp2;go_ret;exact ⟨by rw[F.out]; rfl,Z00 c.out d⟩}
  {rw[e7] at i;refine i.mono ?_;rintro e w2 ⟨rfl,d⟩;have j:=Y1 (Z00 c.out d);have J:=Y1 (f.out.next d);have L:=Y1 (g.out.next d);clear i d f g;clear o c1 c2 c3 c4 c5 c6 c7 p s v y z A B C D E;obtain ⟨_,⟨o,c1,c2,c3,c4,c5,c6,c7,p⟩,_⟩:=J.out;obtain ⟨_,⟨s,v,y,z,A,B,C,D,E⟩,_⟩:=L.out;cases M: ((t.shapes.length:Int)==(u.shapes.length:Int))
   {have n8: ((t.shapes.length:Int) !=(u.shapes.length:Int))=true:=by unfold bne; rw[M]; rfl
    go_wp2;go_ret;exact ⟨by rw[F.out]; rfl,j.out⟩}
   {have n8: ((t.shapes.length:Int) !=(u.shapes.length:Int))=false:=by unfold bne; rw[M]; rfl
    cases V: ((t.parts.length:Int)==(u.parts.length:Int))
    {have n9: ((t.parts.length:Int) !=(u.parts.length:Int))=true:=by unfold bne; rw[V]; rfl
     go_wp2;go_ret;exact ⟨by rw[F.out]; rfl,j.out⟩}
    {refine absurd Z.out ?_;have g8:=eq_of_beq M;have g9:=eq_of_beq V;simp only[hd2,e6,e7,Bool.true_and,Bool.and_eq_false_iff,decide_eq_false_iff_not];omega}}}}
end
theorem Zha (t:Tm): ∀(u:Tm) (q r:TP) (w:World),TmAt w w.heap.size q t->TmAt w w.heap.size r u->
 Y9 7 #[.agg (Y7 t q),.agg (Y7 u r),.bool true] w (.bool (eqB true t u)):=by
 induction t using Tm.ind with
 | h t ih=>
 intro u q r w hq hr;cases E:hd1 true t u with
 | false=>exact Zh3 t u q r w hq hr E
 | true=>
 cases Q:hd2 t u with
 | false=>exact Zh4 t u q r w hq hr E Q
 | true=>
 have f3:=Y1 E;have f4:=Y1 Q;have v:=Q;simp only[hd2,Bool.and_eq_true,decide_eq_true_eq] at v;obtain ⟨⟨⟨g6,g7⟩,g8⟩,g9⟩:=v;have f1:=Y1 g6;have f2:=Y1 g7;have a0:=Y1 g8;have a1:=Y1 g9;have f6:=Y1 ih;clear g6 g7 g8 g9 Q ih;have hb0:=Z01 w (.cells (Y7 t q) 26);have n:=Z03 hb0 (.cells (Y7 u r) 26);have W:=Y1 n;have hB:=(Z1c w t q).next (Z01 _ (.cells (Y7 u r) 26));have hC:=Z1c (w.alloc (.cells (Y7 t q) 26)) u r;rw[World.size_alloc] at hC;have HB:=Y1 hB;have HC:=Y1 hC;have U:=Y1 hq;have HR:=Y1 hr;clear hb0 n hq hr;obtain ⟨_,⟨K,c1,c2,c3,c4,c5,c6,c7,c8⟩,_⟩:=hB;obtain ⟨_,⟨L,d1,d2,d3,d4,d5,M,P,d8⟩,_⟩:=hC;have hs:=E;simp only[hd1,Bool.and_eq_true,beq_iff_eq,Bool.or_eq_true,Bool.not_eq_true',Bool.not_true,Bool.not_false,Bool.false_or,Bool.true_or,Bool.true_eq_false,Bool.and_true,false_or,true_or,and_true] at hs;obtain ⟨⟨⟨⟨g1,g2⟩,g3⟩,g4⟩,g5⟩:=hs;have n1: (t.kind !=u.kind)=false:=by rw[g1]; simp
 have e1: (t.kind==u.kind)=true:=by rw[g1]; simp
 have n2: (t.of_ !=u.of_)=false:=by rw[g2]; simp
 have e2: (t.of_==u.of_)=true:=by rw[g2]; simp
 have n3: (t.name !=u.name)=false:=by rw[g3]; simp
 have e3: (t.name==u.name)=true:=by rw[g3]; simp
 have n4: (t.n !=u.n)=false:=by rw[g4]; simp
 have e4: (t.n==u.n)=true:=by rw[g4]; simp
 have n5: (t.at_ !=u.at_)=false:=by rw[g5]; simp
 have e5: (t.at_==u.at_)=true:=by rw[g5]; simp
 clear g1 g2 g3 g4 g5;go_enter Tryz.func7,Tryz.ntmps7
 go_wp2_with fail
 generalize hW0: (w.alloc (.cells (Y7 t q) 26)).alloc (.cells (Y7 u r) 26)=W0 at HB HC W ⊢;clear hW0 K c1 c2 c3 c4 c5 c6 c7 c8 L d1 d2 d3 d4 d5 M P d8 n1 e1 n2 e2 n3 e3 n4 e4 n5 e5;have o:Hid (Below w.heap.size w W0):=Y1 W.out;have V:=HB;have Y:=HC;clear HB HC;obtain ⟨_,⟨K,c1,c2,c3,c4,c5,c6,c7,c8⟩,_⟩:=V.out;obtain ⟨_,⟨L,d1,d2,d3,d4,d5,M,P,d8⟩,_⟩:=Y.out;have b0:=Zgz q.A r.A q.c r.c t.names u.names W0 (U.out.strs.next o.out) (HR.out.strs.next o.out) U.out.small.l HR.out.small.l
 go_wp2_with fail
 rw[f1.out] at b0;refine b0.mono ?_;rintro e w1 ⟨rfl,n⟩;have p:=Y1 (Z00 o.out n);have z:=Y1 (V.out.next n);have A:=Y1 (Y.out.next n);clear b0 n V Y W o E;clear K c1 c2 c3 c4 c5 c6 c7 c8 L d1 d2 d3 d4 d5 M P d8;obtain ⟨_,⟨K,c1,c2,c3,c4,c5,c6,c7,c8⟩,_⟩:=z.out;obtain ⟨_,⟨L,d1,d2,d3,d4,d5,M,P,d8⟩,_⟩:=A.out;have v:=Zgz q.V r.V q.e r.e t.vars u.vars w1 (U.out.vars.next p.out) (HR.out.vars.next p.out) U.out.small.v HR.out.small.v
 go_wp2_with fail
 rw[f2.out] at v;refine v.mono ?_;rintro e w2 ⟨rfl,c⟩;have s:=Y1 (Z00 p.out c);have X:=Y1 (z.out.next c);have Z:=Y1 (A.out.next c);clear v c z A p;clear K c1 c2 c3 c4 c5 c6 c7 c8 L d1 d2 d3 d4 d5 M P d8;obtain ⟨_,⟨K,c1,c2,c3,c4,c5,c6,c7,c8⟩,_⟩:=X.out;obtain ⟨_,⟨L,d1,d2,d3,d4,d5,M,P,d8⟩,_⟩:=Z.out;have e8: ((t.shapes.length:Int)==(u.shapes.length:Int))=true:=by rw[a0.out]; simp
 have n8: ((t.shapes.length:Int) !=(u.shapes.length:Int))=false:=by rw[a0.out]; simp
 have e9: ((t.parts.length:Int)==(u.parts.length:Int))=true:=by rw[a1.out]; simp
 have n9: ((t.parts.length:Int) !=(u.parts.length:Int))=false:=by rw[a1.out]; simp
 go_wp2_with fail
 clear e8 n8 e9 n9;clear K c1 c2 c3 c4 c5 c6 c7 c8 L d1 d2 d3 d4 d5 M P d8
 go_loopw [7] (fun ii wr=> ∃i:Nat,ii= .int .i64 i/\i<=t.shapes.length/\Hid (∀j (h:j < t.shapes.length) (h':j < u.shapes.length),j < i->Shp.eqB (t.shapes[j]'h) (u.shapes[j]'h')=true)/\Hid (Below w2.heap.size w2 wr)) (fun i _=>t.shapes.length - (intOf i).toNat)
 case atStart=>exact ⟨0,rfl,Nat.zero_le _,Y1 (fun j _ _ hj=>absurd hj (by omega)),Y1 Y2⟩
 case round=>
  obtain ⟨i,rfl,hi,HN,N⟩:=hrel;have C:=N.out;have a:Below w.heap.size w wr:=s.out.trans (C.mono s.out.size);have hl:=U.out.small.sh;obtain ⟨_,⟨K,_,_,_,_,_,c6,_,_⟩,_⟩:=X.out.next C;obtain ⟨_,⟨L,_,_,_,_,_,M,_,_⟩,_⟩:=Z.out.next C;by_cases F:i < t.shapes.length
  {have h5: (i:Int) < (t.shapes.length:Int):=by omega
   have h6: (i:Int) < (u.shapes.length:Int):=by have:=a0.out; omega
   have d:i < u.shapes.length:=by omega
   rcases U.out.shapes with h0 | ⟨g,off,qs,G,hg,hc,I⟩
   {omega}
   {rcases HR.out.shapes with h0 | ⟨g',b8,J,H,a9,D,m⟩
    {omega}
    {obtain ⟨x,S⟩: ∃x,x=t.shapes[i]'F:=⟨_,rfl⟩;obtain ⟨y,T⟩: ∃y,y=u.shapes[i]'d:=⟨_,rfl⟩;obtain ⟨p0,p1,p2,p3,p4⟩:=(hc i F).keep hg a;obtain ⟨s0,s1,s2,s3,s4⟩:=(D i d).keep a9 a;have B:ShAt wr wr.heap.size (qs i) x:=by rw[S]; exact (I i F).next a
     have f:ShAt wr wr.heap.size (J i) y:=by rw[T]; exact (m i d).next a
     rw[<-S] at p0 p1 p2 p3 p4;rw[<-T] at s0 s1 s2 s3 s4;have O:=Zi6 x y (qs i) (J i) wr.drew (B.next Y2.drew) (f.next Y2.drew);rw[G] at c6;rw[H] at M;have HX:=Y1 S;have HY:=Y1 T;clear S T hc D I m B f G H
     go_wp2_with fail
     cases b:Shp.eqB x y
     {have HF:Hid (eqB true t u=false):=Y1 (ZiB F d (by rw[<-HX.out, <-HY.out]; exact b));rw[b] at O;clear b
      go_still_tail 10,(by kernel_rfl)
      change wpList _ _ _ _ _ wr.drew
      go_wp2_with fail
      refine O.mono ?_;rintro e w3 ⟨rfl,c⟩;go_wp2;go_ret;exact ⟨by rw[HF.out]; rfl,Z00 a.drew c⟩}
     {have HE:Hid (Shp.eqB (t.shapes[i]'F) (u.shapes[i]'d)=true):=Y1 (by rw[<-HX.out, <-HY.out]; exact b);rw[b] at O;clear b
      go_still_tail 10,(by kernel_rfl)
      change wpList _ _ _ _ _ wr.drew
      go_wp2_with fail
      refine O.mono ?_;rintro e w3 ⟨rfl,c⟩;go_wp2
      go_roundw
      case rel=>exact ⟨i+1,by go_num,by omega,Y1 (fun j hj hj' hji=>by
       rcases Nat.lt_succ_iff_lt_or_eq.1 hji with h | rfl
       {exact HN.out j hj hj' h}
       · exact HE.out),Y1 (Z00 C.drew c)⟩
      case measure=>simp[intOf]; omega}}}}
  {have f5:Hid (∀j (h:j < t.shapes.length) (h':j < u.shapes.length),Shp.eqB (t.shapes[j]'h) (u.shapes[j]'h')=true):=Y1 (fun j h h'=>HN.out j h h' (by omega));have e6:=Y1 C;clear a C HN N
   go_wp2_with fail
   go_loopw [8] (fun ii wx=> ∃k:Nat,ii= .int .i64 k/\k<=t.parts.length/\Hid (∀j (h:j < t.parts.length) (h':j < u.parts.length),j < k->eqB true (t.parts[j]'h) (u.parts[j]'h')=true)/\Hid (Below w2.heap.size w2 wx)) (fun i _=>t.parts.length - (intOf i).toNat)
   case atStart=>exact ⟨0,rfl,Nat.zero_le _,Y1 (fun j _ _ hj=>absurd hj (by omega)),e6⟩
   case round=>
    obtain ⟨k,rfl,hk,HN,N⟩:=hrel;have C:=N.out;have a:Below w.heap.size w wr:=s.out.trans (C.mono s.out.size);have hm:=U.out.small.m;clear K c6 L M;obtain ⟨_,⟨K,_,_,_,_,_,_,c7,_⟩,_⟩:=X.out.next C;obtain ⟨_,⟨L,_,_,_,_,_,_,P,_⟩,_⟩:=Z.out.next C;by_cases l:k < t.parts.length
    {have h5: (k:Int) < (t.parts.length:Int):=by omega
     have h6: (k:Int) < (u.parts.length:Int):=by have:=a1.out; omega
     have d:k < u.parts.length:=by omega
     rcases U.out.part with h0 | ⟨g,off,qs,G,hg,hc,I⟩
     {omega}
     {rcases HR.out.part with h0 | ⟨g',b8,J,H,a9,D,m⟩
      {omega}
      {obtain ⟨x,S⟩: ∃x,x=t.parts[k]'l:=⟨_,rfl⟩;obtain ⟨y,T⟩: ∃y,y=u.parts[k]'d:=⟨_,rfl⟩;obtain ⟨p0,p1,p2,p3,p4,p5,p6,p7,p8⟩:=(hc k l).keep hg a;obtain ⟨s0,s1,s2,s3,s4,s5,s6,s7,s8⟩:=(D k d).keep a9 a;have B:TmAt wr wr.heap.size (qs k) x:=by rw[S]; exact (I k l).next a
       have f:TmAt wr wr.heap.size (J k) y:=by rw[T]; exact (m k d).next a
       have b1:=f6.out t.parts[k] (List.getElem_mem _) y (qs k) (J k) wr.drew;rw[<-S] at p0 p1 p2 p3 p4 p5 p6 p7 p8 b1;rw[<-T] at s0 s1 s2 s3 s4 s5 s6 s7 s8;have O:=b1 (B.next Y2.drew) (f.next Y2.drew);rw[G] at c7;rw[H] at P;have HX:=Y1 S;have HY:=Y1 T;clear S T hc D I m B f b1 G H
       go_wp2_with fail
       cases b:eqB true x y
       {have HF:Hid (eqB true t u=false):=Y1 (ZiC l d (by rw[<-HX.out, <-HY.out]; exact b));rw[b] at O;clear b
        go_still_tail 11,(by kernel_rfl)
        change wpList _ _ _ _ _ wr.drew
        go_wp2_with fail
        refine O.mono ?_;rintro e w3 ⟨rfl,c⟩;go_wp2;go_ret;exact ⟨by rw[HF.out]; rfl,Z00 a.drew c⟩}
       {have HE:Hid (eqB true (t.parts[k]'l) (u.parts[k]'d)=true):=Y1 (by rw[<-HX.out, <-HY.out]; exact b);rw[b] at O;clear b
        go_still_tail 11,(by kernel_rfl)
        change wpList _ _ _ _ _ wr.drew
        go_wp2_with fail
        refine O.mono ?_;rintro e w3 ⟨rfl,c⟩;go_wp2
        go_roundw
        case rel=>exact ⟨k+1,by go_num,by omega,Y1 (fun j hj hj' hji=>by
         rcases Nat.lt_succ_iff_lt_or_eq.1 hji with h | rfl
         {exact HN.out j hj hj' h}
         · exact HE.out),Y1 (Z00 C.drew c)⟩
        case measure=>simp[intOf]; omega}}}}
    {have HF:Hid (eqB true t u=true):=Y1 (Zjg f3.out f4.out f5.out (fun j hj hj'=>HN.out j hj hj' (by omega)));go_wp2;go_ret;exact ⟨by rw[HF.out]; rfl,a⟩}}
end
end Go.Proofs.YtkncdbaoaeeoiaaGreatDoor
