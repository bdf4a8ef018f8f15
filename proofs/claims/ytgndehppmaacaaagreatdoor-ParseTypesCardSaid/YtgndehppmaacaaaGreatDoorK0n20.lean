/- What the proofs of ParseTypes want, part 20. -/
import Derived.Test.YtgndehppmaacaaaGreatDoorK0n19
set_option linter.unusedVariables false
set_option linter.unusedSimpArgs false
set_option linter.unusedSectionVars false
set_option maxRecDepth 100000
set_option maxHeartbeats 16000000
namespace Prs
open Go.Proofs.YtgndehppmaacaaaGreatDoor (Tk)
open Shp (Sh)
section
variable (m : Nat) (l : List Tk) (i : Nat) (ps : List Sh)
include m l i ps
theorem Zio:from_ (m+1) l i ps=andThen (shp m l i) fun s=>if sign l s.2 [41] then arrow m l (s.2+1) (ps++ [s.1]) else andThen (need l s.2 [44]) fun j=>from_ m l j (ps++ [s.1]):=by
 conv=>lhs; unfold from_
theorem ZhF:arrow (m+1) l i ps=andThen (need l i [45,62]) fun j=>andThen (shp m l j) fun s=> .ok (⟨8,[],[],[],ps++ [s.1]⟩,s.2):=by
 conv=>lhs; unfold arrow
end
end Prs
namespace Go.Proofs.YtgndehppmaacaaaGreatDoor
open Go.RowKit Prs
open Shp (Sh)
section
variable {w W W' : World} {k : Int} {AN AP : Option Addr} {cn cp tb ob fb : Nat} {ns : List (List UInt8)} {L : List ES}
structure FE (w:World) (k:Int) (AN:Option Addr) (n cn:Nat) (AP:Option Addr) (m cp:Nat) (W:World):Prop where
 up:Below w.heap.size w W
 zz:ZcD W w.heap.size
 xx:Box2 W (w.heap.size+1) 0 0
 lt:w.heap.size+2 < W.heap.size
 c0:W.cell? ⟨w.heap.size+2,0,none⟩=some (.int .i64 k)
 c1:W.cell? ⟨w.heap.size+2,1,none⟩=some (.string ⟨#[]⟩)
 c2:W.cell? ⟨w.heap.size+2,2,none⟩=some (.string ⟨#[]⟩)
 c3:W.cell? ⟨w.heap.size+2,3,none⟩=some (.slice AN n cn)
 c4:W.cell? ⟨w.heap.size+2,4,none⟩=some (.slice AP m cp)
theorem FJ.partE (h:FJ w k AN cn ns AP cp L W) {n i:World} (f:Below W.heap.size W n) {g c:Nat} (q:n.grownBy i (rowT AP)):
 FE w k AN ns.length cn (some ⟨g,0,none⟩) (L.length+1) c (i.setCell ⟨w.heap.size+2,4,none⟩ (.slice (some ⟨g,0,none⟩) (L.length+1) c)):=by
 have r:=h.hB;have l:UpT ((rowT AP).toList) W i:=by have:=Zdb (ZcF (F:= []) f) q; simpa using this
 have d:UpT ((w.heap.size+2)::(rowT AP).toList) W (i.setCell ⟨w.heap.size+2,4,none⟩ (.slice (some ⟨g,0,none⟩) (L.length+1) c)):=(l.mono (fun x hx _=>by simp[hx])).set _ (Or.inr (by simp)) _;have o: ∀b,b∈(rowT AP).toList->rowT AP=some b:=fun b f=>by simpa using f
 have m: ∀b∈(w.heap.size+2)::(rowT AP).toList,w.heap.size+2<=b:=fun b f=>by
  rcases List.mem_cons.1 f with e | e
  {omega}
  {have:=(h.rP.lt _ (o b e)).1; omega}
 have p:=l.same (b:=w.heap.size+2) (by omega) (fun hx=>by have:=(h.rP.lt _ (o _ hx)).1; omega);have a: ∀j,j≠4->(i.setCell ⟨w.heap.size+2,4,none⟩ (.slice (some ⟨g,0,none⟩) (L.length+1) c)).cell? ⟨w.heap.size+2,j,none⟩=W.cell? ⟨w.heap.size+2,j,none⟩:=fun j hj=>(soc9 (Or.inr (Ne.symm hj))).trans (p.1 j);exact ⟨ZcL h.up d (fun b f=>by have:=m b f; omega) h.up.size,h.zz.upT d (fun hx=>by have:=m _ hx; omega),h.xx.upT d (fun hx=>by have:=m _ hx; omega),Nat.lt_of_lt_of_le (by omega:w.heap.size+2 < W.heap.size) d.size,
  (a 0 (by decide)).trans h.c0,(a 1 (by decide)).trans h.c1,(a 2 (by decide)).trans h.c2,(a 3 (by decide)).trans h.c3,ZeA ((p.1 4).trans h.c4)⟩
theorem Aw.next2 {a c:Option Addr} {L':List ES} (h:Aw tb AN AP L W) (e: ∀b,rowT a=some b->rowT AN=some b\/W.heap.size<=b) (f: ∀b,rowT c=some b->rowT AP=some b\/W.heap.size<=b) (d: ∀x∈L',x∈L\/x.hi<=tb) (g:W.heap.size<=W'.heap.size):Aw tb a c L' W':=
 ⟨(h.next (L':=L) e f (fun x d=>Or.inl d) g).lt,(h.next (L':=L) e f (fun x d=>Or.inl d) g).nr,fun x hx'=>(d x hx').elim (h.nx x) Or.inr⟩
section
variable {n m : Nat} (h : FE w k AN n cn AP m cp W)
include n m h
theorem FE.obs (b:ob=w.heap.size+2) (a:fb=w.heap.size+1): (ob < W.heap.size/\W.cell? ⟨ob,0,none⟩=some (.int .i64 k)/\W.cell? ⟨ob,1,none⟩=some (.string ⟨#[]⟩)/\W.cell? ⟨ob,2,none⟩=some (.string ⟨#[]⟩)/\
 W.cell? ⟨ob,3,none⟩=some (.slice AN n cn)/\W.cell? ⟨ob,4,none⟩=some (.slice AP m cp))/\Box2 W fb 0 0:=by
 subst b a;exact ⟨⟨h.lt,h.c0,h.c1,h.c2,h.c3,h.c4⟩,h.xx⟩
theorem Zm5 (d:fb=w.heap.size+1) (c:UpT [w.heap.size,fb] W W') {f:Flt} (a:f.1≠0) (j:Int):
 DTy w (.error f) (.returned (.tuple #[.agg #[.int .i64 k,.string ⟨#[]⟩,.string ⟨#[]⟩,.slice AN n cn,.slice AP m cp],.int .i64 j,.agg #[.int .i64 f.1,.int .i64 f.2]])) W':=by
 have:=Zdo (W:=w) (W':=W') (f:=f) ⟨⟨k,[],[],List.replicate n [],List.replicate m ⟨0,[],[],[],[]⟩⟩,⟨AN,cn,AP,cp⟩,0,0⟩ j a (ZcL h.up c (fun b hb=>by rcases (by simpa using hb:b=w.heap.size\/b=fb) with e | e <;> omega) h.up.size);simpa[valS,Y8] using this
end
end
theorem Zqa (A:Option Addr) (c:Nat) (l:List Tk) (n:Nat) (hl:l.length<=100000) (hS: ∀m,m < n->ShOk A c l m):FnOk A c l n:=by
 intro i0 w z6 hn h;obtain ⟨h7,o0⟩: ∃h7,h7=funO n l i0:=⟨_,rfl⟩;rw[<-o0];have v5:=Y1 o0;have j9:=Y1 h;have u4:=FJ.start w 8;unfold aW at u4;obtain ⟨fb,w9⟩: ∃fb,fb=w.heap.size+1:=⟨_,rfl⟩;obtain ⟨X,x3⟩: ∃X,X=w.heap.size+2:=⟨_,rfl⟩;have C:=Y1 w9;have B:=Y1 x3;have n8:w.heap.size≠fb:=by omega
 have n9:w.heap.size≠X:=by omega
 have m7:fb≠X:=by omega
 obtain ⟨i2,r8,x5,x6,u5⟩:=ZcW Zhe;have t4:=Y1 (And.intro r8 (And.intro x5 (And.intro x6 u5)));have t5:=Y1 u4;have r4:=Y1 (ZcM A c l i0 [41] (by omega) (by omega) _ (j9.out.on t5.out.up));clear h o0 r8 x5 x6 u5 w9 x3 u4;go_enter Tryz.func58,Tryz.ntmps58
 go_wp2_with fail
 refine r4.out.mono ?_;rintro e V1 ⟨rfl,t⟩;have x8:=Y1 (t5.out.new t);clear t t5 r4
 go_wp2_with fail
 rw[show w.heap.size+1+1=X from by have:=B.out; omega,show w.heap.size+1=fb from C.out.symm]
 go_loopw [1,8] (fun ai mi wr=> ∃(i m:Nat) (more:Bool) (AN:Option Addr) (cn:Nat) (AP:Option Addr) (cp:Nat) (L:List ES),ai= .int .i64 i/\mi= .bool more/\i<=l.length/\Hid (FJ w 8 AN cn [] AP cp L wr)/\Hid ((more=true->2 * (l.length - i)+3<=m)/\(more=false->sign l i [41]=true/\2 * (l.length - (i+1))+3<=m)/\m<=n)/\Hid (L.length<=i)/\Hid (h7=if more=true then Prs.from_ m l i (L.map ES.t) else Prs.arrow m l (i+1) (L.map ES.t))) (fun ai _ _=>l.length+1 - (intOf ai).toNat)
 case atStart=>
  refine ⟨i0,n, !(sign l i0 [41]),none,0,none,0,[],rfl,rfl,z6,x8,Y1 ⟨fun _=>hn,fun h=> ?_,Nat.le_refl _⟩,Y1 (Nat.zero_le _),Y1 ?_⟩
  {have h2:sign l i0 [41]=true:=by simpa using h
   exact ⟨h2,by have:=(sign_kinds h2).2.2; omega⟩}
  {rw[v5.out]; unfold funO;cases sign l i0 [41] <;> simp}
 case round=>
  obtain ⟨i,m,more,AN,cn,AP,cp,L,rfl,rfl,hi,HJ,HM,j6,Y⟩:=hrel;cases more with
  | false=>
   obtain ⟨m,rfl⟩: ∃m',m=m'+1:=⟨m - 1,by have:=HM.out.2.1 rfl; omega⟩;have A8:Hid (sign l i [41]=true/\i < l.length):=Y1 ⟨(HM.out.2.1 rfl).1,(sign_kinds (HM.out.2.1 rfl).1).2.2⟩;have v4:Hid (2 * (l.length - (i+1))+3<=m+1/\m+1<=n):=Y1 ⟨(HM.out.2.1 rfl).2,HM.out.2.2⟩;clear HM;have e9:Hid (h7=Prs.arrow (m+1) l (i+1) (L.map ES.t)):=Y;clear Y;have Y:=e9;clear e9;have HN:=Y1 (ZdK A c l (i+1) [45,62] (by omega) (by omega) wr (j9.out.on HJ.out.up))
   go_wp2_with fail
   cases f6:Prs.need l (i+1) [45,62] with
   | error f=>
    rw[f6] at HN;have d3:=Y1 (ZeX f6);have e1: (f.1 !=0)=true:=by simpa using d3.out
    have HR:Hid (Prs.arrow (m+1) l (i+1) (L.map ES.t)= .error f):=Y1 (by rw[ZhF,f6]; rfl);clear f6;refine HN.out.mono ?_;rintro e a ⟨rfl,t⟩;have z:=Y1 (HJ.out.new t);clear t HJ HN;have r5:=Y1 (ZcG a f.1 f.2);have g6:=Y1 (z.out.new (Z01 a (.cells #[.int .i64 f.1,.int .i64 f.2] 31)));have n1:w.heap.size≠a.heap.size:=by have:=z.out.hB; omega
    have n2:fb≠a.heap.size:=by have:=z.out.hB; have:=C.out; omega
    have n3:X≠a.heap.size:=by have:=z.out.hB; have:=B.out; omega
    clear z;obtain ⟨V3,q8⟩: ∃W,a.alloc (.cells #[.int .i64 f.1,.int .i64 f.2] 31)=W:=⟨_,rfl⟩;rw[q8] at g6 r5;obtain ⟨⟨ol,c0,c1,c2,c3,c4,a0,O⟩,E⟩:=g6.out.obs B.out C.out;obtain ⟨p0,x0,x1,v0,v1⟩:=E;obtain ⟨q0,⟨z0,z1,z2,z3,z4⟩,y0,y1,y2,y3,y4⟩:=g6.out.zz;obtain ⟨tl,t0,t1,M,N⟩:=r5.out;simp only[needV]
    go_wp2_with fail
    go_region
    all_goals go_wp2
    all_goals refine bodyPost_ret (v:= .tuple #[.agg #[.int .i64 8,.string ⟨#[]⟩,.string ⟨#[]⟩,.slice AN ([]:List (List UInt8)).length cn,.slice AP L.length cp],.int .i64 ((i:Int)+1),.agg #[.int .i64 f.1,.int .i64 f.2]]) (by simp[results,Tryz.results58,go_sem,q0,z0,z1,z2,z3,z4,p0,x0,x1,n8,n9,m7]) rfl ?_
    all_goals
     rw[Y.out,HR.out];refine Zdx g6.out C.out ?_ d3.out _
     repeat' (with_reducible first | refine UpT.drew ?_ | refine UpT.alloc ?_ _ | refine UpT.set ?_ _ (Or.inr ?_) _ | exact UpT.refl _ _)
     all_goals simp
   | ok j2=>
    rw[f6] at HN;obtain ⟨x2,h4⟩:=need_ok f6;have r2:=Y1 (And.intro x2 h4);have q4:Hid (Prs.arrow (m+1) l (i+1) (L.map ES.t)=Prs.andThen (Prs.shp m l j2) fun s=> .ok (⟨8,[],[],[],L.map ES.t++ [s.1]⟩,s.2)):=Y1 (by rw[ZhF,f6]; rfl);clear f6 x2 h4;refine HN.out.mono ?_;rintro e a ⟨rfl,t⟩;have h4:=HJ.out.new t;have Q:=Z01 a (.cells Yc 31);have o:=ZcG a 0 0;have n4:=h4.new Q;have u3:=h4.away (tb:=a.heap.size) (Nat.le_refl _) (show a.heap.size < (a.alloc (.cells Yc 31)).heap.size by simp);have g5:Hid (w.heap.size+3<=a.heap.size):=Y1 h4.hB;have n1:w.heap.size≠a.heap.size:=by have:=g5.out; omega
    have n2:fb≠a.heap.size:=by have:=g5.out; have:=C.out; omega
    have n3:X≠a.heap.size:=by have:=g5.out; have:=B.out; omega
    obtain ⟨V3,q8⟩: ∃W,a.alloc (.cells Yc 31)=W:=⟨_,rfl⟩;rw[q8] at n4 o u3;have g6:=Y1 n4;have r6:=Y1 o;have t2:=Y1 u3;clear t h4 Q o n4 u3 HJ HN;obtain ⟨tl,t0,t1,M,N⟩:=r6.out;have p:UpT [a.heap.size] V3 ((V3.setCell ⟨a.heap.size,0,none⟩ (.int .i64 0)).setCell ⟨a.heap.size,1,none⟩ (.int .i64 0)):=((UpT.refl _ _).set _ (Or.inr (by simp)) _).set _ (Or.inr (by simp)) _;have o:Box2 ((V3.setCell ⟨a.heap.size,0,none⟩ (.int .i64 0)).setCell ⟨a.heap.size,1,none⟩ (.int .i64 0)) (a.heap.size) 0 0:=⟨by simpa[World.setCell] using tl,by simp[go_sem,t0,t1],by simp[go_sem,t0,t1],by simp[go_sem,M],by simp[go_sem,N]⟩;have r:=g6.out.box t2.out g5.out p;have q:=t2.out.on p.size;obtain ⟨VS,w8⟩: ∃W,(V3.setCell ⟨a.heap.size,0,none⟩ (.int .i64 0)).setCell ⟨a.heap.size,1,none⟩ (.int .i64 0)=W:=⟨_,rfl⟩;rw[w8] at p o r q;have y5:=Y1 p;have i3:=Y1 o;have l5:=Y1 r;have v3:=Y1 q;clear p o r q;obtain ⟨sl,s0,s1,a9,b5⟩:=i3.out;clear g6 r6 t2 y5;have g7:=Y1 (hS m (by have:=v4.out.2; omega) j2 VS (by have:=r2.out; omega) (by obtain ⟨h1,h2⟩:=r2.out; have:=v4.out.1; omega) (j9.out.on l5.out.up));simp only[needV]
    go_wp2_with fail
    refine g7.out.mono ?_;rintro e V6 ⟨t,hd⟩;have b9:=Y1 (l5.out.new t);have d0:=Y1 (i3.out.next t);have p7:=Y1 (v3.out.on t.size);have t9:Hid (∀b,rowT AN=some b\/rowT AP=some b->b < VS.heap.size):=Y1 (fun b t=>by
     rcases t with t | t
     {exact (l5.out.rN.lt _ t).2}
     · exact (l5.out.rP.lt _ t).2)
    have v8:Hid (a.heap.size < VS.heap.size):=Y1 i3.out.1;clear t w8 q8 l5 i3 v3 sl s0 s1 a9 b5 tl t0 t1 M N;cases V:Prs.shp m l j2 with
    | error f=>
     rw[V] at hd;obtain ⟨y,j,rfl,k8⟩:=hd;have d3:=Y1 k8;have HR:Hid (Prs.arrow (m+1) l (i+1) (L.map ES.t)= .error f):=Y1 (by rw[q4.out,V]; rfl);clear k8 V q4 g7;simp only[valS];have Q:=Z01 V6 (.cells (Y8 y.t y.q) 28);have h5:=b9.out.new Q;have a7:=d0.out.next Q;have h0:=p7.out.on Q.size;obtain ⟨k0,k1,k2,k3,k4,kf,kl⟩:=ZcK V6 (.int .i64 y.t.kind) (.string ⟨y.t.of_.toArray⟩) (.string ⟨y.t.name.toArray⟩) (.slice y.q.A y.t.names.length y.q.c) (.slice y.q.P y.t.parts.length y.q.d) 28;have T:YV5 (V6.alloc (.cells (Y8 y.t y.q) 28)) V6.heap.size y:=⟨kl,k0,k1,k2,k3,k4⟩;obtain ⟨V7,m5⟩: ∃W,V6.alloc (.cells (Y8 y.t y.q) 28)=W:=⟨_,rfl⟩;rw[m5] at Q h5 a7 h0 T;have l4:=Y1 h5;have f2:=Y1 a7;have g4:=Y1 h0;have f0:=Y1 T;have m1:w.heap.size≠V6.heap.size:=by have:=b9.out.hB; omega
     have m2:fb≠V6.heap.size:=by have:=b9.out.hB; have:=C.out; omega
     have m3:X≠V6.heap.size:=by have:=b9.out.hB; have:=B.out; omega
     have m4:a.heap.size≠V6.heap.size:=by have:=d0.out.1; omega
     clear Q h5 a7 h0 T b9 d0 p7 k0 k1 k2 k3 k4 kf kl;obtain ⟨tl,t0,t1,M,N⟩:=f2.out;have p:UpT [a.heap.size] V7 ((V7.setCell ⟨a.heap.size,0,none⟩ (.int .i64 f.1)).setCell ⟨a.heap.size,1,none⟩ (.int .i64 f.2)):=((UpT.refl _ _).set _ (Or.inr (by simp)) _).set _ (Or.inr (by simp)) _;have o:Box2 ((V7.setCell ⟨a.heap.size,0,none⟩ (.int .i64 f.1)).setCell ⟨a.heap.size,1,none⟩ (.int .i64 f.2)) (a.heap.size) f.1 f.2:=⟨by simpa[World.setCell] using tl,by simp[go_sem,t0,t1],by simp[go_sem,t0,t1],by simp[go_sem,M],by simp[go_sem,N]⟩;have r:=l4.out.box g4.out g5.out p;have q:=g4.out.on p.size;obtain ⟨V8,m6⟩: ∃W,(V7.setCell ⟨a.heap.size,0,none⟩ (.int .i64 f.1)).setCell ⟨a.heap.size,1,none⟩ (.int .i64 f.2)=W:=⟨_,rfl⟩;rw[m6] at p o r q;have k5:=Y1 p;have a5:=Y1 o;have H:=Y1 r;have l1:=Y1 q;clear p o r q;clear l4 f2 g4;obtain ⟨⟨ol,c0,c1,c2,c3,c4,a0,O⟩,E⟩:=H.out.obs B.out C.out;obtain ⟨p0,x0,x1,v0,v1⟩:=E;obtain ⟨q0,⟨z0,z1,z2,z3,z4⟩,y0,y1,y2,y3,y4⟩:=H.out.zz;have f8:=f0.out.upT k5.out (by simpa using (fun h=>m4 h.symm));have f1:=Y1 f8;clear f8 f0 k5;obtain ⟨sl,s0,s1,a9,b5⟩:=a5.out;obtain ⟨yl,b0,b1,b2,b3,b4⟩:=f1.out;have J: (V8.alloc (.cells (Y8 y.t y.q) 28)).ownsRow (w.heap.size+3) 28 5 (.slice AP L.length cp) L.length (L.flatMap cS):=H.out.rP.below (Z01 V8 (.cells (Y8 y.t y.q) 28));have I:=Y1 J;have n5:L.length<=100000:=by have:=j6.out; omega
     have l9:=H.out.hB;obtain ⟨f3,g0,g1,g3⟩:=t4.out;clear J
     go_wp2_with (at_builtin; refine Hid.out ?_)
     refine Y1 ?_;refine wpList_append_lies _ rfl _ _ 26 rfl (w.heap.size+3) 28 i2 (.agg #[.int .i64 0,.string ByteArray.empty,.string ByteArray.empty,.slice none 0 0,.slice none 0 0]) 5 88 Tryz.underlying26 f3 g0 g1 g3 rfl (by decide) (.slice AP L.length cp) L.length (L.flatMap cS) rfl I.out ⟨V8.heap.size,0,none⟩ 1 1 (cS y) rfl rfl (fun j v hv=>by rw[Z0d,Nat.zero_add]; rcases j with _ | _ | _ | _ | _ | j <;> (simp[cS] at hv; try (subst hv; simp[go_sem]))) (Zg6 _) (by decide) (by unfold maxLen; omega) (by omega) (by simp; omega) _ rfl ?_;intro g2 G w2 S d P f4;rw[ZcQ] at d P;have U:=Z01 V8 (.cells (Y8 y.t y.q) 28);have u:=H.out.partE (g:=g2) (c:=G) U d;have D:=H.out.up_part U d (.slice (some ⟨g2,0,none⟩) (L.length+1) G);have a8:UpT ((rowT AP).toList) V8 w2:=by have:=Zdb (ZcF (F:= []) U) d; simpa using this
     have a6:=a8.same (b:=X) ol (fun hx=>by have:=(H.out.rP.lt _ (by simpa using hx)).1; have:=B.out; omega);have d4:=(a6.1 4).trans c4;have u1:=(a6.2 4).trans O;have u2:X < w2.heap.size:=Nat.lt_of_lt_of_le ol a8.size;rw[<-B.out] at u D;obtain ⟨q6,d1⟩: ∃W,w2.setCell ⟨X,4,none⟩ (.slice (some ⟨g2,0,none⟩) (L.length+1) G)=W:=⟨_,rfl⟩;rw[d1] at u D;have a1: ∀b,b∈X::(rowT AP).toList->b=X\/rowT AP=some b:=fun b t=>by simpa using t
     have K:=a5.out.upT D (fun hx=>by
      rcases a1 _ hx with e | e
      {exact n3 e.symm}
      · exact l1.out.nr _ (Or.inr e) rfl)
     have Z:=Y1 K;have l2:=Y1 u;clear ol c0 c1 c2 c3 c4 a0 O p0 x0 x1 v0 v1 q0 z0 z1 z2 z3 z4 y0 y1 y2 y3 y4;clear yl b0 b1 b2 b3 b4 S d P f4 U u D a8 a6 a1 K f3 g0 g1 g3 n5 l9 I sl s0 s1 a9 b5 m5 m6 tl t0 t1 M N f1 a5 H l1;obtain ⟨⟨ol,c0,c1,c2,c3,c4⟩,E⟩:=l2.out.obs B.out C.out;obtain ⟨p0,x0,x1,v0,v1⟩:=E;obtain ⟨q0,⟨z0,z1,z2,z3,z4⟩,y0,y1,y2,y3,y4⟩:=l2.out.zz;obtain ⟨sl,s0,s1,a9,b5⟩:=Z.out
     go_wp2_with fail
     go_region
     all_goals go_wp2
     all_goals refine bodyPost_ret (v:= .tuple #[.agg #[.int .i64 8,.string ⟨#[]⟩,.string ⟨#[]⟩,.slice AN ([]:List (List UInt8)).length cn,.slice (some ⟨g2,0,none⟩:Option Addr) (L.length+1) G],.int .i64 j,.agg #[.int .i64 f.1,.int .i64 f.2]]) (by simp[results,Tryz.results58,go_sem,q0,z0,z1,z2,z3,z4,p0,x0,x1,n8,n9,m7]) rfl ?_
     all_goals
      rw[Y.out,HR.out];refine Zm5 l2.out C.out ?_ d3.out _
      repeat' (with_reducible first | refine UpT.drew ?_ | refine UpT.alloc ?_ _ | refine UpT.set ?_ _ (Or.inr ?_) _ | exact UpT.refl _ _)
      all_goals simp
    | ok y=>
     rw[V] at hd;obtain ⟨k,rfl,ht,m8,n6⟩:=hd;have HR:Hid (Prs.arrow (m+1) l (i+1) (L.map ES.t)= .ok (⟨8,[],[],[],(L++ [k]).map ES.t⟩,y.2)):=Y1 (by rw[q4.out,V,List.map_append,List.map_singleton,ht]; rfl);have j7:Hid (VS.heap.size<=k.lo):=Y1 n6;have c8:=Y1 m8;clear V q4 ht g7 n6 m8;simp only[valS];have Q:=Z01 V6 (.cells (Y8 k.t k.q) 28);have h5:=b9.out.new Q;have a7:=d0.out.next Q;have h0:=p7.out.on Q.size;obtain ⟨k0,k1,k2,k3,k4,kf,kl⟩:=ZcK V6 (.int .i64 k.t.kind) (.string ⟨k.t.of_.toArray⟩) (.string ⟨k.t.name.toArray⟩) (.slice k.q.A k.t.names.length k.q.c) (.slice k.q.P k.t.parts.length k.q.d) 28;have T:YV5 (V6.alloc (.cells (Y8 k.t k.q) 28)) V6.heap.size k:=⟨kl,k0,k1,k2,k3,k4⟩;have m9:k.Is (V6.alloc (.cells (Y8 k.t k.q) 28)):=New.below c8.out Q;obtain ⟨V7,m5⟩: ∃W,V6.alloc (.cells (Y8 k.t k.q) 28)=W:=⟨_,rfl⟩;rw[m5] at Q h5 a7 h0 T m9;have l4:=Y1 h5;have f2:=Y1 a7;have g4:=Y1 h0;have f0:=Y1 T;have b8:=Y1 m9;clear m9 c8;have m1:w.heap.size≠V6.heap.size:=by have:=b9.out.hB; omega
     have m2:fb≠V6.heap.size:=by have:=b9.out.hB; have:=C.out; omega
     have m3:X≠V6.heap.size:=by have:=b9.out.hB; have:=B.out; omega
     have m4:a.heap.size≠V6.heap.size:=by have:=d0.out.1; omega
     clear Q h5 a7 h0 T b9 d0 p7 k0 k1 k2 k3 k4 kf kl;obtain ⟨tl,t0,t1,M,N⟩:=f2.out;have p:UpT [a.heap.size] V7 ((V7.setCell ⟨a.heap.size,0,none⟩ (.int .i64 0)).setCell ⟨a.heap.size,1,none⟩ (.int .i64 0)):=((UpT.refl _ _).set _ (Or.inr (by simp)) _).set _ (Or.inr (by simp)) _;have o:Box2 ((V7.setCell ⟨a.heap.size,0,none⟩ (.int .i64 0)).setCell ⟨a.heap.size,1,none⟩ (.int .i64 0)) (a.heap.size) 0 0:=⟨by simpa[World.setCell] using tl,by simp[go_sem,t0,t1],by simp[go_sem,t0,t1],by simp[go_sem,M],by simp[go_sem,N]⟩;have r:=l4.out.box g4.out g5.out p;have q:=g4.out.on p.size;obtain ⟨V8,m6⟩: ∃W,(V7.setCell ⟨a.heap.size,0,none⟩ (.int .i64 0)).setCell ⟨a.heap.size,1,none⟩ (.int .i64 0)=W:=⟨_,rfl⟩;rw[m6] at p o r q;have k5:=Y1 p;have a5:=Y1 o;have H:=Y1 r;have l1:=Y1 q;clear p o r q;have r9:k.Is V8:=New.up b8.out k5.out (by simp; have:=j7.out; have:=v8.out; omega);clear b8;have b8:=Y1 r9;have q1:Hid (∀b,rowT AN=some b\/rowT AP=some b->b < k.lo\/k.hi<=b):=Y1 (fun b t=>Or.inl (by have:=t9.out b t; have:=j7.out; omega));clear r9 l4 f2 g4;obtain ⟨⟨ol,c0,c1,c2,c3,c4,a0,O⟩,E⟩:=H.out.obs B.out C.out;obtain ⟨p0,x0,x1,v0,v1⟩:=E;obtain ⟨q0,⟨z0,z1,z2,z3,z4⟩,y0,y1,y2,y3,y4⟩:=H.out.zz;have f8:=f0.out.upT k5.out (by simpa using (fun h=>m4 h.symm));have f1:=Y1 f8;clear f8 f0 k5;obtain ⟨sl,s0,s1,a9,b5⟩:=a5.out;obtain ⟨yl,b0,b1,b2,b3,b4⟩:=f1.out;have J: (V8.alloc (.cells (Y8 k.t k.q) 28)).ownsRow (w.heap.size+3) 28 5 (.slice AP L.length cp) L.length (L.flatMap cS):=H.out.rP.below (Z01 V8 (.cells (Y8 k.t k.q) 28));have I:=Y1 J;have n5:L.length<=100000:=by have:=j6.out; omega
     have l9:=H.out.hB;obtain ⟨f3,g0,g1,g3⟩:=t4.out;clear J
     go_wp2_with (at_builtin; refine Hid.out ?_)
     refine Y1 ?_;refine wpList_append_lies _ rfl _ _ 26 rfl (w.heap.size+3) 28 i2 (.agg #[.int .i64 0,.string ByteArray.empty,.string ByteArray.empty,.slice none 0 0,.slice none 0 0]) 5 88 Tryz.underlying26 f3 g0 g1 g3 rfl (by decide) (.slice AP L.length cp) L.length (L.flatMap cS) rfl I.out ⟨V8.heap.size,0,none⟩ 1 1 (cS k) rfl rfl (fun j v hv=>by rw[Z0d,Nat.zero_add]; rcases j with _ | _ | _ | _ | _ | j <;> (simp[cS] at hv; try (subst hv; simp[go_sem]))) (Zg6 _) (by decide) (by unfold maxLen; omega) (by omega) (by simp; omega) _ rfl ?_;intro g2 G w2 S d P f4;rw[ZcQ] at d P;have U:=Z01 V8 (.cells (Y8 k.t k.q) 28);have u:=H.out.part U b8.out (by have:=j7.out; have:=v8.out; have:=g5.out; omega) q1.out d S P;have D:=H.out.up_part U d (.slice (some ⟨g2,0,none⟩) (L.length+1) G);have a8:UpT ((rowT AP).toList) V8 w2:=by have:=Zdb (ZcF (F:= []) U) d; simpa using this
     have a6:=a8.same (b:=X) ol (fun hx=>by have:=(H.out.rP.lt _ (by simpa using hx)).1; have:=B.out; omega);have d4:=(a6.1 4).trans c4;have u1:=(a6.2 4).trans O;have u2:X < w2.heap.size:=Nat.lt_of_lt_of_le ol a8.size;rw[<-B.out] at u D;obtain ⟨q6,d1⟩: ∃W,w2.setCell ⟨X,4,none⟩ (.slice (some ⟨g2,0,none⟩) (L.length+1) G)=W:=⟨_,rfl⟩;rw[d1] at u D;have a1: ∀b,b∈X::(rowT AP).toList->b=X\/rowT AP=some b:=fun b t=>by simpa using t
     have K:=a5.out.upT D (fun hx=>by
      rcases a1 _ hx with e | e
      {exact n3 e.symm}
      · exact l1.out.nr _ (Or.inr e) rfl)
     have Z:=Y1 K;obtain ⟨u,d8⟩:=u;have a3:=Y1 u;clear ol c0 c1 c2 c3 c4 a0 O p0 x0 x1 v0 v1 q0 z0 z1 z2 z3 z4 y0 y1 y2 y3 y4;clear yl b0 b1 b2 b3 b4 S d P f4 U u D a8 a6 a1 K f3 g0 g1 g3 n5 l9 I sl s0 s1 a9 b5 m5 m6 tl t0 t1 M N f1 a5 H l1;clear d8;obtain ⟨⟨ol,c0,c1,c2,c3,c4,a0,O⟩,E⟩:=a3.out.obs B.out C.out;obtain ⟨p0,x0,x1,v0,v1⟩:=E;obtain ⟨q0,⟨z0,z1,z2,z3,z4⟩,y0,y1,y2,y3,y4⟩:=a3.out.zz;obtain ⟨sl,s0,s1,a9,b5⟩:=Z.out
     go_wp2_with fail
     go_region
     all_goals go_wp2
     all_goals refine bodyPost_ret (v:= .tuple #[.agg #[.int .i64 8,.string ⟨#[]⟩,.string ⟨#[]⟩,.slice AN ([]:List (List UInt8)).length cn,.slice (some ⟨g2,0,none⟩:Option Addr) (L++ [k]).length G],.int .i64 (y.2:Int),.agg #[.int .i64 0,.int .i64 0]]) (by simp[results,Tryz.results58,go_sem,q0,z0,z1,z2,z3,z4,p0,x0,x1,n8,n9,m7]) rfl ?_
     all_goals
      rw[Y.out,HR.out];refine Zgr a3.out C.out ?_ (by simp) (by have:=j6.out; simp; omega) y.2
      repeat' (with_reducible first | refine UpT.drew ?_ | refine UpT.alloc ?_ _ | refine UpT.set ?_ _ (Or.inr ?_) _ | exact UpT.refl _ _)
      all_goals simp
  | true=>
   obtain ⟨m,rfl⟩: ∃m',m=m'+1:=⟨m - 1,by have:=HM.out.1 rfl; omega⟩;have j8:Hid (2 * (l.length - i)+3<=m+1/\m+1<=n):=Y1 ⟨HM.out.1 rfl,HM.out.2.2⟩;clear HM;have e9:Hid (h7=Prs.from_ (m+1) l i (L.map ES.t)):=Y;clear Y;have Y:=e9;clear e9;have g7:=Y1 (hS m (by have:=j8.out.2; omega) i wr hi (by have:=j8.out.1; omega) (j9.out.on HJ.out.up));have t9:Hid (∀b,rowT AN=some b\/rowT AP=some b->b < wr.heap.size):=Y1 (fun b t=>by
    rcases t with t | t
    {exact (HJ.out.rN.lt _ t).2}
    · exact (HJ.out.rP.lt _ t).2)
   go_wp2_with fail
   refine g7.out.mono ?_;rintro e a ⟨t,hd⟩;have z:=Y1 (HJ.out.new t);have y6:Hid (w.heap.size+3<=wr.heap.size):=Y1 HJ.out.hB;clear t HJ;cases V:Prs.shp m l i with
   | error f=>
    rw[V] at hd;obtain ⟨y,j,rfl,k8⟩:=hd;have d3:=Y1 k8;have e1: (f.1 !=0)=true:=by simpa using k8
    have HR:Hid (Prs.from_ (m+1) l i (L.map ES.t)= .error f):=Y1 (by rw[Zio,V]; rfl);clear k8 V g7;simp only[valS];have n7:=Z01 a (.cells (Y8 y.t y.q) 28);have h6:=Z01 (a.alloc (.cells (Y8 y.t y.q) 28)) (.cells #[.int .i64 f.1,.int .i64 f.2] 31);have k9:=Z03 n7 h6;have a2: (a.alloc (.cells (Y8 y.t y.q) 28)).heap.size=a.heap.size+1:=by simp
    obtain ⟨k0,k1,k2,k3,k4,kf,kl⟩:=ZcK a (.int .i64 y.t.kind) (.string ⟨y.t.of_.toArray⟩) (.string ⟨y.t.name.toArray⟩) (.slice y.q.A y.t.names.length y.q.c) (.slice y.q.P y.t.parts.length y.q.d) 28;have f7:YV5 (a.alloc (.cells (Y8 y.t y.q) 28)) a.heap.size y:=⟨kl,k0,k1,k2,k3,k4⟩;have T:=f7.next h6;have o:=ZcG (a.alloc (.cells (Y8 y.t y.q) 28)) f.1 f.2;rw[a2] at o;have r:=z.out.new k9;have q:Aw (a.heap.size+1) AN AP L ((a.alloc (.cells (Y8 y.t y.q) 28)).alloc (.cells #[.int .i64 f.1,.int .i64 f.2] 31)):=z.out.away (by omega) o.1;have n1:w.heap.size≠a.heap.size+1:=by have:=z.out.hB; omega
    have n2:fb≠a.heap.size+1:=by have:=z.out.hB; have:=C.out; omega
    have n3:X≠a.heap.size+1:=by have:=z.out.hB; have:=B.out; omega
    have m1:w.heap.size≠a.heap.size:=by have:=z.out.hB; omega
    have m2:fb≠a.heap.size:=by have:=z.out.hB; have:=C.out; omega
    have m3:X≠a.heap.size:=by have:=z.out.hB; have:=B.out; omega
    have p9:Hid (w.heap.size+3<=a.heap.size+1):=Y1 (by have:=z.out.hB; omega);obtain ⟨VB,q9⟩: ∃W,(a.alloc (.cells (Y8 y.t y.q) 28)).alloc (.cells #[.int .i64 f.1,.int .i64 f.2] 31)=W:=⟨_,rfl⟩;rw[q9] at T o r q;have l7:=Y1 T;have i1:=Y1 o;have j5:=Y1 r;have p8:=Y1 q;clear n7 h6 k9 a2 k0 k1 k2 k3 k4 kf kl f7 T o r q z;obtain ⟨⟨ol,c0,c1,c2,c3,c4,a0,O⟩,E⟩:=j5.out.obs B.out C.out;obtain ⟨p0,x0,x1,v0,v1⟩:=E;obtain ⟨q0,⟨z0,z1,z2,z3,z4⟩,y0,y1,y2,y3,y4⟩:=j5.out.zz;obtain ⟨tl,t0,t1,M,N⟩:=i1.out
    go_wp2_with fail
    go_region
    all_goals go_wp2
    all_goals refine bodyPost_ret (v:= .tuple #[.agg #[.int .i64 8,.string ⟨#[]⟩,.string ⟨#[]⟩,.slice AN ([]:List (List UInt8)).length cn,.slice AP L.length cp],.int .i64 j,.agg #[.int .i64 f.1,.int .i64 f.2]]) (by simp[results,Tryz.results58,go_sem,q0,z0,z1,z2,z3,z4,p0,x0,x1,n8,n9,m7]) rfl ?_
    all_goals
     rw[Y.out,HR.out];refine Zdx j5.out C.out ?_ d3.out _
     repeat' (with_reducible first | refine UpT.drew ?_ | refine UpT.alloc ?_ _ | refine UpT.set ?_ _ (Or.inr ?_) _ | exact UpT.refl _ _)
     all_goals simp
   | ok y=>
    rw[V] at hd;obtain ⟨k,rfl,ht,m8,n6⟩:=hd;have k6:Hid (i < y.2/\y.2<=l.length):=Y1 (ZhZ V);have t7:Hid (Prs.from_ (m+1) l i (L.map ES.t)=if sign l y.2 [41] then Prs.arrow m l (y.2+1) ((L++ [k]).map ES.t) else Prs.andThen (Prs.need l y.2 [44]) fun j=>Prs.from_ m l j ((L++ [k]).map ES.t)):=Y1 (by rw[Zio,V,List.map_append,List.map_singleton,ht]; rfl);have j7:Hid (wr.heap.size<=k.lo):=Y1 n6;have c8:=Y1 m8;clear V ht g7 n6 m8;simp only[valS];have n7:=Z01 a (.cells (Y8 k.t k.q) 28);have h6:=Z01 (a.alloc (.cells (Y8 k.t k.q) 28)) (.cells Yc 31);have k9:=Z03 n7 h6;have a2: (a.alloc (.cells (Y8 k.t k.q) 28)).heap.size=a.heap.size+1:=by simp
    obtain ⟨k0,k1,k2,k3,k4,kf,kl⟩:=ZcK a (.int .i64 k.t.kind) (.string ⟨k.t.of_.toArray⟩) (.string ⟨k.t.name.toArray⟩) (.slice k.q.A k.t.names.length k.q.c) (.slice k.q.P k.t.parts.length k.q.d) 28;have f7:YV5 (a.alloc (.cells (Y8 k.t k.q) 28)) a.heap.size k:=⟨kl,k0,k1,k2,k3,k4⟩;have T:=f7.next h6;have o:=ZcG (a.alloc (.cells (Y8 k.t k.q) 28)) 0 0;rw[a2] at o;have r:=z.out.new k9;have q:Aw (a.heap.size+1) AN AP L ((a.alloc (.cells (Y8 k.t k.q) 28)).alloc (.cells Yc 31)):=z.out.away (by omega) o.1;have n1:w.heap.size≠a.heap.size+1:=by have:=z.out.hB; omega
    have n2:fb≠a.heap.size+1:=by have:=z.out.hB; have:=C.out; omega
    have n3:X≠a.heap.size+1:=by have:=z.out.hB; have:=B.out; omega
    have m1:w.heap.size≠a.heap.size:=by have:=z.out.hB; omega
    have m2:fb≠a.heap.size:=by have:=z.out.hB; have:=C.out; omega
    have m3:X≠a.heap.size:=by have:=z.out.hB; have:=B.out; omega
    have p9:Hid (w.heap.size+3<=a.heap.size+1):=Y1 (by have:=z.out.hB; omega);have n0:k.Is ((a.alloc (.cells (Y8 k.t k.q) 28)).alloc (.cells Yc 31)):=New.below c8.out k9;have v9:Hid (k.hi<=a.heap.size):=Y1 c8.out.hi_;obtain ⟨VB,q9⟩: ∃W,(a.alloc (.cells (Y8 k.t k.q) 28)).alloc (.cells Yc 31)=W:=⟨_,rfl⟩;rw[q9] at T o r q n0;have l7:=Y1 T;have i1:=Y1 o;have j5:=Y1 r;have p8:=Y1 q;have b8:=Y1 n0;clear n0 c8;clear n7 h6 k9 a2 k0 k1 k2 k3 k4 kf kl f7 T o r q z;have q1:Hid (∀b,rowT AN=some b\/rowT AP=some b->b < k.lo\/k.hi<=b):=Y1 (fun b t=>Or.inl (by have:=t9.out b t; have:=j7.out; omega));obtain ⟨tl,t0,t1,M,N⟩:=i1.out;have p:UpT [a.heap.size+1] VB ((VB.setCell ⟨a.heap.size+1,0,none⟩ (.int .i64 0)).setCell ⟨a.heap.size+1,1,none⟩ (.int .i64 0)):=((UpT.refl _ _).set _ (Or.inr (by simp)) _).set _ (Or.inr (by simp)) _;have o:Box2 ((VB.setCell ⟨a.heap.size+1,0,none⟩ (.int .i64 0)).setCell ⟨a.heap.size+1,1,none⟩ (.int .i64 0)) (a.heap.size+1) 0 0:=⟨by simpa[World.setCell] using tl,by simp[go_sem,t0,t1],by simp[go_sem,t0,t1],by simp[go_sem,M],by simp[go_sem,N]⟩;have r:=j5.out.box p8.out p9.out p;have q:=p8.out.on p.size;obtain ⟨VC,w7⟩: ∃W,(VB.setCell ⟨a.heap.size+1,0,none⟩ (.int .i64 0)).setCell ⟨a.heap.size+1,1,none⟩ (.int .i64 0)=W:=⟨_,rfl⟩;rw[w7] at p o r q;have u0:=Y1 p;have l8:=Y1 o;have e8:=Y1 r;have t3:=Y1 q;clear p o r q;have s9:=l7.out.upT u0.out (by simp);have s2:k.Is VC:=New.up b8.out u0.out (by have:=v9.out; simp; omega);clear b8;have b8:=Y1 s2;have r3:=Y1 s9;clear s2 s9 l7 u0 j5 i1 p8;obtain ⟨⟨ol,c0,c1,c2,c3,c4,a0,O⟩,E⟩:=e8.out.obs B.out C.out;obtain ⟨p0,x0,x1,v0,v1⟩:=E;obtain ⟨q0,⟨z0,z1,z2,z3,z4⟩,y0,y1,y2,y3,y4⟩:=e8.out.zz
    obtain ⟨sl,s0,s1,a9,b5⟩:=l8.out;obtain ⟨yl,b0,b1,b2,b3,b4⟩:=r3.out;have J: (VC.alloc (.cells (Y8 k.t k.q) 28)).ownsRow (w.heap.size+3) 28 5 (.slice AP L.length cp) L.length (L.flatMap cS):=e8.out.rP.below (Z01 VC (.cells (Y8 k.t k.q) 28));have I:=Y1 J;have n5:L.length<=100000:=by have:=j6.out; omega
    have l9:=e8.out.hB;obtain ⟨f3,g0,g1,g3⟩:=t4.out;clear J
    go_wp2_with (at_builtin; refine Hid.out ?_)
    refine Y1 ?_;refine wpList_append_lies _ rfl _ _ 26 rfl (w.heap.size+3) 28 i2 (.agg #[.int .i64 0,.string ByteArray.empty,.string ByteArray.empty,.slice none 0 0,.slice none 0 0]) 5 88 Tryz.underlying26 f3 g0 g1 g3 rfl (by decide) (.slice AP L.length cp) L.length (L.flatMap cS) rfl I.out ⟨VC.heap.size,0,none⟩ 1 1 (cS k) rfl rfl (fun j v hv=>by rw[Z0d,Nat.zero_add]; rcases j with _ | _ | _ | _ | _ | j <;> (simp[cS] at hv; try (subst hv; simp[go_sem]))) (Zg6 _) (by decide) (by unfold maxLen; omega) (by omega) (by simp; omega) _ rfl ?_;intro g2 G w2 S d P f4;rw[ZcQ] at d P;have U:=Z01 VC (.cells (Y8 k.t k.q) 28);have u:=e8.out.part U b8.out (by have:=j7.out; have:=y6.out; omega) q1.out d S P;have D:=e8.out.up_part U d (.slice (some ⟨g2,0,none⟩) (L.length+1) G);have a8:UpT ((rowT AP).toList) VC w2:=by have:=Zdb (ZcF (F:= []) U) d; simpa using this
    have a6:=a8.same (b:=X) ol (fun hx=>by have:=(e8.out.rP.lt _ (by simpa using hx)).1; have:=B.out; omega);have d4:=(a6.1 4).trans c4;have u1:=(a6.2 4).trans O;have u2:X < w2.heap.size:=Nat.lt_of_lt_of_le ol a8.size;rw[<-B.out] at u D;obtain ⟨q6,d1⟩: ∃W,w2.setCell ⟨X,4,none⟩ (.slice (some ⟨g2,0,none⟩) (L.length+1) G)=W:=⟨_,rfl⟩;rw[d1] at u D;have a1: ∀b,b∈X::(rowT AP).toList->b=X\/rowT AP=some b:=fun b t=>by simpa using t
    have K:=l8.out.upT D (fun hx=>by
     rcases a1 _ hx with e | e
     {exact n3 e.symm}
     · exact t3.out.nr _ (Or.inr e) rfl)
    have Z:=Y1 K;obtain ⟨u,d8⟩:=u;have r7:Aw (a.heap.size+1) AN (some ⟨g2,0,none⟩) (L++ [k]) q6:=t3.out.next2 (fun b t=>Or.inl t) (fun b t=>by
     have e:g2=b:=by simpa[rowT] using t
     subst e; exact d8) (fun x hx=>by
     rcases List.mem_append.1 hx with hx | hx
     {exact Or.inl hx}
     · rw[List.mem_singleton.1 hx]; exact Or.inr (by have:=v9.out; omega)) D.size
    have a3:=Y1 u;have r1:=Y1 r7;clear ol c0 c1 c2 c3 c4 a0 O p0 x0 x1 v0 v1 q0 z0 z1 z2 z3 z4 y0 y1 y2 y3 y4;clear yl b0 b1 b2 b3 b4 S d P f4 U u D a8 a6 a1 K f3 g0 g1 g3 n5 l9 I;clear d8 r7 r3 l8 e8 t3 b8 q1;have u5:=k6.out.2;have v6:=Y1 (ZcM A c l y.2 [41] (by omega) (by omega) q6 (j9.out.on a3.out.up))
    go_wp2_with fail
    refine v6.out.mono ?_;rintro e y7 ⟨rfl,t⟩;have c9:=Y1 (a3.out.new t);have d5:=Y1 (Z.out.next t);have h8:=Y1 (r1.out.on t.size);clear t v6 a3 Z r1 d1 d4 u1 u2 sl s0 s1 a9 b5 q9 w7 tl t0 t1 M N;cases a2:sign l y.2 [41] with
    | true=>
     have t8:Hid (h7=Prs.arrow m l (y.2+1) ((L++ [k]).map ES.t)):=Y1 (by rw[Y.out,t7.out,a2]; rfl);have z7:=(sign_kinds a2).2.2;have l6:Hid ((sign l y.2 [41]=true/\2 * (l.length - (y.2+1))+3<=m)/\m<=n):=Y1 ⟨⟨a2,by have:=j8.out.1; have:=k6.out; omega⟩,by have:=j8.out.2; omega⟩;have t6:Hid ((L++ [k]).length<=y.2):=Y1 (by have:=j6.out; have:=k6.out; simp; omega);clear a2 z7;go_wp2
     go_roundw
     case rel=>exact ⟨y.2,m,false,_,_,_,_,_,rfl,rfl,k6.out.2,c9,Y1 ⟨nofun,fun _=>l6.out.1,l6.out.2⟩,t6,Y1 (t8.out.trans (if_neg (by decide)).symm)⟩
     case measure=>have:=k6.out; simp[intOf]; omega
    | false=>
     have q5:Hid (Prs.from_ (m+1) l i (L.map ES.t)=Prs.andThen (Prs.need l y.2 [44]) fun j=>Prs.from_ m l j ((L++ [k]).map ES.t)):=Y1 (by rw[t7.out,a2]; rfl);clear a2 t7;have q2:=Y1 (ZdK A c l y.2 [44] (by omega) (by omega) y7 (j9.out.on c9.out.up))
     go_wp2_with fail
     cases f5:Prs.need l y.2 [44] with
     | error f=>
      rw[f5] at q2;have d3:=Y1 (ZeX f5);have e1: (f.1 !=0)=true:=by simpa using d3.out
      have HR:Hid (Prs.from_ (m+1) l i (L.map ES.t)= .error f):=Y1 (by rw[q5.out,f5]; rfl);clear f5 q5;refine q2.out.mono ?_;rintro e d6 ⟨rfl,t⟩;simp only[needV];have a4:=Y1 (c9.out.new t);have g8:=Y1 (d5.out.next t);have e6:=Y1 (h8.out.on t.size);clear t c9 d5 h8;obtain ⟨⟨ol,c0,c1,c2,c3,c4,a0,O⟩,E⟩:=a4.out.obs B.out C.out;obtain ⟨p0,x0,x1,v0,v1⟩:=E;obtain ⟨q0,⟨z0,z1,z2,z3,z4⟩,y0,y1,y2,y3,y4⟩:=a4.out.zz;obtain ⟨tl,t0,t1,M,N⟩:=g8.out;have p:UpT [a.heap.size+1] d6 ((d6.setCell ⟨a.heap.size+1,0,none⟩ (.int .i64 f.1)).setCell ⟨a.heap.size+1,1,none⟩ (.int .i64 f.2)):=((UpT.refl _ _).set _ (Or.inr (by simp)) _).set _ (Or.inr (by simp)) _;have o:Box2 ((d6.setCell ⟨a.heap.size+1,0,none⟩ (.int .i64 f.1)).setCell ⟨a.heap.size+1,1,none⟩ (.int .i64 f.2)) (a.heap.size+1) f.1 f.2:=⟨by simpa[World.setCell] using tl,by simp[go_sem,t0,t1],by simp[go_sem,t0,t1],by simp[go_sem,M],by simp[go_sem,N]⟩;have r:=a4.out.box e6.out p9.out p;have q:=e6.out.on p.size;obtain ⟨y8,m0⟩: ∃W,(d6.setCell ⟨a.heap.size+1,0,none⟩ (.int .i64 f.1)).setCell ⟨a.heap.size+1,1,none⟩ (.int .i64 f.2)=W:=⟨_,rfl⟩;rw[m0] at p o r q;have v7:=Y1 p;have g9:=Y1 o;have e7:=Y1 r;have v2:=Y1 q;clear p o r q;clear ol c0 c1 c2 c3 c4 a0 O p0 x0 x1 v0 v1 q0 z0 z1 z2 z3 z4 y0 y1 y2 y3 y4;obtain ⟨⟨ol,c0,c1,c2,c3,c4,a0,O⟩,E⟩:=e7.out.obs B.out C.out;obtain ⟨p0,x0,x1,v0,v1⟩:=E;obtain ⟨q0,⟨z0,z1,z2,z3,z4⟩,y0,y1,y2,y3,y4⟩:=e7.out.zz;obtain ⟨sl,s0,s1,a9,b5⟩:=g9.out
      go_wp2_with fail
      go_region
      all_goals go_wp2
      all_goals refine bodyPost_ret (v:= .tuple #[.agg #[.int .i64 8,.string ⟨#[]⟩,.string ⟨#[]⟩,.slice AN ([]:List (List UInt8)).length cn,.slice (some ⟨g2,0,none⟩:Option Addr) (L++ [k]).length G],.int .i64 (y.2:Int),.agg #[.int .i64 f.1,.int .i64 f.2]]) (by simp[results,Tryz.results58,go_sem,q0,z0,z1,z2,z3,z4,p0,x0,x1,n8,n9,m7]) rfl ?_
      all_goals
       rw[Y.out,HR.out];refine Zdx e7.out C.out ?_ d3.out _
       repeat' (with_reducible first | refine UpT.drew ?_ | refine UpT.alloc ?_ _ | refine UpT.set ?_ _ (Or.inr ?_) _ | exact UpT.refl _ _)
       all_goals simp
     | ok j3=>
      rw[f5] at q2;obtain ⟨n4,z8⟩:=need_ok f5;have h9:Hid (i+2<=j3/\j3<=l.length):=Y1 (by have h3:=k6.out; omega);have t8:Hid (h7=Prs.from_ m l j3 ((L++ [k]).map ES.t)):=Y1 (by rw[Y.out,q5.out,f5]; rfl);clear f5 q5;refine q2.out.mono ?_;rintro e d6 ⟨rfl,t⟩;simp only[needV];have a4:=Y1 (c9.out.new t);have g8:=Y1 (d5.out.next t);have e6:=Y1 (h8.out.on t.size);clear t c9 d5 h8;obtain ⟨⟨ol,c0,c1,c2,c3,c4,a0,O⟩,E⟩:=a4.out.obs B.out C.out;obtain ⟨p0,x0,x1,v0,v1⟩:=E;obtain ⟨q0,⟨z0,z1,z2,z3,z4⟩,y0,y1,y2,y3,y4⟩:=a4.out.zz;obtain ⟨tl,t0,t1,M,N⟩:=g8.out;have p:UpT [a.heap.size+1] d6 ((d6.setCell ⟨a.heap.size+1,0,none⟩ (.int .i64 0)).setCell ⟨a.heap.size+1,1,none⟩ (.int .i64 0)):=((UpT.refl _ _).set _ (Or.inr (by simp)) _).set _ (Or.inr (by simp)) _;have o:Box2 ((d6.setCell ⟨a.heap.size+1,0,none⟩ (.int .i64 0)).setCell ⟨a.heap.size+1,1,none⟩ (.int .i64 0)) (a.heap.size+1) 0 0:=⟨by simpa[World.setCell] using tl,by simp[go_sem,t0,t1],by simp[go_sem,t0,t1],by simp[go_sem,M],by simp[go_sem,N]⟩;have r:=a4.out.box e6.out p9.out p;have q:=e6.out.on p.size;obtain ⟨y8,m0⟩: ∃W,(d6.setCell ⟨a.heap.size+1,0,none⟩ (.int .i64 0)).setCell ⟨a.heap.size+1,1,none⟩ (.int .i64 0)=W:=⟨_,rfl⟩;rw[m0] at p o r q;have v7:=Y1 p;have g9:=Y1 o;have e7:=Y1 r;have v2:=Y1 q;clear p o r q;have l6:Hid (2 * (l.length - j3)+3<=m/\m<=n):=Y1 ⟨by have:=j8.out.1; have:=h9.out; omega,by have:=j8.out.2; omega⟩;have t6:Hid ((L++ [k]).length<=j3):=Y1 (by have:=j6.out; have:=h9.out; simp; omega);clear n4 z8;clear ol c0 c1 c2 c3 c4 a0 O p0 x0 x1 v0 v1 q0 z0 z1 z2 z3 z4 y0 y1 y2 y3 y4;obtain ⟨sl,s0,s1,a9,b5⟩:=g9.out;go_wp2
      go_roundw
      case rel=>exact ⟨j3,m,true,_,_,_,_,_,rfl,rfl,h9.out.2,e7,Y1 ⟨fun _=>l6.out.1,nofun,l6.out.2⟩,t6,Y1 (t8.out.trans (if_pos rfl).symm)⟩
      case measure=>have:=h9.out; simp[intOf]; omega
end Go.Proofs.YtgndehppmaacaaaGreatDoor
namespace Go.Proofs.YtgndehppmaacaaaGreatDoor
section
open Go.RowKit Shp
theorem Z9B (t:Sh): ∀(q:Ptr) (w:World),ShAt w w.heap.size q t->deep t<=1000000->
 Calls Tryz.prog 60 #[.agg (Y8 t q)] w
  fun e w'=>e= .returned (.int .i64 (deep t:Int))/\Below w.heap.size w w':=by
 induction t using Sh.ind with
 | h t ih=>
 intro q w v J;have G:=Y1 v.small.m;have H:=Y1 v.part;have y:Hid (deep t=deeps t.parts+1):=Y1 (deep_eq t);have l:deeps t.parts<=1000000:=by have:=y.out; omega
 have A:=Z07 w t q;have s:=Y1 A;have hb0:=Z01 w (.cells (Y8 t q) 28);have b:=Y1 hb0;clear A hb0 v J;go_enter Tryz.func60,Tryz.ntmps60
 go_wp2_with fail
 generalize hW0:w.alloc (.cells (Y8 t q) 28)=W0 at s b ⊢;clear hW0
 go_loopw [3,4] (fun nn ii wr=> ∃i:Nat,ii= .int .i64 i/\i<=t.parts.length/\nn= .int .i64 (deeps (t.parts.take i):Int)/\Below W0.heap.size W0 wr) (fun _ i _=>t.parts.length - (intOf i).toNat)
 case atStart=>exact ⟨0,rfl,Nat.zero_le _,rfl,Below.refl _ _⟩
 case round=>
  obtain ⟨i,rfl,O,rfl,f⟩:=hrel;have E:=Y1 (s.out.next f);have P:=G.out;obtain ⟨_,⟨_,_,_,_,c4⟩,_⟩:=s.out.next f;by_cases c:i < t.parts.length
  {rcases H.out with N | ⟨g,off,D,o,K,B,C⟩
   {omega}
   {have k:Below w.heap.size w wr:=b.out.trans (f.mono b.out.size);obtain ⟨x,r⟩: ∃x,x=t.parts[i]:=⟨_,rfl⟩;obtain ⟨p0,p1,p2,p3,p4⟩:=(B i c).keep K k;have j:ShAt wr wr.heap.size (D i) x:=by rw[r]; exact (C i c).next k
    have d:=ih t.parts[i] (List.getElem_mem _) (D i) wr;have m:deep x<=1000000:=by rw[r]; exact Nat.le_trans (deeps_mem (List.getElem_mem _)) l
    have z:Hid (deeps (t.parts.take (i+1))=max (deeps (t.parts.take i)) (deep x)):=Y1 (by rw[r]; exact deeps_next c);rw[<-r] at p0 p1 p2 p3 p4 d;have I:=d j m;have p:=deeps_take t.parts i;rw[o] at c4;clear r B C j d m l ih o;have M: (i:Int) < (t.parts.length:Int):=by omega
    generalize deeps (t.parts.take i)=a at z p ⊢;by_cases L: (a:Int) < (deep x:Int)
    all_goals
     go_wp2_with (refine I.mono ?_; rintro e w' ⟨rfl,u⟩)
     go_wp2
     go_roundw
     case rel=>exact ⟨i+1,by go_num,by omega,by rw[z.out]; go_num,f.trans (u.mono f.size)⟩
     case measure=>simp[intOf]; omega}}
  {have n:i=t.parts.length:=by omega
   have F:Hid (deeps (t.parts.take i)=deeps t.parts):=Y1 (by rw[n,List.take_length]);have p:=deeps_take t.parts i;clear n;go_wp2;go_ret;exact ⟨by rw[F.out,y.out]; go_num,b.out.trans (f.mono b.out.size)⟩}
theorem Z8c {l:List Sh} {i m:Nat} (a:i < l.length) (h:1+sizes (l.take i)<=m):min (1+sizes (l.take i)) (m+1)+sizeTo (m - min (1+sizes (l.take i)) (m+1)) (l[i]'a)=min (1+sizes (l.take (i+1))) (m+1):=by
 rw[sizes_next a]; unfold sizeTo; omega
theorem Z5i (t:Sh): ∀(q:Ptr) (m:Nat) (w:World),ShAt w w.heap.size q t->m<=1000000->
 Calls Tryz.prog 59 #[.agg (Y8 t q),.int .i64 (m:Int)] w
  fun e w'=>e= .returned (.int .i64 (sizeTo m t:Int))/\Below w.heap.size w w':=by
 induction t using Sh.ind with
 | h t ih=>
 intro q m w u O;have J:=Y1 u.small.m;have K:=Y1 u.part;have B:Hid (size t=1+sizes t.parts):=Y1 (size_eq t);have D:=Z07 w t q;have y:=Y1 D;have hb0:=Z01 w (.cells (Y8 t q) 28);have a:=Y1 hb0;clear D hb0 u;go_enter Tryz.func59,Tryz.ntmps59
 go_wp2_with fail
 generalize hW0:w.alloc (.cells (Y8 t q) 28)=W0 at y a ⊢;clear hW0
 go_loopw [5,6] (fun nn ii wr=> ∃i:Nat,ii= .int .i64 i/\i<=t.parts.length/\nn= .int .i64 ((min (1+sizes (t.parts.take i)) (m+1):Nat):Int)/\Below W0.heap.size W0 wr) (fun _ i _=>t.parts.length - (intOf i).toNat)
 case atStart=>exact ⟨0,rfl,Nat.zero_le _,by rw[List.take_zero]; show Value.int .i64 1= .int .i64 ((min (1+0) (m+1):Nat):Int); rw[Nat.min_eq_left (by omega)]; rfl,Below.refl _ _⟩
 case round=>
  obtain ⟨i,rfl,W,rfl,f⟩:=hrel;have X:=J.out;obtain ⟨_,⟨_,_,_,_,c4⟩,_⟩:=y.out.next f;obtain ⟨n,c⟩: ∃n,n=min (1+sizes (t.parts.take i)) (m+1):=⟨_,rfl⟩;rw[<-c];have U:=Y1 c;have P:1<=n:=by omega
  have Q:n<=m+1:=by omega
  by_cases b:i < t.parts.length
  {have N: (i:Int) < (t.parts.length:Int):=by omega
   by_cases S:n<=m
   {rcases K.out with V | ⟨g,off,I,l,M,E,H⟩
    {omega}
    {have k:Below w.heap.size w wr:=a.out.trans (f.mono a.out.size);obtain ⟨x,o⟩: ∃x,x=t.parts[i]:=⟨_,rfl⟩;obtain ⟨p0,p1,p2,p3,p4⟩:=(E i b).keep M k;have j:ShAt wr wr.heap.size (I i) x:=by rw[o]; exact (H i b).next k
     have d:=ih t.parts[i] (List.getElem_mem _) (I i) (m - n) wr;have A:Hid (n+sizeTo (m - n) x=min (1+sizes (t.parts.take (i+1))) (m+1)):=Y1 (by rw[o,c]; exact Z8c b (by omega));rw[<-o] at p0 p1 p2 p3 p4 d;have r:=d j (by omega);rw[show ((m - n:Nat):Int)=(m:Int) - (n:Int) from by omega] at r;rw[l] at c4;have v:sizeTo (m - n) x<=m - n+1:=Nat.min_le_right _ _;have L:decide (n<=m)=true:=decide_eq_true (by omega);have C:decide (i < t.parts.length)=true:=decide_eq_true (by omega);have G: (n:Int)<=(m:Int):=by omega
     have F: (m:Int)<=1000000:=by omega
     generalize sizeTo (m - n) x=z at r A v;have T: (n:Int)+(z:Int)<=1000001:=by omega
     clear o E H j d ih l c
     go_wp2_with (refine r.mono ?_; rintro e w' ⟨rfl,s⟩)
     go_roundw
     case rel=>exact ⟨i+1,by go_num,by omega,by rw[<-A.out]; go_num,f.trans (s.mono f.size)⟩
     case measure=>simp[intOf]; omega}}
   {have p:Hid (n=sizeTo m t):=Y1 (by
     have:=sizes_take t.parts i;unfold sizeTo; have:=B.out; omega)
    have L:decide (n<=m)=false:=decide_eq_false (by omega);have C:decide (i < t.parts.length)=true:=decide_eq_true (by omega);clear c;go_wp2;go_ret;exact ⟨by rw[<-p.out]; rfl,a.out.trans (f.mono a.out.size)⟩}}
  {have p:Hid (n=sizeTo m t):=Y1 (by
    rw[show i=t.parts.length from by omega,List.take_length] at c;unfold sizeTo; have:=B.out; omega)
   have C:decide (i < t.parts.length)=false:=decide_eq_false (by omega);clear c;go_wp2;go_ret;exact ⟨by rw[<-p.out]; rfl,a.out.trans (f.mono a.out.size)⟩}
section
variable (t : Sh) (q : Ptr) (w : World) (hq : ShAt w w.heap.size q t)
include t q w hq
theorem Z8d (C: ¬(t.kind=9\/t.kind=10)):
 Calls Tryz.prog 100 #[.agg (Y8 t q)] w
  fun e w'=>e= .returned (.bool (fits t))/\Below w.heap.size w w':=by
 have y:=Y1 hq.small;have E:=Y1 hq.strs;have B:=Z07 w t q;have F:=Y1 B;have hb0:=Z01 w (.cells (Y8 t q) 28);have a:=Y1 hb0;have N: (t.kind==9)=false:=by rw[beq_eq_false_iff_ne]; omega
 have G: (t.kind==10)=false:=by rw[beq_eq_false_iff_ne]; omega
 have m:=Y1 C;clear B hb0 hq C;obtain ⟨_,⟨M,c1,c2,c3,c4⟩,_⟩:=F.out;cases j: (t.of_== [])
 {have b:=Y1 (Z0Z m.out (ZbV j));have s:=Z0H j;clear j;go_enter Tryz.func100,Tryz.ntmps100;go_wp2;go_ret;exact ⟨by rw[b.out]; rfl,a.out⟩}
 {have s:=Z0H j;cases k: (t.name== [])
  {have b:=Y1 (Z0Z m.out (Z9Z k));have r:=Z0H k;clear j k;go_enter Tryz.func100,Tryz.ntmps100;go_wp2;go_ret;exact ⟨by rw[b.out]; rfl,a.out⟩}
  {have r:=Z0H k;have d:Hid (bare t=true):=Y1 ((Z2p t).2 ⟨by simpa using j,by simpa using k⟩);clear j k;by_cases g:t.kind=6\/t.kind=7
   {have b:=Y1 (Z2o d.out g);have n: (t.kind==6)=true\/(t.kind==6)=false/\(t.kind==7)=true:=by rcases g with h | h <;> simp[h]
    have A:=(E.out.next a.out);have D:=fun W h=>Z7m q.A q.c t.names t.parts.length W h y.out.l y.out.ns;have K:=D _ A;clear g A D;rcases n with n | ⟨n,I⟩
    all_goals
     go_enter Tryz.func100,Tryz.ntmps100
     go_wp2_with fail
     refine K.mono ?_;rintro e w' ⟨rfl,p⟩;go_wp2;go_ret;exact ⟨by rw[b.out]; rfl,Z03 a.out p⟩}
   {have l:=Y1 g;have n: (t.kind==6)=false:=by rw[beq_eq_false_iff_ne]; omega
    have I: (t.kind==7)=false:=by rw[beq_eq_false_iff_ne]; omega
    clear g;by_cases u:0 < t.names.length
    {have b:=Y1 (Z1E m.out d.out l.out u);have v: (0:Int) < (t.names.length:Int):=by omega
     go_enter Tryz.func100,Tryz.ntmps100;go_wp2;go_ret;exact ⟨by rw[b.out]; rfl,a.out⟩}
    {have o:=Y1 u;have v: ¬(0:Int) < (t.names.length:Int):=by omega
     have L: ¬0 < t.names.length:=u;by_cases c:t.kind=8
     {have b:=Y1 (Z4B d.out c o.out);have J: (t.kind==8)=true:=by simp[c]
      clear c;go_enter Tryz.func100,Tryz.ntmps100;go_wp2;go_ret;exact ⟨Z0p (by rw[b.out,Bool.eq_iff_iff]; simp; try omega),a.out⟩}
     {have J: (t.kind==8)=false:=by rw[beq_eq_false_iff_ne]; omega
      by_cases i:t.kind=5
      {have b:=Y1 (Z3R d.out i o.out);have H: (t.kind==5)=true:=by simp[i]
       clear c i;go_enter Tryz.func100,Tryz.ntmps100;go_wp2;go_ret;exact ⟨Z0p (by rw[b.out,Bool.eq_iff_iff]; simp; try omega),a.out⟩}
      {have H: (t.kind==5)=false:=by rw[beq_eq_false_iff_ne]; omega
       have b:=Y1 (Z2C d.out m.out l.out o.out c i);clear c i;cases e1:decide (1<=t.kind)
       {have f:Hid (fits t=false):=Y1 (by rw[b.out,e1]; rfl);go_enter Tryz.func100,Tryz.ntmps100;go_wp2;go_ret;exact ⟨by rw[f.out]; rfl,a.out⟩}
       {cases z:decide (t.kind<=4)
        {have f:Hid (fits t=false):=Y1 (by rw[b.out,e1,z]; rfl);go_enter Tryz.func100,Tryz.ntmps100;go_wp2;go_ret;exact ⟨by rw[f.out]; rfl,a.out⟩}
        {have f:Hid (fits t=decide (t.parts.length=0)):=Y1 (by rw[b.out,e1,z]; rfl);go_enter Tryz.func100,Tryz.ntmps100;go_wp2;go_ret;exact ⟨Z0p (by rw[f.out,Bool.eq_iff_iff]; simp),a.out⟩}}}}}}}}
theorem Z9C:
 Calls Tryz.prog 100 #[.agg (Y8 t q)] w
  fun e w'=>e= .returned (.bool (fits t))/\Below w.heap.size w w':=by
 by_cases a:t.kind=9\/t.kind=10
 {exact Z7Z t q w hq a}
 {exact Z8d t q w hq a}
end
theorem Z8e (t:Sh): ∀(q:Ptr) (w:World),ShAt w w.heap.size q t->
 Calls Tryz.prog 61 #[.agg (Y8 t q)] w
  fun e w'=>e= .returned (.bool (right t))/\Below w.heap.size w w':=by
 induction t using Sh.ind with
 | h t y=>
 intro q w u;have M:=Y1 u.small.m;have O:=Y1 u.part;have L:Hid (right t=(fits t&&rights t.parts)):=Y1 (right_eq t);have H:=Z07 w t q;have D:=Y1 H;have hb0:=Z01 w (.cells (Y8 t q) 28);have k:=Y1 hb0;have r:=Z9C t q _ (u.next hb0);have S:=Y1 u;clear hb0 u;obtain ⟨_,⟨G,c1,c2,c3,c4⟩,_⟩:=H;have y:=y;cases b:fits t with
 | false=>
  have m:Hid (right t=false):=Y1 (by rw[L.out,b]; rfl);rw[b] at r;clear b y;go_enter Tryz.func61,Tryz.ntmps61
  go_wp2_with fail
  refine r.mono ?_;rintro e w' ⟨rfl,a⟩;go_wp2;go_ret;exact ⟨by rw[m.out]; rfl,Z03 k.out a⟩
 | true=>
  have C:=Y1 b;rw[b] at r;clear b;go_enter Tryz.func61,Tryz.ntmps61
  go_wp2_with fail
  refine r.mono ?_;rintro e W0 ⟨rfl,a⟩;have B:=Y1 (D.out.next a);have d:Hid (Below w.heap.size w W0):=Y1 (Z03 k.out a);clear r a G c1 c2 c3 c4 D k
  go_wp2_with fail
  go_loopw [3] (fun ii wr=> ∃i:Nat,ii= .int .i64 i/\i<=t.parts.length/\Hid (∀j (h:j < t.parts.length),j < i->right (t.parts[j]'h)=true)/\Below W0.heap.size W0 wr) (fun i _=>t.parts.length - (intOf i).toNat)
  case atStart=>exact ⟨0,rfl,Nat.zero_le _,Y1 (fun j _ hj=>absurd hj (by omega)),Below.refl _ _⟩
  case round=>
   obtain ⟨i,rfl,U,E,o⟩:=hrel;have V:=M.out;obtain ⟨_,⟨G,_,_,_,c4⟩,_⟩:=B.out.next o;by_cases s:i < t.parts.length
   {rcases O.out with T | ⟨g,off,K,v,P,I,J⟩
    {omega}
    {have f:Below w.heap.size w wr:=d.out.trans (o.mono d.out.size);obtain ⟨x,A⟩: ∃x,x=t.parts[i]:=⟨_,rfl⟩;obtain ⟨p0,p1,p2,p3,p4⟩:=(I i s).keep P f;have n:ShAt wr wr.heap.size (K i) x:=by rw[A]; exact (J i s).next f
     have l:=y t.parts[i] (List.getElem_mem _) (K i) wr;rw[<-A] at p0 p1 p2 p3 p4 l;have z:=l n;rw[v] at c4;have F:=Y1 A;clear A I J n l y v;have Q: (i:Int) < (t.parts.length:Int):=by omega
     cases c:right x with
     | false=>
      rw[c] at z;have m:Hid (right t=false):=Y1 (right_off (p:=x) (by rw[F.out]; exact List.getElem_mem _) c);clear c
      go_wp2_with (refine z.mono ?_; rintro e w' ⟨rfl,a⟩)
      go_ret;exact ⟨by rw[m.out]; rfl,f.trans (a.mono f.size)⟩
     | true=>
      rw[c] at z;have N:=Y1 c;clear c
      go_wp2_with (refine z.mono ?_; rintro e w' ⟨rfl,a⟩)
      go_roundw
      case rel=>exact ⟨i+1,by go_num,by omega,Y1 (fun j hj hji=>by
       rcases Nat.lt_succ_iff_lt_or_eq.1 hji with h | rfl
       {exact E.out j hj h}
       · rw[<-F.out]; exact N.out),o.trans (a.mono o.size)⟩
      case measure=>simp[intOf]; omega}}
   {have m:Hid (right t=true):=Y1 (right_on C.out (fun p hp=>by
     obtain ⟨j,hj,rfl⟩:=List.getElem_of_mem hp;exact E.out j hj (by omega)))
    go_wp2;go_ret;exact ⟨by rw[m.out]; rfl,d.out.trans (o.mono d.out.size)⟩}
theorem Z9D {t:Sh} (h:400 < size t):sizeTo 400 t=401:=by unfold sizeTo; omega
theorem Zb2 {t:Sh} (h: ¬400 < size t):sizeTo 400 t=size t:=by unfold sizeTo; omega
theorem Z2z (t:Sh) (q:Ptr) (w:World) (y:ShAt w w.heap.size q t):
 Calls Tryz.prog 33 #[.agg (Y8 t q)] w
  fun e w'=>e= .returned (.int .i64 (check t))/\Below w.heap.size w w':=by
 have A:=Z07 w t q;have C:=Y1 A;have hb0:=Z01 w (.cells (Y8 t q) 28);have j:=Y1 hb0;have i:=Z5i t q 400 _ (y.next hb0) (by omega);rw[show (((400:Nat):Int))=(400:Int) from rfl] at i;have z:=Y1 y;have u:Hid (check t=if 400 < size t then 3 else if 40 < deep t then 91 else if right t=false then 70 else 0):=Y1 rfl;clear hb0 y;obtain ⟨_,⟨r,c1,c2,c3,c4⟩,_⟩:=A;by_cases d:400 < size t
 {rw[Z9D d] at i;have h:Hid (check t=3):=Y1 (by rw[u.out,if_pos d]);clear d;go_enter Tryz.func33,Tryz.ntmps33
  go_wp2_with fail
  refine i.mono ?_;rintro e w' ⟨rfl,b⟩;go_wp2;go_ret;exact ⟨Z17 h.out.symm,Z03 j.out b⟩}
 {rw[Zb2 d] at i;have D: ¬(400:Int) < (size t:Int):=by omega
  have o:=deep_size t;go_enter Tryz.func33,Tryz.ntmps33
  go_wp2_with fail
  refine i.mono ?_;rintro e E ⟨rfl,f⟩;have a:=Z03 j.out f;have l:=Y1 a;have k:=Y1 (C.out.next f);have v:=Z9B t q E (z.out.next a) (by omega);clear i f a r c1 c2 c3 c4;obtain ⟨_,⟨r,c1,c2,c3,c4⟩,_⟩:=k.out;by_cases c:40 < deep t
  {have h:Hid (check t=91):=Y1 (by rw[u.out,if_neg d,if_pos c]);have n: (40:Int) < (deep t:Int):=by omega
   clear d c o
   go_wp2_with fail
   refine v.mono ?_;rintro e w' ⟨rfl,b⟩;go_wp2;go_ret;exact ⟨Z17 h.out.symm,Z03 l.out b⟩}
  {have n: ¬(40:Int) < (deep t:Int):=by omega
   have h:Hid (check t=if right t=false then 70 else 0):=Y1 (by rw[u.out,if_neg d,if_neg c]);clear d c o
   go_wp2_with fail
   refine v.mono ?_;rintro e F ⟨rfl,g⟩;have a:=Z03 l.out g;have m:=Y1 a;have s:=Y1 (k.out.next g);have B:=Z8e t q F (z.out.next a);clear v g a r c1 c2 c3 c4;obtain ⟨_,⟨r,c1,c2,c3,c4⟩,_⟩:=s.out;cases p:right t
   all_goals
    rw[p] at B h;clear p
    go_wp2_with fail
    refine B.mono ?_;rintro e w' ⟨rfl,b⟩;go_wp2;go_ret;exact ⟨Z17 (by rw[h.out]; rfl),Z03 m.out b⟩}}
end
section
open Go.RowKit Prs
open Shp (Sh)
section
variable (A : Option Addr) (c : Nat) (l : List Tk)
include A c l
theorem Znw (f:l.length<=100000) (d: ∀b∈l,b.t.text.length<=1000000): ∀n,ShOk A c l n:=by
 intro n;induction n using Nat.strongRecOn with
 | _ n ih=>
 intro i w t u h;obtain ⟨m,rfl⟩: ∃m,n=m+1:=⟨n - 1,by omega⟩;have s:=ih m (Nat.lt_succ_self m);have e: ∀k,k < m->ShOk A c l k:=fun k hk=>ih k (by omega);have g: ∀m j y,shp m l j= .ok y->y.2<=1000000:=fun m j y h=>by have:=(ZhZ h).2; omega
 have a: ∀m j y,j<=l.length->shp m l j= .ok y->j<=y.2/\y.2<=l.length:=fun m j y _ h=>by have:=ZhZ h; omega
 by_cases p: (Prs.look l i).t.kind=2
 {exact Znt A c l i m (by omega) (by omega) d p w h}
 {by_cases o: (Prs.look l i).t.kind=1
  {exact ZoM A c l i m (by omega) (by omega) d o w h}
  {by_cases q:sign l i [91]=true
   {exact ZoO A c l i m (by omega) (by omega) (by omega) s g q w h}
   {by_cases r:sign l i [123]=true
    {exact Zpz A c l i m (by omega) (by omega) (by omega) (Zin A c l m f d a e) r w h}
    {by_cases s3:sign l i [60]=true
     {exact ZpA A c l i m (by omega) (by omega) (by omega) (Zin A c l m f d a e) s3 w h}
     {by_cases s4:sign l i [40]=true
      {exact ZpB A c l i m (by omega) (by omega) (by omega) (Zqa A c l m f e) s4 w h}
      {refine Zq8 A c l i (m+1) (by omega) (by omega) ?_ w h;unfold noShp;simp[o,p,q,r,s3,s4]}}}}}}
theorem ZkE (i:Nat) (hl:l.length<=100000) (hx: ∀b∈l,b.t.text.length<=1000000) (hi:i<=l.length) (w:World) (h:Tks w w.heap.size A l):
 Calls Tryz.prog 20 #[.slice A l.length c,.int .i64 (i:Int)] w (DTy w (Prs.whole l i)):=by
 have HB:=Y1 (ZcH w);have HZ:=Y1 (Zd3 w);have HX:=Y1 (Zdg w);have HT:=Y1 (h.on (ZcH w));have a1:=Y1 (Znw A c l hl hx);clear h;go_enter Tryz.func20,Tryz.ntmps20
 go_wp2_with fail
 change Calls _ _ _ (aW w) _;obtain ⟨r,d4⟩: ∃r,r=w.heap.size+1:=⟨_,rfl⟩;rw[<-d4] at HX ⊢;have a6:w.heap.size≠r:=by omega
 have Y:Hid (w.heap.size<=r):=Y1 (by omega);generalize aW w=W0 at HB HZ HX HT ⊢;clear d4;have hC:=a1.out (2 * l.length+4) i W0 hi (by omega) HT.out;refine hC.mono ?_;rintro e g ⟨a,hd⟩;have N:=Y1 (Z03 HB.out a);have n:=Y1 (HZ.out.next a);have q:=Y1 (HX.out.next a);have T:=Y1 (HT.out.on a);have a7:=HZ.out.1;have d5:=HX.out.1;have f2:Hid (w.heap.size < W0.heap.size/\r < W0.heap.size):=Y1 ⟨a7,d5⟩;clear a HB HZ HX HT a7 d5;cases hr:shp (2 * l.length+4) l i with
 | error f=>
  rw[hr] at hd;obtain ⟨y,j,rfl,hf⟩:=hd;have D:Hid (Prs.whole l i= .error f):=Y1 (by unfold Prs.whole; rw[hr]; rfl);have e3: (f.1==0)=false:=by simpa using hf
  have HF:=Y1 hf;clear hf hr a1 hC;simp only[valS]
  go_wp2_with fail
  obtain ⟨H,B⟩: ∃H,H=g.heap.size:=⟨_,rfl⟩;obtain ⟨m,C⟩: ∃m,m=g.heap.size+1:=⟨_,rfl⟩;have M:=Z01 g (.cells (Y8 y.t y.q) 28);have o:=Z01 (g.alloc (.cells (Y8 y.t y.q) 28)) (.cells #[.int .i64 f.1,.int .i64 f.2] 31);have d:=Z03 M o;obtain ⟨k0,k1,k2,k3,k4,kf,kl⟩:=ZcK g (.int .i64 y.t.kind) (.string ⟨y.t.of_.toArray⟩) (.string ⟨y.t.name.toArray⟩) (.slice y.q.A y.t.names.length y.q.c) (.slice y.q.P y.t.parts.length y.q.d) 28;have I:=fun k=>o.cell (p:=⟨g.heap.size,k,none⟩) kl;have t:Hid (YV5 ((g.alloc (.cells (Y8 y.t y.q) 28)).alloc (.cells #[.int .i64 f.1,.int .i64 f.2] 31)) H y):=Y1 (by rw[B]; exact ⟨Nat.lt_of_lt_of_le kl o.size,(I 0).trans k0,(I 1).trans k1,(I 2).trans k2,(I 3).trans k3,(I 4).trans k4⟩);have u:Hid (Box2 ((g.alloc (.cells (Y8 y.t y.q) 28)).alloc (.cells #[.int .i64 f.1,.int .i64 f.2] 31)) m f.1 f.2):=Y1 (by
   have h:=ZcG (g.alloc (.cells (Y8 y.t y.q) 28)) f.1 f.2;rw[show (g.alloc (.cells (Y8 y.t y.q) 28)).heap.size=g.heap.size+1 by simp, <-C] at h;exact h)
  have s:=Y1 (Z03 N.out d);have G:=Y1 (n.out.next d);have E:=Y1 (q.out.next d);have K:=Y1 (T.out.on d);have l1:w.heap.size≠H:=by have:=n.out.1; omega
  have l2:r≠H:=by have:=q.out.1; omega
  have l3:w.heap.size≠m:=by have:=n.out.1; omega
  have l4:r≠m:=by have:=q.out.1; omega
  have l5:H≠m:=by omega
  have b7:Hid (w.heap.size<=m):=Y1 (by have:=n.out.1; omega);rw[<-C, <-B];clear M o d k0 k1 k2 k3 k4 kf kl I N n q T;clear B C;generalize (g.alloc (.cells (Y8 y.t y.q) 28)).alloc (.cells #[.int .i64 f.1,.int .i64 f.2] 31)=V4 at s G E K t u ⊢;obtain ⟨q0,⟨z0,z1,z2,z3,z4⟩,y0,y1,y2,y3,y4⟩:=G.out;obtain ⟨p0,x0,x1,v0,v1⟩:=E.out;obtain ⟨cl,c0,c1,c2,c3,c4⟩:=t.out;obtain ⟨U,f0,f1,_,_⟩:=u.out
  go_region
  all_goals go_wp2
  all_goals refine bodyPost_ret (v:= .tuple #[.agg (Y8 y.t y.q),.int .i64 j,.agg #[.int .i64 f.1,.int .i64 f.2]]) (by simp[results,Tryz.results20,go_sem,q0,z0,z1,z2,z3,z4,p0,x0,x1,a6]) rfl ?_
  all_goals
   rw[D.out];refine Zdo (f:=f) y _ HF.out (ZcL (F:= [w.heap.size,r]) s.out ?_ (fun b a=>by rcases (by simpa using a:b=w.heap.size\/b=r) with e | e <;> rw[e] <;> first | exact Nat.le_refl _ | exact Y.out) s.out.size)
   repeat' (with_reducible first | refine UpT.drew ?_ | refine UpT.alloc ?_ _ | refine UpT.set ?_ _ (Or.inr ?_) _ | exact UpT.refl _ _)
   all_goals simp
 | ok y=>
  rw[hr] at hd;obtain ⟨x9,rfl,ht,d6,a5⟩:=hd;have a0:=Y1 (And.intro ht a5);have Z:=Y1 d6;have D:Hid (Prs.whole l i=if Shp.check y.1=0 then .ok y else .error (Shp.check y.1,(Prs.look l i).at_)):=Y1 (by unfold Prs.whole; rw[hr]; rfl);clear ht a5 d6 hr a1 hC;simp only[valS]
  go_wp2_with fail
  obtain ⟨H,B⟩: ∃H,H=g.heap.size:=⟨_,rfl⟩;obtain ⟨m,C⟩: ∃m,m=g.heap.size+1:=⟨_,rfl⟩;have M:=Z01 g (.cells (Y8 x9.t x9.q) 28);have o:=Z01 (g.alloc (.cells (Y8 x9.t x9.q) 28)) (.cells Yc 31);have d:=Z03 M o;obtain ⟨k0,k1,k2,k3,k4,kf,kl⟩:=ZcK g (.int .i64 x9.t.kind) (.string ⟨x9.t.of_.toArray⟩) (.string ⟨x9.t.name.toArray⟩) (.slice x9.q.A x9.t.names.length x9.q.c) (.slice x9.q.P x9.t.parts.length x9.q.d) 28;have I:=fun k=>o.cell (p:=⟨g.heap.size,k,none⟩) kl;have t:Hid (YV5 ((g.alloc (.cells (Y8 x9.t x9.q) 28)).alloc (.cells Yc 31)) H x9):=Y1 (by rw[B]; exact ⟨Nat.lt_of_lt_of_le kl o.size,(I 0).trans k0,(I 1).trans k1,(I 2).trans k2,(I 3).trans k3,(I 4).trans k4⟩);have u:Hid (Box2 ((g.alloc (.cells (Y8 x9.t x9.q) 28)).alloc (.cells Yc 31)) m 0 0):=Y1 (by
   have h:=ZcG (g.alloc (.cells (Y8 x9.t x9.q) 28)) 0 0;rw[show (g.alloc (.cells (Y8 x9.t x9.q) 28)).heap.size=g.heap.size+1 by simp, <-C] at h;exact h)
  have s:=Y1 (Z03 N.out d);have G:=Y1 (n.out.next d);have E:=Y1 (q.out.next d);have K:=Y1 (T.out.on d);have S:=Y1 (show x9.Is _ from New.below Z.out d);have f6:Hid (x9.hi<=m):=Y1 (by have:=Z.out.hi_; omega);have l1:w.heap.size≠H:=by have:=n.out.1; omega
  have l2:r≠H:=by have:=q.out.1; omega
  have l3:w.heap.size≠m:=by have:=n.out.1; omega
  have l4:r≠m:=by have:=q.out.1; omega
  have l5:H≠m:=by omega
  have b7:Hid (w.heap.size<=m):=Y1 (by have:=n.out.1; omega);rw[<-C, <-B];clear Z M o d k0 k1 k2 k3 k4 kf kl I N n q T;clear B C;generalize (g.alloc (.cells (Y8 x9.t x9.q) 28)).alloc (.cells Yc 31)=V4 at s G E K t u S ⊢;obtain ⟨cl,c0,c1,c2,c3,c4⟩:=t.out;obtain ⟨U,f0,f1,u0,u1⟩:=u.out;have hN:=Z2z x9.t x9.q V4 (New.here S.out)
  go_wp2_with fail
  refine hN.mono ?_;rintro e V5 ⟨rfl,a⟩;have O:=Y1 (Z03 s.out a);have a3:=Y1 (G.out.next a);have a2:=Y1 (E.out.next a);have P:=Y1 (t.out.next a);have Q:=Y1 (u.out.next a);have c8:=Y1 (K.out.on a);have b9:=Y1 (show x9.Is V5 from New.below S.out a);clear hN a s G E K t u S cl c0 c1 c2 c3 c4 U f0 f1 u0 u1;obtain ⟨cl,c0,c1,c2,c3,c4⟩:=P.out;obtain ⟨U,f0,f1,u0,u1⟩:=Q.out;by_cases z:Shp.check x9.t=0
  {have e4: (Shp.check x9.t !=0)=false:=by simp[z]
   have J:Hid (Prs.whole l i= .ok y):=Y1 (by rw[D.out, <-a0.out.1,if_pos z]);clear z D
   go_wp2_with fail
   obtain ⟨q0,⟨z0,z1,z2,z3,z4⟩,y0,y1,y2,y3,y4⟩:=a3.out;obtain ⟨p0,x0,x1,v0,v1⟩:=a2.out;obtain ⟨cl,c0,c1,c2,c3,c4⟩:=P.out;obtain ⟨U,f0,f1,_,_⟩:=Q.out
   go_region
   all_goals go_wp2
   all_goals refine bodyPost_ret (v:= .tuple #[.agg (Y8 x9.t x9.q),.int .i64 (y.2:Int),.agg #[.int .i64 0,.int .i64 0]]) (by simp[results,Tryz.results20,go_sem,q0,z0,z1,z2,z3,z4,p0,x0,x1,a6]) rfl ?_
   all_goals
    rw[J.out];have a7:=f2.out;obtain ⟨ht,a5⟩:=a0.out;refine ⟨ZcL (F:= [w.heap.size,r]) O.out ?_ (fun b a=>by rcases (by simpa using a:b=w.heap.size\/b=r) with e | e <;> rw[e] <;> first | exact Nat.le_refl _ | exact Y.out) O.out.size,x9,rfl,ht,New.up (F:= [w.heap.size,r]) b9.out ?_ (fun b a=>by rcases (by simpa using a:b=w.heap.size\/b=r) with e | e <;> omega),by omega⟩
    repeat' (with_reducible first | refine UpT.drew ?_ | refine UpT.alloc ?_ _ | refine UpT.set ?_ _ (Or.inr ?_) _ | exact UpT.refl _ _)
    all_goals simp}
  {have e4: (Shp.check x9.t !=0)=true:=by simpa using z
   have J:Hid (Prs.whole l i= .error (Shp.check x9.t,(Prs.look l i).at_)):=Y1 (by rw[D.out, <-a0.out.1,if_neg z]);have HF:Hid ((Shp.check x9.t,(Prs.look l i).at_).1≠0):=Y1 z;obtain ⟨ck,V⟩: ∃k,k=Shp.check x9.t:=⟨_,rfl⟩;obtain ⟨x,d7⟩: ∃x,x=Prs.look l i:=⟨_,rfl⟩;have a4:=ZcY A c l i (by omega) (by omega) V5 c8.out;rw[<-V] at e4 J HF ⊢;rw[<-d7] at J HF a4;clear z D V d7
   go_wp2_with fail
   refine a4.mono ?_;rintro e V6 ⟨rfl,a⟩;have W:=Y1 (Z03 O.out a);have d2:=Y1 (a3.out.next a);have d0:=Y1 (a2.out.next a);have b3:=Y1 (P.out.next a);have b8:=Y1 (Q.out.next a);clear a4 a O a3 a2 P Q c8 b9 cl c0 c1 c2 c3 c4 U f0 f1 u0 u1;obtain ⟨U,f0,f1,u0,u1⟩:=b8.out;have hp:=ZdX x.t.kind ⟨x.t.text.toArray⟩ x.at_
   go_wp2_with fail
   clear hp;have L:UpT [m] V6 ((V6.setCell ⟨m,0,none⟩ (.int .i64 ck)).setCell ⟨m,1,none⟩ (.int .i64 x.at_)):=((UpT.refl _ _).set _ (Or.inr (by simp)) _).set _ (Or.inr (by simp)) _;have X:=Y1 (ZcL W.out L (fun b a=>by simp at a; rw[a]; exact b7.out) W.out.size);have b6:Hid (Box2 ((V6.setCell ⟨m,0,none⟩ (.int .i64 ck)).setCell ⟨m,1,none⟩ (.int .i64 x.at_)) m ck x.at_):=Y1 ⟨by simpa[World.setCell] using U,by simp[go_sem,f0,f1],by simp[go_sem,f0,f1],by simp[go_sem,u0],by simp[go_sem,u1]⟩;have d3:=Y1 (d2.out.upT L (by simpa using l3));have d1:=Y1 (d0.out.upT L (by simpa using l4));have b4:=Y1 (b3.out.upT L (by simpa using l5));clear L W d2 d0 b3 b8 U f0 f1 u0 u1;generalize ((V6.setCell ⟨m,0,none⟩ (.int .i64 ck)).setCell ⟨m,1,none⟩ (.int .i64 x.at_))=V7 at X d3 d1 b4 b6 ⊢;obtain ⟨q0,⟨z0,z1,z2,z3,z4⟩,y0,y1,y2,y3,y4⟩:=d3.out;obtain ⟨p0,x0,x1,v0,v1⟩:=d1.out;obtain ⟨cl,c0,c1,c2,c3,c4⟩:=b4.out;obtain ⟨U,f0,f1,_,_⟩:=b6.out
   go_region
   all_goals go_wp2
   all_goals refine bodyPost_ret (v:= .tuple #[.agg (Y8 x9.t x9.q),.int .i64 (y.2:Int),.agg #[.int .i64 ck,.int .i64 x.at_]]) (by simp[results,Tryz.results20,go_sem,q0,z0,z1,z2,z3,z4,p0,x0,x1,a6]) rfl ?_
   all_goals
    rw[J.out];refine Zdo (f:=(ck,x.at_)) x9 _ HF.out (ZcL (F:= [w.heap.size,r]) X.out ?_ (fun b a=>by rcases (by simpa using a:b=w.heap.size\/b=r) with e | e <;> rw[e] <;> first | exact Nat.le_refl _ | exact Y.out) X.out.size)
    repeat' (with_reducible first | refine UpT.drew ?_ | refine UpT.alloc ?_ _ | refine UpT.set ?_ _ (Or.inr ?_) _ | exact UpT.refl _ _)
    all_goals simp}
end
theorem Zm6 {l:List Tk} {a:Int} {f:Flt} (h:opened l a= .error f):f.1≠0:=by
 unfold opened at h;split at h
 {obtain rfl:=Except.error.inj h; show (2:Int)≠0; decide}
 {split at h
  {obtain rfl:=Except.error.inj h; show (3:Int)≠0; decide}
  {cases h}}
theorem Znx {l:List Tk} {a:Int} {i:Nat} (h:opened l a= .ok i):a=(i:Int)/\i<=l.length/\l.length<=4097:=by
 unfold opened at h;split at h
 {cases h}
 {next h1=>
  split at h
  {cases h}
  {next h2=>obtain rfl:=Except.ok.inj h; omega}}
theorem Zm7 (A:Option Addr) (c:Nat) (l:List Tk) (a:Int) (hl:l.length<=100000) (hx: ∀b∈l,b.t.text.length<=1000000) (w:World) (h:Tks w w.heap.size A l):
 Calls Tryz.prog 9 #[.slice A l.length c,.int .i64 a] w (TyOut (Prs.type l a) w):=by
 have HB:=Y1 (ZcH w);have HZ:=Y1 (Zd3 w);have HX:=Y1 (Zdg w);have HT:=Y1 (h.on (ZcH w));have e2:=Y1 hx;clear h;go_enter Tryz.func9,Tryz.ntmps9
 go_wp2_with fail
 change Calls _ _ _ (aW w) _;obtain ⟨r,b4⟩: ∃r,r=w.heap.size+1:=⟨_,rfl⟩;rw[<-b4] at HX ⊢;have a5:w.heap.size≠r:=by omega
 have Y:Hid (w.heap.size<=r):=Y1 (by omega);generalize aW w=W0 at HB HZ HX HT ⊢;clear b4;have hO:=Zlr A c l a (by omega) W0;refine hO.mono ?_;rintro e J ⟨rfl,g⟩;have P:=Y1 (Z03 HB.out g);have C:=Y1 (HZ.out.next g);have I:=Y1 (HX.out.next g);have a1:=Y1 (HT.out.on g);have a6:=HZ.out.1;have b5:=HX.out.1;have g7:Hid (w.heap.size < W0.heap.size/\r < W0.heap.size):=Y1 ⟨a6,b5⟩;clear g HB HZ HX HT a6 b5;clear hO;cases ho:opened l a with
 | error f=>
  have H:Hid (Prs.type l a= .error f):=Y1 (by unfold Prs.type; rw[ho]; rfl);have e1: (f.1 !=0)=true:=by simpa using Zm6 ho
  simp only[openV];clear ho
  go_wp2_with fail
  have k:=Z01 J (.cells #[.int .i64 f.1,.int .i64 f.2] 31);have t:=Y1 (Z03 P.out k);have D:=Y1 (C.out.next k);have B:=Y1 (I.out.next k);have s:=Y1 (ZcG J f.1 f.2);have l3:w.heap.size≠J.heap.size:=by have:=C.out.1; omega
  have l4:r≠J.heap.size:=by have:=I.out.1; omega
  clear k P C I a1;generalize J.alloc (.cells #[.int .i64 f.1,.int .i64 f.2] 31)=V4 at t D B s ⊢;obtain ⟨q0,⟨z0,z1,z2,z3,z4⟩,y0,y1,y2,y3,y4⟩:=D.out;obtain ⟨p0,x0,x1,v0,v1⟩:=B.out;obtain ⟨fl,T,U,_,_⟩:=s.out
  go_region
  all_goals go_wp2
  all_goals refine bodyPost_ret (v:= .tuple #[.agg #[.int .i64 0,.string ⟨#[]⟩,.string ⟨#[]⟩,.slice none 0 0,.slice none 0 0],.int .i64 0,.agg #[.int .i64 f.1,.int .i64 f.2]]) (by simp[results,Tryz.results9,go_sem,q0,z0,z1,z2,z3,z4,p0,x0,x1,a5]) rfl ?_
  all_goals
   rw[H.out];refine ⟨ZcL (F:= [w.heap.size,r]) t.out ?_ (fun b g=>by rcases (by simpa using g:b=w.heap.size\/b=r) with e | e <;> rw[e] <;> first | exact Nat.le_refl _ | exact Y.out) t.out.size,rfl⟩
   repeat' (with_reducible first | refine UpT.drew ?_ | refine UpT.alloc ?_ _ | refine UpT.set ?_ _ (Or.inr ?_) _ | exact UpT.refl _ _)
   all_goals simp
 | ok i=>
  obtain ⟨rfl,hi,h1⟩:=Znx ho;have H:Hid (Prs.type l (i:Int)=Prs.whole l i):=Y1 (by unfold Prs.type; rw[ho]; rfl);simp only[openV];clear ho
  go_wp2_with fail
  have k:=Z01 J (.cells Yc 31);have t:=Y1 (Z03 P.out k);have D:=Y1 (C.out.next k);have B:=Y1 (I.out.next k);have a2:=Y1 (a1.out.on k);have s:=Y1 (ZcG J 0 0);have l3:w.heap.size≠J.heap.size:=by have:=C.out.1; omega
  have l4:r≠J.heap.size:=by have:=I.out.1; omega
  have Z:Hid (w.heap.size<=J.heap.size):=Y1 (by have:=C.out.1; omega);clear k P C I a1;obtain ⟨d,b6⟩: ∃d,d=J.heap.size:=⟨_,rfl⟩;rw[<-b6] at s l3 l4 Z ⊢;generalize J.alloc (.cells Yc 31)=V4 at t D B a2 s ⊢;clear b6;have hW:=ZkE A c l i hl e2.out hi V4 a2.out;refine hW.mono ?_;rintro e K ⟨g,hd⟩;have G:=Y1 (Z03 t.out g);have S:=Y1 (D.out.next g);have Q:=Y1 (B.out.next g);have X:=Y1 (s.out.next g);have b1:Hid (w.heap.size < V4.heap.size/\r < V4.heap.size/\d < V4.heap.size):=Y1 ⟨D.out.1,B.out.1,s.out.1⟩;clear hW g t D B a2 s;obtain ⟨fl,T,U,u0,u1⟩:=X.out;cases hr:Prs.whole l i with
  | error f=>
   rw[hr] at hd;obtain ⟨y,j,rfl,hf⟩:=hd;have e1: (f.1 !=0)=true:=by simpa using hf
   have W:Hid (Prs.type l (i:Int)= .error f):=Y1 (by rw[H.out,hr]);clear hr hf H;simp only[valS]
   go_wp2_with fail
   have n:UpT [d] K ((K.setCell ⟨d,0,none⟩ (.int .i64 f.1)).setCell ⟨d,1,none⟩ (.int .i64 f.2)):=((UpT.refl _ _).set _ (Or.inr (by simp)) _).set _ (Or.inr (by simp)) _;have E: ((K.setCell ⟨d,0,none⟩ (.int .i64 f.1)).setCell ⟨d,1,none⟩ (.int .i64 f.2)).heap.size=K.heap.size:=by simp[World.setCell]
   have u:=Y1 (ZcL G.out n (fun b g=>by simp at g; rw[g]; exact Z.out) G.out.size);have o:Hid (Box2 ((K.setCell ⟨d,0,none⟩ (.int .i64 f.1)).setCell ⟨d,1,none⟩ (.int .i64 f.2)) d f.1 f.2):=Y1 ⟨by simpa[World.setCell] using fl,by simp[go_sem,T,U],by simp[go_sem,T,U],by simp[go_sem,u0],by simp[go_sem,u1]⟩;have q:=Y1 (S.out.upT n (by simpa using l3));have p:=Y1 (Q.out.upT n (by simpa using l4));rw[<-E];clear n G S Q X fl T U u0 u1;generalize ((K.setCell ⟨d,0,none⟩ (.int .i64 f.1)).setCell ⟨d,1,none⟩ (.int .i64 f.2))=V6 at u q p o E ⊢;have k:=Z01 V6 (.cells (Y8 y.t y.q) 28);have z:=Y1 (Z03 u.out k);have N:=Y1 (q.out.next k);have M:=Y1 (p.out.next k);have L:=Y1 (o.out.next k);have m1:w.heap.size≠V6.heap.size:=by have:=q.out.1; omega
   have m2:r≠V6.heap.size:=by have:=p.out.1; omega
   have m3:d≠V6.heap.size:=by have:=o.out.1; omega
   clear k E u q p o;obtain ⟨g1,O⟩: ∃g1,g1=V6.heap.size:=⟨_,rfl⟩;rw[<-O] at m1 m2 m3 ⊢;generalize V6.alloc (.cells (Y8 y.t y.q) 28)=V7 at z N M L ⊢;clear O;obtain ⟨q0,⟨z0,z1,z2,z3,z4⟩,y0,y1,y2,y3,y4⟩:=N.out;obtain ⟨p0,x0,x1,v0,v1⟩:=M.out;obtain ⟨fl,T,U,_,_⟩:=L.out
   go_region
   all_goals go_wp2
   all_goals refine bodyPost_ret (v:= .tuple #[.agg #[.int .i64 0,.string ⟨#[]⟩,.string ⟨#[]⟩,.slice none 0 0,.slice none 0 0],.int .i64 0,.agg #[.int .i64 f.1,.int .i64 f.2]]) (by simp[results,Tryz.results9,go_sem,q0,z0,z1,z2,z3,z4,p0,x0,x1,a5]) rfl ?_
   all_goals
    rw[W.out];refine ⟨ZcL (F:= [w.heap.size,r]) z.out ?_ (fun b g=>by rcases (by simpa using g:b=w.heap.size\/b=r) with e | e <;> rw[e] <;> first | exact Nat.le_refl _ | exact Y.out) z.out.size,rfl⟩
    repeat' (with_reducible first | refine UpT.drew ?_ | refine UpT.alloc ?_ _ | refine UpT.set ?_ _ (Or.inr ?_) _ | exact UpT.refl _ _)
    all_goals simp
  | ok y=>
   rw[hr] at hd;obtain ⟨m,rfl,ht,b7,a4⟩:=hd;have W:Hid (Prs.type l (i:Int)= .ok y):=Y1 (by rw[H.out,hr]);have b0:=Y1 (And.intro ht a4);have e0:=Y1 b7;clear hr ht b7 a4 H;simp only[valS]
   go_wp2_with fail
   have n:UpT [d] K ((K.setCell ⟨d,0,none⟩ (.int .i64 0)).setCell ⟨d,1,none⟩ (.int .i64 0)):=((UpT.refl _ _).set _ (Or.inr (by simp)) _).set _ (Or.inr (by simp)) _;have E: ((K.setCell ⟨d,0,none⟩ (.int .i64 0)).setCell ⟨d,1,none⟩ (.int .i64 0)).heap.size=K.heap.size:=by simp[World.setCell]
   have u:=Y1 (ZcL G.out n (fun b g=>by simp at g; rw[g]; exact Z.out) G.out.size);have o:Hid (Box2 ((K.setCell ⟨d,0,none⟩ (.int .i64 0)).setCell ⟨d,1,none⟩ (.int .i64 0)) d 0 0):=Y1 ⟨by simpa[World.setCell] using fl,by simp[go_sem,T,U],by simp[go_sem,T,U],by simp[go_sem,u0],by simp[go_sem,u1]⟩;have q:=Y1 (S.out.upT n (by simpa using l3));have p:=Y1 (Q.out.upT n (by simpa using l4));have a0:=Y1 (show m.Is _ from New.up e0.out n (by have:=b1.out; have:=b0.out.2; simp; omega));rw[<-E];clear n G S Q X fl T U u0 u1;generalize ((K.setCell ⟨d,0,none⟩ (.int .i64 0)).setCell ⟨d,1,none⟩ (.int .i64 0))=V6 at u q p o E a0 ⊢;have k:=Z01 V6 (.cells (Y8 m.t m.q) 28);have z:=Y1 (Z03 u.out k);have N:=Y1 (q.out.next k);have M:=Y1 (p.out.next k);have L:=Y1 (o.out.next k);have m1:w.heap.size≠V6.heap.size:=by have:=q.out.1; omega
   have m2:r≠V6.heap.size:=by have:=p.out.1; omega
   have m3:d≠V6.heap.size:=by have:=o.out.1; omega
   obtain ⟨k0,k1,k2,k3,k4,kf,kl⟩:=ZcK V6 (.int .i64 m.t.kind) (.string ⟨m.t.of_.toArray⟩) (.string ⟨m.t.name.toArray⟩) (.slice m.q.A m.t.names.length m.q.c) (.slice m.q.P m.t.parts.length m.q.d) 28;have V:Hid (YV5 (V6.alloc (.cells (Y8 m.t m.q) 28)) V6.heap.size m):=Y1 ⟨kl,k0,k1,k2,k3,k4⟩;have a9:=Y1 (show m.Is (V6.alloc (.cells (Y8 m.t m.q) 28)) from New.below a0.out k);clear k0 k1 k2 k3 k4 kf kl a0;clear k E u q p o;obtain ⟨g1,O⟩: ∃g1,g1=V6.heap.size:=⟨_,rfl⟩;rw[<-O] at m1 m2 m3 V ⊢;generalize V6.alloc (.cells (Y8 m.t m.q) 28)=V7 at z N M L V a9 ⊢;clear O;obtain ⟨q0,⟨z0,z1,z2,z3,z4⟩,y0,y1,y2,y3,y4⟩:=N.out;obtain ⟨p0,x0,x1,v0,v1⟩:=M.out;obtain ⟨cl,c0,c1,c2,c3,c4⟩:=V.out;obtain ⟨fl,T,U,_,_⟩:=L.out
   go_region
   all_goals go_wp2
   all_goals refine bodyPost_ret (v:= .tuple #[.agg (Y8 m.t m.q),.int .i64 (y.2:Int),.agg #[.int .i64 0,.int .i64 0]]) (by simp[results,Tryz.results9,go_sem,q0,z0,z1,z2,z3,z4,p0,x0,x1,a5]) rfl ?_
   all_goals
    rw[W.out];have a6:=b1.out;obtain ⟨ht,a4⟩:=b0.out;refine ⟨ZcL (F:= [w.heap.size,r]) z.out ?_ (fun b g=>by rcases (by simpa using g:b=w.heap.size\/b=r) with e | e <;> rw[e] <;> first | exact Nat.le_refl _ | exact Y.out) z.out.size,m,rfl,New.up (F:= [w.heap.size,r]) a9.out ?_ (fun b g=>by rcases (by simpa using g:b=w.heap.size\/b=r) with e | e <;> omega),by omega,ht⟩
    repeat' (with_reducible first | refine UpT.drew ?_ | refine UpT.alloc ?_ _ | refine UpT.set ?_ _ (Or.inr ?_) _ | exact UpT.refl _ _)
    all_goals simp
end
end Go.Proofs.YtgndehppmaacaaaGreatDoor
