/- SubtypeLeast: the join is over both, and below each that is; for all values that the row lets in, with the program's variable laid as its text lays it. -/
import Derived.Test.YtlomianlcnmfgaaDoorTie
import Derived.Test.YtlomianlcnmfgaaDoorCards
import Derived.LaidMore
import Derived.Lay
import Derived.Test.YtlomianlcnmfgaaDoorK7n0
set_option linter.unusedVariables false
set_option linter.unusedSimpArgs false
set_option linter.unusedSectionVars false
set_option maxRecDepth 100000
set_option maxHeartbeats 16000000
namespace Sub
section
open Shp Go.Proofs.YtlomianlcnmfgaaDoor
theorem Z5n {a b j:Sh} (h:J true a b=some j):below a j=true/\below b j=true:=by
 have hi:=J_is h;exact ⟨(Z0g hi.ca hi.cj).2 hi.l,(Z0g hi.cb hi.cj).2 hi.m⟩
theorem Z8B {a b c j:Sh} (h:J true a b=some j) (h1:below a c=true) (h2:below b c=true):below j c=true:=by
 have hi:=J_is h;obtain ⟨_,cc⟩:=Z1q h1;exact (Z0g hi.cj cc).2 (Z7O h ((Z0g hi.ca cc).1 h1) ((Z0g hi.cb cc).1 h2))
theorem Z8C {a b c:Sh} (h:J true a b=none) (h1:below a c=true) (h2:below b c=true):smallB a b=false:=by
 cases hs:smallB a b with
 | false=>rfl
 | true=>
  obtain ⟨ca,cb,sa,sb⟩:=Z6c hs;obtain ⟨_,cc⟩:=Z1q h1;obtain ⟨j,hj⟩:=Z7P ca cb sa sb ((Z0g ca cc).1 h1) ((Z0g cb cc).1 h2);rw[h] at hj; cases hj
end
end Sub
namespace Go.Proofs.YtlomianlcnmfgaaDoor
open Go.RowKit Shp Sub
namespace SubM
theorem subLeast_walk (a:Sh) (pa:Ptr) (b:Sh) (pb:Ptr) (c:Sh) (pc:Ptr) (w:World) (ha:ShAt w w.heap.size pa a) (hb:ShAt w w.heap.size pb b) (hc:ShAt w w.heap.size pc c) (hg:WGlobs w):
 Y9 5 #[.agg (Y8 a pa),.agg (Y8 b pb),.agg (Y8 c pc)] w (.bool true):=by
 have hx1:=Z02 w (.cells (Y8 a pa) 25);obtain ⟨u1,hu1⟩: ∃u1,w.alloc (.cells (Y8 a pa) 25)=u1:=⟨_,rfl⟩;have hs1:u1.heap.size=w.heap.size+1:=by rw[<-hu1]; simp
 have hy1:=Z03 w a pa;rw[hu1] at hx1 hy1;have hx2:=Z02 u1 (.cells (Y8 b pb) 25);obtain ⟨u2,hu2⟩: ∃u2,u1.alloc (.cells (Y8 b pb) 25)=u2:=⟨_,rfl⟩;have hs2:u2.heap.size=w.heap.size+1+1:=by rw[<-hu2]; simp[hs1]
 have hy2:=Z03 u1 b pb;rw[hu2] at hx2 hy2;have hx3:=Z02 u2 (.cells (Y8 c pc) 25);obtain ⟨u3,hu3⟩: ∃u3,u2.alloc (.cells (Y8 c pc) 25)=u3:=⟨_,rfl⟩;have hy3:=Z03 u2 c pc;rw[hu3] at hx3 hy3;rw[hs1] at hy2;rw[hs2] at hy3;have hb23:=Z00 hx2 hx3;have hb13:=Z00 hx1 hb23;have hA:=(hy1.next hb23);have hB:=(hy2.next hx3);have HJ:=Y1 (Z1t a b pa pb u3 (ha.next hb13) (hb.next hb13) (hg.next hb13));unfold sv at HJ;obtain ⟨_,⟨a0,a1,a2,a3,a4⟩,_⟩:=hA;obtain ⟨_,⟨b0,b1,b2,b3,b4⟩,_⟩:=hB;simp only[Nat.zero_add] at a0 a1 a2 a3 a4 b0 b1 b2 b3 b4;have KX:=Y1 (And.intro (hy1.next hb23) (And.intro (hy2.next hx3) hy3));have KA:=Y1 (And.intro (ha.next hb13) (And.intro (hb.next hb13) (hc.next hb13)));have KG:=Y1 (hg.next hb13);have KB:=Y1 hb13;clear hx1 hx2 hx3 hy1 hy2 hy3 hb23 hb13 ha hb hc hg;go_enter Tryd.func5,Tryd.ntmps5
 go_wp2_with fail
 refine HJ.out.mono ?_;clear hs1 hs2 hu1 hu2 hu3 a0 a1 a2 a3 a4 b0 b1 b2 b3 b4 HJ;rintro e w0 hj;cases hJ:J true a b with
 | none=>
  obtain ⟨q,he,hb1⟩: ∃q:Ptr,e= .returned (.tuple #[.agg #[.int .i64 0,.string ⟨#[]⟩,.string ⟨#[]⟩,.slice q.A 0 q.c,.slice q.P 0 q.d],.bool false])/\Below u3.heap.size u3 w0:=by
   obtain ⟨q,h1, -,h2⟩:=hj;rw[hJ] at h1;exact ⟨q,h1,h2⟩
  subst he;have HJ:=Y1 hJ;have hb2:=Z02 w0 (.cells #[.int .i64 0,.string ⟨#[]⟩,.string ⟨#[]⟩,.slice q.A 0 q.c,.slice q.P 0 q.d] 25);have hbb:=Z00 hb1 hb2;have HXa:=Y1 (KX.out.1.next hbb);have HXb:=Y1 (KX.out.2.1.next hbb);have HXc:=Y1 (KX.out.2.2.next hbb);have HAa:=Y1 (KA.out.1.next hbb);have HAb:=Y1 (KA.out.2.1.next hbb);have HAc:=Y1 (KA.out.2.2.next hbb);have HG:=Y1 (KG.out.next hbb);have HB1:=Y1 (Z00 KB.out hbb);clear hj hb1 hb2 hbb KX KA KG KB hJ;obtain ⟨W1,hW1⟩: ∃W1,w0.alloc (.cells #[.int .i64 0,.string ⟨#[]⟩,.string ⟨#[]⟩,.slice q.A 0 q.c,.slice q.P 0 q.d] 25)=W1:=⟨_,rfl⟩;rw[hW1] at HXa HXb HXc HAa HAb HAc HG HB1;have HB:=Y1 (Below.refl W1.heap.size W1);obtain ⟨_,⟨a0,a1,a2,a3,a4⟩,_⟩:=HXa.out.next HB.out;simp only[Nat.zero_add] at a0 a1 a2 a3 a4;obtain ⟨_,⟨c0,c1,c2,c3,c4⟩,_⟩:=HXc.out.next HB.out;simp only[Nat.zero_add] at c0 c1 c2 c3 c4;have HU:=Y1 (Z07 a c pa pc _ (HAa.out.next HB.out) (HAc.out.next HB.out) (HG.out.next HB.out));unfold sv at HU
  go_wp2_with fail
  refine HU.out.mono ?_;rintro e w1 ⟨rfl,hb1⟩;have HB:=Y1 (Z00 HB.out hb1);clear hb1 a0 a1 a2 a3 a4 c0 c1 c2 c3 c4 HU;clear hW1;cases h1:Sub.below a c with
  | false=>
   clear h1
   go_wp2_with fail
   refine (Z0a _ (HG.out.next HB.out)).mono ?_;rintro e w2 ⟨rfl,hb1⟩;have HB:=Y1 (Z00 HB1.out (Z00 HB.out hb1));clear hb1;go_wp2;go_ret;exact ⟨rfl,HB.out⟩
  | true=>
   have H1:=Y1 h1;clear h1;obtain ⟨_,⟨b0,b1,b2,b3,b4⟩,_⟩:=HXb.out.next HB.out;simp only[Nat.zero_add] at b0 b1 b2 b3 b4;obtain ⟨_,⟨c0,c1,c2,c3,c4⟩,_⟩:=HXc.out.next HB.out;simp only[Nat.zero_add] at c0 c1 c2 c3 c4;have HU:=Y1 (Z07 b c pb pc _ (HAb.out.next HB.out) (HAc.out.next HB.out) (HG.out.next HB.out));unfold sv at HU
   go_wp2_with fail
   refine HU.out.mono ?_;rintro e w3 ⟨rfl,hb1⟩;have HB:=Y1 (Z00 HB.out hb1);clear hb1 b0 b1 b2 b3 b4 c0 c1 c2 c3 c4 HU;cases h1:Sub.below b c with
   | false=>
    clear h1
    go_wp2_with fail
    refine (Z0a _ (HG.out.next HB.out)).mono ?_;rintro e w4 ⟨rfl,hb1⟩;have HB:=Y1 (Z00 HB1.out (Z00 HB.out hb1));clear hb1;go_wp2;go_ret;exact ⟨rfl,HB.out⟩
   | true=>
    have H2:=Y1 h1;clear h1;obtain ⟨_,⟨a0,a1,a2,a3,a4⟩,_⟩:=HXa.out.next HB.out;simp only[Nat.zero_add] at a0 a1 a2 a3 a4;obtain ⟨_,⟨b0,b1,b2,b3,b4⟩,_⟩:=HXb.out.next HB.out;simp only[Nat.zero_add] at b0 b1 b2 b3 b4;have HU:=Y1 (Z44 a b pa pb _ (HAa.out.next HB.out) (HAb.out.next HB.out) (HG.out.next HB.out));rw[Z8C HJ.out H1.out H2.out] at HU
    go_wp2_with fail
    refine HU.out.mono ?_;rintro e w5 ⟨rfl,hb1⟩;have HB:=Y1 (Z00 HB.out hb1);clear hb1 HU a0 a1 a2 a3 a4 b0 b1 b2 b3 b4
    go_wp2_with fail
    refine (Z0a _ (HG.out.next HB.out)).mono ?_;rintro e w6 ⟨rfl,hb1⟩;have HB:=Y1 (Z00 HB1.out (Z00 HB.out hb1));clear hb1;go_wp2;go_ret;exact ⟨rfl,HB.out⟩
 | some j=>
  obtain ⟨qj,rfl,hat,hb1⟩:=Z3x hj hJ;have HJ:=Y1 hJ;have hb2:=Z02 w0 (.cells (Y8 j qj) 25);have hbb:=Z00 hb1 hb2;have HXa:=Y1 (KX.out.1.next hbb);have HXb:=Y1 (KX.out.2.1.next hbb);have HXc:=Y1 (KX.out.2.2.next hbb);have HAa:=Y1 (KA.out.1.next hbb);have HAb:=Y1 (KA.out.2.1.next hbb);have HAc:=Y1 (KA.out.2.2.next hbb);have HG:=Y1 (KG.out.next hbb);have HB1:=Y1 (Z00 KB.out hbb);have HAj:=Y1 (hat.next hb2);have HXj:=Y1 (Z03 w0 j qj);clear hj hb1 hb2 hbb KX KA KG KB hJ hat;obtain ⟨W1,hW1⟩: ∃W1,w0.alloc (.cells (Y8 j qj) 25)=W1:=⟨_,rfl⟩;rw[hW1] at HXa HXb HXc HAa HAb HAc HG HB1 HAj HXj;have HB:=Y1 (Below.refl W1.heap.size W1);obtain ⟨_,⟨a0,a1,a2,a3,a4⟩,_⟩:=HXa.out.next HB.out;simp only[Nat.zero_add] at a0 a1 a2 a3 a4;obtain ⟨_,⟨j0,j1,j2,j3,j4⟩,_⟩:=HXj.out.next HB.out;simp only[Nat.zero_add] at j0 j1 j2 j3 j4;have HU:=Y1 (Z07 a j pa qj _ (HAa.out.next HB.out) (HAj.out.next HB.out) (HG.out.next HB.out));unfold sv at HU;rw[(Z5n HJ.out).1] at HU
  go_wp2_with fail
  refine HU.out.mono ?_;rintro e w7 ⟨rfl,hb1⟩;have HB:=Y1 (Z00 HB.out hb1);clear hb1 a0 a1 a2 a3 a4 j0 j1 j2 j3 j4 HU;clear hW1;obtain ⟨_,⟨b0,b1,b2,b3,b4⟩,_⟩:=HXb.out.next HB.out;simp only[Nat.zero_add] at b0 b1 b2 b3 b4;obtain ⟨_,⟨j0,j1,j2,j3,j4⟩,_⟩:=HXj.out.next HB.out;simp only[Nat.zero_add] at j0 j1 j2 j3 j4;have HU:=Y1 (Z07 b j pb qj _ (HAb.out.next HB.out) (HAj.out.next HB.out) (HG.out.next HB.out));unfold sv at HU;rw[(Z5n HJ.out).2] at HU
  go_wp2_with fail
  refine HU.out.mono ?_;rintro e w8 ⟨rfl,hb1⟩;have HB:=Y1 (Z00 HB.out hb1);clear hb1 b0 b1 b2 b3 b4 j0 j1 j2 j3 j4 HU;obtain ⟨_,⟨a0,a1,a2,a3,a4⟩,_⟩:=HXa.out.next HB.out;simp only[Nat.zero_add] at a0 a1 a2 a3 a4;obtain ⟨_,⟨c0,c1,c2,c3,c4⟩,_⟩:=HXc.out.next HB.out;simp only[Nat.zero_add] at c0 c1 c2 c3 c4;have HU:=Y1 (Z07 a c pa pc _ (HAa.out.next HB.out) (HAc.out.next HB.out) (HG.out.next HB.out));unfold sv at HU
  go_wp2_with fail
  refine HU.out.mono ?_;rintro e w9 ⟨rfl,hb1⟩;have HB:=Y1 (Z00 HB.out hb1);clear hb1 a0 a1 a2 a3 a4 c0 c1 c2 c3 c4 HU;cases h1:Sub.below a c with
  | false=>
   clear h1
   go_wp2_with fail
   refine (Z0a _ (HG.out.next HB.out)).mono ?_;rintro e w10 ⟨rfl,hb1⟩;have HB:=Y1 (Z00 HB1.out (Z00 HB.out hb1));clear hb1;go_wp2;go_ret;exact ⟨rfl,HB.out⟩
  | true=>
   have H1:=Y1 h1;clear h1;obtain ⟨_,⟨b0,b1,b2,b3,b4⟩,_⟩:=HXb.out.next HB.out;simp only[Nat.zero_add] at b0 b1 b2 b3 b4;obtain ⟨_,⟨c0,c1,c2,c3,c4⟩,_⟩:=HXc.out.next HB.out;simp only[Nat.zero_add] at c0 c1 c2 c3 c4;have HU:=Y1 (Z07 b c pb pc _ (HAb.out.next HB.out) (HAc.out.next HB.out) (HG.out.next HB.out));unfold sv at HU
   go_wp2_with fail
   refine HU.out.mono ?_;rintro e w11 ⟨rfl,hb1⟩;have HB:=Y1 (Z00 HB.out hb1);clear hb1 b0 b1 b2 b3 b4 c0 c1 c2 c3 c4 HU;cases h1:Sub.below b c with
   | false=>
    clear h1
    go_wp2_with fail
    refine (Z0a _ (HG.out.next HB.out)).mono ?_;rintro e w12 ⟨rfl,hb1⟩;have HB:=Y1 (Z00 HB1.out (Z00 HB.out hb1));clear hb1;go_wp2;go_ret;exact ⟨rfl,HB.out⟩
   | true=>
    have H2:=Y1 h1;clear h1;obtain ⟨_,⟨j0,j1,j2,j3,j4⟩,_⟩:=HXj.out.next HB.out;simp only[Nat.zero_add] at j0 j1 j2 j3 j4;obtain ⟨_,⟨c0,c1,c2,c3,c4⟩,_⟩:=HXc.out.next HB.out;simp only[Nat.zero_add] at c0 c1 c2 c3 c4;have HU:=Y1 (Z07 j c qj pc _ (HAj.out.next HB.out) (HAc.out.next HB.out) (HG.out.next HB.out));unfold sv at HU;rw[Z8B HJ.out H1.out H2.out] at HU
    go_wp2_with fail
    refine HU.out.mono ?_;rintro e w13 ⟨rfl,hb1⟩;have HB:=Y1 (Z00 HB.out hb1);clear hb1 j0 j1 j2 j3 j4 c0 c1 c2 c3 c4 HU
    go_wp2_with fail
    refine (Z0a _ (HG.out.next HB.out)).mono ?_;rintro e w14 ⟨rfl,hb1⟩;have HB:=Y1 (Z00 HB1.out (Z00 HB.out hb1));clear hb1;go_wp2;go_ret;exact ⟨rfl,HB.out⟩
end SubM
end Go.Proofs.YtlomianlcnmfgaaDoor
namespace Go.Proofs.YtlomianlcnmfgaaDoor.subtypeLeast
section
open Go.ChangeShapes Go.WideShapes Go.ChangeAt Go.RowKit
open Go.ChangeMaps (open_string shut_string)
theorem walk (w:World) (u0:Shp.Sh) (p0:Ptr) (S0:ShAt w w.heap.size p0 u0) (u1:Shp.Sh) (p1:Ptr) (S1:ShAt w w.heap.size p1 u1) (u2:Shp.Sh) (p2:Ptr) (S2:ShAt w w.heap.size p2 u2) (hg:WGlobs w):Y9 5 #[.agg (Y8 u0 p0),.agg (Y8 u1 p1),.agg (Y8 u2 p2)] w (.bool true):=SubM.subLeast_walk u0 p0 u1 p1 u2 p2 w S0 S1 S2 hg
theorem own:ownKnob Tryd.prog.godebug=none:=by kernel_rfl
theorem laidOut:laidOutB Tryd.prog=true:=by kernel_rfl
theorem contract (H:Type) (enc:TypeId×Value->H) (W:World) (base:Nat) (args:Array Value) (ds gs:List (DataW H)) (before:List MemPlace)
 (hval0: ∀(j:Nat) t v,Tryd.f5.params[j]? =some t->args[j]? =some v->Value.okWide Tryd.prog W .any base t v)
 (hW:DataW.Whole enc Tryd.prog Tryd.f5.params.toList Rows.subtypeLeastSpec.vars false W args.toList ds gs before) (hL:laidMetH Tryd.prog Rows.subtypeLeastRow.laid W) (hsz0: (DataW.weightsEach Tryd.prog (Tryd.f5.params.toList++Rows.subtypeLeastSpec.plain.varTypes Tryd.prog) (ds++gs)).all (· <=reachBytes)=true):
 Calls Tryd.prog 5 args W fun e W'=> ∃v,e= .returned v/\Rows.subtypeLeastSpec.post enc Tryd.prog Tryd.f5 false true false false W args v W':=by
 have hval: ∀(j:Nat) t v,Tryd.f5.params[j]? =some t->args[j]? =some v->Value.okWide Tryd.prog W .any base t v:=hval0;have hsz: (DataW.weightsEach Tryd.prog (Tryd.f5.params.toList++Rows.subtypeLeastSpec.plain.varTypes Tryd.prog) (ds++gs)).all (· <=reachBytes)=true:=hsz0
 have hW':=hW;obtain ⟨p,q,hA0,hV,rfl,hfz,hnd⟩:=hW;have hA:DataW.TrodAll enc Tryd.prog W 0 (fun _=>true) true Tryd.f5.params.toList args.toList ds p:=hA0;rw[Tryd.params5] at hA hval hsz;obtain ⟨v0,vs0,d0,ds0,p0,q0,hargs,rfl,rfl,h0,t0⟩:=trodAll_cons hA;obtain ⟨v1,vs1,d1,ds1,p1,q1,rfl,rfl,rfl,h1,t1⟩:=trodAll_cons t0;obtain ⟨v2,vs2,d2,ds2,p2,q2,rfl,rfl,rfl,h2,t2⟩:=trodAll_cons t1;obtain ⟨rfl,rfl,rfl⟩:=trodAll_nil t2;obtain rfl:args=#[v0,v1,v2]:=by cases args; simp_all
 obtain ⟨rfl,rfl⟩:=trodVars_none hV;have k0:=h0;have lt0: ∀x∈p0,x.block < W.heap.size:=by obtain ⟨m,hm⟩:=k0; exact DataW.trod_lt m _ _ _ hm
 obtain ⟨u0,y0,rfl,S0⟩:=Z0x (hval 0 25 v0 rfl rfl) h0;have k1:=h1;have lt1: ∀x∈p1,x.block < W.heap.size:=by obtain ⟨m,hm⟩:=k1; exact DataW.trod_lt m _ _ _ hm
 obtain ⟨u1,y1,rfl,S1⟩:=Z0x (hval 1 25 v1 rfl rfl) h1;have k2:=h2;have lt2: ∀x∈p2,x.block < W.heap.size:=by obtain ⟨m,hm⟩:=k2; exact DataW.trod_lt m _ _ _ hm
 obtain ⟨u2,y2,rfl,S2⟩:=Z0x (hval 2 25 v2 rfl rfl) h2;clear hA0 hval0;rw[MakeChecks.laidMetH_plain _ _ _ (by kernel_rfl)] at hL;have hglob:WGlobs W:=Z29 hL (List.Mem.head _);refine (walk W u0 y0 S0 u1 y1 S1 u2 y2 S2 hglob).mono fun e W' ⟨he,bel⟩=> ?_;subst he;exact ⟨_,rfl,_,_,_,[],_,[],hW',trodAll_mk1 (shut_bool Tryd.underlying4 _),(trodAll_cons_mk (Below.trod laidOut (by kernel_rfl) (of_decide_eq_true (by kernel_rfl)) k0 bel lt0) (trodAll_cons_mk (Below.trod laidOut (by kernel_rfl) (of_decide_eq_true (by kernel_rfl)) k1 bel lt1) (trodAll_cons_mk (Below.trod laidOut (by kernel_rfl) (of_decide_eq_true (by kernel_rfl)) k2 bel lt2) trodAll_mk0))),rfl,bel.frame _,fun h=>by cases h⟩
theorem lifted (os:Os) (started:os.Started) (H:Type) (enc:TypeId×Value->H):
 ReturnsInHanded {} Tryd.checked os 5 .any (fun w args=>(Rows.subtypeLeastSpec.pre enc Tryd.prog Tryd.f5 Rows.subtypeLeastRow.domain false w args/\laidMetH Tryd.prog Rows.subtypeLeastRow.laid w)/\sizedMet enc Tryd.prog Tryd.f5 (OpenSpec.ofChange Rows.subtypeLeastSpec) false w args)
  (Rows.subtypeLeastSpec.post enc Tryd.prog Tryd.f5 false true false false):=by
 refine returnsInHanded_of_change_and (C:=Tryd.checked) (X:=fun w _=>laidMetH Tryd.prog Rows.subtypeLeastRow.laid w) (fun _ _ _ hh h=>h.of_heap hh) own started (by kernel_rfl) Tryd.func5
  (ChangeSpec.witness_shaped (enc:=enc) (C:=Tryd.checked) (os:=os) (X:=fun w _=>laidMetH Tryd.prog Rows.subtypeLeastRow.laid w) false (World.laidAll Tryd.prog os Rows.subtypeLeastRow.laid) #[(.agg #[.int .i64 0,.string ByteArray.empty,.string ByteArray.empty,.slice none 0 0,.slice none 0 0]),(.agg #[.int .i64 0,.string ByteArray.empty,.string ByteArray.empty,.slice none 0 0,.slice none 0 0]),(.agg #[.int .i64 0,.string ByteArray.empty,.string ByteArray.empty,.slice none 0 0,.slice none 0 0])] 8 (World.laidAll_os _ _ _)
   (World.shaped_of_ZipB (by kernel_rfl) (by kernel_rfl)) (by kernel_rfl) (by kernel_rfl) (by kernel_rfl)
   (by rw[MakeChecks.laidMetH_plain _ _ _ (by kernel_rfl)]; exact laidMet_laidAll _ (by kernel_rfl) (by kernel_rfl))) ?_
 intro W base args ds gs before hval hW _ hsz hL _;exact contract H enc W base args ds gs before hval hW hL hsz
theorem proved:Rows.SubtypeLeastSaid:=
 OpenClaim.holds_of_wide 5 Tryd.f5 rfl rfl rfl rfl rfl rfl rfl ⟨rfl,rfl,rfl,rfl,rfl⟩ rfl rfl rfl rfl rfl (by kernel_rfl) Tryd.func5 (by kernel_rfl)
  (of_decide_eq_true (by kernel_rfl)) (by unfold Func.isWrapper; first | (rw[if_pos (by decide+kernel)]; kernel_rfl) | (rw[if_neg (by decide+kernel)]; exact ⟨rfl,rfl⟩))
  (fun os started H enc _=>lifted os started H enc)
theorem card:Rows.SubtypeLeastCardSaid:=
 Claim7.holds_tied_plain_at .later [] [.data] true _ false proved (fun _ h=>by cases h) (by kernel_rfl) (fun _ h=>by cases h) subtypeLeast_row_tie rfl ⟨rfl,rfl⟩ (by kernel_rfl) rfl
  (fun f fn hf hfn=>by
   obtain rfl:f=5:=Option.some.inj ((show Tryd.prog.funcNamed "pandect/pandectlaw12.SubtypeLeast" =some 5 by kernel_rfl).symm.trans hf) |>.symm;obtain rfl:fn=Tryd.f5:=(Option.some.inj (Tryd.func5.symm.trans hfn)).symm;exact ⟨by kernel_rfl,fun j t ht=>by
    rw[Tryd.params5] at ht;have hm:t∈ [25,25,25]:=by simpa using Array.mem_of_getElem? ht
    have hall: ([25,25,25].all fun u=> !Tryd.prog.wantsStandIn u)=true:=by kernel_rfl
    exact (show Tryd.prog.wantsStandIn t=false by simpa using List.all_eq_true.1 hall t hm)⟩)
  (by kernel_rfl)
end
end Go.Proofs.YtlomianlcnmfgaaDoor.subtypeLeast
