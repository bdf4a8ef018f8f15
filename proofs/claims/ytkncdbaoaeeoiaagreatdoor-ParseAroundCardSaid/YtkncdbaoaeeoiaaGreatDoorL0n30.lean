/- What the proofs of ParseAround want, part 30. -/
import Derived.Laws.EntriesVeiled
import Derived.Test.YtkncdbaoaeeoiaaGreatDoorL0n29
set_option linter.unusedVariables false
set_option linter.unusedSimpArgs false
set_option linter.unusedSectionVars false
set_option maxRecDepth 100000
set_option maxHeartbeats 16000000
namespace Go.Proofs.YtkncdbaoaeeoiaaGreatDoor
section
open Go.RowKit Shp
theorem Zi1 {t:Sh} (h:right t=true) (a:size t<=400):t.names.length<=400:=by
 have b:=length_sizes t.parts;rw[size_eq] at a;rcases ZaR (right_fits h) with ⟨_,_,h,_⟩ | ⟨_,h,_⟩ | ⟨_,h,_⟩ | ⟨_,h,_⟩ | ⟨_,h,_⟩
 {rw[h]; simp}
 {rw[h]; simp}
 {omega}
 {rw[h]; simp}
 {rw[h]; simp}
def cW (w:World) (t:Sh) (q:Ptr):World:=
 ((w.alloc (.cells (Y8 t q) 43)).alloc (.cells Yb 43)).alloc (.cells #[.func (.func 42) #[] #[],.int .i64 0] 123)
section
variable (w : World) (t : Sh) (q : Ptr)
include w t q
theorem ZhG:Below w.heap.size w (cW w t q):=Z03 (Z03 (Z01 _ _) _) _
theorem ZjC:CntH (cW w t q) (w.heap.size+1+1) 0 (.func (.func 42) #[] #[]):=by
 unfold cW;exact ⟨by simp,by simp[go_sem],by simp[go_sem],by simp[go_sem]⟩
theorem ZhH:Sh5 (cW w t q) w.heap.size 0 t q/\ ∀k,(cW w t q).frozen? ⟨w.heap.size,k,none⟩=false:=by
 unfold cW;refine ⟨⟨?_, ?_, ?_, ?_, ?_⟩,fun k=> ?_⟩ <;> simp[go_sem]
theorem ZiN: (∀c,c < 5-> ∃u,(cW w t q).cell? ⟨w.heap.size+1,c,none⟩=some u)/\ ∀k,(cW w t q).frozen? ⟨w.heap.size+1,k,none⟩=false:=by
 unfold cW;refine ⟨fun c hc=> ?_,fun k=>by simp[go_sem]⟩
 match c,hc with
 | 0,_=>exact ⟨_,by simp[go_sem]; rfl⟩
 | 1,_=>exact ⟨_,by simp[go_sem]; rfl⟩
 | 2,_=>exact ⟨_,by simp[go_sem]; rfl⟩
 | 3,_=>exact ⟨_,by simp[go_sem]; rfl⟩
 | 4,_=>exact ⟨_,by simp[go_sem]; rfl⟩
end
theorem ZjH (w W1:World) (t:Sh) (q:Ptr) (v:ShAt w w.heap.size q t) (i:UpH (w.heap.size+1+1) (cW w t q) W1):
 Cst w (W1.alloc (.cells #[.pointer (some ⟨w.heap.size,0,none⟩)] 94)) w.heap.size (w.heap.size+1) t (.slice (some ⟨W1.heap.size,0,none⟩) 1 1) [⟨w.heap.size,0,t,q⟩] [w.heap.size]:=by
 have j: (cW w t q).heap.size=w.heap.size+3:=by simp[cW]
 have y:W1.heap.size=w.heap.size+3:=i.size.trans j;have hb0:=Z01 W1 (.cells #[.pointer (some ⟨w.heap.size,0,none⟩)] 94);have r:Below w.heap.size w W1:=(ZhG w t q).trans (i.toBelow (by omega));have f:Below w.heap.size w (W1.alloc (.cells #[.pointer (some ⟨w.heap.size,0,none⟩)] 94)):=Z00 r hb0;have z: (W1.alloc (.cells #[.pointer (some ⟨w.heap.size,0,none⟩)] 94)).heap.size=w.heap.size+4:=by simp; omega
 have a: ∀g k,g < w.heap.size+2->(W1.alloc (.cells #[.pointer (some ⟨w.heap.size,0,none⟩)] 94)).cell? ⟨g,k,none⟩=(cW w t q).cell? ⟨g,k,none⟩:=fun g k hg=>(hb0.cell (p:=⟨g,k,none⟩) (by show g < W1.heap.size; omega)).trans (i.cell (by omega));have h: ∀g k,g < w.heap.size+2->(W1.alloc (.cells #[.pointer (some ⟨w.heap.size,0,none⟩)] 94)).frozen? ⟨g,k,none⟩=(cW w t q).frozen? ⟨g,k,none⟩:=fun g k hg=>(hb0.frozen (p:=⟨g,k,none⟩) (by show g < W1.heap.size; omega)).trans (i.frozen (by omega));refine ⟨?_,ZhS _ _ _ _ _, ?_, ?_,by simp,f,⟨by simp,⟨by omega,by omega,fun e=> ?_⟩, ?_, ?_⟩, ?_,⟨by simp,by omega⟩⟩
 {refine ⟨by simp,Or.inr ⟨W1.heap.size,1, #[.pointer (some ⟨w.heap.size,0,none⟩)],rfl,Nat.zero_le _,heap_alloc_new _ _,Nat.le_refl _,by decide,rfl,rfl⟩⟩}
 {intro b d;simp only[List.mem_cons,List.not_mem_nil,or_false] at d;subst d;exact ⟨by omega,by omega,fun e=>by have:W1.heap.size=w.heap.size:=Option.some.inj e; omega⟩}
 {intro n m;simp only[List.mem_cons,List.not_mem_nil,or_false] at m;subst m;refine ⟨by simp,by show w.heap.size≠w.heap.size+1; omega, ?_,v.keep f (Nat.le_refl _),fun k=>(h _ k (by simp)).trans ((ZhH w t q).2 k)⟩;have o:=(ZhH w t q).1;simp only[Nat.zero_mul];exact o.of (fun k=>a _ k (by omega))}
 {have:W1.heap.size=w.heap.size+1:=Option.some.inj e;omega}
 {intro c s;obtain ⟨u,l⟩:=(ZiN w t q).1 c s;exact ⟨u,(a _ c (by omega)).trans l⟩}
 {exact fun k=>(h _ k (by omega)).trans ((ZiN w t q).2 k)}
 {intro g e;have:W1.heap.size=g:=Option.some.inj e;omega}
theorem Zi2 (t:Sh) (q:Ptr) (w:World) (hq:ShAt w w.heap.size q t) (hz:size t<=400) (hr:right t=true):
 Calls Tryz.prog 43 #[.agg (Y8 t q),.func (.func 42) #[] #[],.func (.func 44) #[] #[]] w fun e w'=> ∃q' F,e= .returned (.agg (Y8 t q'))/\Own w' q' t F/\F.Nodup/\(∀b∈F,w.heap.size<=b)/\Below w.heap.size w w':=by
 have g9:=deep_size t;have b7:=ZhH w t q;have hm:=Zio t q w.heap.size 0 w.heap.size (w.heap.size+1+1) 0 1 (cW w t q) b7.1 (by omega) (hq.keep (ZhG w t q) (Nat.le_refl _)) (by omega) (ZjC w t q) (by omega) (by omega);rw[show (((1:Nat)):Int)=(1:Int) from rfl] at hm;have HM:=Y1 hm;have C:=Y1 (fun W1 (hu:UpH (w.heap.size+1+1) (cW w t q) W1)=>ZjH w W1 t q hq hu);have L1:=fun (g o:Nat) (W:World)=>Zhc g o W;clear hq hm b7 g9;go_enter Tryz.func43,Tryz.ntmps43
 go_wp2_with fail
 change Calls _ _ _ (cW w t q) _;refine HM.out.mono ?_;rintro e W1 ⟨rfl,e9,_⟩;have a6:=Y1 (C.out W1 e9);clear HM C e9
 go_wp2_with fail
 go_loopg [9] (size t) (fun k s9 wr=> ∃L D,sumL L<=k/\sumL L<=400/\(∀n∈L,right n.t=true)/\Hid (Cst w wr w.heap.size (w.heap.size+1) t s9 L D))
 case atStart=>exact ⟨_,_,by simp[sumL],by simp[sumL]; omega,fun n N=>by simp only[List.mem_cons,List.not_mem_nil,or_false] at N; subst N; exact hr,a6⟩
 case round=>
  obtain ⟨L,D,hk,c,K,f⟩:=hrel;clear a6;rcases List.eq_nil_or_concat L with rfl | ⟨j,a,rfl⟩
  {obtain ⟨F,⟨q',hS,hO⟩,d5,a2⟩:=Zih f.out.rdy;obtain ⟨A,cp,rfl⟩:=f.out.opn.empty;obtain ⟨p0,p1,p2,p3,p4⟩:=hS;simp only[Nat.zero_mul,Nat.zero_add] at p0 p1 p2 p3 p4;obtain ⟨f2,⟨_,_,_⟩,s,y⟩:=f.out.res;obtain ⟨e0,r0⟩:=s 0 (by omega);obtain ⟨e1,r1⟩:=s 1 (by omega);obtain ⟨e2,r2⟩:=s 2 (by omega);obtain ⟨e3,r3⟩:=s 3 (by omega);obtain ⟨e4,r4⟩:=s 4 (by omega);have z0:=y 0;have z1:=y 1;have z2:=y 2;have z3:=y 3;have z4:=y 4;have HO:=Y1 hO;have g0:=Y1 d5;have f8:=Y1 (fun b hb=>(f.out.lo b (a2 b hb)).1);have g2:=Y1 (fun b hb (e:w.heap.size+1=b)=>f2 (by rw[e]; exact a2 b hb));have f7:=Y1 f.out.bel;clear hO d5 a2 s y f2 K;go_wp2;refine bodyPost_ret (v:= .agg (Y8 t q')) (by simp[results,Tryz.results43,go_sem,r0,r1,r2,r3,r4]) rfl ?_;refine ⟨q',F,rfl,HO.out.of (fun b hb=> ?_) (by simp[World.setCell]),g0.out,f8.out, ?_⟩
   {have H:=g2.out b hb;exact ((((Zfr _ ⟨w.heap.size+1,0,none⟩ _ H).trans (Zfr _ ⟨w.heap.size+1,1,none⟩ _ H)).trans (Zfr _ ⟨w.heap.size+1,2,none⟩ _ H)).trans (Zfr _ ⟨w.heap.size+1,3,none⟩ _ H)).trans (Zfr _ ⟨w.heap.size+1,4,none⟩ _ H)}
   {exact ((((f7.out.setCell (p:=⟨w.heap.size+1,0,none⟩) (Nat.le_succ _) _).setCell (p:=⟨w.heap.size+1,1,none⟩) (Nat.le_succ _) _).setCell (p:=⟨w.heap.size+1,2,none⟩) (Nat.le_succ _) _).setCell (p:=⟨w.heap.size+1,3,none⟩) (Nat.le_succ _) _).setCell (p:=⟨w.heap.size+1,4,none⟩) (Nat.le_succ _) _}}
  {rw[List.concat_eq_append] at hk c f K;obtain ⟨g,cap,rfl,i9,b9,j8⟩:=f.out.opn.last;obtain ⟨b4,i8,g8,S,c0⟩:=f.out.nd a (by simp);obtain ⟨d3,l,d4⟩:=f.out.lo a.g b4;obtain ⟨W,hW⟩: ∃W,W=wr:=⟨wr,rfl⟩;subst hW;have c9: (0:Int) < ((j.length+1:Nat):Int):=by omega
   have j5:j.length<=400:=by
    have:=Zj9 j;rw[Zgt] at c;omega
   have a3:a.g≠g:=fun e=>d4 (by rw[e]; rfl);unfold ndP at b9;obtain ⟨p0,p1,p2,p3,p4⟩:=g8;have U:=S.small;have b2:size a.t<=400:=by rw[Zgt] at c; simp[sumL] at c; omega
   have b6:=K a (by simp);have h3:a.t.names.length<=1000000000:=by have:=Zi1 b6 b2; omega
   have e6:=f.out.bel.size;have V:=Y1 (ZiL a.g (a.i * 5) a.q.A a.q.c a.t.names W l p3 (c0 _) (S.strs.more e6) h3 U.c U.A0);have a5:=Y1 K;have f6:=Y1 S;have g5:=Y1 U;have LA:=fun (W:World)=>L1 a.g (a.i * 5) W;clear K S U p0 p1 p2 p3
   go_wp2_with fail
   refine V.out.mono ?_;rintro e w3 ⟨rfl,Z,c',Q,r,e7,rfl⟩;have x4: (Q.setCell ⟨a.g,a.i * 5+3,none⟩ (.slice Z a.t.names.length c')).cell? ⟨a.g,a.i * 5+4,none⟩=some (.slice a.q.P a.t.parts.length a.q.d):=
    (World.cell?_setCell_other _ _ _ _ (fun e=>by have:=congrArg Addr.off e; simp at this)).trans ((r.cell (p:=⟨a.g,a.i * 5+4,none⟩) l).trans p4)
   have f4: (Q.setCell ⟨a.g,a.i * 5+3,none⟩ (.slice Z a.t.names.length c')).frozen? ⟨a.g,a.i * 5+4,none⟩=false:=by
    rw[World.frozen?_setCell]; exact (r.frozen (p:=⟨a.g,a.i * 5+4,none⟩) l).trans (c0 _)
   have f0:W.heap.size<=Q.heap.size:=r.size;have f1: (Q.setCell ⟨a.g,a.i * 5+3,none⟩ (.slice Z a.t.names.length c')).heap.size=Q.heap.size:=Zgq _ _ _;have d:a.g < (Q.setCell ⟨a.g,a.i * 5+3,none⟩ (.slice Z a.t.names.length c')).heap.size:=by omega
   have E:Below w.heap.size w (Q.setCell ⟨a.g,a.i * 5+3,none⟩ (.slice Z a.t.names.length c')):=(f.out.bel.trans (r.mono e6)).setCell d3 _;have O:=Y1 r;have a7:=Y1 e7;clear r e7 p4 V b9;by_cases T:a.t.parts.length=0
   {have M:=Zir a.g (a.i * 5+4) a.q.P a.q.d (Q.setCell ⟨a.g,a.i * 5+3,none⟩ (.slice Z a.t.names.length c')) d (by rw[x4,T]) f4 g5.out.P0;have B:=Y1 M;clear M x4 f4 E d f1
    go_wp2_with fail
    refine (LA _).mono ?_;rintro e w4 ⟨rfl,rfl⟩
    go_wp2_with fail
    refine B.out.mono ?_;rintro e w5 ⟨rfl,P',d',W3',hb3,hP0,rfl⟩;have C:=Y1 (f.out.step (P':=P') (d':=d') (pb:=0) (qs:=fun _=>a.q) O.out a7.out hb3 (by omega) hP0 (Or.inl ⟨T,by rw[T],rfl⟩));have d2:kids 0 a.t.parts (fun _=>a.q)= []:=List.eq_nil_of_length_eq_zero (by rw[Z5N]; exact T);rw[d2,List.append_nil] at C;clear d2 hb3 hP0 B;go_wp2
    go_roundg (sumL j)
    case measure=>rw[Zgt] at hk; have:=size_pos a.t; simp[sumL] at hk ⊢; omega
    case rel=>
     obtain ⟨D5,h5⟩:=C.out;exact ⟨j,D5,Nat.le_refl _,by rw[Zgt] at c; omega,fun n N=>a5.out n (by simp[N]),Y1 h5⟩}
   {have d8:0 < a.t.parts.length:=by omega
    rcases f6.out.part with h0 | ⟨g',off,qs,d9,c8,b8,e5⟩
    {omega}
    {have h7:a.t.parts.length<=1000000000:=by have:=length_sizes a.t.parts; rw[size_eq] at b2; omega
     have M:=Zis a.g (a.i * 5+4) g' off a.q.d a.t.parts qs (Q.setCell ⟨a.g,a.i * 5+3,none⟩ (.slice Z a.t.names.length c')) d (by rw[x4,d9]) f4 (by omega) (fun i hi=>(b8 i hi).of (fun k=>(E.cell (p:=⟨g',k,none⟩) c8).trans (f.out.bel.cell (p:=⟨g',k,none⟩) c8).symm)) h7 d8;have B:=Y1 M;have g4:=Y1 e5;clear M b8 e5 d9 x4 f4 E
     go_wp2_with fail
     refine (LA _).mono ?_;rintro e w4 ⟨rfl,rfl⟩
     go_wp2_with fail
     refine B.out.mono ?_;rintro e w5 ⟨rfl,pb,d',W3',hb3,hd1,h6,J,rfl⟩;have i2:=hb3.size;have b5:a.g < W3'.heap.size:=by omega
     have h4: ∃u,W3'.cell? ⟨a.g,a.i * 5+4,none⟩=some u:=⟨_,(hb3.cell (p:=⟨a.g,a.i * 5+4,none⟩) d).trans ((World.cell?_setCell_other _ _ _ _ (fun e=>by have:=congrArg Addr.off e; simp at this)).trans ((O.out.cell (p:=⟨a.g,a.i * 5+4,none⟩) l).trans (f.out.nd a (by simp)).2.2.1.2.2.2.2))⟩;obtain ⟨u0,e8⟩:=h4;have c4: (W3'.setCell ⟨a.g,a.i * 5+4,none⟩ (.slice (some ⟨pb,0,none⟩) a.t.parts.length d')).cell? ⟨a.g,a.i * 5+4,none⟩=some (.slice (some ⟨pb,0,none⟩) a.t.parts.length d'):=World.cell?_setCell_same _ _ _ e8;have i3: (W3'.setCell ⟨a.g,a.i * 5+4,none⟩ (.slice (some ⟨pb,0,none⟩) a.t.parts.length d')).heap.size=W3'.heap.size:=Zgq _ _ _;have a9:Opn (W3'.setCell ⟨a.g,a.i * 5+4,none⟩ (.slice (some ⟨pb,0,none⟩) a.t.parts.length d')) (.slice (some ⟨g,0,none⟩) j.length cap) j:=
      (((f.out.opn.pop.below O.out).set (fun e=>a3 (Option.some.inj e).symm) _).below hb3).set (fun e=>a3 (Option.some.inj e).symm) _
     have d7:=J.lt;have d6:pb≠a.g:=by omega
     have b0:=Rnd7.start a9 (fun e=>by have:g=pb:=Option.some.inj e; omega) (J.of (Zfr W3' ⟨a.g,a.i * 5+4,none⟩ (.slice (some ⟨pb,0,none⟩) a.t.parts.length d') (Ne.symm d6)) (by omega));have a0:=Y1 b0;have h:=Y1 (fun (W5:World) (v5:Value) (hr:Rnd7 (W3'.setCell ⟨a.g,a.i * 5+4,none⟩ (.slice (some ⟨pb,0,none⟩) a.t.parts.length d')) W5 (.slice (some ⟨g,0,none⟩) j.length cap) v5 pb a.t.parts qs j a.t.parts.length)=>f.out.step (P':=some ⟨pb,0,none⟩) (d':=d') (pb:=pb) (qs:=qs) O.out a7.out hb3 hd1 nofun (Or.inr ⟨rfl,by omega,g4.out,hr⟩));obtain ⟨W4,b1⟩: ∃W4,W4=W3'.setCell ⟨a.g,a.i * 5+4,none⟩ (.slice (some ⟨pb,0,none⟩) a.t.parts.length d'):=⟨_,rfl⟩;rw[<-b1] at c4 i3 a0 h ⊢;have h8:pb < W4.heap.size:=by omega
     have b3:a.g < W4.heap.size:=by omega
     clear b1 hb3 h6 J b0 a9 e8 d7 B f1 d i2 b5
     go_wp2_with fail
     go_loopw [9,47] (fun s9 ii wr=> ∃i:Nat,ii= .int .i64 i/\i<=a.t.parts.length/\Hid (Rnd7 W4 wr (.slice (some ⟨g,0,none⟩) j.length cap) s9 pb a.t.parts qs j i)) (fun _ i _=>a.t.parts.length - (intOf i).toNat)
     case atStart=>exact ⟨0,rfl,Nat.zero_le _,a0⟩
     case round=>
      obtain ⟨i,rfl,hi,HR⟩:=hrel;by_cases h1:i < a.t.parts.length
      {have c9: (i:Int) < (a.t.parts.length:Int):=by omega
       have k4:=(HR.out.up.same b3 (fun e=>a3 (Option.some.inj e).symm)).1 (a.i * 5+4);rw[c4] at k4;obtain ⟨i0,hi2,hz0,hz1,f0⟩:=info_parts (P:=Tryz.prog) (e:=94) (z:= .pointer none) (size:=1) (bytes:=8) ZiK;have Y: (j++(kids pb a.t.parts qs).take i).length=j.length+i:=by rw[List.length_append,List.length_take,Z5N]; omega
       have m:=HR.out.opn;unfold Opn at m;rw[Y] at m;have g3:=Y1 m;clear m Y
       go_wp2_with (at_builtin; refine wpList_append_lies _ rfl _ _ 125 rfl 0 94 i0 (.pointer none) 1 8 Tryz.underlying125 hi2 hz0 hz1 f0 rfl (by decide) _ _ _ rfl (g3.out.alloc _) ⟨wr.heap.size,0,none⟩ 1 1 [.pointer (some ⟨pb,i * 5,none⟩)] rfl rfl (World.news_of_block (cs:=#[.pointer (some ⟨pb,i * 5,none⟩)]) (t:=94) (fr:=(0,0)) (heap_alloc_new _ _)) (by simp[Value.oneCell']) (by decide) (by unfold maxLen; omega) (by omega) (by simp) _ rfl ?_)
       intro g1 i6 w5 I G X j0;have HN:=Y1 (HR.out.step h1 h8 G (by simpa[List.map_append,List.append_assoc,List.map_take] using I) (by simpa using X));clear I G X k4
       go_wp2_with fail
       exact ⟨⟨i+1,by go_num,by omega,HN⟩,by simp[intOf]; omega⟩}
      {have d0:i=a.t.parts.length:=by omega
       have HN:=Y1 (h.out wr _ (by have:=HR.out; rwa [d0] at this));have c9: ¬(i:Int) < (a.t.parts.length:Int):=by omega
       clear d0 HR h a0;go_wp2
       go_roundg (sumL (j++kids pb a.t.parts qs))
       case measure=>
        rw[Zgt,Zhv];rw[Zgt] at hk;have:=size_eq a.t;simp[sumL] at hk ⊢;omega
       case rel=>
        obtain ⟨D5,h5⟩:=HN.out;refine ⟨j++kids pb a.t.parts qs,D5,Nat.le_refl _, ?_,fun n N=> ?_,Y1 h5⟩
        {rw[Zgt,Zhv];rw[Zgt] at c;have:=size_eq a.t;simp[sumL] at c ⊢;omega}
        {rcases List.mem_append.1 N with N | N
         {exact a5.out n (by simp[N])}
         {obtain ⟨i,hi,rfl⟩:=List.getElem_of_mem N;rw[ZaA];exact right_part b6 (List.getElem_mem _)}}}}}}
def noneQ:Ptr:=⟨none,0,none,0⟩
def sW (w:World) (t:Sh) (q:Ptr):World:=(w.alloc (.cells (Y8 t q) 43)).alloc (.cells Yb 43)
theorem ZhI (w:World) (t:Sh) (q:Ptr):Below w.heap.size w (sW w t q):=Z03 (Z01 _ _) _
theorem ZjD (w:World) (t:Sh) (q:Ptr):Box5 (sW w t q) (w.heap.size+1) Zip noneQ:=by
 have h:=Z0k (w.alloc (.cells (Y8 t q) 43)) Zip noneQ;have e: (w.alloc (.cells (Y8 t q) 43)).heap.size=w.heap.size+1:=by simp
 rw[e] at h;exact h
def put5 (W:World) (b:Nat) (a0 a1 a2 a3 a4:Value):World:=((((W.setCell ⟨b,0,none⟩ a0).setCell ⟨b,1,none⟩ a1).setCell ⟨b,2,none⟩ a2).setCell ⟨b,3,none⟩ a3).setCell ⟨b,4,none⟩ a4
theorem Zja {W:World} {q:Ptr} {t:Sh} {F:List Nat} (h:Own W q t F) {b:Nat} (a: ∀x∈F,b≠x) (c d e f g:Value):Own (put5 W b c d e f g) q t F:=
 h.of (fun x hx=>((((Zfr _ ⟨b,0,none⟩ c (a x hx)).trans (Zfr _ ⟨b,1,none⟩ d (a x hx))).trans (Zfr _ ⟨b,2,none⟩ e (a x hx))).trans (Zfr _ ⟨b,3,none⟩ f (a x hx))).trans (Zfr _ ⟨b,4,none⟩ g (a x hx))) (by simp[put5,World.setCell])
theorem Ziu {B:Nat} {a W:World} (h:Below B a W) {b:Nat} (c:B<=b) (d e f g i:Value):Below B a (put5 W b d e f g i):=
 ((((h.setCell (p:=⟨b,0,none⟩) c _).setCell (p:=⟨b,1,none⟩) c _).setCell (p:=⟨b,2,none⟩) c _).setCell (p:=⟨b,3,none⟩) c _).setCell (p:=⟨b,4,none⟩) c _
theorem Zi3 (t:Sh) (q:Ptr) (w:World) (o:ShAt w w.heap.size q t) (C:size t<=400) (p:right t=true):
 Calls Tryz.prog 30 #[.agg (Y8 t q)] w fun e w'=> ∃q' F,e= .returned (.agg (Y8 t q'))/\Own w' q' t F/\F.Nodup/\(∀b∈F,w.heap.size<=b)/\Below w.heap.size w w':=by
 have k:=Y1 (ZhI w t q);have i:=Y1 (ZjD w t q);have l:=Y1 (show (sW w t q).heap.size=w.heap.size+2 from by simp[sW]);have a:=Y1 (Zi2 t q (sW w t q) (o.next (ZhI w t q)) C p);obtain ⟨_,⟨B,c1,c2,c3,c4⟩,_⟩:=Z0k w t q;clear o p;go_enter Tryz.func30,Tryz.ntmps30
 go_wp2_with fail
 clear B c1 c2 c3 c4;change Calls _ _ _ (sW w t q) _;generalize sW w t q=W at k i a l ⊢;refine a.out.mono ?_;rintro e J ⟨q',F,rfl,n,d,m,c⟩;have A:=Y1 n;have g:=Y1 d;have j:=Y1 (fun b hb=>show w.heap.size+2<=b from by have:=m b hb; have:=l.out; omega);have h:=Y1 (Z00 k.out c);have f:=Y1 (i.out.next c);clear n d m c a;obtain ⟨_,⟨r,s,u,y,z⟩,D,E,G,H,I⟩:=f.out;simp only[Nat.zero_add] at r s u y z;go_wp2;refine bodyPost_ret (v:= .agg (Y8 t q')) (by simp[results,Tryz.results30,go_sem,r,s,u,y,z]) rfl ?_;exact ⟨q',F,rfl,Zja A.out (fun x hx e=>by have:=j.out x hx; omega) _ _ _ _ _,g.out,fun b hb=>by have:=j.out b hb; omega,Ziu h.out (by omega) _ _ _ _ _⟩
end
section
open Go.RowKit
theorem Zgr (d:Nat->Bool) (i:Nat):also d i i=true:=by
 have:Nat.beq i i=true:=Nat.beq_refl i;unfold also; rw[this]; rfl
theorem Zfq (d:Nat->Bool) {i j:Nat} (h:j≠i):also d i j=d j:=by
 have:Nat.beq j i=false:=by cases a:Nat.beq j i <;> first | rfl | exact absurd (Nat.eq_of_beq_eq_true a) h
 unfold also; rw[this]; rfl
def InvC (S:Nat) (Ch: (Nat->Bool)->(Nat->Value)->World->Prop) (Fin:World->Prop) (d:Nat->Bool) (u:Nat->Value) (W:World):Prop:=(d S=false/\Ch d u W)\/(d S=true/\(∀j,j < S->d j=true)/\Fin W)
section
variable {S : Nat} {Ch : (Nat -> Bool) -> (Nat -> Value) -> World -> Prop} {Fin : World -> Prop} {d : Nat -> Bool} {u : Nat -> Value}
include S Ch Fin d u
theorem InvC.open {W:World} (h:InvC S Ch Fin d u W) {j:Nat} (a:d j=false) (e:j<=S):d S=false/\Ch d u W:=by
 rcases h with h | ⟨b,c,_⟩
 {exact h}
 {rcases Nat.lt_or_eq_of_le e with h | rfl
  {rw[c j h] at a; cases a}
  {rw[b] at a; cases a}}
theorem InvC.next {W':World} {j:Nat} {v:Value} (h:d S=false) (b:j < S) (a:Ch (also d j) (upd u j v) W'):InvC S Ch Fin (also d j) (upd u j v) W':=
 Or.inl ⟨by rw[Zfq d (show S≠j by omega)]; exact h,a⟩
theorem InvC.last {W':World} (h: ∀j,j < S->d j=true) (a:Fin W'):InvC S Ch Fin (also d S) u W':=
 Or.inr ⟨Zgr d S,fun j hj=>by rw[Zfq d (show j≠S by omega)]; exact h j hj,a⟩
end
structure ChN (W0:World) (ty:TypeId) (size:Nat) (val:Nat->Option Value) (x y z:List Value) (lx lz:Nat) (d:Nat->Bool) (u:Nat->Value) (W:World):Prop where
 bel:Below W0.heap.size W0 W
 vals: ∀j,d j=true-> ∀v,val j=some v->u j=v
 rA:d 0=true->d 5=false->W.ownsRow W0.heap.size ty size (u 0) 0 []
 rB:d 5=true->d 12=false->W.ownsRow W0.heap.size ty size (u 5) lx x
 rC:d 12=true->d 17=false->W.ownsRow W0.heap.size ty size (u 12) (lx+1) (x++y)
 rE:d 17=true->W.ownsRow W0.heap.size ty size (u 17) (lx+1+lz) (x++y++z)
 rN:d 11=true->d 12=false-> ∃g,u 11= .slice (some ⟨g,0,none⟩) 1 1/\g < W.heap.size/\(∀j v,y[j]? =some v->W.cell? ⟨g,j,none⟩=some v)/\(d 0=true->d 5=false->(u 0).ownBlock≠some g)/\(d 5=true->(u 5).ownBlock≠some g)
 oB:d 5=true->d 0=true
 oC:d 12=true->d 5=true
 oN:d 12=true->d 11=true
 oE:d 17=true->d 12=true
theorem ChN.start (W0:World) (c:TypeId) (size:Nat) (val:Nat->Option Value) (x y z:List Value) (a b:Nat) (u:Nat->Value):ChN W0 c size val x y z a b (fun _=>false) u W0:=
 ⟨Below.refl _ _,nofun,nofun,nofun,nofun,nofun,nofun,nofun,nofun,nofun,nofun⟩
theorem ChN.pure {W0 W:World} {r:TypeId} {size:Nat} {val:Nat->Option Value} {x y z:List Value} {p q:Nat} {d:Nat->Bool} {u:Nat->Value} (h:ChN W0 r size val x y z p q d u W) {j:Nat} (s:j≠0/\j≠5/\j≠12/\j≠17/\j≠11) (v:Value) (t: ∀v',val j=some v'->v=v'):
 ChN W0 r size val x y z p q (also d j) (upd u j v) W:=by
 obtain ⟨w,A,B,C,D⟩:=s;have k:=Zfq d (show 0≠j by omega);have m:=Z06 u v (show 0≠j by omega);have l:=Zfq d (show 5≠j by omega);have n:=Z06 u v (show 5≠j by omega);have a:=Zfq d (show 11≠j by omega);have e:=Z06 u v (show 11≠j by omega);have b:=Zfq d (show 12≠j by omega);have f:=Z06 u v (show 12≠j by omega);have c:=Zfq d (show 17≠j by omega);have g:=Z06 u v (show 17≠j by omega);refine ⟨h.bel,fun i hi v' hv'=> ?_, ?_, ?_, ?_, ?_, ?_, ?_, ?_, ?_, ?_⟩
 {by_cases o:i=j
  {subst o; rw[Z09]; exact t v' hv'}
  {rw[Zfq d o] at hi; rw[Z06 u v o]; exact h.vals i hi v' hv'}}
 {simp only[k,m,l,n,a,e,b,f,c,g]; exact h.rA}
 {simp only[k,m,l,n,a,e,b,f,c,g]; exact h.rB}
 {simp only[k,m,l,n,a,e,b,f,c,g]; exact h.rC}
 {simp only[k,m,l,n,a,e,b,f,c,g]; exact h.rE}
 {simp only[k,m,l,n,a,e,b,f,c,g]; exact h.rN}
 {simp only[k,m,l,n,a,e,b,f,c,g]; exact h.oB}
 {simp only[k,m,l,n,a,e,b,f,c,g]; exact h.oC}
 {simp only[k,m,l,n,a,e,b,f,c,g]; exact h.oN}
 {simp only[k,m,l,n,a,e,b,f,c,g]; exact h.oE}
structure ChP (W0:World) (ty:TypeId) (size:Nat) (val:Nat->Option Value) (x y z:List Value) (lx lz:Nat) (d:Nat->Bool) (u:Nat->Value) (W:World):Prop where
 bel:Below W0.heap.size W0 W
 vals: ∀j,d j=true-> ∀v,val j=some v->u j=v
 rA:d 0=true->d 5=false->W.ownsRow W0.heap.size ty size (u 0) 0 []
 rB:d 5=true->d 8=false->W.ownsRow W0.heap.size ty size (u 5) lx x
 rC:d 8=true->d 13=false->W.ownsRow W0.heap.size ty size (u 8) (lx+1) (x++y)
 rE:d 13=true->W.ownsRow W0.heap.size ty size (u 13) (lx+1+lz) (x++y++z)
 rN:d 7=true->d 8=false-> ∃g,u 7= .slice (some ⟨g,0,none⟩) 1 1/\g < W.heap.size/\(∀j v,y[j]? =some v->W.cell? ⟨g,j,none⟩=some v)/\(d 0=true->d 5=false->(u 0).ownBlock≠some g)/\(d 5=true->(u 5).ownBlock≠some g)
 oB:d 5=true->d 0=true
 oC:d 8=true->d 5=true
 oN:d 8=true->d 7=true
 oE:d 13=true->d 8=true
theorem ChP.start (W0:World) (c:TypeId) (size:Nat) (val:Nat->Option Value) (x y z:List Value) (a b:Nat) (u:Nat->Value):ChP W0 c size val x y z a b (fun _=>false) u W0:=
 ⟨Below.refl _ _,nofun,nofun,nofun,nofun,nofun,nofun,nofun,nofun,nofun,nofun⟩
theorem ChP.pure {W0 W:World} {r:TypeId} {size:Nat} {val:Nat->Option Value} {x y z:List Value} {p q:Nat} {d:Nat->Bool} {u:Nat->Value} (h:ChP W0 r size val x y z p q d u W) {j:Nat} (s:j≠0/\j≠5/\j≠8/\j≠13/\j≠7) (v:Value) (t: ∀v',val j=some v'->v=v'):
 ChP W0 r size val x y z p q (also d j) (upd u j v) W:=by
 obtain ⟨w,A,B,C,D⟩:=s;have c:=Zfq d (show 0≠j by omega);have k:=Z06 u v (show 0≠j by omega);have e:=Zfq d (show 5≠j by omega);have l:=Z06 u v (show 5≠j by omega);have f:=Zfq d (show 7≠j by omega);have m:=Z06 u v (show 7≠j by omega);have g:=Zfq d (show 8≠j by omega);have n:=Z06 u v (show 8≠j by omega);have a:=Zfq d (show 13≠j by omega);have b:=Z06 u v (show 13≠j by omega);refine ⟨h.bel,fun i hi v' hv'=> ?_, ?_, ?_, ?_, ?_, ?_, ?_, ?_, ?_, ?_⟩
 {by_cases o:i=j
  {subst o; rw[Z09]; exact t v' hv'}
  {rw[Zfq d o] at hi; rw[Z06 u v o]; exact h.vals i hi v' hv'}}
 {simp only[c,k,e,l,f,m,g,n,a,b]; exact h.rA}
 {simp only[c,k,e,l,f,m,g,n,a,b]; exact h.rB}
 {simp only[c,k,e,l,f,m,g,n,a,b]; exact h.rC}
 {simp only[c,k,e,l,f,m,g,n,a,b]; exact h.rE}
 {simp only[c,k,e,l,f,m,g,n,a,b]; exact h.rN}
 {simp only[c,k,e,l,f,m,g,n,a,b]; exact h.oB}
 {simp only[c,k,e,l,f,m,g,n,a,b]; exact h.oC}
 {simp only[c,k,e,l,f,m,g,n,a,b]; exact h.oN}
 {simp only[c,k,e,l,f,m,g,n,a,b]; exact h.oE}
end
end Go.Proofs.YtkncdbaoaeeoiaaGreatDoor
