/- What the proofs of ParseTypes want, part 17. -/
import Derived.Test.YtgndehppmaacaaaGreatDoorK0n12
set_option linter.unusedVariables false
set_option linter.unusedSimpArgs false
set_option linter.unusedSectionVars false
set_option maxRecDepth 100000
set_option maxHeartbeats 16000000
namespace Lex
theorem Zkz {r:List UInt8} {b:List Int} {a:Nat} (h: ∀p∈b,okP p=true) (c:r=esc b++r.drop a) (d:one (r.drop a)=none):quoted (34::r)=finish (b,r.drop a):=by
 have e:body (34::r).length r=(b,r.drop a):=by
  conv=>lhs; rw[c]
  exact Z4b _ h d (by rw[<-c]; simp)
 show finish (body (34::r).length r)=_;rw[e]
theorem ZjI (a:List Int) (p:Int):esc (a++ [p])=esc a++escP p:=by simp[esc]
theorem ZdV {r:List UInt8} {b:List Int} {a:Nat} (h: ∀p∈b,okP p=true) (k:r=esc b++r.drop a) (j:a=(esc b).length) {p:Int} {n:Nat} (e:one (r.drop a)=some (p,n)):
 (∀x∈b++ [p],okP x=true)/\r=esc (b++ [p])++r.drop (a+n)/\a+n=(esc (b++ [p])).length/\a+n<=r.length:=by
 obtain ⟨f,g,d,l,i⟩:=Z4A e;refine ⟨fun x c=> ?_, ?_, ?_, ?_⟩
 {rcases List.mem_append.1 c with c | c
  {exact h x c}
  {obtain rfl:x=p:=by simpa using c
   exact f}}
 {rw[ZjI,List.append_assoc];rw[List.drop_drop] at d;rw[<-d]; exact k}
 {rw[ZjI,List.length_append, <-j, <-g]}
 {rw[List.length_drop] at i; omega}
end Lex
namespace Go.Proofs.YtgndehppmaacaaaGreatDoor
open Go.RowKit
def firstV:Except (Int×Nat) (Lex.Tok×Nat)->Value
 | .ok (t,n)=> .tuple #[.agg #[.int .i64 t.kind,.string ⟨t.text.toArray⟩,.int .i64 0],.int .i64 (n:Int),.agg #[.int .i64 0,.int .i64 0]]
 | .error (e,k)=> .tuple #[.agg #[.int .i64 0,.string ⟨#[]⟩,.int .i64 0],.int .i64 0,.agg #[.int .i64 e,.int .i64 (k:Int)]]
structure R3 (W:World) (h0 h1 h2:Nat):Prop where
 l0:h0 < W.heap.size
 l1:h1 < W.heap.size
 l2:h2 < W.heap.size
 t0:W.cell? ⟨h0,0,none⟩=some (.int .i64 0)
 t1:W.cell? ⟨h0,1,none⟩=some (.string ⟨#[]⟩)
 t2:W.cell? ⟨h0,2,none⟩=some (.int .i64 0)
 f0:W.cell? ⟨h1,0,none⟩=some (.int .i64 0)
 f1:W.cell? ⟨h1,1,none⟩=some (.int .i64 0)
 b0:W.cell? ⟨h2,0,none⟩=some (.int .i64 60)
 b1:W.cell? ⟨h2,1,none⟩=some (.int .i64 0)
 z0:W.frozen? ⟨h0,0,none⟩=false
 z1:W.frozen? ⟨h0,1,none⟩=false
 z2:W.frozen? ⟨h0,2,none⟩=false
 z3:W.frozen? ⟨h1,0,none⟩=false
 z4:W.frozen? ⟨h1,1,none⟩=false
theorem R3.keep {W W':World} {g h i B:Nat} (r:R3 W g h i) (a:g < B) (c:h < B) (d:i < B) (e:Below B W W'):R3 W' g h i:=by
 have k: ∀b o,b < B->W'.cell? ⟨b,o,none⟩=W.cell? ⟨b,o,none⟩:=fun b o hbl=>e.cell (p:=⟨b,o,none⟩) hbl;have f: ∀b o,b < B->W'.frozen? ⟨b,o,none⟩=W.frozen? ⟨b,o,none⟩:=fun b o hbl=>e.frozen (p:=⟨b,o,none⟩) hbl;exact ⟨Nat.lt_of_lt_of_le r.l0 e.size,Nat.lt_of_lt_of_le r.l1 e.size,Nat.lt_of_lt_of_le r.l2 e.size,(k _ _ a).trans r.t0,(k _ _ a).trans r.t1,(k _ _ a).trans r.t2,(k _ _ c).trans r.f0,(k _ _ c).trans r.f1,(k _ _ d).trans r.b0,(k _ _ d).trans r.b1,
  (f _ _ a).trans r.z0,(f _ _ a).trans r.z1,(f _ _ a).trans r.z2,(f _ _ c).trans r.z3,(f _ _ c).trans r.z4⟩
theorem Zfy (w:World):R3 (((w.alloc (.cells Yd 46)).alloc (.cells Yc 31)).alloc (.cells #[.int .i64 60,.int .i64 0] 31)) w.heap.size (w.heap.size+1) (w.heap.size+1+1):=by
 constructor <;> simp[go_sem]
theorem Zep (w:World) (a b c:Obj):Below w.heap.size w (((w.alloc a).alloc b).alloc c):=Z0h (Z0h (Z01 w _) _) _
theorem Zpv (w:World) (a b c:Obj): (((w.alloc a).alloc b).alloc c).heap.size=w.heap.size+3:=by simp
def QInv (r:List UInt8) (W0 wr:World) (v:Value) (a:Nat):Prop:= ∃qs:List Int,(∀p∈qs,Lex.okP p=true)/\r=Lex.esc qs++r.drop a/\a=(Lex.esc qs).length/\wr.ownsRow W0.heap.size 5 1 v (Utf.enc qs).length (Lib.byteCells (Utf.enc qs))/\Below W0.heap.size W0 wr
theorem ZkY: ∀qs:List Int,(Utf.enc qs).length<=4 * (Lex.esc qs).length
 | []=>Nat.zero_le _
 | p::qs=>by
  have b:=ZkY qs;have c:=Utf.Z1B p;have d:=Utf.Z0n p;have e:=Lex.Zbk p;have a:Lex.esc (p::qs)=Lex.escP p++Lex.esc qs:=by simp[Lex.esc]
  rw[a,Utf.Z0T,List.length_append,List.length_append]; omega
theorem Zdn (a:List Int) (p:Int):Lib.byteCells (Utf.enc (a++ [p]))=Lib.byteCells (Utf.enc a)++Lib.byteCells (Utf.bytes p):=by rw[Utf.Zbc,Lib.byteCells_append]
theorem ZjJ (r:List UInt8) (hr:r.length<=1000000) (w:World):
 Y9 73 #[.string ⟨(34::r).toArray⟩] w (firstV (Lex.quoted (34::r))):=by
 obtain ⟨i0,hi,a4,a5,a6⟩:=info_parts (P:=Tryz.prog) (e:=5) (z:= .int .u8 0) (size:=1) (bytes:=1) (by kernel_rfl);obtain ⟨l,hl⟩: ∃l:List UInt8,l=34::r:=⟨_,rfl⟩;have f5:l.length=r.length+1:=by rw[hl]; rfl
 have HL:=Y1 hl;have F:=Y1 f5;have hz: (⟨l.toArray⟩:ByteArray).size=l.length:=Z0J _;have j4:l.length<=1000001:=by omega
 rw[<-hl];have b3:=Y1 (Zfy w);have d7:=Y1 (Zep w (.cells Yd 46) (.cells Yc 31) (.cells #[.int .i64 60,.int .i64 0] 31));have f9:=Zpv w (.cells Yd 46) (.cells Yc 31) (.cells #[.int .i64 60,.int .i64 0] 31);clear hl f5;go_enter Tryz.func73,Tryz.ntmps73
 go_wp2_with fail
 generalize hW: ((w.alloc (.cells Yd 46)).alloc (.cells Yc 31)).alloc (.cells #[.int .i64 60,.int .i64 0] 31)=W0 at b3 d7 f9 ⊢;clear hW;obtain ⟨h2,f3⟩: ∃h2,h2=w.heap.size+1+1:=⟨_,rfl⟩;rw[<-f3] at b3 ⊢;obtain ⟨E,f2⟩: ∃E,E=w.heap.size+1:=⟨_,rfl⟩;rw[<-f2] at b3 ⊢;have j8:w.heap.size≠E:=by omega
 have j9:w.heap.size≠h2:=by omega
 have k0:E≠h2:=by omega
 have m:Hid (w.heap.size < E/\w.heap.size < W0.heap.size/\E < W0.heap.size/\h2 < W0.heap.size):=Y1 (by omega);clear f2 f3 f9
 go_loopw [6,7] (fun v ii wr=> ∃a:Nat,ii= .int .i64 ((1+a:Nat):Int)/\1+a<=l.length/\Hid (QInv r W0 wr v a))
  (fun _ ii _=>l.length - (intOf ii).toNat)
 case atStart=>exact ⟨0,rfl,by rw[F.out]; omega,Y1 ⟨[],(fun p hp=>by cases hp),rfl,rfl,World.ownsRow_nil _ _ _ _,Below.refl _ _⟩⟩
 case round=>
  obtain ⟨a,rfl,ha,HU⟩:=hrel;obtain ⟨qs,f7,f8,d1,a2,hb⟩:=HU.out;have e9:=ZkY qs;rw[<-d1] at e9;have Q:=Y1 f7;have U:=Y1 f8;have M:=Y1 d1;have HO:=Y1 a2;have HB:=Y1 (d7.out.trans (hb.mono (Nat.le_of_lt m.out.2.1)));have X:=Y1 hb;have K:=hb.size;have h3:=ZeO a2;have HR:=Y1 (b3.out.keep m.out.2.1 m.out.2.2.1 m.out.2.2.2 hb);obtain ⟨n,hn⟩: ∃n,n=1+a:=⟨_,rfl⟩;rw[<-hn] at ha ⊢;have L:=Y1 hn;have j6: (Utf.enc qs).length<=4000000:=by have:=F.out; omega
  -- how it ends
  have i: ∀(R:Except (Int×Nat) (Lex.Tok×Nat)),Lex.one (r.drop a)=none->Lex.finish (qs,r.drop a)=R->Hid (Lex.quoted l=R):=fun R E h2=>Y1 (by rw[HL.out]; exact (Lex.Zkz Q.out U.out E).trans h2);clear f7 f8 d1 a2 hb HU hn e9;by_cases h7:n < l.length
  {have h4: (n:Int) < (l.length:Int):=by omega
   have e0:a < r.length:=by have:=L.out; have:=F.out; omega
   obtain ⟨c,hc⟩: ∃c,c=r[a]'e0:=⟨_,rfl⟩;obtain ⟨q,hq⟩: ∃q,q=r.drop (a+1):=⟨_,rfl⟩;have b7:r.drop a=c::q:=by rw[hc,hq]; exact List.drop_eq_getElem_cons e0
   have e4:l[n]'h7=c:=by
    have e:=L.out;have e2:=HL.out;subst e2;subst e;rw[hc,List.getElem_cons];simp[Nat.add_comm 1 a]
   have i3: ∀W,(Instr.index 9 (.string ⟨l.toArray⟩) (.int .i64 (n:Int))).run Tryz.prog W= .ok (.int .u8 c.toNat) W:=fun W=>by
    rw[<-e4]; exact Z4P ⟨l.toArray⟩ n (by omega) W
   have e7:l.drop n=c::q:=by rw[HL.out,L.out,Nat.add_comm,List.drop_succ_cons,b7]
   have Y:=Y1 b7;have I:=Y1 e7;have g1: ((c.toNat:Int)==34)=(c==34):=ZcR c 34 (by decide);have d3: ((c.toNat:Int)==92)=(c==92):=ZcR c 92 (by decide);have S:=Y1 (Lex.Z1U c q);rw[b7] at i;clear hc hq b7 e4 e7;cases D: (c==34)
   {rw[D] at g1;have y:c≠34:=by simpa using D
    by_cases A:c.toNat < 32
    {have h9: (c.toNat:Int) < 32:=by omega
     have V:=i (.error (60,0)) (by rw[S.out,if_pos (Or.inr A)]) (by unfold Lex.finish; simp only; rw[if_neg y,if_pos (Or.inl A)]);obtain ⟨l0,l1,l2,t0,t1,t2,f0,f1,b0,b1,z0,z1,z2,z3,z4⟩:=HR.out;clear i D y A
     go_wp2_with fail
     go_region
     all_goals
      go_wp2;refine bodyPost_ret (v:= .tuple #[.agg #[.int .i64 0,.string ⟨#[]⟩,.int .i64 0],.int .i64 0,.agg #[.int .i64 60,.int .i64 0]]) (by simp[results,Tryz.results73,go_sem,t0,t1,t2,f0,f1]) rfl ?_;exact ⟨by rw[V.out]; rfl,(((((HB.out.setCell (p:=⟨w.heap.size,0,none⟩) (Nat.le_refl _) _).setCell (p:=⟨w.heap.size,1,none⟩) (Nat.le_refl _) _).setCell (p:=⟨w.heap.size,2,none⟩) (Nat.le_refl _) _).setCell (p:=⟨E,0,none⟩) (Nat.le_of_lt m.out.1) _).setCell (p:=⟨E,1,none⟩) (Nat.le_of_lt m.out.1) _).drew⟩}
    {have h9: ¬(c.toNat:Int) < 32:=by omega
     cases J: (c==92)
     {rw[J] at d3;have B:c≠92:=by simpa using J
      have j7: ∀W,(Instr.slice 9 (.string ⟨l.toArray⟩) (some (.int .i64 (n:Int))) none none).run Tryz.prog W= .ok (.string ⟨(c::q).toArray⟩) W:=fun W=>by
       have:=Z8E (W:=W) ⟨l.toArray⟩ n (by omega);rw[show (⟨l.toArray⟩:ByteArray).data.toList=l from rfl,I.out] at this;exact this
      have e5: (c::q).length+n=l.length:=by have:=congrArg List.length I.out; rw[List.length_drop] at this; omega
      rcases hf:Utf.first (c::q) with ⟨p,k⟩;have b8:duo (p,k)= .tuple #[.int .i64 p,.int .i64 k]:=rfl;by_cases a0:k=0
      {have h6: ((k:Int)==0)=true:=by rw[beq_iff_eq]; omega
       have V:=i (.error (30,n)) (by rw[S.out,if_neg (by rintro (h | h); exact y h; exact A h),if_neg B,if_pos (by rw[hf]; exact a0)]) (by unfold Lex.finish; simp only; rw[if_neg y,if_neg (by rintro (h | h); exact A h; exact B h), <-M.out,L.out,Nat.add_comm]);clear i D y A J B a0 e5
       go_wp2_with fail
       refine (ZdS ⟨(c::q).toArray⟩ (by rw[Z0J]; have:=congrArg List.length I.out; rw[List.length_drop] at this; omega) _).mono ?_;rintro e w5 ⟨he,O⟩;rw[show (⟨(c::q).toArray⟩:ByteArray).data.toList=c::q from rfl,hf,b8] at he;subst he;have g9:=Y1 (HR.out.keep (Nat.lt_of_lt_of_le m.out.2.1 K) (Nat.lt_of_lt_of_le m.out.2.2.1 K) (Nat.lt_of_lt_of_le m.out.2.2.2 K) O);have a9:=Y1 (Z03 HB.out O);obtain ⟨l0,l1,l2,t0,t1,t2,f0,f1,b0,b1,z0,z1,z2,z3,z4⟩:=g9.out;clear hf b8 O;go_wp2;refine bodyPost_ret (v:= .tuple #[.agg #[.int .i64 0,.string ⟨#[]⟩,.int .i64 0],.int .i64 0,.agg #[.int .i64 30,.int .i64 (n:Int)]]) (by simp[results,Tryz.results73,go_sem,t0,t1,t2,f0,f1]) rfl ?_;exact ⟨by rw[V.out]; rfl,((((a9.out.setCell (p:=⟨w.heap.size,0,none⟩) (Nat.le_refl _) _).setCell (p:=⟨w.heap.size,1,none⟩) (Nat.le_refl _) _).setCell (p:=⟨w.heap.size,2,none⟩) (Nat.le_refl _) _).setCell (p:=⟨E,0,none⟩) (Nat.le_of_lt m.out.1) _).setCell (p:=⟨E,1,none⟩) (Nat.le_of_lt m.out.1) _⟩}
      {have h6: ((k:Int)==0)=false:=by rw[beq_eq_false_iff_ne]; omega
       have j:Lex.one (r.drop a)=some (p,k):=by rw[Y.out,S.out,if_neg (by rintro (h | h); exact y h; exact A h),if_neg B,if_neg (by rw[hf]; exact a0),hf]
       obtain ⟨m1,m2,m3,m4⟩:=Lex.ZdV Q.out U.out M.out j;obtain ⟨_,fw,fb,fl⟩:=Utf.Z0O hf a0;have hbl:=Utf.Z0n p;have C:=Y1 (And.intro m1 (And.intro m2 (And.intro m3 m4)));have i5: ∀W,(Instr.slice 9 (.string ⟨l.toArray⟩) (some (.int .i64 (n:Int))) (some (.int .i64 ((n:Int)+(k:Int)))) none).run Tryz.prog W= .ok (.string ⟨(Utf.bytes p).toArray⟩) W:=fun W=>by
        rw[Z9U ⟨l.toArray⟩ n ((n:Int)+(k:Int)) (by omega) (by omega) W];have e: ((l.drop n).take (((n:Int)+(k:Int)).toNat - n))=Utf.bytes p:=by
         rw[show ((n:Int)+(k:Int)).toNat - n=k by omega,I.out,fb,fw, <-hbl,List.take_left]
        exact congrArg (fun b=>Result.ok (Value.string ⟨List.toArray b⟩) W) e
       have j3:1<=k:=by omega
       have j2:k<=4:=by have:=(Utf.Z1B p).2; omega
       have j5:n+k<=l.length:=by omega
       have e3: (⟨(Utf.bytes p).toArray⟩:ByteArray).size=k:=by rw[Z0J,hbl,fw]
       have g5:Hid ((Utf.bytes p).length=k):=Y1 (by rw[hbl,fw]);have d0:=Y1 e3;clear j m1 m2 m3 m4 i fw fb fl hbl D y A J B a0 e5 e3
       go_wp2_with fail
       refine (ZdS ⟨(c::q).toArray⟩ (by rw[Z0J]; have:=congrArg List.length I.out; rw[List.length_drop] at this; omega) _).mono ?_;rintro e w5 ⟨he,O⟩;rw[show (⟨(c::q).toArray⟩:ByteArray).data.toList=c::q from rfl,hf,b8] at he;subst he;have d9:=Y1 (Z0K HO.out O);have a9:=Y1 (X.out.trans (O.mono K));have c9:=a9.out.size;clear hf b8 O
       go_wp2_with (at_builtin; refine Lib.wpList_append_own_string _ rfl _ _ 131 9 rfl W0.heap.size 5 i0 Tryz.underlying131 Tryz.underlying9 hi a4 a5 a6 _ _ _ rfl d9.out ⟨(Utf.bytes p).toArray⟩ rfl (by rw[d0.out]; unfold maxLen; omega) (by rw[d0.out]; omega) c9 ?_)
       intro v' w3 f g _;have t:=a9.out.grown g c9 (fun k hk=>(d9.out.lt k hk).1);have G:Hid (QInv r W0 w3 v' (a+k)):=Y1 ⟨_,C.out.1,C.out.2.1,C.out.2.2.1,by rw[Zdn,Utf.Zbc,List.length_append,g5.out, <-d0.out]; exact f,t⟩;clear f g t;go_wp2
       go_roundw
       case rel=>exact ⟨a+k,by rw[L.out]; go_num,(by have:=C.out.2.2.2; have:=L.out; have:=F.out; omega),G⟩
       case measure=>simp[intOf]; omega}}
     {rw[J] at d3;have B:c=92:=by simpa using J
      cases q with
      | nil=>
       have f6: ((n:Int)+1==(l.length:Int))=true:=by rw[beq_iff_eq]; have:=congrArg List.length I.out; rw[List.length_drop] at this; simp only[List.length_cons,List.length_nil] at this; omega
       have V:=i (.error (60,0)) (by rw[S.out,if_neg (by rintro (h | h); exact y h; exact A h),if_pos B]) (by unfold Lex.finish; simp only; rw[if_neg y,if_pos (Or.inr B)]);obtain ⟨l0,l1,l2,t0,t1,t2,f0,f1,b0,b1,z0,z1,z2,z3,z4⟩:=HR.out;clear i D y A J B
       go_wp2_with fail
       go_region
       all_goals
        go_wp2;refine bodyPost_ret (v:= .tuple #[.agg #[.int .i64 0,.string ⟨#[]⟩,.int .i64 0],.int .i64 0,.agg #[.int .i64 60,.int .i64 0]]) (by simp[results,Tryz.results73,go_sem,t0,t1,t2,f0,f1]) rfl ?_;exact ⟨by rw[V.out]; rfl,(((((HB.out.setCell (p:=⟨w.heap.size,0,none⟩) (Nat.le_refl _) _).setCell (p:=⟨w.heap.size,1,none⟩) (Nat.le_refl _) _).setCell (p:=⟨w.heap.size,2,none⟩) (Nat.le_refl _) _).setCell (p:=⟨E,0,none⟩) (Nat.le_of_lt m.out.1) _).setCell (p:=⟨E,1,none⟩) (Nat.le_of_lt m.out.1) _).drew⟩
      | cons d q2=>
       have e6:n+1 < l.length:=by have:=congrArg List.length I.out; rw[List.length_drop] at this; simp only[List.length_cons] at this; omega
       have f6: ((n:Int)+1==(l.length:Int))=false:=by rw[beq_eq_false_iff_ne]; omega
       have j1: (n:Int)+1 < (l.length:Int):=by omega
       have h5: ∀W,(Instr.index 9 (.string ⟨l.toArray⟩) (.int .i64 ((n:Int)+1))).run Tryz.prog W= .ok (.int .u8 d.toNat) W:=fun W=>by
        have E:=Z4P ⟨l.toArray⟩ (n+1) (by omega) W;have h2:l[n+1]'e6=d:=by
         have: (l.drop n)[1]? =some d:=by rw[I.out]; rfl
         rw[List.getElem?_drop,List.getElem?_eq_getElem e6] at this;exact Option.some.inj this
        rw[<-h2]; exact E
       have c8: ((d.toNat:Int)==110)=(d==110):=ZcR d 110 (by decide);have Z: ((d.toNat:Int)==116)=(d==116):=ZcR d 116 (by decide);have b4: ((d.toNat:Int)==34)=(d==34):=ZcR d 34 (by decide);have b5: ((d.toNat:Int)==92)=(d==92):=ZcR d 92 (by decide);have a1:Lex.one (c::d::q2)=if d=110 then some (10,2) else if d=116 then some (9,2) else if d=34 then some (34,2) else if d=92 then some (92,2) else none:=by rw[S.out,if_neg (by rintro (h | h); exact y h; exact A h),if_pos B]
       have HE:=Y1 a1;have g7:Hid (Lex.finish (qs,c::d::q2)= .error (60,0)):=Y1 (by unfold Lex.finish; simp only; rw[if_neg y,if_pos (Or.inr B)]);clear D y A J B a1;cases o: (d==110)
       {rw[o] at c8;cases s: (d==116)
        {rw[s] at Z;cases H: (d==34)
         {rw[H] at b4;cases N: (d==92)
          {rw[N] at b5;have V:=i (.error (60,0)) (by rw[HE.out,if_neg (by simpa using o),if_neg (by simpa using s),if_neg (by simpa using H),if_neg (by simpa using N)]) (g7.out);obtain ⟨l0,l1,l2,t0,t1,t2,f0,f1,b0,b1,z0,z1,z2,z3,z4⟩:=HR.out;clear i o s H N
           go_wp2_with fail
           go_region
           all_goals
            go_wp2;refine bodyPost_ret (v:= .tuple #[.agg #[.int .i64 0,.string ⟨#[]⟩,.int .i64 0],.int .i64 0,.agg #[.int .i64 60,.int .i64 0]]) (by simp[results,Tryz.results73,go_sem,t0,t1,t2,f0,f1]) rfl ?_;exact ⟨by rw[V.out]; rfl,(((((HB.out.setCell (p:=⟨w.heap.size,0,none⟩) (Nat.le_refl _) _).setCell (p:=⟨w.heap.size,1,none⟩) (Nat.le_refl _) _).setCell (p:=⟨w.heap.size,2,none⟩) (Nat.le_refl _) _).setCell (p:=⟨E,0,none⟩) (Nat.le_of_lt m.out.1) _).setCell (p:=⟨E,1,none⟩) (Nat.le_of_lt m.out.1) _).drew⟩}
          {rw[N] at b5;have HD:Hid (d=92):=Y1 (by simpa using N);have j:Lex.one (r.drop a)=some (92,2):=by rw[Y.out,HE.out,if_neg (by simpa using o),if_neg (by simpa using s),if_neg (by simpa using H),if_pos (by simpa using N)]
           obtain ⟨k1,k2,k3,k4⟩:=Lex.ZdV Q.out U.out M.out j;have C:=Y1 (And.intro k1 (And.intro k2 (And.intro k3 k4)));clear j k1 k2 k3 k4 i o s H N
           go_wp2_with (at_builtin; refine wpList_append_own _ rfl _ _ 131 rfl W0.heap.size 5 i0 (.int .u8 0) 1 1 Tryz.underlying131 hi a4 a5 a6 rfl (by decide) _ _ _ rfl (HO.out.alloc _) ⟨wr.heap.size,0,none⟩ 1 1 [.int .u8 (d.toNat:Int)] rfl rfl (World.news_of_block (heap_alloc_new wr _)) (by intro u hu; simp at hu; subst hu; rfl) (by unfold maxLen; omega) (by omega) (by simp; omega) ?_)
           intro v' w3 f g _;have t:=(X.out.alloc K (.cells #[.int .u8 (d.toNat:Int)] 5)).grown g (by simp; omega) (fun k hk=>(HO.out.lt k hk).1);have G:Hid (QInv r W0 w3 v' (a+2)):=Y1 ⟨_,C.out.1,C.out.2.1,C.out.2.2.1,by rw[Zdn,Utf.Zbc,List.length_append]; rw[HD.out] at f; exact f,t⟩;clear f g t;go_wp2
           go_roundw
           case rel=>exact ⟨a+2,by rw[L.out]; go_num,(by have:=C.out.2.2.2; have:=L.out; have:=F.out; omega),G⟩
           case measure=>simp[intOf]; omega}}
         {rw[H] at b4;have HD:Hid (d=34):=Y1 (by simpa using H);have j:Lex.one (r.drop a)=some (34,2):=by rw[Y.out,HE.out,if_neg (by simpa using o),if_neg (by simpa using s),if_pos (by simpa using H)]
          obtain ⟨k1,k2,k3,k4⟩:=Lex.ZdV Q.out U.out M.out j;have C:=Y1 (And.intro k1 (And.intro k2 (And.intro k3 k4)));clear j k1 k2 k3 k4 i o s H
          go_wp2_with (at_builtin; refine wpList_append_own _ rfl _ _ 131 rfl W0.heap.size 5 i0 (.int .u8 0) 1 1 Tryz.underlying131 hi a4 a5 a6 rfl (by decide) _ _ _ rfl (HO.out.alloc _) ⟨wr.heap.size,0,none⟩ 1 1 [.int .u8 (d.toNat:Int)] rfl rfl (World.news_of_block (heap_alloc_new wr _)) (by intro u hu; simp at hu; subst hu; rfl) (by unfold maxLen; omega) (by omega) (by simp; omega) ?_)
          intro v' w3 f g _;have t:=(X.out.alloc K (.cells #[.int .u8 (d.toNat:Int)] 5)).grown g (by simp; omega) (fun k hk=>(HO.out.lt k hk).1);have G:Hid (QInv r W0 w3 v' (a+2)):=Y1 ⟨_,C.out.1,C.out.2.1,C.out.2.2.1,by rw[Zdn,Utf.Zbc,List.length_append]; rw[HD.out] at f; exact f,t⟩;clear f g t;go_wp2
          go_roundw
          case rel=>exact ⟨a+2,by rw[L.out]; go_num,(by have:=C.out.2.2.2; have:=L.out; have:=F.out; omega),G⟩
          case measure=>simp[intOf]; omega}}
        {rw[s] at Z;have j:Lex.one (r.drop a)=some (9,2):=by rw[Y.out,HE.out,if_neg (by simpa using o),if_pos (by simpa using s)]
         obtain ⟨k1,k2,k3,k4⟩:=Lex.ZdV Q.out U.out M.out j;have C:=Y1 (And.intro k1 (And.intro k2 (And.intro k3 k4)));clear j k1 k2 k3 k4 i o s b4 b5
         go_wp2_with (at_builtin; refine wpList_append_own _ rfl _ _ 131 rfl W0.heap.size 5 i0 (.int .u8 0) 1 1 Tryz.underlying131 hi a4 a5 a6 rfl (by decide) _ _ _ rfl (HO.out.alloc _) ⟨wr.heap.size,0,none⟩ 1 1 [.int .u8 9] rfl rfl (World.news_of_block (heap_alloc_new wr _)) (by intro u hu; simp at hu; subst hu; rfl) (by unfold maxLen; omega) (by omega) (by simp; omega) ?_)
         intro v' w3 f g _;have t:=(X.out.alloc K (.cells #[.int .u8 9] 5)).grown g (by simp; omega) (fun k hk=>(HO.out.lt k hk).1);have G:Hid (QInv r W0 w3 v' (a+2)):=Y1 ⟨_,C.out.1,C.out.2.1,C.out.2.2.1,by rw[Zdn,Utf.Zbc,List.length_append]; exact f,t⟩;clear f g t;go_wp2
         go_roundw
         case rel=>exact ⟨a+2,by rw[L.out]; go_num,(by have:=C.out.2.2.2; have:=L.out; have:=F.out; omega),G⟩
         case measure=>simp[intOf]; omega}}
       {rw[o] at c8;have j:Lex.one (r.drop a)=some (10,2):=by rw[Y.out,HE.out,if_pos (by simpa using o)]
        obtain ⟨k1,k2,k3,k4⟩:=Lex.ZdV Q.out U.out M.out j;have C:=Y1 (And.intro k1 (And.intro k2 (And.intro k3 k4)));clear j k1 k2 k3 k4 i o Z b4 b5
        go_wp2_with (at_builtin; refine wpList_append_own _ rfl _ _ 131 rfl W0.heap.size 5 i0 (.int .u8 0) 1 1 Tryz.underlying131 hi a4 a5 a6 rfl (by decide) _ _ _ rfl (HO.out.alloc _) ⟨wr.heap.size,0,none⟩ 1 1 [.int .u8 10] rfl rfl (World.news_of_block (heap_alloc_new wr _)) (by intro u hu; simp at hu; subst hu; rfl) (by unfold maxLen; omega) (by omega) (by simp; omega) ?_)
        intro v' w3 f g _;have t:=(X.out.alloc K (.cells #[.int .u8 10] 5)).grown g (by simp; omega) (fun k hk=>(HO.out.lt k hk).1);have G:Hid (QInv r W0 w3 v' (a+2)):=Y1 ⟨_,C.out.1,C.out.2.1,C.out.2.2.1,by rw[Zdn,Utf.Zbc,List.length_append]; exact f,t⟩;clear f g t;go_wp2
        go_roundw
        case rel=>exact ⟨a+2,by rw[L.out]; go_num,(by have:=C.out.2.2.2; have:=L.out; have:=F.out; omega),G⟩
        case measure=>simp[intOf]; omega}}}}
   {rw[D] at g1;have V:=i (.ok (⟨4,Utf.enc qs⟩,n+1)) (by rw[S.out,if_pos (Or.inl (by simpa using D))]) (by unfold Lex.finish; simp only; rw[if_pos (by simpa using D), <-M.out,show a+2=n+1 by have:=L.out; omega]);obtain ⟨l0,l1,l2,t0,t1,t2,f0,f1,b0,b1,z0,z1,z2,z3,z4⟩:=HR.out;clear i D d3;obtain ⟨T,hT⟩: ∃T,T=Utf.enc qs:=⟨_,rfl⟩;rw[<-hT] at h3 V;clear hT;go_wp2;refine bodyPost_ret (v:= .tuple #[.agg #[.int .i64 4,.string ⟨T.toArray⟩,.int .i64 0],.int .i64 ((n:Int)+1),.agg #[.int .i64 0,.int .i64 0]]) (by simp[results,Tryz.results73,go_sem,t0,t1,t2,f0,f1]) rfl ?_;exact ⟨by rw[V.out]; rfl,((((HB.out.setCell (p:=⟨w.heap.size,0,none⟩) (Nat.le_refl _) _).setCell (p:=⟨w.heap.size,1,none⟩) (Nat.le_refl _) _).setCell (p:=⟨w.heap.size,2,none⟩) (Nat.le_refl _) _).setCell (p:=⟨E,0,none⟩) (Nat.le_of_lt m.out.1) _).setCell (p:=⟨E,1,none⟩) (Nat.le_of_lt m.out.1) _⟩}}
  {have h4: ¬(n:Int) < (l.length:Int):=by omega
   have d2:r.drop a= []:=List.drop_eq_nil_of_le (by have:=L.out; have:=F.out; omega);have V:=i (.error (60,0)) (by rw[d2]; rfl) (by rw[d2]; rfl);obtain ⟨l0,l1,l2,t0,t1,t2,f0,f1,b0,b1,z0,z1,z2,z3,z4⟩:=HR.out;clear d2 i
   go_wp2_with fail
   go_region
   all_goals
    go_wp2;refine bodyPost_ret (v:= .tuple #[.agg #[.int .i64 0,.string ⟨#[]⟩,.int .i64 0],.int .i64 0,.agg #[.int .i64 60,.int .i64 0]]) (by simp[results,Tryz.results73,go_sem,t0,t1,t2,f0,f1]) rfl ?_;exact ⟨by rw[V.out]; rfl,(((((HB.out.setCell (p:=⟨w.heap.size,0,none⟩) (Nat.le_refl _) _).setCell (p:=⟨w.heap.size,1,none⟩) (Nat.le_refl _) _).setCell (p:=⟨w.heap.size,2,none⟩) (Nat.le_refl _) _).setCell (p:=⟨E,0,none⟩) (Nat.le_of_lt m.out.1) _).setCell (p:=⟨E,1,none⟩) (Nat.le_of_lt m.out.1) _).drew⟩}
end Go.Proofs.YtgndehppmaacaaaGreatDoor
namespace Lex
theorem ZhC {c:UInt8} {r T:List UInt8} (h: (small c||great c)=true) (a:T=(c::r).takeWhile nameB):token (c::r)=if isWord T then .ok (⟨5,T⟩,T.length) else if isName T then .ok (⟨1,T⟩,T.length) else if isUpper T then .ok (⟨2,T⟩,T.length) else .error (60,0):=by
 subst a; rw[Z8P,if_pos h]
theorem Zm0 {c:UInt8} {r T:List UInt8} (h: (small c||great c)=false) (a:digit c=true) (b:T=(c::r).takeWhile lumpB):token (c::r)=if number T then .ok (⟨3,T⟩,T.length) else if (Sem.parse T).isSome then .ok (⟨7,T⟩,T.length) else .error (60,0):=by
 subst b; rw[Z8P,if_neg (by rw[h]; simp),if_pos a]
theorem ZhD {c:UInt8} {r:List UInt8} (h: (small c||great c)=false) (a:digit c=false):token (c::r)=if c=34 then quoted (c::r) else if decide (2<=(c::r).length)&&isSign ((c::r).take 2) then .ok (⟨6,(c::r).take 2⟩,2)
 else if isSign [c] then .ok (⟨6,[c]⟩,1) else .error (60,0):=by
 rw[Z8P,if_neg (by rw[h]; simp),if_neg (by rw[a]; simp)]
theorem Znr (c:UInt8):lumpB c=(small c||great c||digit c||c==46||c==45):=rfl
end Lex
namespace Go.Proofs.YtgndehppmaacaaaGreatDoor
open Go.RowKit
theorem ZgC (l:List UInt8) (n:Nat) (h:n<=l.length) (W:World): (Instr.slice 9 (.string ⟨l.toArray⟩) none (some (.int .i64 (n:Int))) none).run Tryz.prog W= .ok (.string ⟨(l.take n).toArray⟩) W:=by
 have:=ZnA ⟨l.toArray⟩ (n:Int) (by omega) (by rw[Z0J]; omega) W;rw[Int.toNat_natCast] at this;exact this
section
variable (c : UInt8)
include c
theorem ZoH: ((c.toNat:Int)==46)=(c==46):=ZcR c 46 (by decide)
theorem ZoI: ((c.toNat:Int)==45)=(c==45):=ZcR c 45 (by decide)
theorem ZkA (l r:List UInt8) (D:l.length<=1000000) (J:Hid (l=c::r)) (L:Lex.small c=true) (w:World):
 Y9 37 #[.string ⟨l.toArray⟩] w (firstV (Lex.token l)):=by
 have K:Hid (∀T,T=l.takeWhile Lex.nameB->Lex.token l=if Lex.isWord T then .ok (⟨5,T⟩,T.length) else if Lex.isName T then .ok (⟨1,T⟩,T.length) else if Lex.isUpper T then .ok (⟨2,T⟩,T.length) else .error (60,0)):=Y1 (fun T t=>by rw[J.out] at t ⊢; exact Lex.ZhC (by rw[L]; rfl) t);obtain ⟨z,s⟩:=Lex.Z3S Lex.nameB l;have U: (⟨l.toArray⟩:ByteArray).size=l.length:=Z0J _;have C: ∀W,(Instr.index 9 (.string ⟨l.toArray⟩) (.int .i64 0)).run Tryz.prog W= .ok (.int .u8 c.toNat) W:=fun W=>by rw[J.out]; rfl
 have b:=Y1 (Zfy w);have m:=Y1 (Zep w (.cells Yd 46) (.cells Yc 31) (.cells #[.int .i64 60,.int .i64 0] 31));go_enter Tryz.func37,Tryz.ntmps37
 go_wp2_with fail
 generalize hW: ((w.alloc (.cells Yd 46)).alloc (.cells Yc 31)).alloc (.cells #[.int .i64 60,.int .i64 0] 31)=W0 at b m ⊢;clear hW;obtain ⟨B,y⟩: ∃B,B=w.heap.size+1+1:=⟨_,rfl⟩;rw[<-y] at b ⊢;obtain ⟨h,u⟩: ∃h,h=w.heap.size+1:=⟨_,rfl⟩;rw[<-u] at b ⊢;have O:w.heap.size≠h:=by omega
 have P:w.heap.size≠B:=by omega
 have Q:h≠B:=by omega
 have g:Hid (w.heap.size < h):=Y1 (by omega);clear u y
 go_wp2_with fail
 refine (Z12 c _).mono ?_;rintro e S ⟨rfl,rfl⟩;rw[L]
 go_wp2_with fail
 refine (Z4Q l D _).mono ?_;rintro e S ⟨rfl,rfl⟩;obtain ⟨T,t⟩: ∃T,T=l.takeWhile Lex.nameB:=⟨_,rfl⟩;have k:=Y1 (K.out T t);rw[<-t] at z s ⊢;have N: ∀W,(Instr.slice 9 (.string ⟨l.toArray⟩) none (some (.int .i64 (T.length:Int))) none).run Tryz.prog W= .ok (.string ⟨T.toArray⟩) W:=fun W=>by
  rw[ZgC l T.length z W,s]
 have M:T.length<=1000000:=by omega
 clear t s K;cases g1:Lex.isWord T
 {go_wp2_with fail
  refine (Z8H T _).mono ?_;rintro e F ⟨rfl,a⟩;have d:=Y1 (b.out.keep b.out.l0 b.out.l1 b.out.l2 a);have i:=Y1 (Z03 m.out a);clear a;rw[g1];cases g2:Lex.isName T
  {go_wp2_with fail
   refine (Z3o T (by omega) _).mono ?_;rintro e G ⟨rfl,a⟩;have f:=Y1 (d.out.keep d.out.l0 d.out.l1 d.out.l2 a);have j:=Y1 (Z03 i.out a);clear a;rw[g2];cases A:Lex.isUpper T
   {go_wp2_with fail
    refine (Z7l T (by omega) _).mono ?_;rintro e H ⟨rfl,a⟩;have q:=Y1 (f.out.keep f.out.l0 f.out.l1 f.out.l2 a);have n:=Y1 (Z03 j.out a);clear a;rw[A];have o:Hid (Lex.token l= .error (60,0)):=Y1 (by rw[k.out,g1,g2,A]; rfl);obtain ⟨E,l1,l2,t0,t1,t2,f0,f1,b0,b1,z0,z1,z2,z3,I⟩:=q.out
    go_wp2_with fail
    go_region
    all_goals
     go_wp2;refine bodyPost_ret (v:= .tuple #[.agg #[.int .i64 0,.string ⟨#[]⟩,.int .i64 0],.int .i64 0,.agg #[.int .i64 60,.int .i64 0]]) (by simp[results,Tryz.results37,go_sem,t0,t1,t2,f0,f1]) rfl ?_;exact ⟨by rw[o.out]; rfl,(((((n.out.setCell (p:=⟨w.heap.size,0,none⟩) (Nat.le_refl _) _).setCell (p:=⟨w.heap.size,1,none⟩) (Nat.le_refl _) _).setCell (p:=⟨w.heap.size,2,none⟩) (Nat.le_refl _) _).setCell (p:=⟨h,0,none⟩) (Nat.le_of_lt g.out) _).setCell (p:=⟨h,1,none⟩) (Nat.le_of_lt g.out) _).drew⟩}
   {go_wp2_with fail
    refine (Z7l T (by omega) _).mono ?_;rintro e H ⟨rfl,a⟩;have q:=Y1 (f.out.keep f.out.l0 f.out.l1 f.out.l2 a);have n:=Y1 (Z03 j.out a);clear a;rw[A];have o:Hid (Lex.token l= .ok (⟨2,T⟩,T.length)):=Y1 (by rw[k.out,g1,g2,A]; rfl);obtain ⟨E,l1,l2,t0,t1,t2,f0,f1,b0,b1,z0,z1,z2,z3,I⟩:=q.out;go_wp2;refine bodyPost_ret (v:= .tuple #[.agg #[.int .i64 2,.string ⟨(T).toArray⟩,.int .i64 0],.int .i64 ((T.length:Nat):Int),.agg #[.int .i64 0,.int .i64 0]]) (by simp[results,Tryz.results37,go_sem,t0,t1,t2,f0,f1]) rfl ?_;exact ⟨by rw[o.out]; rfl,((((n.out.setCell (p:=⟨w.heap.size,0,none⟩) (Nat.le_refl _) _).setCell (p:=⟨w.heap.size,1,none⟩) (Nat.le_refl _) _).setCell (p:=⟨w.heap.size,2,none⟩) (Nat.le_refl _) _).setCell (p:=⟨h,0,none⟩) (Nat.le_of_lt g.out) _).setCell (p:=⟨h,1,none⟩) (Nat.le_of_lt g.out) _⟩}}
  {go_wp2_with fail
   refine (Z3o T (by omega) _).mono ?_;rintro e G ⟨rfl,a⟩;have f:=Y1 (d.out.keep d.out.l0 d.out.l1 d.out.l2 a);have j:=Y1 (Z03 i.out a);clear a;rw[g2];have o:Hid (Lex.token l= .ok (⟨1,T⟩,T.length)):=Y1 (by rw[k.out,g1,g2]; rfl);obtain ⟨E,l1,l2,t0,t1,t2,f0,f1,b0,b1,z0,z1,z2,z3,I⟩:=f.out;go_wp2;refine bodyPost_ret (v:= .tuple #[.agg #[.int .i64 1,.string ⟨(T).toArray⟩,.int .i64 0],.int .i64 ((T.length:Nat):Int),.agg #[.int .i64 0,.int .i64 0]]) (by simp[results,Tryz.results37,go_sem,t0,t1,t2,f0,f1]) rfl ?_;exact ⟨by rw[o.out]; rfl,((((j.out.setCell (p:=⟨w.heap.size,0,none⟩) (Nat.le_refl _) _).setCell (p:=⟨w.heap.size,1,none⟩) (Nat.le_refl _) _).setCell (p:=⟨w.heap.size,2,none⟩) (Nat.le_refl _) _).setCell (p:=⟨h,0,none⟩) (Nat.le_of_lt g.out) _).setCell (p:=⟨h,1,none⟩) (Nat.le_of_lt g.out) _⟩}}
 {go_wp2_with fail
  refine (Z8H T _).mono ?_;rintro e F ⟨rfl,a⟩;have d:=Y1 (b.out.keep b.out.l0 b.out.l1 b.out.l2 a);have i:=Y1 (Z03 m.out a);clear a;rw[g1];have o:Hid (Lex.token l= .ok (⟨5,T⟩,T.length)):=Y1 (by rw[k.out,g1]; rfl);obtain ⟨E,l1,l2,t0,t1,t2,f0,f1,b0,b1,z0,z1,z2,z3,I⟩:=d.out;go_wp2;refine bodyPost_ret (v:= .tuple #[.agg #[.int .i64 5,.string ⟨(T).toArray⟩,.int .i64 0],.int .i64 ((T.length:Nat):Int),.agg #[.int .i64 0,.int .i64 0]]) (by simp[results,Tryz.results37,go_sem,t0,t1,t2,f0,f1]) rfl ?_;exact ⟨by rw[o.out]; rfl,((((i.out.setCell (p:=⟨w.heap.size,0,none⟩) (Nat.le_refl _) _).setCell (p:=⟨w.heap.size,1,none⟩) (Nat.le_refl _) _).setCell (p:=⟨w.heap.size,2,none⟩) (Nat.le_refl _) _).setCell (p:=⟨h,0,none⟩) (Nat.le_of_lt g.out) _).setCell (p:=⟨h,1,none⟩) (Nat.le_of_lt g.out) _⟩}
theorem ZkB (l r:List UInt8) (D:l.length<=1000000) (J:Hid (l=c::r)) (U:Lex.small c=false) (L:Lex.great c=true) (w:World):
 Y9 37 #[.string ⟨l.toArray⟩] w (firstV (Lex.token l)):=by
 have K:Hid (∀T,T=l.takeWhile Lex.nameB->Lex.token l=if Lex.isWord T then .ok (⟨5,T⟩,T.length) else if Lex.isName T then .ok (⟨1,T⟩,T.length) else if Lex.isUpper T then .ok (⟨2,T⟩,T.length) else .error (60,0)):=Y1 (fun T t=>by rw[J.out] at t ⊢; exact Lex.ZhC (by rw[L]; simp) t);obtain ⟨z,s⟩:=Lex.Z3S Lex.nameB l;have V: (⟨l.toArray⟩:ByteArray).size=l.length:=Z0J _;have C: ∀W,(Instr.index 9 (.string ⟨l.toArray⟩) (.int .i64 0)).run Tryz.prog W= .ok (.int .u8 c.toNat) W:=fun W=>by rw[J.out]; rfl
 have b:=Y1 (Zfy w);have m:=Y1 (Zep w (.cells Yd 46) (.cells Yc 31) (.cells #[.int .i64 60,.int .i64 0] 31));go_enter Tryz.func37,Tryz.ntmps37
 go_wp2_with fail
 generalize hW: ((w.alloc (.cells Yd 46)).alloc (.cells Yc 31)).alloc (.cells #[.int .i64 60,.int .i64 0] 31)=W0 at b m ⊢;clear hW;obtain ⟨B,y⟩: ∃B,B=w.heap.size+1+1:=⟨_,rfl⟩;rw[<-y] at b ⊢;obtain ⟨h,u⟩: ∃h,h=w.heap.size+1:=⟨_,rfl⟩;rw[<-u] at b ⊢;have P:w.heap.size≠h:=by omega
 have Q:w.heap.size≠B:=by omega
 have S:h≠B:=by omega
 have g:Hid (w.heap.size < h):=Y1 (by omega);clear u y
 go_wp2_with fail
 refine (Z12 c _).mono ?_;rintro e M ⟨rfl,rfl⟩;rw[U]
 go_wp2_with fail
 refine (Z1c c _).mono ?_;rintro e M ⟨rfl,rfl⟩;rw[L]
 go_wp2_with fail
 refine (Z4Q l D _).mono ?_;rintro e M ⟨rfl,rfl⟩;obtain ⟨T,t⟩: ∃T,T=l.takeWhile Lex.nameB:=⟨_,rfl⟩;have k:=Y1 (K.out T t);rw[<-t] at z s ⊢;have O: ∀W,(Instr.slice 9 (.string ⟨l.toArray⟩) none (some (.int .i64 (T.length:Int))) none).run Tryz.prog W= .ok (.string ⟨T.toArray⟩) W:=fun W=>by
  rw[ZgC l T.length z W,s]
 have N:T.length<=1000000:=by omega
 clear t s K;cases g1:Lex.isWord T
 {go_wp2_with fail
  refine (Z8H T _).mono ?_;rintro e F ⟨rfl,a⟩;have d:=Y1 (b.out.keep b.out.l0 b.out.l1 b.out.l2 a);have i:=Y1 (Z03 m.out a);clear a;rw[g1];cases g2:Lex.isName T
  {go_wp2_with fail
   refine (Z3o T (by omega) _).mono ?_;rintro e G ⟨rfl,a⟩;have f:=Y1 (d.out.keep d.out.l0 d.out.l1 d.out.l2 a);have j:=Y1 (Z03 i.out a);clear a;rw[g2];cases A:Lex.isUpper T
   {go_wp2_with fail
    refine (Z7l T (by omega) _).mono ?_;rintro e H ⟨rfl,a⟩;have q:=Y1 (f.out.keep f.out.l0 f.out.l1 f.out.l2 a);have n:=Y1 (Z03 j.out a);clear a;rw[A];have o:Hid (Lex.token l= .error (60,0)):=Y1 (by rw[k.out,g1,g2,A]; rfl);obtain ⟨E,l1,l2,t0,t1,t2,f0,f1,b0,b1,z0,z1,z2,z3,I⟩:=q.out
    go_wp2_with fail
    go_region
    all_goals
     go_wp2;refine bodyPost_ret (v:= .tuple #[.agg #[.int .i64 0,.string ⟨#[]⟩,.int .i64 0],.int .i64 0,.agg #[.int .i64 60,.int .i64 0]]) (by simp[results,Tryz.results37,go_sem,t0,t1,t2,f0,f1]) rfl ?_;exact ⟨by rw[o.out]; rfl,(((((n.out.setCell (p:=⟨w.heap.size,0,none⟩) (Nat.le_refl _) _).setCell (p:=⟨w.heap.size,1,none⟩) (Nat.le_refl _) _).setCell (p:=⟨w.heap.size,2,none⟩) (Nat.le_refl _) _).setCell (p:=⟨h,0,none⟩) (Nat.le_of_lt g.out) _).setCell (p:=⟨h,1,none⟩) (Nat.le_of_lt g.out) _).drew⟩}
   {go_wp2_with fail
    refine (Z7l T (by omega) _).mono ?_;rintro e H ⟨rfl,a⟩;have q:=Y1 (f.out.keep f.out.l0 f.out.l1 f.out.l2 a);have n:=Y1 (Z03 j.out a);clear a;rw[A];have o:Hid (Lex.token l= .ok (⟨2,T⟩,T.length)):=Y1 (by rw[k.out,g1,g2,A]; rfl);obtain ⟨E,l1,l2,t0,t1,t2,f0,f1,b0,b1,z0,z1,z2,z3,I⟩:=q.out;go_wp2;refine bodyPost_ret (v:= .tuple #[.agg #[.int .i64 2,.string ⟨(T).toArray⟩,.int .i64 0],.int .i64 ((T.length:Nat):Int),.agg #[.int .i64 0,.int .i64 0]]) (by simp[results,Tryz.results37,go_sem,t0,t1,t2,f0,f1]) rfl ?_;exact ⟨by rw[o.out]; rfl,((((n.out.setCell (p:=⟨w.heap.size,0,none⟩) (Nat.le_refl _) _).setCell (p:=⟨w.heap.size,1,none⟩) (Nat.le_refl _) _).setCell (p:=⟨w.heap.size,2,none⟩) (Nat.le_refl _) _).setCell (p:=⟨h,0,none⟩) (Nat.le_of_lt g.out) _).setCell (p:=⟨h,1,none⟩) (Nat.le_of_lt g.out) _⟩}}
  {go_wp2_with fail
   refine (Z3o T (by omega) _).mono ?_;rintro e G ⟨rfl,a⟩;have f:=Y1 (d.out.keep d.out.l0 d.out.l1 d.out.l2 a);have j:=Y1 (Z03 i.out a);clear a;rw[g2];have o:Hid (Lex.token l= .ok (⟨1,T⟩,T.length)):=Y1 (by rw[k.out,g1,g2]; rfl);obtain ⟨E,l1,l2,t0,t1,t2,f0,f1,b0,b1,z0,z1,z2,z3,I⟩:=f.out;go_wp2;refine bodyPost_ret (v:= .tuple #[.agg #[.int .i64 1,.string ⟨(T).toArray⟩,.int .i64 0],.int .i64 ((T.length:Nat):Int),.agg #[.int .i64 0,.int .i64 0]]) (by simp[results,Tryz.results37,go_sem,t0,t1,t2,f0,f1]) rfl ?_;exact ⟨by rw[o.out]; rfl,((((j.out.setCell (p:=⟨w.heap.size,0,none⟩) (Nat.le_refl _) _).setCell (p:=⟨w.heap.size,1,none⟩) (Nat.le_refl _) _).setCell (p:=⟨w.heap.size,2,none⟩) (Nat.le_refl _) _).setCell (p:=⟨h,0,none⟩) (Nat.le_of_lt g.out) _).setCell (p:=⟨h,1,none⟩) (Nat.le_of_lt g.out) _⟩}}
 {go_wp2_with fail
  refine (Z8H T _).mono ?_;rintro e F ⟨rfl,a⟩;have d:=Y1 (b.out.keep b.out.l0 b.out.l1 b.out.l2 a);have i:=Y1 (Z03 m.out a);clear a;rw[g1];have o:Hid (Lex.token l= .ok (⟨5,T⟩,T.length)):=Y1 (by rw[k.out,g1]; rfl);obtain ⟨E,l1,l2,t0,t1,t2,f0,f1,b0,b1,z0,z1,z2,z3,I⟩:=d.out;go_wp2;refine bodyPost_ret (v:= .tuple #[.agg #[.int .i64 5,.string ⟨(T).toArray⟩,.int .i64 0],.int .i64 ((T.length:Nat):Int),.agg #[.int .i64 0,.int .i64 0]]) (by simp[results,Tryz.results37,go_sem,t0,t1,t2,f0,f1]) rfl ?_;exact ⟨by rw[o.out]; rfl,((((i.out.setCell (p:=⟨w.heap.size,0,none⟩) (Nat.le_refl _) _).setCell (p:=⟨w.heap.size,1,none⟩) (Nat.le_refl _) _).setCell (p:=⟨w.heap.size,2,none⟩) (Nat.le_refl _) _).setCell (p:=⟨h,0,none⟩) (Nat.le_of_lt g.out) _).setCell (p:=⟨h,1,none⟩) (Nat.le_of_lt g.out) _⟩}
theorem Zm1 (l r:List UInt8) (b8:l.length<=1000000) (HL:Hid (l=c::r)) (s1:Lex.small c=false) (s2:Lex.great c=false) (s3:Lex.digit c=true) (w:World):
 Y9 37 #[.string ⟨l.toArray⟩] w (firstV (Lex.token l)):=by
 have HT:Hid (∀T,T=l.takeWhile Lex.lumpB->Lex.token l=if Lex.number T then .ok (⟨3,T⟩,T.length) else if (Sem.parse T).isSome then .ok (⟨7,T⟩,T.length) else .error (60,0)):=Y1 (fun T H=>by rw[HL.out] at H ⊢; exact Lex.Zm0 (by rw[s1,s2]; rfl) s3 H);obtain ⟨I,A⟩:=Lex.Z3S Lex.lumpB l;have hz: (⟨l.toArray⟩:ByteArray).size=l.length:=Z0J _;have M: ∀W,(Instr.index 9 (.string ⟨l.toArray⟩) (.int .i64 0)).run Tryz.prog W= .ok (.int .u8 c.toNat) W:=fun W=>by rw[HL.out]; rfl
 have b:=Y1 (Zfy w);have J:=Y1 (Zep w (.cells Yd 46) (.cells Yc 31) (.cells #[.int .i64 60,.int .i64 0] 31));go_enter Tryz.func37,Tryz.ntmps37
 go_wp2_with fail
 generalize hW: ((w.alloc (.cells Yd 46)).alloc (.cells Yc 31)).alloc (.cells #[.int .i64 60,.int .i64 0] 31)=W0 at b J ⊢;clear hW;obtain ⟨h2,U⟩: ∃h2,h2=w.heap.size+1+1:=⟨_,rfl⟩;rw[<-U] at b ⊢;obtain ⟨m,S⟩: ∃m,m=w.heap.size+1:=⟨_,rfl⟩;rw[<-S] at b ⊢;have c8:w.heap.size≠m:=by omega
 have c9:w.heap.size≠h2:=by omega
 have d0:m≠h2:=by omega
 have a:Hid (w.heap.size < m):=Y1 (by omega);clear S U
 go_wp2_with fail
 refine (Z12 c _).mono ?_;rintro e f ⟨rfl,rfl⟩;rw[s1]
 go_wp2_with fail
 refine (Z1c c _).mono ?_;rintro e f ⟨rfl,rfl⟩;rw[s2]
 go_wp2_with fail
 refine (Z2K c _).mono ?_;rintro e f ⟨rfl,rfl⟩;rw[s3];clear s1 s2 s3 M
 go_wp2_with fail
 go_loopw [9] (fun ii wr=> ∃n:Nat,ii= .int .i64 n/\n<=l.length/\Hid (∀j (hj:j < l.length),j < n->Lex.lumpB (l[j]'hj)=true)/\W0=wr)
  (fun i _=>l.length - (intOf i).toNat)
 case atStart=>exact ⟨0,rfl,Nat.zero_le _,Y1 (fun j _ hj=>absurd hj (by omega)),rfl⟩
 case round=>
  obtain ⟨n,rfl,hn,HN,rfl⟩:=hrel;have after: (∀h:n < l.length,Lex.lumpB (l[n]'h)=false)->(l.takeWhile Lex.lumpB).length=n:=fun h=>Lex.Z8F hn HN.out h;by_cases V:n < l.length
  {have a7: (n:Int) < (l.length:Int):=by omega
   obtain ⟨d,hd⟩: ∃d,d=l[n]'V:=⟨_,rfl⟩;have b6: ∀W,(Instr.index 9 (.string ⟨l.toArray⟩) (.int .i64 (n:Int))).run Tryz.prog W= .ok (.int .u8 d.toNat) W:=fun W=>by
    rw[hd]; exact Z4P ⟨l.toArray⟩ n (by omega) W
   have HD:=Y1 hd;have L:=ZoH d;have P:=ZoI d;have z:=Y1 (Lex.Znr d);have more:Lex.lumpB d=true->Hid (∀j (hj:j < l.length),j < n+1->Lex.lumpB (l[j]'hj)=true):=fun h=>Y1 (fun j hj hji=>by
    rcases Nat.lt_succ_iff_lt_or_eq.1 hji with h' | rfl
    {exact HN.out j hj h'}
    · rw[<-HD.out]; exact h)
   clear hd;cases q0:Lex.small d
   {cases q1:Lex.great d
    {cases q2:Lex.digit d
     {cases q3: (d==46)
      {cases q4: (d==45)
       {rw[q3] at L;rw[q4] at P;have k:=after (fun _=>by rw[<-HD.out]; exact (by rw[z.out,q0,q1,q2,q3,q4]; rfl));clear more
        go_wp2_with fail
        refine (Z12 d _).mono ?_;rintro e f ⟨rfl,rfl⟩;rw[q0]
        go_wp2_with fail
        refine (Z1c d _).mono ?_;rintro e f ⟨rfl,rfl⟩;rw[q1]
        go_wp2_with fail
        refine (Z2K d _).mono ?_;rintro e f ⟨rfl,rfl⟩;rw[q2];obtain ⟨T,H⟩: ∃T,T=l.takeWhile Lex.lumpB:=⟨_,rfl⟩;have s:=Y1 (HT.out T H);rw[<-H] at I A k;have a8: ∀W,(Instr.slice 9 (.string ⟨l.toArray⟩) none (some (.int .i64 (n:Int))) none).run Tryz.prog W= .ok (.string ⟨T.toArray⟩) W:=fun W=>by
         rw[<-k,ZgC l T.length I W,A]
        have E:T.length<=1000000:=by omega
        have C:=Y1 k;clear H A HT k after;obtain ⟨u,D,G,F⟩: ∃(u:Sem.Ver) (D:Int),parseR (Sem.parse T)= .tuple #[verV u,.int .i64 D]/\(D==0)=(Sem.parse T).isSome:=by
         rcases hp:Sem.parse T with _ | v
         {exact ⟨⟨0,0,0,[]⟩,40,rfl,rfl⟩}
         {exact ⟨v,0,rfl,rfl⟩}
        obtain ⟨Y,Z,uc,up⟩:=u;have HP:Hid (parseR (Sem.parse T)= .tuple #[.agg #[.int .i64 Y,.int .i64 Z,.int .i64 uc,.string ⟨up.toArray⟩],.int .i64 D]):=Y1 G;have O:=Y1 F;clear G F
        go_wp2_with fail
        refine (ZgP ⟨T.toArray⟩ (by rw[Z0J]; omega) _).mono ?_;rintro e N ⟨Q,y⟩;have g:=Y1 (b.out.keep b.out.l0 b.out.l1 b.out.l2 y);have K:=Y1 (Z03 J.out y);clear y;rw[show (⟨T.toArray⟩:ByteArray).data.toList=T from rfl,HP.out] at Q;subst Q;have t:=Z01 N (.cells #[.int .i64 Y,.int .i64 Z,.int .i64 uc,.string ⟨up.toArray⟩] 103);have q:=Y1 (g.out.keep g.out.l0 g.out.l1 g.out.l2 t);have o:=Y1 (Z03 K.out t);clear t;cases g1:Lex.number T
        {go_wp2_with fail
         refine (Ze9 T E _).mono ?_;rintro e f ⟨rfl,rfl⟩;rw[g1];cases g2: (D==0)
         {have B:Hid (Lex.token l= .error (60,0)):=Y1 (by rw[s.out,g1, <-O.out,g2]; rfl);obtain ⟨X,l1,l2,t0,t1,t2,f0,f1,b0,b1,z0,z1,z2,z3,z4⟩:=q.out
          go_wp2_with fail
          go_region
          all_goals
           go_wp2;refine bodyPost_ret (v:= .tuple #[.agg #[.int .i64 0,.string ⟨#[]⟩,.int .i64 0],.int .i64 0,.agg #[.int .i64 60,.int .i64 0]]) (by simp[results,Tryz.results37,go_sem,t0,t1,t2,f0,f1]) rfl ?_;exact ⟨by rw[B.out]; rfl,(((((o.out.setCell (p:=⟨w.heap.size,0,none⟩) (Nat.le_refl _) _).setCell (p:=⟨w.heap.size,1,none⟩) (Nat.le_refl _) _).setCell (p:=⟨w.heap.size,2,none⟩) (Nat.le_refl _) _).setCell (p:=⟨m,0,none⟩) (Nat.le_of_lt a.out) _).setCell (p:=⟨m,1,none⟩) (Nat.le_of_lt a.out) _).drew⟩}
         {have B:Hid (Lex.token l= .ok (⟨7,T⟩,n)):=Y1 (by rw[s.out,g1, <-O.out,g2,C.out]; rfl);obtain ⟨X,l1,l2,t0,t1,t2,f0,f1,b0,b1,z0,z1,z2,z3,z4⟩:=q.out;go_wp2;refine bodyPost_ret (v:= .tuple #[.agg #[.int .i64 7,.string ⟨(T).toArray⟩,.int .i64 0],.int .i64 ((n:Nat):Int),.agg #[.int .i64 0,.int .i64 0]]) (by simp[results,Tryz.results37,go_sem,t0,t1,t2,f0,f1]) rfl ?_;exact ⟨by rw[B.out]; rfl,((((o.out.setCell (p:=⟨w.heap.size,0,none⟩) (Nat.le_refl _) _).setCell (p:=⟨w.heap.size,1,none⟩) (Nat.le_refl _) _).setCell (p:=⟨w.heap.size,2,none⟩) (Nat.le_refl _) _).setCell (p:=⟨m,0,none⟩) (Nat.le_of_lt a.out) _).setCell (p:=⟨m,1,none⟩) (Nat.le_of_lt a.out) _⟩}}
        {go_wp2_with fail
         refine (Ze9 T E _).mono ?_;rintro e f ⟨rfl,rfl⟩;rw[g1];have B:Hid (Lex.token l= .ok (⟨3,T⟩,n)):=Y1 (by rw[s.out,g1,C.out]; rfl);obtain ⟨X,l1,l2,t0,t1,t2,f0,f1,b0,b1,z0,z1,z2,z3,z4⟩:=q.out;go_wp2;refine bodyPost_ret (v:= .tuple #[.agg #[.int .i64 3,.string ⟨(T).toArray⟩,.int .i64 0],.int .i64 ((n:Nat):Int),.agg #[.int .i64 0,.int .i64 0]]) (by simp[results,Tryz.results37,go_sem,t0,t1,t2,f0,f1]) rfl ?_;exact ⟨by rw[B.out]; rfl,((((o.out.setCell (p:=⟨w.heap.size,0,none⟩) (Nat.le_refl _) _).setCell (p:=⟨w.heap.size,1,none⟩) (Nat.le_refl _) _).setCell (p:=⟨w.heap.size,2,none⟩) (Nat.le_refl _) _).setCell (p:=⟨m,0,none⟩) (Nat.le_of_lt a.out) _).setCell (p:=⟨m,1,none⟩) (Nat.le_of_lt a.out) _⟩}}
       {rw[q3] at L;rw[q4] at P;have HM:=more (by rw[z.out,q0,q1,q2,q3,q4]; rfl);clear more after
        go_wp2_with fail
        refine (Z12 d _).mono ?_;rintro e f ⟨rfl,rfl⟩;rw[q0]
        go_wp2_with fail
        refine (Z1c d _).mono ?_;rintro e f ⟨rfl,rfl⟩;rw[q1]
        go_wp2_with fail
        refine (Z2K d _).mono ?_;rintro e f ⟨rfl,rfl⟩;rw[q2];go_wp2
        go_roundw
        case rel=>exact ⟨n+1,by go_num,by omega,HM,trivial⟩
        case measure=>simp[intOf]; omega}}
      {rw[q3] at L;have HM:=more (by rw[z.out,q0,q1,q2,q3]; rfl);clear more after
       go_wp2_with fail
       refine (Z12 d _).mono ?_;rintro e f ⟨rfl,rfl⟩;rw[q0]
       go_wp2_with fail
       refine (Z1c d _).mono ?_;rintro e f ⟨rfl,rfl⟩;rw[q1]
       go_wp2_with fail
       refine (Z2K d _).mono ?_;rintro e f ⟨rfl,rfl⟩;rw[q2];go_wp2
       go_roundw
       case rel=>exact ⟨n+1,by go_num,by omega,HM,trivial⟩
       case measure=>simp[intOf]; omega}}
     {have HM:=more (by rw[z.out,q0,q1,q2]; rfl);clear more after
      go_wp2_with fail
      refine (Z12 d _).mono ?_;rintro e f ⟨rfl,rfl⟩;rw[q0]
      go_wp2_with fail
      refine (Z1c d _).mono ?_;rintro e f ⟨rfl,rfl⟩;rw[q1]
      go_wp2_with fail
      refine (Z2K d _).mono ?_;rintro e f ⟨rfl,rfl⟩;rw[q2];go_wp2
      go_roundw
      case rel=>exact ⟨n+1,by go_num,by omega,HM,trivial⟩
      case measure=>simp[intOf]; omega}}
    {have HM:=more (by rw[z.out,q0,q1]; rfl);clear more after
     go_wp2_with fail
     refine (Z12 d _).mono ?_;rintro e f ⟨rfl,rfl⟩;rw[q0]
     go_wp2_with fail
     refine (Z1c d _).mono ?_;rintro e f ⟨rfl,rfl⟩;rw[q1];go_wp2
     go_roundw
     case rel=>exact ⟨n+1,by go_num,by omega,HM,trivial⟩
     case measure=>simp[intOf]; omega}}
   {have HM:=more (by rw[z.out,q0]; rfl);clear more after
    go_wp2_with fail
    refine (Z12 d _).mono ?_;rintro e f ⟨rfl,rfl⟩;rw[q0];go_wp2
    go_roundw
    case rel=>exact ⟨n+1,by go_num,by omega,HM,trivial⟩
    case measure=>simp[intOf]; omega}}
  {have a7: ¬(n:Int) < (l.length:Int):=by omega
   have k:=after (fun h=>absurd h V);obtain ⟨T,H⟩: ∃T,T=l.takeWhile Lex.lumpB:=⟨_,rfl⟩;have s:=Y1 (HT.out T H);rw[<-H] at I A k;have a8: ∀W,(Instr.slice 9 (.string ⟨l.toArray⟩) none (some (.int .i64 (n:Int))) none).run Tryz.prog W= .ok (.string ⟨T.toArray⟩) W:=fun W=>by
    rw[<-k,ZgC l T.length I W,A]
   have E:T.length<=1000000:=by omega
   have C:=Y1 k;clear H A HT k after;obtain ⟨u,D,G,F⟩: ∃(u:Sem.Ver) (D:Int),parseR (Sem.parse T)= .tuple #[verV u,.int .i64 D]/\(D==0)=(Sem.parse T).isSome:=by
    rcases hp:Sem.parse T with _ | v
    {exact ⟨⟨0,0,0,[]⟩,40,rfl,rfl⟩}
    {exact ⟨v,0,rfl,rfl⟩}
   obtain ⟨Y,Z,uc,up⟩:=u;have HP:Hid (parseR (Sem.parse T)= .tuple #[.agg #[.int .i64 Y,.int .i64 Z,.int .i64 uc,.string ⟨up.toArray⟩],.int .i64 D]):=Y1 G;have O:=Y1 F;clear G F
   go_wp2_with fail
   refine (ZgP ⟨T.toArray⟩ (by rw[Z0J]; omega) _).mono ?_;rintro e N ⟨Q,y⟩;have g:=Y1 (b.out.keep b.out.l0 b.out.l1 b.out.l2 y);have K:=Y1 (Z03 J.out y);clear y;rw[show (⟨T.toArray⟩:ByteArray).data.toList=T from rfl,HP.out] at Q;subst Q;have t:=Z01 N (.cells #[.int .i64 Y,.int .i64 Z,.int .i64 uc,.string ⟨up.toArray⟩] 103);have q:=Y1 (g.out.keep g.out.l0 g.out.l1 g.out.l2 t);have o:=Y1 (Z03 K.out t);clear t;cases g1:Lex.number T
   {go_wp2_with fail
    refine (Ze9 T E _).mono ?_;rintro e f ⟨rfl,rfl⟩;rw[g1];cases g2: (D==0)
    {have B:Hid (Lex.token l= .error (60,0)):=Y1 (by rw[s.out,g1, <-O.out,g2]; rfl);obtain ⟨X,l1,l2,t0,t1,t2,f0,f1,b0,b1,z0,z1,z2,z3,z4⟩:=q.out
     go_wp2_with fail
     go_region
     all_goals
      go_wp2;refine bodyPost_ret (v:= .tuple #[.agg #[.int .i64 0,.string ⟨#[]⟩,.int .i64 0],.int .i64 0,.agg #[.int .i64 60,.int .i64 0]]) (by simp[results,Tryz.results37,go_sem,t0,t1,t2,f0,f1]) rfl ?_;exact ⟨by rw[B.out]; rfl,(((((o.out.setCell (p:=⟨w.heap.size,0,none⟩) (Nat.le_refl _) _).setCell (p:=⟨w.heap.size,1,none⟩) (Nat.le_refl _) _).setCell (p:=⟨w.heap.size,2,none⟩) (Nat.le_refl _) _).setCell (p:=⟨m,0,none⟩) (Nat.le_of_lt a.out) _).setCell (p:=⟨m,1,none⟩) (Nat.le_of_lt a.out) _).drew⟩}
    {have B:Hid (Lex.token l= .ok (⟨7,T⟩,n)):=Y1 (by rw[s.out,g1, <-O.out,g2,C.out]; rfl);obtain ⟨X,l1,l2,t0,t1,t2,f0,f1,b0,b1,z0,z1,z2,z3,z4⟩:=q.out;go_wp2;refine bodyPost_ret (v:= .tuple #[.agg #[.int .i64 7,.string ⟨(T).toArray⟩,.int .i64 0],.int .i64 ((n:Nat):Int),.agg #[.int .i64 0,.int .i64 0]]) (by simp[results,Tryz.results37,go_sem,t0,t1,t2,f0,f1]) rfl ?_;exact ⟨by rw[B.out]; rfl,((((o.out.setCell (p:=⟨w.heap.size,0,none⟩) (Nat.le_refl _) _).setCell (p:=⟨w.heap.size,1,none⟩) (Nat.le_refl _) _).setCell (p:=⟨w.heap.size,2,none⟩) (Nat.le_refl _) _).setCell (p:=⟨m,0,none⟩) (Nat.le_of_lt a.out) _).setCell (p:=⟨m,1,none⟩) (Nat.le_of_lt a.out) _⟩}}
   {go_wp2_with fail
    refine (Ze9 T E _).mono ?_;rintro e f ⟨rfl,rfl⟩;rw[g1];have B:Hid (Lex.token l= .ok (⟨3,T⟩,n)):=Y1 (by rw[s.out,g1,C.out]; rfl);obtain ⟨X,l1,l2,t0,t1,t2,f0,f1,b0,b1,z0,z1,z2,z3,z4⟩:=q.out;go_wp2;refine bodyPost_ret (v:= .tuple #[.agg #[.int .i64 3,.string ⟨(T).toArray⟩,.int .i64 0],.int .i64 ((n:Nat):Int),.agg #[.int .i64 0,.int .i64 0]]) (by simp[results,Tryz.results37,go_sem,t0,t1,t2,f0,f1]) rfl ?_;exact ⟨by rw[B.out]; rfl,((((o.out.setCell (p:=⟨w.heap.size,0,none⟩) (Nat.le_refl _) _).setCell (p:=⟨w.heap.size,1,none⟩) (Nat.le_refl _) _).setCell (p:=⟨w.heap.size,2,none⟩) (Nat.le_refl _) _).setCell (p:=⟨m,0,none⟩) (Nat.le_of_lt a.out) _).setCell (p:=⟨m,1,none⟩) (Nat.le_of_lt a.out) _⟩}}
theorem ZjK (l r:List UInt8) (O:l.length<=1000000) (t:Hid (l=c::r)) (C:Lex.small c=false) (D:Lex.great c=false) (s3:Lex.digit c=false) (y:c=34) (w:World):
 Y9 37 #[.string ⟨l.toArray⟩] w (firstV (Lex.token l)):=by
 have N:Hid (Lex.token l=Lex.quoted l):=Y1 (by rw[t.out,Lex.ZhD (by rw[C,D]; rfl) s3,if_pos y]);have E:=Y1 (ZjJ r (by have:=congrArg List.length t.out; rw[List.length_cons] at this; omega));have z:Hid (34::r=l):=Y1 (by rw[t.out,y]);have B: ((c.toNat:Int)==34)=(c==34):=ZcR c 34 (by decide);rw[show (c==34)=true by rw[y]; rfl] at B;have X: (⟨l.toArray⟩:ByteArray).size=l.length:=Z0J _;have j: ∀W,(Instr.index 9 (.string ⟨l.toArray⟩) (.int .i64 0)).run Tryz.prog W= .ok (.int .u8 c.toNat) W:=fun W=>by rw[t.out]; rfl
 have a:=Y1 (Zfy w);have n:=Y1 (Zep w (.cells Yd 46) (.cells Yc 31) (.cells #[.int .i64 60,.int .i64 0] 31));clear y;go_enter Tryz.func37,Tryz.ntmps37
 go_wp2_with fail
 generalize hW: ((w.alloc (.cells Yd 46)).alloc (.cells Yc 31)).alloc (.cells #[.int .i64 60,.int .i64 0] 31)=W0 at a n ⊢;clear hW;obtain ⟨u,s⟩: ∃u,u=w.heap.size+1+1:=⟨_,rfl⟩;rw[<-s] at a ⊢;obtain ⟨d,q⟩: ∃d,d=w.heap.size+1:=⟨_,rfl⟩;rw[<-q] at a ⊢;have P:w.heap.size≠d:=by omega
 have Q:w.heap.size≠u:=by omega
 have S:d≠u:=by omega
 have b:Hid (w.heap.size < d):=Y1 (by omega);clear q s
 go_wp2_with fail
 refine (Z12 c _).mono ?_;rintro e M ⟨rfl,rfl⟩;rw[C]
 go_wp2_with fail
 refine (Z1c c _).mono ?_;rintro e M ⟨rfl,rfl⟩;rw[D]
 go_wp2_with fail
 refine (Z2K c _).mono ?_;rintro e M ⟨rfl,rfl⟩;rw[s3];clear C D s3 j;rw[z.out] at E
 go_wp2_with fail
 refine (E.out _).mono ?_;rintro e T ⟨h,g⟩;have A:=Y1 (a.out.keep a.out.l0 a.out.l1 a.out.l2 g);have o:=Y1 (Z03 n.out g);clear g;rw[<-N.out] at h;obtain ⟨Y,Z,l2,H,I,J,F,G,U,V,z0,z1,z2,z3,z4⟩:=A.out;cases m:Lex.token l with
 | error x=>
  obtain ⟨x,k⟩:=x;rw[m] at h;have i:e= .returned (.tuple #[.agg #[.int .i64 0,.string ⟨#[]⟩,.int .i64 0],.int .i64 0,.agg #[.int .i64 x,.int .i64 (k:Int)]]):=h;subst i;have f:=Y1 m;clear h m;go_wp2;refine bodyPost_ret (v:= .tuple #[.agg #[.int .i64 0,.string ⟨#[]⟩,.int .i64 0],.int .i64 0,.agg #[.int .i64 x,.int .i64 (k:Int)]]) (by simp[results,Tryz.results37,go_sem,H,I,J,F,G]) rfl ?_;exact ⟨by rw[f.out]; rfl,((((o.out.setCell (p:=⟨w.heap.size,0,none⟩) (Nat.le_refl _) _).setCell (p:=⟨w.heap.size,1,none⟩) (Nat.le_refl _) _).setCell (p:=⟨w.heap.size,2,none⟩) (Nat.le_refl _) _).setCell (p:=⟨d,0,none⟩) (Nat.le_of_lt b.out) _).setCell (p:=⟨d,1,none⟩) (Nat.le_of_lt b.out) _⟩
 | ok x=>
  obtain ⟨⟨K,L⟩,k⟩:=x;rw[m] at h;have i:e= .returned (.tuple #[.agg #[.int .i64 K,.string ⟨L.toArray⟩,.int .i64 0],.int .i64 (k:Int),.agg #[.int .i64 0,.int .i64 0]]):=h;subst i;have f:=Y1 m;clear h m;go_wp2;refine bodyPost_ret (v:= .tuple #[.agg #[.int .i64 K,.string ⟨L.toArray⟩,.int .i64 0],.int .i64 (k:Int),.agg #[.int .i64 0,.int .i64 0]]) (by simp[results,Tryz.results37,go_sem,H,I,J,F,G]) rfl ?_;exact ⟨by rw[f.out]; rfl,((((o.out.setCell (p:=⟨w.heap.size,0,none⟩) (Nat.le_refl _) _).setCell (p:=⟨w.heap.size,1,none⟩) (Nat.le_refl _) _).setCell (p:=⟨w.heap.size,2,none⟩) (Nat.le_refl _) _).setCell (p:=⟨d,0,none⟩) (Nat.le_of_lt b.out) _).setCell (p:=⟨d,1,none⟩) (Nat.le_of_lt b.out) _⟩
theorem Zm2 (l r:List UInt8) (U:l.length<=1000000) (C:Hid (l=c::r)) (L:Lex.small c=false) (M:Lex.great c=false) (s3:Lex.digit c=false) (I: (c==34)=false) (w:World):
 Y9 37 #[.string ⟨l.toArray⟩] w (firstV (Lex.token l)):=by
 have z:Lex.token l=if decide (2<=l.length)&&Lex.isSign (l.take 2) then .ok (⟨6,l.take 2⟩,2) else if Lex.isSign [c] then .ok (⟨6,[c]⟩,1) else .error (60,0):=by
  have T:c≠34:=by simpa using I
  rw[C.out,Lex.ZhD (by rw[L,M]; rfl) s3,if_neg T]
 have J:1<=l.length:=by rw[C.out]; simp
 have O: ∀W,(Instr.slice 9 (.string ⟨l.toArray⟩) none (some (.int .i64 1)) none).run Tryz.prog W= .ok (.string ⟨([c]:List UInt8).toArray⟩) W:=fun W=>by
  have:=ZgC l 1 J W;rw[show l.take 1= [c] by rw[C.out]; rfl] at this;exact this
 have K: ((c.toNat:Int)==34)=(c==34):=ZcR c 34 (by decide);rw[I] at K;have Z: (⟨l.toArray⟩:ByteArray).size=l.length:=Z0J _;have s: ∀W,(Instr.index 9 (.string ⟨l.toArray⟩) (.int .i64 0)).run Tryz.prog W= .ok (.int .u8 c.toNat) W:=fun W=>by rw[C.out]; rfl
 have b:=Y1 (Zfy w);have i:=Y1 (Zep w (.cells Yd 46) (.cells Yc 31) (.cells #[.int .i64 60,.int .i64 0] 31));clear I;go_enter Tryz.func37,Tryz.ntmps37
 go_wp2_with fail
 generalize hW: ((w.alloc (.cells Yd 46)).alloc (.cells Yc 31)).alloc (.cells #[.int .i64 60,.int .i64 0] 31)=W0 at b i ⊢;clear hW;obtain ⟨E,B⟩: ∃E,E=w.heap.size+1+1:=⟨_,rfl⟩;rw[<-B] at b ⊢;obtain ⟨h,A⟩: ∃h,h=w.heap.size+1:=⟨_,rfl⟩;rw[<-A] at b ⊢;have V:w.heap.size≠h:=by omega
 have X:w.heap.size≠E:=by omega
 have Y:h≠E:=by omega
 have f:Hid (w.heap.size < h):=Y1 (by omega);clear A B
 go_wp2_with fail
 refine (Z12 c _).mono ?_;rintro e Q ⟨rfl,rfl⟩;rw[L]
 go_wp2_with fail
 refine (Z1c c _).mono ?_;rintro e Q ⟨rfl,rfl⟩;rw[M]
 go_wp2_with fail
 refine (Z2K c _).mono ?_;rintro e Q ⟨rfl,rfl⟩;rw[s3];clear L M s3 s;by_cases q:2<=l.length
 {have H:decide ((2:Int)<=(l.length:Int))=true:=decide_eq_true (by omega);have S: (2:Int)<=(l.length:Int):=by omega
  obtain ⟨p2,t⟩: ∃p2,p2=l.take 2:=⟨_,rfl⟩;have P: ∀W,(Instr.slice 9 (.string ⟨l.toArray⟩) none (some (.int .i64 2)) none).run Tryz.prog W= .ok (.string ⟨p2.toArray⟩) W:=fun W=>by rw[t]; exact ZgC l 2 q W
  rw[<-t,decide_eq_true q] at z;have y:=Y1 z;clear z t;cases D:Lex.isSign p2
  {have j:Hid (Lex.token l=if Lex.isSign [c] then .ok (⟨6,[c]⟩,1) else .error (60,0)):=Y1 (by rw[y.out,D]; rfl)
   go_wp2_with fail
   refine (ZdI p2 _).mono ?_;rintro e u ⟨rfl,a⟩;have d:=Y1 (b.out.keep b.out.l0 b.out.l1 b.out.l2 a);have g:=Y1 (Z03 i.out a);clear a;rw[D];cases m:Lex.isSign [c]
   {go_wp2_with fail
    refine (ZdI [c] _).mono ?_;rintro e N ⟨rfl,a⟩;have o:=Y1 (d.out.keep d.out.l0 d.out.l1 d.out.l2 a);have n:=Y1 (Z03 g.out a);clear a;rw[m];have k:Hid (Lex.token l= .error (60,0)):=Y1 (by rw[j.out,m]; rfl);obtain ⟨F,l1,l2,t0,t1,t2,f0,f1,b0,b1,z0,z1,z2,z3,G⟩:=o.out
    go_wp2_with fail
    go_region
    all_goals
     go_wp2;refine bodyPost_ret (v:= .tuple #[.agg #[.int .i64 0,.string ⟨#[]⟩,.int .i64 0],.int .i64 0,.agg #[.int .i64 60,.int .i64 0]]) (by simp[results,Tryz.results37,go_sem,t0,t1,t2,f0,f1]) rfl ?_;exact ⟨by rw[k.out]; rfl,(((((n.out.setCell (p:=⟨w.heap.size,0,none⟩) (Nat.le_refl _) _).setCell (p:=⟨w.heap.size,1,none⟩) (Nat.le_refl _) _).setCell (p:=⟨w.heap.size,2,none⟩) (Nat.le_refl _) _).setCell (p:=⟨h,0,none⟩) (Nat.le_of_lt f.out) _).setCell (p:=⟨h,1,none⟩) (Nat.le_of_lt f.out) _).drew⟩}
   {go_wp2_with fail
    refine (ZdI [c] _).mono ?_;rintro e N ⟨rfl,a⟩;have o:=Y1 (d.out.keep d.out.l0 d.out.l1 d.out.l2 a);have n:=Y1 (Z03 g.out a);clear a;rw[m];have k:Hid (Lex.token l= .ok (⟨6,[c]⟩,1)):=Y1 (by rw[j.out,m]; rfl);obtain ⟨F,l1,l2,t0,t1,t2,f0,f1,b0,b1,z0,z1,z2,z3,G⟩:=o.out;go_wp2;refine bodyPost_ret (v:= .tuple #[.agg #[.int .i64 6,.string ⟨([c]).toArray⟩,.int .i64 0],.int .i64 ((1:Nat):Int),.agg #[.int .i64 0,.int .i64 0]]) (by simp[results,Tryz.results37,go_sem,t0,t1,t2,f0,f1]) rfl ?_;exact ⟨by rw[k.out]; rfl,((((n.out.setCell (p:=⟨w.heap.size,0,none⟩) (Nat.le_refl _) _).setCell (p:=⟨w.heap.size,1,none⟩) (Nat.le_refl _) _).setCell (p:=⟨w.heap.size,2,none⟩) (Nat.le_refl _) _).setCell (p:=⟨h,0,none⟩) (Nat.le_of_lt f.out) _).setCell (p:=⟨h,1,none⟩) (Nat.le_of_lt f.out) _⟩}}
  {go_wp2_with fail
   refine (ZdI p2 _).mono ?_;rintro e u ⟨rfl,a⟩;have d:=Y1 (b.out.keep b.out.l0 b.out.l1 b.out.l2 a);have g:=Y1 (Z03 i.out a);clear a;rw[D];have k:Hid (Lex.token l= .ok (⟨6,p2⟩,2)):=Y1 (by rw[y.out,D]; rfl);obtain ⟨F,l1,l2,t0,t1,t2,f0,f1,b0,b1,z0,z1,z2,z3,G⟩:=d.out;go_wp2;refine bodyPost_ret (v:= .tuple #[.agg #[.int .i64 6,.string ⟨(p2).toArray⟩,.int .i64 0],.int .i64 ((2:Nat):Int),.agg #[.int .i64 0,.int .i64 0]]) (by simp[results,Tryz.results37,go_sem,t0,t1,t2,f0,f1]) rfl ?_;exact ⟨by rw[k.out]; rfl,((((g.out.setCell (p:=⟨w.heap.size,0,none⟩) (Nat.le_refl _) _).setCell (p:=⟨w.heap.size,1,none⟩) (Nat.le_refl _) _).setCell (p:=⟨w.heap.size,2,none⟩) (Nat.le_refl _) _).setCell (p:=⟨h,0,none⟩) (Nat.le_of_lt f.out) _).setCell (p:=⟨h,1,none⟩) (Nat.le_of_lt f.out) _⟩}}
 {have H:decide ((2:Int)<=(l.length:Int))=false:=decide_eq_false (by omega);have j:Hid (Lex.token l=if Lex.isSign [c] then .ok (⟨6,[c]⟩,1) else .error (60,0)):=Y1 (by rw[z,decide_eq_false q]; rfl);clear z;cases m:Lex.isSign [c]
  {go_wp2_with fail
   refine (ZdI [c] _).mono ?_;rintro e u ⟨rfl,a⟩;have d:=Y1 (b.out.keep b.out.l0 b.out.l1 b.out.l2 a);have g:=Y1 (Z03 i.out a);clear a;rw[m];have k:Hid (Lex.token l= .error (60,0)):=Y1 (by rw[j.out,m]; rfl);obtain ⟨F,l1,l2,t0,t1,t2,f0,f1,b0,b1,z0,z1,z2,z3,G⟩:=d.out
   go_wp2_with fail
   go_region
   all_goals
    go_wp2;refine bodyPost_ret (v:= .tuple #[.agg #[.int .i64 0,.string ⟨#[]⟩,.int .i64 0],.int .i64 0,.agg #[.int .i64 60,.int .i64 0]]) (by simp[results,Tryz.results37,go_sem,t0,t1,t2,f0,f1]) rfl ?_;exact ⟨by rw[k.out]; rfl,(((((g.out.setCell (p:=⟨w.heap.size,0,none⟩) (Nat.le_refl _) _).setCell (p:=⟨w.heap.size,1,none⟩) (Nat.le_refl _) _).setCell (p:=⟨w.heap.size,2,none⟩) (Nat.le_refl _) _).setCell (p:=⟨h,0,none⟩) (Nat.le_of_lt f.out) _).setCell (p:=⟨h,1,none⟩) (Nat.le_of_lt f.out) _).drew⟩}
  {go_wp2_with fail
   refine (ZdI [c] _).mono ?_;rintro e u ⟨rfl,a⟩;have d:=Y1 (b.out.keep b.out.l0 b.out.l1 b.out.l2 a);have g:=Y1 (Z03 i.out a);clear a;rw[m];have k:Hid (Lex.token l= .ok (⟨6,[c]⟩,1)):=Y1 (by rw[j.out,m]; rfl);obtain ⟨F,l1,l2,t0,t1,t2,f0,f1,b0,b1,z0,z1,z2,z3,G⟩:=d.out;go_wp2;refine bodyPost_ret (v:= .tuple #[.agg #[.int .i64 6,.string ⟨([c]).toArray⟩,.int .i64 0],.int .i64 ((1:Nat):Int),.agg #[.int .i64 0,.int .i64 0]]) (by simp[results,Tryz.results37,go_sem,t0,t1,t2,f0,f1]) rfl ?_;exact ⟨by rw[k.out]; rfl,((((g.out.setCell (p:=⟨w.heap.size,0,none⟩) (Nat.le_refl _) _).setCell (p:=⟨w.heap.size,1,none⟩) (Nat.le_refl _) _).setCell (p:=⟨w.heap.size,2,none⟩) (Nat.le_refl _) _).setCell (p:=⟨h,0,none⟩) (Nat.le_of_lt f.out) _).setCell (p:=⟨h,1,none⟩) (Nat.le_of_lt f.out) _⟩}}
end
theorem ZiP (l:List UInt8) (g:l≠ []) (a:l.length<=1000000) (w:World):
 Y9 37 #[.string ⟨l.toArray⟩] w (firstV (Lex.token l)):=by
 cases l with
 | nil=>exact absurd rfl g
 | cons c r=>
  cases b:Lex.small c with
  | true=>exact ZkA c _ r a (Y1 rfl) b w
  | false=>
   cases d:Lex.great c with
   | true=>exact ZkB c _ r a (Y1 rfl) b d w
   | false=>
    cases e:Lex.digit c with
    | true=>exact Zm1 c _ r a (Y1 rfl) b d e w
    | false=>
     cases f: (c==34) with
     | true=>exact ZjK c _ r a (Y1 rfl) b d e (by simpa using f) w
     | false=>exact Zm2 c _ r a (Y1 rfl) b d e f w
end Go.Proofs.YtgndehppmaacaaaGreatDoor
namespace Lex
theorem Zm3 {l:List UInt8} {n:Nat} (h:passed l= .ok n):n<=l.length:=by
 unfold passed at h;obtain ⟨b,_⟩:=Z3S blank l;split at h
 {unfold remarkOf at h;cases a:remark (l.drop (l.takeWhile blank).length).length (l.drop (l.takeWhile blank).length) with
  | error k=>rw[a] at h; cases h
  | ok m=>
   rw[a] at h;have:=Z2f _ _ _ a;rw[List.length_drop] at this;have c: (l.takeWhile blank).length+m=n:=Except.ok.inj h;omega}
 {obtain rfl:=Except.ok.inj h;exact b}
end Lex
namespace Go.Proofs.YtgndehppmaacaaaGreatDoor
open Go.RowKit
structure RScan (s:List UInt8) (W0 wr:World) (v:Value) (i:Nat) (pre:List (Lex.Tok×Nat)):Prop where
 own:wr.ownsRow W0.heap.size 46 3 v (tkOf pre).length (cellsT (tkOf pre))
 bel:Below W0.heap.size W0 wr
 len:pre.length<=i
 eq:Lex.toks s 0=Lex.joinR pre (Lex.toks (s.drop i) i)
section
variable (s : List UInt8)
include s
theorem ZkC (h4:s.length<=4096) (w:World):
 Calls Tryz.prog 22 #[.string ⟨s.toArray⟩] w (ScanV s w):=by
 obtain ⟨i0,hi,b9,c0,c8⟩:=info_parts (P:=Tryz.prog) (e:=46) (z:= .agg #[.int .i64 0,.string ByteArray.empty,.int .i64 0]) (size:=3) (bytes:=32) (by kernel_rfl);have hz: (⟨s.toArray⟩:ByteArray).size=s.length:=Z0J _;have h1: ¬(4096:Int) < (s.length:Int):=by omega
 have HR:=Y1 (Zhq h4);have HX:=Y1 (ZcG w 0 0);have U:=Y1 (Z01 w (.cells Yc 31));go_enter Tryz.func22,Tryz.ntmps22
 go_wp2_with fail
 generalize hW:w.alloc (.cells Yc 31)=W0 at HX U ⊢;clear hW;have q:Hid (w.heap.size < W0.heap.size):=Y1 HX.out.1
 go_loopw [4,5] (fun v ii wr=> ∃(i:Nat) (c:List (Lex.Tok×Nat)),ii= .int .i64 (i:Int)/\i<=s.length/\Hid (RScan s W0 wr v i c))
  (fun _ ii _=>s.length - (intOf ii).toNat)
 case atStart=>exact ⟨0,[],rfl,Nat.zero_le _,Y1 ⟨World.ownsRow_nil _ _ _ _,Below.refl _ _,Nat.le_refl _,by rw[Lex.Zgi]; rfl⟩⟩
 case round=>
  obtain ⟨i,c,rfl,g5,E⟩:=hrel;have d4:=Y1 (Z03 U.out E.out.bel);have b7:=E.out.bel.size;by_cases g6:i < s.length
  {have e5: (i:Int) < (s.length:Int):=by omega
   have f0: ∀W,(Instr.slice 9 (.string ⟨s.toArray⟩) (some (.int .i64 (i:Int))) none none).run Tryz.prog W= .ok (.string ⟨(s.drop i).toArray⟩) W:=fun W=>Z8E (W:=W) ⟨s.toArray⟩ i (by omega);obtain ⟨l,hl⟩: ∃l,l=s.drop i:=⟨_,rfl⟩;have b3:l.length+i=s.length:=by rw[hl,List.length_drop]; omega
   have HL:=Y1 hl;rw[<-hl] at f0;have b2:l.length<=1000000:=by omega
   have b4:l≠ []:=fun h=>by rw[h] at b3; simp at b3; omega
   have a4:=Y1 b4;have Y:=Y1 (Lex.ZjU l i);have heq:=E.out.eq;rw[<-hl] at heq;have F:=Y1 heq;clear hl b4 heq
   go_wp2_with fail
   refine (Zk1 l b2 _).mono ?_;rintro e y ⟨u,M⟩;have g:=Y1 (E.out.bel.trans (M.mono b7));have V:=Y1 (Z03 d4.out M);have X:=Y1 (Z0K E.out.own M);clear M;cases K:Lex.passed l with
   | error k=>
    rw[K] at u;have r:e= .returned (.tuple #[.int .i64 0,.agg #[.int .i64 30,.int .i64 (k:Int)]]):=u;clear u;subst r;have f:=Y.out;rw[K] at f;simp only at f;have G:Hid (Lex.scanR s= .error (30,i+k)):=Y1 (by rw[HR.out,F.out,f]; rfl);have e7:k<=4096:=by
     have S:Lex.toks s 0= .error (30,i+k):=by rw[F.out,f]; rfl
     have:=(Lex.Z4C _ _ _ _ _ (Nat.le_refl _) S).1; omega
    have a9:=Y1 (HX.out.keep q.out g.out);obtain ⟨q0,x0,x1,y0,y1⟩:=a9.out;clear K f
    go_wp2_with fail
    go_region
    all_goals
     go_wp2;refine bodyPost_ret (v:= .tuple #[.slice none 0 0,.agg #[.int .i64 30,.int .i64 ((i:Int)+(k:Int))]]) (by simp[results,Tryz.results22,go_sem,x0,x1,q0]) rfl ?_;refine ⟨none,0,[],30,(i:Int)+(k:Int),rfl,World.ownsRow_nil _ _ _ _,(((V.out.setCell (p:=⟨w.heap.size,0,none⟩) (Nat.le_refl _) _).setCell (p:=⟨w.heap.size,1,none⟩) (Nat.le_refl _) _).alloc (by have:=V.out.size; simp; omega) _).drew, ?_⟩;rw[G.out];exact ⟨rfl,rfl,by omega⟩
   | ok n=>
    cases n with
    | succ n=>
     rw[K] at u;have r:e= .returned (.tuple #[.int .i64 ((n+1:Nat):Int),.agg #[.int .i64 0,.int .i64 0]]):=u;clear u;subst r;have e9:=Lex.Zm3 K;have f:=Y.out;rw[K] at f;simp only at f;have a8:Hid (RScan s W0 (y.alloc (.cells Yc 31)) _ (i+(n+1)) c):=Y1 ⟨Z0K X.out (Z01 _ _),g.out.trans ((Z01 _ _).mono g.out.size),by have:=E.out.len; omega,by rw[F.out,f,HL.out,List.drop_drop]⟩;have e8: (0:Int) < ((n+1:Nat):Int):=by omega
     obtain ⟨m,hm⟩: ∃m,m=n+1:=⟨_,rfl⟩;rw[<-hm] at e8 a8 e9 ⊢;have g7:1<=m:=by omega
     clear K f hm;go_wp2
     go_roundw
     case rel=>exact ⟨i+m,c,by go_num,by omega,a8⟩
     case measure=>simp[intOf]; omega
    | zero=>
     rw[K] at u;have r:e= .returned (.tuple #[.int .i64 0,.agg #[.int .i64 0,.int .i64 0]]):=u;clear u;subst r;have f:=Y.out;rw[K] at f;simp only at f;obtain ⟨b6,b0⟩:=f;have d:=Lex.ZfM a4.out b0 i;unfold Lex.piece at d;rw[b6] at d;simp only[Bool.false_eq_true,if_false] at d;have a7:=Y1 d;have L:=Y1 (ZcG y 0 0);have N:=Z01 y (.cells Yc 31);have A:=Y1 (g.out.trans (N.mono g.out.size));have a3:=Y1 (Z03 V.out N);have a5:=Y1 (Z0K X.out N);have T:=g.out.size;clear K b6 b0 d N
     go_wp2_with fail
     generalize hW:y.alloc (.cells Yc 31)=W3 at L A a3 a5 ⊢;clear hW;refine (ZiP l a4.out b2 _).mono ?_;rintro e w4 ⟨u,I⟩;have H:=Y1 (L.out.keep (B:=W3.heap.size) L.out.1 I);have C:=Y1 (A.out.trans (I.mono A.out.size));have d2:=Y1 (Z03 a3.out I);have a6:=Y1 (Z0K a5.out I);have e1:=Y1 (HX.out.keep q.out C.out);have f2:y.heap.size < w4.heap.size:=H.out.1;clear I L;cases S:Lex.token l with
     | error x=>
      obtain ⟨x,k⟩:=x;rw[S] at u;have r:e= .returned (.tuple #[.agg #[.int .i64 0,.string ⟨#[]⟩,.int .i64 0],.int .i64 0,.agg #[.int .i64 x,.int .i64 (k:Int)]]):=u;clear u;subst r;have d:=a7.out;rw[S] at d;simp only at d;have O:Lex.toks s 0= .error (x,i+k):=by rw[F.out,d]; rfl
      have G:Hid (Lex.scanR s= .error (x,i+k)):=Y1 (by rw[HR.out,O]);have e7:k<=4096:=by
       have:=(Lex.Z4C _ _ _ _ _ (Nat.le_refl _) O).1; omega
      have a1:x≠0:=by
       rcases (Lex.Z4C _ _ _ _ _ (Nat.le_refl _) O).2 with h | h <;> rw[h] <;> decide
      have g9: (x==0)=false:=by simpa using a1
      have h0: (x !=0)=true:=by simpa using a1
      obtain ⟨q0,x0,x1,y0,y1⟩:=e1.out;obtain ⟨p0,z0,z1,u0,u1⟩:=H.out;have g8:w.heap.size≠y.heap.size:=by have:=q.out; omega
      clear S d O a1
      go_wp2_with fail
      go_region
      all_goals
       go_wp2;refine bodyPost_ret (v:= .tuple #[.slice none 0 0,.agg #[.int .i64 x,.int .i64 ((i:Int)+(k:Int))]]) (by simp[results,Tryz.results22,go_sem,x0,x1,q0]) rfl ?_;refine ⟨none,0,[],x,(i:Int)+(k:Int),rfl,World.ownsRow_nil _ _ _ _, ?_, ?_⟩
       {have b8:w.heap.size<=y.heap.size:=by have:=q.out; omega
        exact (((((d2.out.setCell (p:=⟨y.heap.size,0,none⟩) b8 _).setCell (p:=⟨y.heap.size,1,none⟩) b8 _).setCell (p:=⟨w.heap.size,0,none⟩) (Nat.le_refl _) _).setCell (p:=⟨w.heap.size,1,none⟩) (Nat.le_refl _) _).alloc (by simp; omega) _).drew}
       {rw[G.out];exact ⟨rfl,rfl,by omega⟩}
     | ok x=>
      obtain ⟨t,n⟩:=x;rw[S] at u;have r:e= .returned (.tuple #[.agg #[.int .i64 t.kind,.string ⟨t.text.toArray⟩,.int .i64 0],.int .i64 (n:Int),.agg #[.int .i64 0,.int .i64 0]]):=u;clear u;subst r;have d:=a7.out;rw[S] at d;simp only at d;obtain ⟨c1,c2,c3,_⟩:=d;have d5:Hid (Lex.toks s 0=Lex.joinR (c++ [(t,i)]) (Lex.toks (s.drop (i+n)) (i+n))):=Y1 (by rw[F.out,c1,List.map_cons,List.map_nil,Lex.ZgQ,HL.out,List.drop_drop]);have d8:=Y1 (show c.length<=i from E.out.len);have b5: (tkOf c).length<=4096:=by rw[ZdG]; have:=E.out.len; omega
      obtain ⟨p0,z0,z1,u0,u1⟩:=H.out;clear S c1;have a0: ∀k,u4.ownBlock=some k->k < y.heap.size:=fun k hk=>(X.out.lt k hk).2;have d6:Hid (∀a b,((w4.setCell ⟨y.heap.size,0,none⟩ a).setCell ⟨y.heap.size,1,none⟩ b).ownsRow W0.heap.size 46 3 u4 (tkOf c).length (cellsT (tkOf c))):=Y1 (fun a b=>ownsRow_setCell_other (a:=⟨y.heap.size,1,none⟩) (ownsRow_setCell_other (a:=⟨y.heap.size,0,none⟩) a6.out (fun e=>absurd (a0 _ e) (Nat.lt_irrefl _)) _) (fun e=>absurd (a0 _ e) (Nat.lt_irrefl _)) _);have f1:=C.out.size;clear a0
      go_wp2_with (at_builtin; refine wpList_append_own _ rfl _ _ 22 rfl W0.heap.size 46 i0 (.agg #[.int .i64 0,.string ByteArray.empty,.int .i64 0]) 3 32 Tryz.underlying22 hi b9 c0 c8 rfl (by decide) _ _ _ rfl (((d6.out _ _).alloc _).alloc _) ⟨w4.heap.size+1,0,none⟩ 1 1 [.int .i64 t.kind,.string ⟨t.text.toArray⟩,.int .i64 (i:Int)] rfl rfl (Zlc _ _ _ _ _ (by simp)) one3 (by unfold maxLen; omega) (by omega) (by simp; omega) ?_)
      intro v' w5 j o _;have D:Below W0.heap.size W0 w5:=((((C.out.setCell (p:=⟨y.heap.size,0,none⟩) T _).setCell (p:=⟨y.heap.size,1,none⟩) T _).alloc (by simp; omega) _).alloc (by simp; omega) _).grown o (by simp; omega) (fun k hk=>(a6.out.lt k hk).1);have e0:Hid (RScan s W0 w5 v' (i+n) (c++ [(t,i)])):=Y1 ⟨by
       have e:tkOf (c++ [(t,i)])=tkOf c++ [⟨t,(i:Int)⟩]:=by rw[Zey]; rfl
       rw[e,Zf8,List.length_append]; exact j,D,by rw[List.length_append]; simp; have:=d8.out; omega,d5.out⟩
      clear j o D;go_wp2
      go_roundw
      case rel=>exact ⟨i+n,_,by go_num,by omega,e0⟩
      case measure=>simp[intOf]; omega}
  {have e5: ¬(i:Int) < (s.length:Int):=by omega
   have e6:i=s.length:=by omega
   have G:Hid (Lex.scanR s= .ok (c++ [(Lex.endTok,s.length)])):=Y1 (by rw[HR.out,E.out.eq,List.drop_eq_nil_of_le (by omega),Lex.Z6h]; simp[Lex.joinR]);have b5: (tkOf c).length<=4096:=by rw[ZdG]; have:=E.out.len; omega
   have HO:=Y1 E.out.own;have Q:=Y1 E.out.bel;have a9:=Y1 (HX.out.keep q.out Q.out);clear e6
   go_wp2_with (at_builtin; refine wpList_append_own _ rfl _ _ 22 rfl W0.heap.size 46 i0 (.agg #[.int .i64 0,.string ByteArray.empty,.int .i64 0]) 3 32 Tryz.underlying22 hi b9 c0 c8 rfl (by decide) _ _ _ rfl (HO.out.alloc _) ⟨wr.heap.size,0,none⟩ 1 1 [.int .i64 0,.string ByteArray.empty,.int .i64 (s.length:Int)] rfl rfl (Zlc _ _ _ _ _ (by simp)) one3 (by unfold maxLen; omega) (by omega) (by simp; omega) ?_)
   intro v' w5 j o _;have D:Below W0.heap.size W0 w5:=(Q.out.alloc b7 _).grown o (by simp; omega) (fun k hk=>(HO.out.lt k hk).1);have d3:=Y1 (Z03 U.out D);have e2:=Y1 (HX.out.keep q.out D);obtain ⟨g1,cap,Z,_,e4⟩:=j.form (Nat.succ_pos _);have e:tkOf (c++ [(Lex.endTok,s.length)])=tkOf c++ [⟨Lex.endTok,(s.length:Int)⟩]:=by rw[Zey]; rfl
   have J: (tkOf (c++ [(Lex.endTok,s.length)])).length=(tkOf c).length+1:=by rw[e,List.length_append]; rfl
   have ho:w5.ownsRow W0.heap.size 46 3 (.slice (some ⟨g1,0,none⟩) (tkOf (c++ [(Lex.endTok,s.length)])).length cap) (tkOf (c++ [(Lex.endTok,s.length)])).length (cellsT (tkOf (c++ [(Lex.endTok,s.length)]))):=by
    rw[J,e,Zf8, <-Z]; exact j
   have d7:=Y1 ho;have HV:Hid (v'= .slice (some ⟨g1,0,none⟩) (tkOf (c++ [(Lex.endTok,s.length)])).length cap):=Y1 (by rw[J]; exact Z);obtain ⟨q0,x0,x1,y0,y1⟩:=e2.out;clear j o D Z e J ho e4;go_wp2;refine bodyPost_ret (v:= .tuple #[v',.agg #[.int .i64 0,.int .i64 0]]) (by simp[results,Tryz.results22,go_sem,x0,x1]) rfl ?_;refine ⟨some ⟨g1,0,none⟩,cap,tkOf (c++ [(Lex.endTok,s.length)]),0,0,by rw[HV.out], ?_,(d3.out.setCell (p:=⟨w.heap.size,0,none⟩) (Nat.le_refl _) _).setCell (p:=⟨w.heap.size,1,none⟩) (Nat.le_refl _) _, ?_⟩
   {exact Zec (ownsRow_setCell_below (a:=⟨w.heap.size,1,none⟩) (ownsRow_setCell_below (a:=⟨w.heap.size,0,none⟩) d7.out q.out _) q.out _) (Nat.le_of_lt q.out)}
   {rw[G.out];exact ⟨rfl,rfl,rfl⟩}}
theorem Zm4 (a:4096 < s.length) (d:s.length<=9223372036854775807) (w:World):
 Calls Tryz.prog 22 #[.string ⟨s.toArray⟩] w (ScanV s w):=by
 have e: (⟨s.toArray⟩:ByteArray).size=s.length:=Z0J _;have c: (4096:Int) < (s.length:Int):=by omega
 have b:=Y1 (Zhp a);clear a;go_enter Tryz.func22,Tryz.ntmps22;go_wp2;refine bodyPost_ret (v:= .tuple #[.slice none 0 0,.agg #[.int .i64 3,.int .i64 4096]]) (by simp[results,Tryz.results22,go_sem]) rfl ?_;refine ⟨none,0,[],3,4096,rfl,World.ownsRow_nil _ _ _ _,Z01 _ _, ?_⟩;rw[b.out];exact ⟨rfl,rfl,rfl⟩
theorem ZkD (b:s.length<=9223372036854775807) (w:World):
 Calls Tryz.prog 22 #[.string ⟨s.toArray⟩] w (ScanV s w):=by
 by_cases a:s.length<=4096
 {exact ZkC s a w}
 {exact Zm4 s (by omega) b w}
end
end Go.Proofs.YtgndehppmaacaaaGreatDoor
