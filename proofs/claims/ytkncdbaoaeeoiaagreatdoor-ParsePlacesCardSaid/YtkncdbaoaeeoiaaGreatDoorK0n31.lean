/- What the proofs of ParsePlaces want, part 31. -/
import Derived.Test.YtkncdbaoaeeoiaaGreatDoorK0n30
set_option linter.unusedVariables false
set_option linter.unusedSimpArgs false
set_option linter.unusedSectionVars false
set_option maxRecDepth 100000
set_option maxHeartbeats 16000000
namespace Lex
theorem Z6p {c:UInt8} {r T:List UInt8} (h: (small c||great c)=true) (hT:T=(c::r).takeWhile nameB):token (c::r)=if isWord T then .ok (⟨5,T⟩,T.length) else if isName T then .ok (⟨1,T⟩,T.length) else if isUpper T then .ok (⟨2,T⟩,T.length) else .error (60,0):=by
 subst hT; rw[Z2Q,if_pos h]
theorem Zc3 {c:UInt8} {r T:List UInt8} (h: (small c||great c)=false) (h2:digit c=true) (hT:T=(c::r).takeWhile lumpB):token (c::r)=if number T then .ok (⟨3,T⟩,T.length) else if (Sem.parse T).isSome then .ok (⟨7,T⟩,T.length) else .error (60,0):=by
 subst hT; rw[Z2Q,if_neg (by rw[h]; simp),if_pos h2]
theorem Z6q {c:UInt8} {r:List UInt8} (h: (small c||great c)=false) (h2:digit c=false):token (c::r)=if c=34 then quoted (c::r) else if decide (2<=(c::r).length)&&isSign ((c::r).take 2) then .ok (⟨6,(c::r).take 2⟩,2)
 else if isSign [c] then .ok (⟨6,[c]⟩,1) else .error (60,0):=by
 rw[Z2Q,if_neg (by rw[h]; simp),if_neg (by rw[h2]; simp)]
theorem ZdG (c:UInt8):lumpB c=(small c||great c||digit c||c==46||c==45):=rfl
end Lex
namespace Go.Proofs.YtkncdbaoaeeoiaaGreatDoor
open Go.RowKit
theorem Z5d (l:List UInt8) (n:Nat) (h:n<=l.length) (W:World): (Instr.slice 9 (.string ⟨l.toArray⟩) none (some (.int .i64 (n:Int))) none).run Tryz.prog W= .ok (.string ⟨(l.take n).toArray⟩) W:=by
 have:=ZdS ⟨l.toArray⟩ (n:Int) (by omega) (by rw[Z07]; omega) W;rw[Int.toNat_natCast] at this;exact this
section
variable (c : UInt8)
include c
theorem ZeU: ((c.toNat:Int)==46)=(c==46):=Z0o c 46 (by decide)
theorem ZeV: ((c.toNat:Int)==45)=(c==45):=Z0o c 45 (by decide)
theorem Zah (l r:List UInt8) (hl9:l.length<=1000000) (HL:Hid (l=c::r)) (s1:Lex.small c=true) (w:World):
 Y9 33 #[.string ⟨l.toArray⟩] w (firstV (Lex.token l)):=by
 have HT:Hid (∀T,T=l.takeWhile Lex.nameB->Lex.token l=if Lex.isWord T then .ok (⟨5,T⟩,T.length) else if Lex.isName T then .ok (⟨1,T⟩,T.length) else if Lex.isUpper T then .ok (⟨2,T⟩,T.length) else .error (60,0)):=Y1 (fun T hT=>by rw[HL.out] at hT ⊢; exact Lex.Z6p (by rw[s1]; rfl) hT);obtain ⟨htl,htt⟩:=Lex.Z1g Lex.nameB l;have hz: (⟨l.toArray⟩:ByteArray).size=l.length:=Z07 _;have hidx0: ∀W,(Instr.index 9 (.string ⟨l.toArray⟩) (.int .i64 0)).run Tryz.prog W= .ok (.int .u8 c.toNat) W:=fun W=>by rw[HL.out]; rfl
 have HR0:=Y1 (Z3R w);have HB0:=Y1 (Z2r w (.cells Yd 54) (.cells Yc 29) (.cells #[.int .i64 60,.int .i64 0] 29));go_enter Tryz.func33,Tryz.ntmps33
 go_wp2_with fail
 generalize hW: ((w.alloc (.cells Yd 54)).alloc (.cells Yc 29)).alloc (.cells #[.int .i64 60,.int .i64 0] 29)=W0 at HR0 HB0 ⊢;clear hW;obtain ⟨h2,hh2⟩: ∃h2,h2=w.heap.size+1+1:=⟨_,rfl⟩;rw[<-hh2] at HR0 ⊢;obtain ⟨h1,hh1⟩: ∃h1,h1=w.heap.size+1:=⟨_,rfl⟩;rw[<-hh1] at HR0 ⊢;have n01:w.heap.size≠h1:=by omega
 have n02:w.heap.size≠h2:=by omega
 have n12:h1≠h2:=by omega
 have HZ1:Hid (w.heap.size < h1):=Y1 (by omega);clear hh1 hh2
 go_wp2_with fail
 refine (Z0e c _).mono ?_;rintro e wy ⟨rfl,rfl⟩;rw[s1]
 go_wp2_with fail
 refine (Z2R l hl9 _).mono ?_;rintro e wy ⟨rfl,rfl⟩;obtain ⟨T,hT⟩: ∃T,T=l.takeWhile Lex.nameB:=⟨_,rfl⟩;have HTT:=Y1 (HT.out T hT);rw[<-hT] at htl htt ⊢;have hsl: ∀W,(Instr.slice 9 (.string ⟨l.toArray⟩) none (some (.int .i64 (T.length:Int))) none).run Tryz.prog W= .ok (.string ⟨T.toArray⟩) W:=fun W=>by
  rw[Z5d l T.length htl W,htt]
 have hT9:T.length<=1000000:=by omega
 clear hT htt HT;cases g1:Lex.isWord T
 {go_wp2_with fail
  refine (Z26 T _).mono ?_;rintro e w11 ⟨rfl,hbx⟩;have HR1:=Y1 (HR0.out.keep HR0.out.l0 HR0.out.l1 HR0.out.l2 hbx);have HB1:=Y1 (Z00 HB0.out hbx);clear hbx;rw[g1];cases g2:Lex.isName T
  {go_wp2_with fail
   refine (Z2S T (by omega) _).mono ?_;rintro e w12 ⟨rfl,hbx⟩;have HR2:=Y1 (HR1.out.keep HR1.out.l0 HR1.out.l1 HR1.out.l2 hbx);have HB2:=Y1 (Z00 HB1.out hbx);clear hbx;rw[g2];cases g3:Lex.isUpper T
   {go_wp2_with fail
    refine (Z2x T (by omega) _).mono ?_;rintro e w13 ⟨rfl,hbx⟩;have HR3:=Y1 (HR2.out.keep HR2.out.l0 HR2.out.l1 HR2.out.l2 hbx);have HB3:=Y1 (Z00 HB2.out hbx);clear hbx;rw[g3];have HF:Hid (Lex.token l= .error (60,0)):=Y1 (by rw[HTT.out,g1,g2,g3]; rfl);obtain ⟨l0,l1,l2,t0,t1,t2,f0,f1,b0,b1,z0,z1,z2,z3,z4⟩:=HR3.out
    go_wp2_with fail
    go_region
    all_goals
     go_wp2;refine bodyPost_ret (v:= .tuple #[.agg #[.int .i64 0,.string ⟨#[]⟩,.int .i64 0],.int .i64 0,.agg #[.int .i64 60,.int .i64 0]]) (by simp[results,Tryz.results33,go_sem,t0,t1,t2,f0,f1]) rfl ?_;exact ⟨by rw[HF.out]; rfl,(((((HB3.out.setCell (p:=⟨w.heap.size,0,none⟩) (Nat.le_refl _) _).setCell (p:=⟨w.heap.size,1,none⟩) (Nat.le_refl _) _).setCell (p:=⟨w.heap.size,2,none⟩) (Nat.le_refl _) _).setCell (p:=⟨h1,0,none⟩) (Nat.le_of_lt HZ1.out) _).setCell (p:=⟨h1,1,none⟩) (Nat.le_of_lt HZ1.out) _).drew⟩}
   {go_wp2_with fail
    refine (Z2x T (by omega) _).mono ?_;rintro e w13 ⟨rfl,hbx⟩;have HR3:=Y1 (HR2.out.keep HR2.out.l0 HR2.out.l1 HR2.out.l2 hbx);have HB3:=Y1 (Z00 HB2.out hbx);clear hbx;rw[g3];have HF:Hid (Lex.token l= .ok (⟨2,T⟩,T.length)):=Y1 (by rw[HTT.out,g1,g2,g3]; rfl);obtain ⟨l0,l1,l2,t0,t1,t2,f0,f1,b0,b1,z0,z1,z2,z3,z4⟩:=HR3.out;go_wp2;refine bodyPost_ret (v:= .tuple #[.agg #[.int .i64 2,.string ⟨(T).toArray⟩,.int .i64 0],.int .i64 ((T.length:Nat):Int),.agg #[.int .i64 0,.int .i64 0]]) (by simp[results,Tryz.results33,go_sem,t0,t1,t2,f0,f1]) rfl ?_;exact ⟨by rw[HF.out]; rfl,((((HB3.out.setCell (p:=⟨w.heap.size,0,none⟩) (Nat.le_refl _) _).setCell (p:=⟨w.heap.size,1,none⟩) (Nat.le_refl _) _).setCell (p:=⟨w.heap.size,2,none⟩) (Nat.le_refl _) _).setCell (p:=⟨h1,0,none⟩) (Nat.le_of_lt HZ1.out) _).setCell (p:=⟨h1,1,none⟩) (Nat.le_of_lt HZ1.out) _⟩}}
  {go_wp2_with fail
   refine (Z2S T (by omega) _).mono ?_;rintro e w12 ⟨rfl,hbx⟩;have HR2:=Y1 (HR1.out.keep HR1.out.l0 HR1.out.l1 HR1.out.l2 hbx);have HB2:=Y1 (Z00 HB1.out hbx);clear hbx;rw[g2];have HF:Hid (Lex.token l= .ok (⟨1,T⟩,T.length)):=Y1 (by rw[HTT.out,g1,g2]; rfl);obtain ⟨l0,l1,l2,t0,t1,t2,f0,f1,b0,b1,z0,z1,z2,z3,z4⟩:=HR2.out;go_wp2;refine bodyPost_ret (v:= .tuple #[.agg #[.int .i64 1,.string ⟨(T).toArray⟩,.int .i64 0],.int .i64 ((T.length:Nat):Int),.agg #[.int .i64 0,.int .i64 0]]) (by simp[results,Tryz.results33,go_sem,t0,t1,t2,f0,f1]) rfl ?_;exact ⟨by rw[HF.out]; rfl,((((HB2.out.setCell (p:=⟨w.heap.size,0,none⟩) (Nat.le_refl _) _).setCell (p:=⟨w.heap.size,1,none⟩) (Nat.le_refl _) _).setCell (p:=⟨w.heap.size,2,none⟩) (Nat.le_refl _) _).setCell (p:=⟨h1,0,none⟩) (Nat.le_of_lt HZ1.out) _).setCell (p:=⟨h1,1,none⟩) (Nat.le_of_lt HZ1.out) _⟩}}
 {go_wp2_with fail
  refine (Z26 T _).mono ?_;rintro e w11 ⟨rfl,hbx⟩;have HR1:=Y1 (HR0.out.keep HR0.out.l0 HR0.out.l1 HR0.out.l2 hbx);have HB1:=Y1 (Z00 HB0.out hbx);clear hbx;rw[g1];have HF:Hid (Lex.token l= .ok (⟨5,T⟩,T.length)):=Y1 (by rw[HTT.out,g1]; rfl);obtain ⟨l0,l1,l2,t0,t1,t2,f0,f1,b0,b1,z0,z1,z2,z3,z4⟩:=HR1.out;go_wp2;refine bodyPost_ret (v:= .tuple #[.agg #[.int .i64 5,.string ⟨(T).toArray⟩,.int .i64 0],.int .i64 ((T.length:Nat):Int),.agg #[.int .i64 0,.int .i64 0]]) (by simp[results,Tryz.results33,go_sem,t0,t1,t2,f0,f1]) rfl ?_;exact ⟨by rw[HF.out]; rfl,((((HB1.out.setCell (p:=⟨w.heap.size,0,none⟩) (Nat.le_refl _) _).setCell (p:=⟨w.heap.size,1,none⟩) (Nat.le_refl _) _).setCell (p:=⟨w.heap.size,2,none⟩) (Nat.le_refl _) _).setCell (p:=⟨h1,0,none⟩) (Nat.le_of_lt HZ1.out) _).setCell (p:=⟨h1,1,none⟩) (Nat.le_of_lt HZ1.out) _⟩}
theorem Zai (l r:List UInt8) (hl9:l.length<=1000000) (HL:Hid (l=c::r)) (s1:Lex.small c=false) (s2:Lex.great c=true) (w:World):
 Y9 33 #[.string ⟨l.toArray⟩] w (firstV (Lex.token l)):=by
 have HT:Hid (∀T,T=l.takeWhile Lex.nameB->Lex.token l=if Lex.isWord T then .ok (⟨5,T⟩,T.length) else if Lex.isName T then .ok (⟨1,T⟩,T.length) else if Lex.isUpper T then .ok (⟨2,T⟩,T.length) else .error (60,0)):=Y1 (fun T hT=>by rw[HL.out] at hT ⊢; exact Lex.Z6p (by rw[s2]; simp) hT);obtain ⟨htl,htt⟩:=Lex.Z1g Lex.nameB l;have hz: (⟨l.toArray⟩:ByteArray).size=l.length:=Z07 _;have hidx0: ∀W,(Instr.index 9 (.string ⟨l.toArray⟩) (.int .i64 0)).run Tryz.prog W= .ok (.int .u8 c.toNat) W:=fun W=>by rw[HL.out]; rfl
 have HR0:=Y1 (Z3R w);have HB0:=Y1 (Z2r w (.cells Yd 54) (.cells Yc 29) (.cells #[.int .i64 60,.int .i64 0] 29));go_enter Tryz.func33,Tryz.ntmps33
 go_wp2_with fail
 generalize hW: ((w.alloc (.cells Yd 54)).alloc (.cells Yc 29)).alloc (.cells #[.int .i64 60,.int .i64 0] 29)=W0 at HR0 HB0 ⊢;clear hW;obtain ⟨h2,hh2⟩: ∃h2,h2=w.heap.size+1+1:=⟨_,rfl⟩;rw[<-hh2] at HR0 ⊢;obtain ⟨h1,hh1⟩: ∃h1,h1=w.heap.size+1:=⟨_,rfl⟩;rw[<-hh1] at HR0 ⊢;have n01:w.heap.size≠h1:=by omega
 have n02:w.heap.size≠h2:=by omega
 have n12:h1≠h2:=by omega
 have HZ1:Hid (w.heap.size < h1):=Y1 (by omega);clear hh1 hh2
 go_wp2_with fail
 refine (Z0e c _).mono ?_;rintro e wy ⟨rfl,rfl⟩;rw[s1]
 go_wp2_with fail
 refine (Z0j c _).mono ?_;rintro e wy ⟨rfl,rfl⟩;rw[s2]
 go_wp2_with fail
 refine (Z2R l hl9 _).mono ?_;rintro e wy ⟨rfl,rfl⟩;obtain ⟨T,hT⟩: ∃T,T=l.takeWhile Lex.nameB:=⟨_,rfl⟩;have HTT:=Y1 (HT.out T hT);rw[<-hT] at htl htt ⊢;have hsl: ∀W,(Instr.slice 9 (.string ⟨l.toArray⟩) none (some (.int .i64 (T.length:Int))) none).run Tryz.prog W= .ok (.string ⟨T.toArray⟩) W:=fun W=>by
  rw[Z5d l T.length htl W,htt]
 have hT9:T.length<=1000000:=by omega
 clear hT htt HT;cases g1:Lex.isWord T
 {go_wp2_with fail
  refine (Z26 T _).mono ?_;rintro e w11 ⟨rfl,hbx⟩;have HR1:=Y1 (HR0.out.keep HR0.out.l0 HR0.out.l1 HR0.out.l2 hbx);have HB1:=Y1 (Z00 HB0.out hbx);clear hbx;rw[g1];cases g2:Lex.isName T
  {go_wp2_with fail
   refine (Z2S T (by omega) _).mono ?_;rintro e w12 ⟨rfl,hbx⟩;have HR2:=Y1 (HR1.out.keep HR1.out.l0 HR1.out.l1 HR1.out.l2 hbx);have HB2:=Y1 (Z00 HB1.out hbx);clear hbx;rw[g2];cases g3:Lex.isUpper T
   {go_wp2_with fail
    refine (Z2x T (by omega) _).mono ?_;rintro e w13 ⟨rfl,hbx⟩;have HR3:=Y1 (HR2.out.keep HR2.out.l0 HR2.out.l1 HR2.out.l2 hbx);have HB3:=Y1 (Z00 HB2.out hbx);clear hbx;rw[g3];have HF:Hid (Lex.token l= .error (60,0)):=Y1 (by rw[HTT.out,g1,g2,g3]; rfl);obtain ⟨l0,l1,l2,t0,t1,t2,f0,f1,b0,b1,z0,z1,z2,z3,z4⟩:=HR3.out
    go_wp2_with fail
    go_region
    all_goals
     go_wp2;refine bodyPost_ret (v:= .tuple #[.agg #[.int .i64 0,.string ⟨#[]⟩,.int .i64 0],.int .i64 0,.agg #[.int .i64 60,.int .i64 0]]) (by simp[results,Tryz.results33,go_sem,t0,t1,t2,f0,f1]) rfl ?_;exact ⟨by rw[HF.out]; rfl,(((((HB3.out.setCell (p:=⟨w.heap.size,0,none⟩) (Nat.le_refl _) _).setCell (p:=⟨w.heap.size,1,none⟩) (Nat.le_refl _) _).setCell (p:=⟨w.heap.size,2,none⟩) (Nat.le_refl _) _).setCell (p:=⟨h1,0,none⟩) (Nat.le_of_lt HZ1.out) _).setCell (p:=⟨h1,1,none⟩) (Nat.le_of_lt HZ1.out) _).drew⟩}
   {go_wp2_with fail
    refine (Z2x T (by omega) _).mono ?_;rintro e w13 ⟨rfl,hbx⟩;have HR3:=Y1 (HR2.out.keep HR2.out.l0 HR2.out.l1 HR2.out.l2 hbx);have HB3:=Y1 (Z00 HB2.out hbx);clear hbx;rw[g3];have HF:Hid (Lex.token l= .ok (⟨2,T⟩,T.length)):=Y1 (by rw[HTT.out,g1,g2,g3]; rfl);obtain ⟨l0,l1,l2,t0,t1,t2,f0,f1,b0,b1,z0,z1,z2,z3,z4⟩:=HR3.out;go_wp2;refine bodyPost_ret (v:= .tuple #[.agg #[.int .i64 2,.string ⟨(T).toArray⟩,.int .i64 0],.int .i64 ((T.length:Nat):Int),.agg #[.int .i64 0,.int .i64 0]]) (by simp[results,Tryz.results33,go_sem,t0,t1,t2,f0,f1]) rfl ?_;exact ⟨by rw[HF.out]; rfl,((((HB3.out.setCell (p:=⟨w.heap.size,0,none⟩) (Nat.le_refl _) _).setCell (p:=⟨w.heap.size,1,none⟩) (Nat.le_refl _) _).setCell (p:=⟨w.heap.size,2,none⟩) (Nat.le_refl _) _).setCell (p:=⟨h1,0,none⟩) (Nat.le_of_lt HZ1.out) _).setCell (p:=⟨h1,1,none⟩) (Nat.le_of_lt HZ1.out) _⟩}}
  {go_wp2_with fail
   refine (Z2S T (by omega) _).mono ?_;rintro e w12 ⟨rfl,hbx⟩;have HR2:=Y1 (HR1.out.keep HR1.out.l0 HR1.out.l1 HR1.out.l2 hbx);have HB2:=Y1 (Z00 HB1.out hbx);clear hbx;rw[g2];have HF:Hid (Lex.token l= .ok (⟨1,T⟩,T.length)):=Y1 (by rw[HTT.out,g1,g2]; rfl);obtain ⟨l0,l1,l2,t0,t1,t2,f0,f1,b0,b1,z0,z1,z2,z3,z4⟩:=HR2.out;go_wp2;refine bodyPost_ret (v:= .tuple #[.agg #[.int .i64 1,.string ⟨(T).toArray⟩,.int .i64 0],.int .i64 ((T.length:Nat):Int),.agg #[.int .i64 0,.int .i64 0]]) (by simp[results,Tryz.results33,go_sem,t0,t1,t2,f0,f1]) rfl ?_;exact ⟨by rw[HF.out]; rfl,((((HB2.out.setCell (p:=⟨w.heap.size,0,none⟩) (Nat.le_refl _) _).setCell (p:=⟨w.heap.size,1,none⟩) (Nat.le_refl _) _).setCell (p:=⟨w.heap.size,2,none⟩) (Nat.le_refl _) _).setCell (p:=⟨h1,0,none⟩) (Nat.le_of_lt HZ1.out) _).setCell (p:=⟨h1,1,none⟩) (Nat.le_of_lt HZ1.out) _⟩}}
 {go_wp2_with fail
  refine (Z26 T _).mono ?_;rintro e w11 ⟨rfl,hbx⟩;have HR1:=Y1 (HR0.out.keep HR0.out.l0 HR0.out.l1 HR0.out.l2 hbx);have HB1:=Y1 (Z00 HB0.out hbx);clear hbx;rw[g1];have HF:Hid (Lex.token l= .ok (⟨5,T⟩,T.length)):=Y1 (by rw[HTT.out,g1]; rfl);obtain ⟨l0,l1,l2,t0,t1,t2,f0,f1,b0,b1,z0,z1,z2,z3,z4⟩:=HR1.out;go_wp2;refine bodyPost_ret (v:= .tuple #[.agg #[.int .i64 5,.string ⟨(T).toArray⟩,.int .i64 0],.int .i64 ((T.length:Nat):Int),.agg #[.int .i64 0,.int .i64 0]]) (by simp[results,Tryz.results33,go_sem,t0,t1,t2,f0,f1]) rfl ?_;exact ⟨by rw[HF.out]; rfl,((((HB1.out.setCell (p:=⟨w.heap.size,0,none⟩) (Nat.le_refl _) _).setCell (p:=⟨w.heap.size,1,none⟩) (Nat.le_refl _) _).setCell (p:=⟨w.heap.size,2,none⟩) (Nat.le_refl _) _).setCell (p:=⟨h1,0,none⟩) (Nat.le_of_lt HZ1.out) _).setCell (p:=⟨h1,1,none⟩) (Nat.le_of_lt HZ1.out) _⟩}
theorem Zc4 (l r:List UInt8) (hl9:l.length<=1000000) (HL:Hid (l=c::r)) (s1:Lex.small c=false) (s2:Lex.great c=false) (s3:Lex.digit c=true) (w:World):
 Y9 33 #[.string ⟨l.toArray⟩] w (firstV (Lex.token l)):=by
 have HT:Hid (∀T,T=l.takeWhile Lex.lumpB->Lex.token l=if Lex.number T then .ok (⟨3,T⟩,T.length) else if (Sem.parse T).isSome then .ok (⟨7,T⟩,T.length) else .error (60,0)):=Y1 (fun T hT=>by rw[HL.out] at hT ⊢; exact Lex.Zc3 (by rw[s1,s2]; rfl) s3 hT);obtain ⟨htl,htt⟩:=Lex.Z1g Lex.lumpB l;have hz: (⟨l.toArray⟩:ByteArray).size=l.length:=Z07 _;have hidx0: ∀W,(Instr.index 9 (.string ⟨l.toArray⟩) (.int .i64 0)).run Tryz.prog W= .ok (.int .u8 c.toNat) W:=fun W=>by rw[HL.out]; rfl
 have HR0:=Y1 (Z3R w);have HB0:=Y1 (Z2r w (.cells Yd 54) (.cells Yc 29) (.cells #[.int .i64 60,.int .i64 0] 29));go_enter Tryz.func33,Tryz.ntmps33
 go_wp2_with fail
 generalize hW: ((w.alloc (.cells Yd 54)).alloc (.cells Yc 29)).alloc (.cells #[.int .i64 60,.int .i64 0] 29)=W0 at HR0 HB0 ⊢;clear hW;obtain ⟨h2,hh2⟩: ∃h2,h2=w.heap.size+1+1:=⟨_,rfl⟩;rw[<-hh2] at HR0 ⊢;obtain ⟨h1,hh1⟩: ∃h1,h1=w.heap.size+1:=⟨_,rfl⟩;rw[<-hh1] at HR0 ⊢;have n01:w.heap.size≠h1:=by omega
 have n02:w.heap.size≠h2:=by omega
 have n12:h1≠h2:=by omega
 have HZ1:Hid (w.heap.size < h1):=Y1 (by omega);clear hh1 hh2
 go_wp2_with fail
 refine (Z0e c _).mono ?_;rintro e wy ⟨rfl,rfl⟩;rw[s1]
 go_wp2_with fail
 refine (Z0j c _).mono ?_;rintro e wy ⟨rfl,rfl⟩;rw[s2]
 go_wp2_with fail
 refine (Z0x c _).mono ?_;rintro e wy ⟨rfl,rfl⟩;rw[s3];clear s1 s2 s3 hidx0
 go_wp2_with fail
 go_loopw [9] (fun ii wr=> ∃n:Nat,ii= .int .i64 n/\n<=l.length/\Hid (∀j (hj:j < l.length),j < n->Lex.lumpB (l[j]'hj)=true)/\W0=wr)
  (fun i _=>l.length - (intOf i).toNat)
 case atStart=>exact ⟨0,rfl,Nat.zero_le _,Y1 (fun j _ hj=>absurd hj (by omega)),rfl⟩
 case round=>
  obtain ⟨n,rfl,hn,HN,rfl⟩:=hrel;have after: (∀h:n < l.length,Lex.lumpB (l[n]'h)=false)->(l.takeWhile Lex.lumpB).length=n:=fun h=>Lex.Z52 hn HN.out h;by_cases hlt:n < l.length
  {have hi1: (n:Int) < (l.length:Int):=by omega
   obtain ⟨d,hd⟩: ∃d,d=l[n]'hlt:=⟨_,rfl⟩;have hidx: ∀W,(Instr.index 9 (.string ⟨l.toArray⟩) (.int .i64 (n:Int))).run Tryz.prog W= .ok (.int .u8 d.toNat) W:=fun W=>by
    rw[hd]; exact Z0i ⟨l.toArray⟩ n (by omega) W
   have HD:=Y1 hd;have d46:=ZeU d;have d45:=ZeV d;have HLB:=Y1 (Lex.ZdG d);have more:Lex.lumpB d=true->Hid (∀j (hj:j < l.length),j < n+1->Lex.lumpB (l[j]'hj)=true):=fun h=>Y1 (fun j hj hji=>by
    rcases Nat.lt_succ_iff_lt_or_eq.1 hji with h' | rfl
    {exact HN.out j hj h'}
    · rw[<-HD.out]; exact h)
   clear hd;cases q0:Lex.small d
   {cases q1:Lex.great d
    {cases q2:Lex.digit d
     {cases q3: (d==46)
      {cases q4: (d==45)
       {rw[q3] at d46;rw[q4] at d45;have hTn:=after (fun _=>by rw[<-HD.out]; exact (by rw[HLB.out,q0,q1,q2,q3,q4]; rfl));clear more
        go_wp2_with fail
        refine (Z0e d _).mono ?_;rintro e wy ⟨rfl,rfl⟩;rw[q0]
        go_wp2_with fail
        refine (Z0j d _).mono ?_;rintro e wy ⟨rfl,rfl⟩;rw[q1]
        go_wp2_with fail
        refine (Z0x d _).mono ?_;rintro e wy ⟨rfl,rfl⟩;rw[q2];obtain ⟨T,hT⟩: ∃T,T=l.takeWhile Lex.lumpB:=⟨_,rfl⟩;have HTT:=Y1 (HT.out T hT);rw[<-hT] at htl htt hTn;have hsl: ∀W,(Instr.slice 9 (.string ⟨l.toArray⟩) none (some (.int .i64 (n:Int))) none).run Tryz.prog W= .ok (.string ⟨T.toArray⟩) W:=fun W=>by
         rw[<-hTn,Z5d l T.length htl W,htt]
        have hT9:T.length<=1000000:=by omega
        have HTN:=Y1 hTn;clear hT htt HT hTn after;obtain ⟨u,e0,hpu,hpe⟩: ∃(u:Sem.Ver) (e0:Int),parseR (Sem.parse T)= .tuple #[verV u,.int .i64 e0]/\(e0==0)=(Sem.parse T).isSome:=by
         rcases hp:Sem.parse T with _ | v
         {exact ⟨⟨0,0,0,[]⟩,40,rfl,rfl⟩}
         {exact ⟨v,0,rfl,rfl⟩}
        obtain ⟨ua,ub,uc,up⟩:=u;have HP:Hid (parseR (Sem.parse T)= .tuple #[.agg #[.int .i64 ua,.int .i64 ub,.int .i64 uc,.string ⟨up.toArray⟩],.int .i64 e0]):=Y1 hpu;have HE:=Y1 hpe;clear hpu hpe
        go_wp2_with fail
        refine (Z5u ⟨T.toArray⟩ (by rw[Z07]; omega) _).mono ?_;rintro e w11 ⟨he,hbx⟩;have HR1:=Y1 (HR0.out.keep HR0.out.l0 HR0.out.l1 HR0.out.l2 hbx);have HB1:=Y1 (Z00 HB0.out hbx);clear hbx;rw[show (⟨T.toArray⟩:ByteArray).data.toList=T from rfl,HP.out] at he;subst he;have hba:=Z01 w11 (.cells #[.int .i64 ua,.int .i64 ub,.int .i64 uc,.string ⟨up.toArray⟩] 105);have HR2:=Y1 (HR1.out.keep HR1.out.l0 HR1.out.l1 HR1.out.l2 hba);have HB2:=Y1 (Z00 HB1.out hba);clear hba;cases g1:Lex.number T
        {go_wp2_with fail
         refine (Z29 T hT9 _).mono ?_;rintro e wy ⟨rfl,rfl⟩;rw[g1];cases g2: (e0==0)
         {have HF:Hid (Lex.token l= .error (60,0)):=Y1 (by rw[HTT.out,g1, <-HE.out,g2]; rfl);obtain ⟨l0,l1,l2,t0,t1,t2,f0,f1,b0,b1,z0,z1,z2,z3,z4⟩:=HR2.out
          go_wp2_with fail
          go_region
          all_goals
           go_wp2;refine bodyPost_ret (v:= .tuple #[.agg #[.int .i64 0,.string ⟨#[]⟩,.int .i64 0],.int .i64 0,.agg #[.int .i64 60,.int .i64 0]]) (by simp[results,Tryz.results33,go_sem,t0,t1,t2,f0,f1]) rfl ?_;exact ⟨by rw[HF.out]; rfl,(((((HB2.out.setCell (p:=⟨w.heap.size,0,none⟩) (Nat.le_refl _) _).setCell (p:=⟨w.heap.size,1,none⟩) (Nat.le_refl _) _).setCell (p:=⟨w.heap.size,2,none⟩) (Nat.le_refl _) _).setCell (p:=⟨h1,0,none⟩) (Nat.le_of_lt HZ1.out) _).setCell (p:=⟨h1,1,none⟩) (Nat.le_of_lt HZ1.out) _).drew⟩}
         {have HF:Hid (Lex.token l= .ok (⟨7,T⟩,n)):=Y1 (by rw[HTT.out,g1, <-HE.out,g2,HTN.out]; rfl);obtain ⟨l0,l1,l2,t0,t1,t2,f0,f1,b0,b1,z0,z1,z2,z3,z4⟩:=HR2.out;go_wp2;refine bodyPost_ret (v:= .tuple #[.agg #[.int .i64 7,.string ⟨(T).toArray⟩,.int .i64 0],.int .i64 ((n:Nat):Int),.agg #[.int .i64 0,.int .i64 0]]) (by simp[results,Tryz.results33,go_sem,t0,t1,t2,f0,f1]) rfl ?_;exact ⟨by rw[HF.out]; rfl,((((HB2.out.setCell (p:=⟨w.heap.size,0,none⟩) (Nat.le_refl _) _).setCell (p:=⟨w.heap.size,1,none⟩) (Nat.le_refl _) _).setCell (p:=⟨w.heap.size,2,none⟩) (Nat.le_refl _) _).setCell (p:=⟨h1,0,none⟩) (Nat.le_of_lt HZ1.out) _).setCell (p:=⟨h1,1,none⟩) (Nat.le_of_lt HZ1.out) _⟩}}
        {go_wp2_with fail
         refine (Z29 T hT9 _).mono ?_;rintro e wy ⟨rfl,rfl⟩;rw[g1];have HF:Hid (Lex.token l= .ok (⟨3,T⟩,n)):=Y1 (by rw[HTT.out,g1,HTN.out]; rfl);obtain ⟨l0,l1,l2,t0,t1,t2,f0,f1,b0,b1,z0,z1,z2,z3,z4⟩:=HR2.out;go_wp2;refine bodyPost_ret (v:= .tuple #[.agg #[.int .i64 3,.string ⟨(T).toArray⟩,.int .i64 0],.int .i64 ((n:Nat):Int),.agg #[.int .i64 0,.int .i64 0]]) (by simp[results,Tryz.results33,go_sem,t0,t1,t2,f0,f1]) rfl ?_;exact ⟨by rw[HF.out]; rfl,((((HB2.out.setCell (p:=⟨w.heap.size,0,none⟩) (Nat.le_refl _) _).setCell (p:=⟨w.heap.size,1,none⟩) (Nat.le_refl _) _).setCell (p:=⟨w.heap.size,2,none⟩) (Nat.le_refl _) _).setCell (p:=⟨h1,0,none⟩) (Nat.le_of_lt HZ1.out) _).setCell (p:=⟨h1,1,none⟩) (Nat.le_of_lt HZ1.out) _⟩}}
       {rw[q3] at d46;rw[q4] at d45;have HM:=more (by rw[HLB.out,q0,q1,q2,q3,q4]; rfl);clear more after
        go_wp2_with fail
        refine (Z0e d _).mono ?_;rintro e wy ⟨rfl,rfl⟩;rw[q0]
        go_wp2_with fail
        refine (Z0j d _).mono ?_;rintro e wy ⟨rfl,rfl⟩;rw[q1]
        go_wp2_with fail
        refine (Z0x d _).mono ?_;rintro e wy ⟨rfl,rfl⟩;rw[q2];go_wp2
        go_roundw
        case rel=>exact ⟨n+1,by go_num,by omega,HM,trivial⟩
        case measure=>simp[intOf]; omega}}
      {rw[q3] at d46;have HM:=more (by rw[HLB.out,q0,q1,q2,q3]; rfl);clear more after
       go_wp2_with fail
       refine (Z0e d _).mono ?_;rintro e wy ⟨rfl,rfl⟩;rw[q0]
       go_wp2_with fail
       refine (Z0j d _).mono ?_;rintro e wy ⟨rfl,rfl⟩;rw[q1]
       go_wp2_with fail
       refine (Z0x d _).mono ?_;rintro e wy ⟨rfl,rfl⟩;rw[q2];go_wp2
       go_roundw
       case rel=>exact ⟨n+1,by go_num,by omega,HM,trivial⟩
       case measure=>simp[intOf]; omega}}
     {have HM:=more (by rw[HLB.out,q0,q1,q2]; rfl);clear more after
      go_wp2_with fail
      refine (Z0e d _).mono ?_;rintro e wy ⟨rfl,rfl⟩;rw[q0]
      go_wp2_with fail
      refine (Z0j d _).mono ?_;rintro e wy ⟨rfl,rfl⟩;rw[q1]
      go_wp2_with fail
      refine (Z0x d _).mono ?_;rintro e wy ⟨rfl,rfl⟩;rw[q2];go_wp2
      go_roundw
      case rel=>exact ⟨n+1,by go_num,by omega,HM,trivial⟩
      case measure=>simp[intOf]; omega}}
    {have HM:=more (by rw[HLB.out,q0,q1]; rfl);clear more after
     go_wp2_with fail
     refine (Z0e d _).mono ?_;rintro e wy ⟨rfl,rfl⟩;rw[q0]
     go_wp2_with fail
     refine (Z0j d _).mono ?_;rintro e wy ⟨rfl,rfl⟩;rw[q1];go_wp2
     go_roundw
     case rel=>exact ⟨n+1,by go_num,by omega,HM,trivial⟩
     case measure=>simp[intOf]; omega}}
   {have HM:=more (by rw[HLB.out,q0]; rfl);clear more after
    go_wp2_with fail
    refine (Z0e d _).mono ?_;rintro e wy ⟨rfl,rfl⟩;rw[q0];go_wp2
    go_roundw
    case rel=>exact ⟨n+1,by go_num,by omega,HM,trivial⟩
    case measure=>simp[intOf]; omega}}
  {have hi1: ¬(n:Int) < (l.length:Int):=by omega
   have hTn:=after (fun h=>absurd h hlt);obtain ⟨T,hT⟩: ∃T,T=l.takeWhile Lex.lumpB:=⟨_,rfl⟩;have HTT:=Y1 (HT.out T hT);rw[<-hT] at htl htt hTn;have hsl: ∀W,(Instr.slice 9 (.string ⟨l.toArray⟩) none (some (.int .i64 (n:Int))) none).run Tryz.prog W= .ok (.string ⟨T.toArray⟩) W:=fun W=>by
    rw[<-hTn,Z5d l T.length htl W,htt]
   have hT9:T.length<=1000000:=by omega
   have HTN:=Y1 hTn;clear hT htt HT hTn after;obtain ⟨u,e0,hpu,hpe⟩: ∃(u:Sem.Ver) (e0:Int),parseR (Sem.parse T)= .tuple #[verV u,.int .i64 e0]/\(e0==0)=(Sem.parse T).isSome:=by
    rcases hp:Sem.parse T with _ | v
    {exact ⟨⟨0,0,0,[]⟩,40,rfl,rfl⟩}
    {exact ⟨v,0,rfl,rfl⟩}
   obtain ⟨ua,ub,uc,up⟩:=u;have HP:Hid (parseR (Sem.parse T)= .tuple #[.agg #[.int .i64 ua,.int .i64 ub,.int .i64 uc,.string ⟨up.toArray⟩],.int .i64 e0]):=Y1 hpu;have HE:=Y1 hpe;clear hpu hpe
   go_wp2_with fail
   refine (Z5u ⟨T.toArray⟩ (by rw[Z07]; omega) _).mono ?_;rintro e w11 ⟨he,hbx⟩;have HR1:=Y1 (HR0.out.keep HR0.out.l0 HR0.out.l1 HR0.out.l2 hbx);have HB1:=Y1 (Z00 HB0.out hbx);clear hbx;rw[show (⟨T.toArray⟩:ByteArray).data.toList=T from rfl,HP.out] at he;subst he;have hba:=Z01 w11 (.cells #[.int .i64 ua,.int .i64 ub,.int .i64 uc,.string ⟨up.toArray⟩] 105);have HR2:=Y1 (HR1.out.keep HR1.out.l0 HR1.out.l1 HR1.out.l2 hba);have HB2:=Y1 (Z00 HB1.out hba);clear hba;cases g1:Lex.number T
   {go_wp2_with fail
    refine (Z29 T hT9 _).mono ?_;rintro e wy ⟨rfl,rfl⟩;rw[g1];cases g2: (e0==0)
    {have HF:Hid (Lex.token l= .error (60,0)):=Y1 (by rw[HTT.out,g1, <-HE.out,g2]; rfl);obtain ⟨l0,l1,l2,t0,t1,t2,f0,f1,b0,b1,z0,z1,z2,z3,z4⟩:=HR2.out
     go_wp2_with fail
     go_region
     all_goals
      go_wp2;refine bodyPost_ret (v:= .tuple #[.agg #[.int .i64 0,.string ⟨#[]⟩,.int .i64 0],.int .i64 0,.agg #[.int .i64 60,.int .i64 0]]) (by simp[results,Tryz.results33,go_sem,t0,t1,t2,f0,f1]) rfl ?_;exact ⟨by rw[HF.out]; rfl,(((((HB2.out.setCell (p:=⟨w.heap.size,0,none⟩) (Nat.le_refl _) _).setCell (p:=⟨w.heap.size,1,none⟩) (Nat.le_refl _) _).setCell (p:=⟨w.heap.size,2,none⟩) (Nat.le_refl _) _).setCell (p:=⟨h1,0,none⟩) (Nat.le_of_lt HZ1.out) _).setCell (p:=⟨h1,1,none⟩) (Nat.le_of_lt HZ1.out) _).drew⟩}
    {have HF:Hid (Lex.token l= .ok (⟨7,T⟩,n)):=Y1 (by rw[HTT.out,g1, <-HE.out,g2,HTN.out]; rfl);obtain ⟨l0,l1,l2,t0,t1,t2,f0,f1,b0,b1,z0,z1,z2,z3,z4⟩:=HR2.out;go_wp2;refine bodyPost_ret (v:= .tuple #[.agg #[.int .i64 7,.string ⟨(T).toArray⟩,.int .i64 0],.int .i64 ((n:Nat):Int),.agg #[.int .i64 0,.int .i64 0]]) (by simp[results,Tryz.results33,go_sem,t0,t1,t2,f0,f1]) rfl ?_;exact ⟨by rw[HF.out]; rfl,((((HB2.out.setCell (p:=⟨w.heap.size,0,none⟩) (Nat.le_refl _) _).setCell (p:=⟨w.heap.size,1,none⟩) (Nat.le_refl _) _).setCell (p:=⟨w.heap.size,2,none⟩) (Nat.le_refl _) _).setCell (p:=⟨h1,0,none⟩) (Nat.le_of_lt HZ1.out) _).setCell (p:=⟨h1,1,none⟩) (Nat.le_of_lt HZ1.out) _⟩}}
   {go_wp2_with fail
    refine (Z29 T hT9 _).mono ?_;rintro e wy ⟨rfl,rfl⟩;rw[g1];have HF:Hid (Lex.token l= .ok (⟨3,T⟩,n)):=Y1 (by rw[HTT.out,g1,HTN.out]; rfl);obtain ⟨l0,l1,l2,t0,t1,t2,f0,f1,b0,b1,z0,z1,z2,z3,z4⟩:=HR2.out;go_wp2;refine bodyPost_ret (v:= .tuple #[.agg #[.int .i64 3,.string ⟨(T).toArray⟩,.int .i64 0],.int .i64 ((n:Nat):Int),.agg #[.int .i64 0,.int .i64 0]]) (by simp[results,Tryz.results33,go_sem,t0,t1,t2,f0,f1]) rfl ?_;exact ⟨by rw[HF.out]; rfl,((((HB2.out.setCell (p:=⟨w.heap.size,0,none⟩) (Nat.le_refl _) _).setCell (p:=⟨w.heap.size,1,none⟩) (Nat.le_refl _) _).setCell (p:=⟨w.heap.size,2,none⟩) (Nat.le_refl _) _).setCell (p:=⟨h1,0,none⟩) (Nat.le_of_lt HZ1.out) _).setCell (p:=⟨h1,1,none⟩) (Nat.le_of_lt HZ1.out) _⟩}}
theorem Z91 (l r:List UInt8) (hl9:l.length<=1000000) (HL:Hid (l=c::r)) (s1:Lex.small c=false) (s2:Lex.great c=false) (s3:Lex.digit c=false) (h4:c=34) (w:World):
 Y9 33 #[.string ⟨l.toArray⟩] w (firstV (Lex.token l)):=by
 have HT:Hid (Lex.token l=Lex.quoted l):=Y1 (by rw[HL.out,Lex.Z6q (by rw[s1,s2]; rfl) s3,if_pos h4]);have HQ:=Y1 (Z90 r (by have:=congrArg List.length HL.out; rw[List.length_cons] at this; omega));have HL2:Hid (34::r=l):=Y1 (by rw[HL.out,h4]);have k34: ((c.toNat:Int)==34)=(c==34):=Z0o c 34 (by decide);rw[show (c==34)=true by rw[h4]; rfl] at k34;have hz: (⟨l.toArray⟩:ByteArray).size=l.length:=Z07 _;have hidx0: ∀W,(Instr.index 9 (.string ⟨l.toArray⟩) (.int .i64 0)).run Tryz.prog W= .ok (.int .u8 c.toNat) W:=fun W=>by rw[HL.out]; rfl
 have HR0:=Y1 (Z3R w);have HB0:=Y1 (Z2r w (.cells Yd 54) (.cells Yc 29) (.cells #[.int .i64 60,.int .i64 0] 29));clear h4;go_enter Tryz.func33,Tryz.ntmps33
 go_wp2_with fail
 generalize hW: ((w.alloc (.cells Yd 54)).alloc (.cells Yc 29)).alloc (.cells #[.int .i64 60,.int .i64 0] 29)=W0 at HR0 HB0 ⊢;clear hW;obtain ⟨h2,hh2⟩: ∃h2,h2=w.heap.size+1+1:=⟨_,rfl⟩;rw[<-hh2] at HR0 ⊢;obtain ⟨h1,hh1⟩: ∃h1,h1=w.heap.size+1:=⟨_,rfl⟩;rw[<-hh1] at HR0 ⊢;have n01:w.heap.size≠h1:=by omega
 have n02:w.heap.size≠h2:=by omega
 have n12:h1≠h2:=by omega
 have HZ1:Hid (w.heap.size < h1):=Y1 (by omega);clear hh1 hh2
 go_wp2_with fail
 refine (Z0e c _).mono ?_;rintro e wy ⟨rfl,rfl⟩;rw[s1]
 go_wp2_with fail
 refine (Z0j c _).mono ?_;rintro e wy ⟨rfl,rfl⟩;rw[s2]
 go_wp2_with fail
 refine (Z0x c _).mono ?_;rintro e wy ⟨rfl,rfl⟩;rw[s3];clear s1 s2 s3 hidx0;rw[HL2.out] at HQ
 go_wp2_with fail
 refine (HQ.out _).mono ?_;rintro e w11 ⟨he,hbx⟩;have HR1:=Y1 (HR0.out.keep HR0.out.l0 HR0.out.l1 HR0.out.l2 hbx);have HB1:=Y1 (Z00 HB0.out hbx);clear hbx;rw[<-HT.out] at he;obtain ⟨l0,l1,l2,t0,t1,t2,f0,f1,b0,b1,z0,z1,z2,z3,z4⟩:=HR1.out;cases hq:Lex.token l with
 | error x=>
  obtain ⟨x,k⟩:=x;rw[hq] at he;have he2:e= .returned (.tuple #[.agg #[.int .i64 0,.string ⟨#[]⟩,.int .i64 0],.int .i64 0,.agg #[.int .i64 x,.int .i64 (k:Int)]]):=he;subst he2;have HTK:=Y1 hq;clear he hq;go_wp2;refine bodyPost_ret (v:= .tuple #[.agg #[.int .i64 0,.string ⟨#[]⟩,.int .i64 0],.int .i64 0,.agg #[.int .i64 x,.int .i64 (k:Int)]]) (by simp[results,Tryz.results33,go_sem,t0,t1,t2,f0,f1]) rfl ?_;exact ⟨by rw[HTK.out]; rfl,((((HB1.out.setCell (p:=⟨w.heap.size,0,none⟩) (Nat.le_refl _) _).setCell (p:=⟨w.heap.size,1,none⟩) (Nat.le_refl _) _).setCell (p:=⟨w.heap.size,2,none⟩) (Nat.le_refl _) _).setCell (p:=⟨h1,0,none⟩) (Nat.le_of_lt HZ1.out) _).setCell (p:=⟨h1,1,none⟩) (Nat.le_of_lt HZ1.out) _⟩
 | ok x=>
  obtain ⟨⟨tk,tt⟩,k⟩:=x;rw[hq] at he;have he2:e= .returned (.tuple #[.agg #[.int .i64 tk,.string ⟨tt.toArray⟩,.int .i64 0],.int .i64 (k:Int),.agg #[.int .i64 0,.int .i64 0]]):=he;subst he2;have HTK:=Y1 hq;clear he hq;go_wp2;refine bodyPost_ret (v:= .tuple #[.agg #[.int .i64 tk,.string ⟨tt.toArray⟩,.int .i64 0],.int .i64 (k:Int),.agg #[.int .i64 0,.int .i64 0]]) (by simp[results,Tryz.results33,go_sem,t0,t1,t2,f0,f1]) rfl ?_;exact ⟨by rw[HTK.out]; rfl,((((HB1.out.setCell (p:=⟨w.heap.size,0,none⟩) (Nat.le_refl _) _).setCell (p:=⟨w.heap.size,1,none⟩) (Nat.le_refl _) _).setCell (p:=⟨w.heap.size,2,none⟩) (Nat.le_refl _) _).setCell (p:=⟨h1,0,none⟩) (Nat.le_of_lt HZ1.out) _).setCell (p:=⟨h1,1,none⟩) (Nat.le_of_lt HZ1.out) _⟩
theorem Zc5 (l r:List UInt8) (hl9:l.length<=1000000) (HL:Hid (l=c::r)) (s1:Lex.small c=false) (s2:Lex.great c=false) (s3:Lex.digit c=false) (h4: (c==34)=false) (w:World):
 Y9 33 #[.string ⟨l.toArray⟩] w (firstV (Lex.token l)):=by
 have hT:Lex.token l=if decide (2<=l.length)&&Lex.isSign (l.take 2) then .ok (⟨6,l.take 2⟩,2) else if Lex.isSign [c] then .ok (⟨6,[c]⟩,1) else .error (60,0):=by
  have h5:c≠34:=by simpa using h4
  rw[HL.out,Lex.Z6q (by rw[s1,s2]; rfl) s3,if_neg h5]
 have hl1:1<=l.length:=by rw[HL.out]; simp
 have hsl1: ∀W,(Instr.slice 9 (.string ⟨l.toArray⟩) none (some (.int .i64 1)) none).run Tryz.prog W= .ok (.string ⟨([c]:List UInt8).toArray⟩) W:=fun W=>by
  have:=Z5d l 1 hl1 W;rw[show l.take 1= [c] by rw[HL.out]; rfl] at this;exact this
 have k34: ((c.toNat:Int)==34)=(c==34):=Z0o c 34 (by decide);rw[h4] at k34;have hz: (⟨l.toArray⟩:ByteArray).size=l.length:=Z07 _;have hidx0: ∀W,(Instr.index 9 (.string ⟨l.toArray⟩) (.int .i64 0)).run Tryz.prog W= .ok (.int .u8 c.toNat) W:=fun W=>by rw[HL.out]; rfl
 have HR0:=Y1 (Z3R w);have HB0:=Y1 (Z2r w (.cells Yd 54) (.cells Yc 29) (.cells #[.int .i64 60,.int .i64 0] 29));clear h4;go_enter Tryz.func33,Tryz.ntmps33
 go_wp2_with fail
 generalize hW: ((w.alloc (.cells Yd 54)).alloc (.cells Yc 29)).alloc (.cells #[.int .i64 60,.int .i64 0] 29)=W0 at HR0 HB0 ⊢;clear hW;obtain ⟨h2,hh2⟩: ∃h2,h2=w.heap.size+1+1:=⟨_,rfl⟩;rw[<-hh2] at HR0 ⊢;obtain ⟨h1,hh1⟩: ∃h1,h1=w.heap.size+1:=⟨_,rfl⟩;rw[<-hh1] at HR0 ⊢;have n01:w.heap.size≠h1:=by omega
 have n02:w.heap.size≠h2:=by omega
 have n12:h1≠h2:=by omega
 have HZ1:Hid (w.heap.size < h1):=Y1 (by omega);clear hh1 hh2
 go_wp2_with fail
 refine (Z0e c _).mono ?_;rintro e wy ⟨rfl,rfl⟩;rw[s1]
 go_wp2_with fail
 refine (Z0j c _).mono ?_;rintro e wy ⟨rfl,rfl⟩;rw[s2]
 go_wp2_with fail
 refine (Z0x c _).mono ?_;rintro e wy ⟨rfl,rfl⟩;rw[s3];clear s1 s2 s3 hidx0;by_cases h2l:2<=l.length
 {have h2d:decide ((2:Int)<=(l.length:Int))=true:=decide_eq_true (by omega);have h2i: (2:Int)<=(l.length:Int):=by omega
  obtain ⟨p2,hp2⟩: ∃p2,p2=l.take 2:=⟨_,rfl⟩;have hsl2: ∀W,(Instr.slice 9 (.string ⟨l.toArray⟩) none (some (.int .i64 2)) none).run Tryz.prog W= .ok (.string ⟨p2.toArray⟩) W:=fun W=>by rw[hp2]; exact Z5d l 2 h2l W
  rw[<-hp2,decide_eq_true h2l] at hT;have HT0:=Y1 hT;clear hT hp2;cases g2:Lex.isSign p2
  {have HTT:Hid (Lex.token l=if Lex.isSign [c] then .ok (⟨6,[c]⟩,1) else .error (60,0)):=Y1 (by rw[HT0.out,g2]; rfl)
   go_wp2_with fail
   refine (Z1F p2 _).mono ?_;rintro e w11 ⟨rfl,hbx⟩;have HR1:=Y1 (HR0.out.keep HR0.out.l0 HR0.out.l1 HR0.out.l2 hbx);have HB1:=Y1 (Z00 HB0.out hbx);clear hbx;rw[g2];cases g1:Lex.isSign [c]
   {go_wp2_with fail
    refine (Z1F [c] _).mono ?_;rintro e w12 ⟨rfl,hbx⟩;have HR2:=Y1 (HR1.out.keep HR1.out.l0 HR1.out.l1 HR1.out.l2 hbx);have HB2:=Y1 (Z00 HB1.out hbx);clear hbx;rw[g1];have HF:Hid (Lex.token l= .error (60,0)):=Y1 (by rw[HTT.out,g1]; rfl);obtain ⟨l0,l1,l2,t0,t1,t2,f0,f1,b0,b1,z0,z1,z2,z3,z4⟩:=HR2.out
    go_wp2_with fail
    go_region
    all_goals
     go_wp2;refine bodyPost_ret (v:= .tuple #[.agg #[.int .i64 0,.string ⟨#[]⟩,.int .i64 0],.int .i64 0,.agg #[.int .i64 60,.int .i64 0]]) (by simp[results,Tryz.results33,go_sem,t0,t1,t2,f0,f1]) rfl ?_;exact ⟨by rw[HF.out]; rfl,(((((HB2.out.setCell (p:=⟨w.heap.size,0,none⟩) (Nat.le_refl _) _).setCell (p:=⟨w.heap.size,1,none⟩) (Nat.le_refl _) _).setCell (p:=⟨w.heap.size,2,none⟩) (Nat.le_refl _) _).setCell (p:=⟨h1,0,none⟩) (Nat.le_of_lt HZ1.out) _).setCell (p:=⟨h1,1,none⟩) (Nat.le_of_lt HZ1.out) _).drew⟩}
   {go_wp2_with fail
    refine (Z1F [c] _).mono ?_;rintro e w12 ⟨rfl,hbx⟩;have HR2:=Y1 (HR1.out.keep HR1.out.l0 HR1.out.l1 HR1.out.l2 hbx);have HB2:=Y1 (Z00 HB1.out hbx);clear hbx;rw[g1];have HF:Hid (Lex.token l= .ok (⟨6,[c]⟩,1)):=Y1 (by rw[HTT.out,g1]; rfl);obtain ⟨l0,l1,l2,t0,t1,t2,f0,f1,b0,b1,z0,z1,z2,z3,z4⟩:=HR2.out;go_wp2;refine bodyPost_ret (v:= .tuple #[.agg #[.int .i64 6,.string ⟨([c]).toArray⟩,.int .i64 0],.int .i64 ((1:Nat):Int),.agg #[.int .i64 0,.int .i64 0]]) (by simp[results,Tryz.results33,go_sem,t0,t1,t2,f0,f1]) rfl ?_;exact ⟨by rw[HF.out]; rfl,((((HB2.out.setCell (p:=⟨w.heap.size,0,none⟩) (Nat.le_refl _) _).setCell (p:=⟨w.heap.size,1,none⟩) (Nat.le_refl _) _).setCell (p:=⟨w.heap.size,2,none⟩) (Nat.le_refl _) _).setCell (p:=⟨h1,0,none⟩) (Nat.le_of_lt HZ1.out) _).setCell (p:=⟨h1,1,none⟩) (Nat.le_of_lt HZ1.out) _⟩}}
  {go_wp2_with fail
   refine (Z1F p2 _).mono ?_;rintro e w11 ⟨rfl,hbx⟩;have HR1:=Y1 (HR0.out.keep HR0.out.l0 HR0.out.l1 HR0.out.l2 hbx);have HB1:=Y1 (Z00 HB0.out hbx);clear hbx;rw[g2];have HF:Hid (Lex.token l= .ok (⟨6,p2⟩,2)):=Y1 (by rw[HT0.out,g2]; rfl);obtain ⟨l0,l1,l2,t0,t1,t2,f0,f1,b0,b1,z0,z1,z2,z3,z4⟩:=HR1.out;go_wp2;refine bodyPost_ret (v:= .tuple #[.agg #[.int .i64 6,.string ⟨(p2).toArray⟩,.int .i64 0],.int .i64 ((2:Nat):Int),.agg #[.int .i64 0,.int .i64 0]]) (by simp[results,Tryz.results33,go_sem,t0,t1,t2,f0,f1]) rfl ?_;exact ⟨by rw[HF.out]; rfl,((((HB1.out.setCell (p:=⟨w.heap.size,0,none⟩) (Nat.le_refl _) _).setCell (p:=⟨w.heap.size,1,none⟩) (Nat.le_refl _) _).setCell (p:=⟨w.heap.size,2,none⟩) (Nat.le_refl _) _).setCell (p:=⟨h1,0,none⟩) (Nat.le_of_lt HZ1.out) _).setCell (p:=⟨h1,1,none⟩) (Nat.le_of_lt HZ1.out) _⟩}}
 {have h2d:decide ((2:Int)<=(l.length:Int))=false:=decide_eq_false (by omega);have HTT:Hid (Lex.token l=if Lex.isSign [c] then .ok (⟨6,[c]⟩,1) else .error (60,0)):=Y1 (by rw[hT,decide_eq_false h2l]; rfl);clear hT;cases g1:Lex.isSign [c]
  {go_wp2_with fail
   refine (Z1F [c] _).mono ?_;rintro e w11 ⟨rfl,hbx⟩;have HR1:=Y1 (HR0.out.keep HR0.out.l0 HR0.out.l1 HR0.out.l2 hbx);have HB1:=Y1 (Z00 HB0.out hbx);clear hbx;rw[g1];have HF:Hid (Lex.token l= .error (60,0)):=Y1 (by rw[HTT.out,g1]; rfl);obtain ⟨l0,l1,l2,t0,t1,t2,f0,f1,b0,b1,z0,z1,z2,z3,z4⟩:=HR1.out
   go_wp2_with fail
   go_region
   all_goals
    go_wp2;refine bodyPost_ret (v:= .tuple #[.agg #[.int .i64 0,.string ⟨#[]⟩,.int .i64 0],.int .i64 0,.agg #[.int .i64 60,.int .i64 0]]) (by simp[results,Tryz.results33,go_sem,t0,t1,t2,f0,f1]) rfl ?_;exact ⟨by rw[HF.out]; rfl,(((((HB1.out.setCell (p:=⟨w.heap.size,0,none⟩) (Nat.le_refl _) _).setCell (p:=⟨w.heap.size,1,none⟩) (Nat.le_refl _) _).setCell (p:=⟨w.heap.size,2,none⟩) (Nat.le_refl _) _).setCell (p:=⟨h1,0,none⟩) (Nat.le_of_lt HZ1.out) _).setCell (p:=⟨h1,1,none⟩) (Nat.le_of_lt HZ1.out) _).drew⟩}
  {go_wp2_with fail
   refine (Z1F [c] _).mono ?_;rintro e w11 ⟨rfl,hbx⟩;have HR1:=Y1 (HR0.out.keep HR0.out.l0 HR0.out.l1 HR0.out.l2 hbx);have HB1:=Y1 (Z00 HB0.out hbx);clear hbx;rw[g1];have HF:Hid (Lex.token l= .ok (⟨6,[c]⟩,1)):=Y1 (by rw[HTT.out,g1]; rfl);obtain ⟨l0,l1,l2,t0,t1,t2,f0,f1,b0,b1,z0,z1,z2,z3,z4⟩:=HR1.out;go_wp2;refine bodyPost_ret (v:= .tuple #[.agg #[.int .i64 6,.string ⟨([c]).toArray⟩,.int .i64 0],.int .i64 ((1:Nat):Int),.agg #[.int .i64 0,.int .i64 0]]) (by simp[results,Tryz.results33,go_sem,t0,t1,t2,f0,f1]) rfl ?_;exact ⟨by rw[HF.out]; rfl,((((HB1.out.setCell (p:=⟨w.heap.size,0,none⟩) (Nat.le_refl _) _).setCell (p:=⟨w.heap.size,1,none⟩) (Nat.le_refl _) _).setCell (p:=⟨w.heap.size,2,none⟩) (Nat.le_refl _) _).setCell (p:=⟨h1,0,none⟩) (Nat.le_of_lt HZ1.out) _).setCell (p:=⟨h1,1,none⟩) (Nat.le_of_lt HZ1.out) _⟩}}
end
theorem Z7L (l:List UInt8) (hl:l≠ []) (hl9:l.length<=1000000) (w:World):
 Y9 33 #[.string ⟨l.toArray⟩] w (firstV (Lex.token l)):=by
 cases l with
 | nil=>exact absurd rfl hl
 | cons c r=>
  cases h1:Lex.small c with
  | true=>exact Zah c _ r hl9 (Y1 rfl) h1 w
  | false=>
   cases h2:Lex.great c with
   | true=>exact Zai c _ r hl9 (Y1 rfl) h1 h2 w
   | false=>
    cases h3:Lex.digit c with
    | true=>exact Zc4 c _ r hl9 (Y1 rfl) h1 h2 h3 w
    | false=>
     cases h4: (c==34) with
     | true=>exact Z91 c _ r hl9 (Y1 rfl) h1 h2 h3 (by simpa using h4) w
     | false=>exact Zc5 c _ r hl9 (Y1 rfl) h1 h2 h3 h4 w
end Go.Proofs.YtkncdbaoaeeoiaaGreatDoor
namespace Lex
theorem Zc6 {l:List UInt8} {n:Nat} (h:passed l= .ok n):n<=l.length:=by
 unfold passed at h;obtain ⟨h1,_⟩:=Z1g blank l;split at h
 {unfold remarkOf at h;cases hm:remark (l.drop (l.takeWhile blank).length).length (l.drop (l.takeWhile blank).length) with
  | error k=>rw[hm] at h; cases h
  | ok m=>
   rw[hm] at h;have:=Z1m _ _ _ hm;rw[List.length_drop] at this;have h': (l.takeWhile blank).length+m=n:=Except.ok.inj h;omega}
 {obtain rfl:=Except.ok.inj h;exact h1}
end Lex
namespace Go.Proofs.YtkncdbaoaeeoiaaGreatDoor
open Go.RowKit
structure RScan (s:List UInt8) (W0 wr:World) (v:Value) (i:Nat) (pre:List (Lex.Tok×Nat)):Prop where
 own:wr.ownsRow W0.heap.size 54 3 v (tkOf pre).length (cellsT (tkOf pre))
 bel:Below W0.heap.size W0 wr
 len:pre.length<=i
 eq:Lex.toks s 0=Lex.joinR pre (Lex.toks (s.drop i) i)
section
variable (s : List UInt8)
include s
theorem Zaj (h4:s.length<=4096) (w:World):
 Calls Tryz.prog 19 #[.string ⟨s.toArray⟩] w (ScanV s w):=by
 obtain ⟨i0,hi,hz0,hz1,hz2⟩:=info_parts (P:=Tryz.prog) (e:=54) (z:= .agg #[.int .i64 0,.string ByteArray.empty,.int .i64 0]) (size:=3) (bytes:=32) (by kernel_rfl);have hz: (⟨s.toArray⟩:ByteArray).size=s.length:=Z07 _;have h1: ¬(4096:Int) < (s.length:Int):=by omega
 have HR:=Y1 (Z6i h4);have HX:=Y1 (Z0L w 0 0);have HB0:=Y1 (Z01 w (.cells Yc 29));go_enter Tryz.func19,Tryz.ntmps19
 go_wp2_with fail
 generalize hW:w.alloc (.cells Yc 29)=W0 at HX HB0 ⊢;clear hW;have HXL:Hid (w.heap.size < W0.heap.size):=Y1 HX.out.1
 go_loopw [4,5] (fun v ii wr=> ∃(i:Nat) (pre:List (Lex.Tok×Nat)),ii= .int .i64 (i:Int)/\i<=s.length/\Hid (RScan s W0 wr v i pre))
  (fun _ ii _=>s.length - (intOf ii).toNat)
 case atStart=>exact ⟨0,[],rfl,Nat.zero_le _,Y1 ⟨World.ownsRow_nil _ _ _ _,Below.refl _ _,Nat.le_refl _,by rw[Lex.Z4R]; rfl⟩⟩
 case round=>
  obtain ⟨i,pre,rfl,hil,HS⟩:=hrel;have HBw:=Y1 (Z00 HB0.out HS.out.bel);have hsz:=HS.out.bel.size;by_cases hlt:i < s.length
  {have hi1: (i:Int) < (s.length:Int):=by omega
   have hsl: ∀W,(Instr.slice 9 (.string ⟨s.toArray⟩) (some (.int .i64 (i:Int))) none none).run Tryz.prog W= .ok (.string ⟨(s.drop i).toArray⟩) W:=fun W=>Z0Z (W:=W) ⟨s.toArray⟩ i (by omega);obtain ⟨l,hl⟩: ∃l,l=s.drop i:=⟨_,rfl⟩;have hll:l.length+i=s.length:=by rw[hl,List.length_drop]; omega
   have HL:=Y1 hl;rw[<-hl] at hsl;have hl9:l.length<=1000000:=by omega
   have hln:l≠ []:=fun h=>by rw[h] at hll; simp at hll; omega
   have HLN:=Y1 hln;have HPT:=Y1 (Lex.Z9w l i);have heq:=HS.out.eq;rw[<-hl] at heq;have HEQ:=Y1 heq;clear hl hln heq
   go_wp2_with fail
   refine (Z9F l hl9 _).mono ?_;rintro e w2 ⟨he,hb2⟩;have HBel2:=Y1 (HS.out.bel.trans (hb2.mono hsz));have HB2:=Y1 (Z00 HBw.out hb2);have HO2:=Y1 (Z23 HS.out.own hb2);clear hb2;cases hp:Lex.passed l with
   | error k=>
    rw[hp] at he;have he2:e= .returned (.tuple #[.int .i64 0,.agg #[.int .i64 30,.int .i64 (k:Int)]]):=he;clear he;subst he2;have hpt:=HPT.out;rw[hp] at hpt;simp only at hpt;have HTE:Hid (Lex.scanR s= .error (30,i+k)):=Y1 (by rw[HR.out,HEQ.out,hpt]; rfl);have hkk:k<=4096:=by
     have ht:Lex.toks s 0= .error (30,i+k):=by rw[HEQ.out,hpt]; rfl
     have:=(Lex.Z1d _ _ _ _ _ (Nat.le_refl _) ht).1; omega
    have HX2:=Y1 (HX.out.keep HXL.out HBel2.out);obtain ⟨q0,x0,x1,y0,y1⟩:=HX2.out;clear hp hpt
    go_wp2_with fail
    go_region
    all_goals
     go_wp2;refine bodyPost_ret (v:= .tuple #[.slice none 0 0,.agg #[.int .i64 30,.int .i64 ((i:Int)+(k:Int))]]) (by simp[results,Tryz.results19,go_sem,x0,x1,q0]) rfl ?_;refine ⟨none,0,[],30,(i:Int)+(k:Int),rfl,World.ownsRow_nil _ _ _ _,(((HB2.out.setCell (p:=⟨w.heap.size,0,none⟩) (Nat.le_refl _) _).setCell (p:=⟨w.heap.size,1,none⟩) (Nat.le_refl _) _).alloc (by have:=HB2.out.size; simp; omega) _).drew, ?_⟩;rw[HTE.out];exact ⟨rfl,rfl,by omega⟩
   | ok n=>
    cases n with
    | succ n=>
     rw[hp] at he;have he2:e= .returned (.tuple #[.int .i64 ((n+1:Nat):Int),.agg #[.int .i64 0,.int .i64 0]]):=he;clear he;subst he2;have hpl:=Lex.Zc6 hp;have hpt:=HPT.out;rw[hp] at hpt;simp only at hpt;have HS3:Hid (RScan s W0 (w2.alloc (.cells Yc 29)) _ (i+(n+1)) pre):=Y1 ⟨Z23 HO2.out (Z01 _ _),HBel2.out.trans ((Z01 _ _).mono HBel2.out.size),by have:=HS.out.len; omega,by rw[HEQ.out,hpt,HL.out,List.drop_drop]⟩;have hn1: (0:Int) < ((n+1:Nat):Int):=by omega
     obtain ⟨m,hm⟩: ∃m,m=n+1:=⟨_,rfl⟩;rw[<-hm] at hn1 HS3 hpl ⊢;have hm1:1<=m:=by omega
     clear hp hpt hm;go_wp2
     go_roundw
     case rel=>exact ⟨i+m,pre,by go_num,by omega,HS3⟩
     case measure=>simp[intOf]; omega
    | zero=>
     rw[hp] at he;have he2:e= .returned (.tuple #[.int .i64 0,.agg #[.int .i64 0,.int .i64 0]]):=he;clear he;subst he2;have hpt:=HPT.out;rw[hp] at hpt;simp only at hpt;obtain ⟨hrm,hbl⟩:=hpt;have hpc:=Lex.Z4d HLN.out hbl i;unfold Lex.piece at hpc;rw[hrm] at hpc;simp only[Bool.false_eq_true,if_false] at hpc;have HPC:=Y1 hpc;have HX7:=Y1 (Z0L w2 0 0);have hb3:=Z01 w2 (.cells Yc 29);have HBel3:=Y1 (HBel2.out.trans (hb3.mono HBel2.out.size));have HB3:=Y1 (Z00 HB2.out hb3);have HO3:=Y1 (Z23 HO2.out hb3);have hw2s:=HBel2.out.size;clear hp hrm hbl hpc hb3
     go_wp2_with fail
     generalize hW:w2.alloc (.cells Yc 29)=W3 at HX7 HBel3 HB3 HO3 ⊢;clear hW;refine (Z7L l HLN.out hl9 _).mono ?_;rintro e w4 ⟨he,hb4⟩;have HX74:=Y1 (HX7.out.keep (B:=W3.heap.size) HX7.out.1 hb4);have HBel4:=Y1 (HBel3.out.trans (hb4.mono HBel3.out.size));have HB4:=Y1 (Z00 HB3.out hb4);have HO4:=Y1 (Z23 HO3.out hb4);have HX4:=Y1 (HX.out.keep HXL.out HBel4.out);have hw2w4:w2.heap.size < w4.heap.size:=HX74.out.1;clear hb4 HX7;cases ht:Lex.token l with
     | error x=>
      obtain ⟨x,k⟩:=x;rw[ht] at he;have he2:e= .returned (.tuple #[.agg #[.int .i64 0,.string ⟨#[]⟩,.int .i64 0],.int .i64 0,.agg #[.int .i64 x,.int .i64 (k:Int)]]):=he;clear he;subst he2;have hpc:=HPC.out;rw[ht] at hpc;simp only at hpc;have htt:Lex.toks s 0= .error (x,i+k):=by rw[HEQ.out,hpc]; rfl
      have HTE:Hid (Lex.scanR s= .error (x,i+k)):=Y1 (by rw[HR.out,htt]);have hkk:k<=4096:=by
       have:=(Lex.Z1d _ _ _ _ _ (Nat.le_refl _) htt).1; omega
      have hx0:x≠0:=by
       rcases (Lex.Z1d _ _ _ _ _ (Nat.le_refl _) htt).2 with h | h <;> rw[h] <;> decide
      have hxd: (x==0)=false:=by simpa using hx0
      have hxn: (x !=0)=true:=by simpa using hx0
      obtain ⟨q0,x0,x1,y0,y1⟩:=HX4.out;obtain ⟨p0,z0,z1,u0,u1⟩:=HX74.out;have hne:w.heap.size≠w2.heap.size:=by have:=HXL.out; omega
      clear ht hpc htt hx0
      go_wp2_with fail
      go_region
      all_goals
       go_wp2;refine bodyPost_ret (v:= .tuple #[.slice none 0 0,.agg #[.int .i64 x,.int .i64 ((i:Int)+(k:Int))]]) (by simp[results,Tryz.results19,go_sem,x0,x1,q0]) rfl ?_;refine ⟨none,0,[],x,(i:Int)+(k:Int),rfl,World.ownsRow_nil _ _ _ _, ?_, ?_⟩
       {have hw2:w.heap.size<=w2.heap.size:=by have:=HXL.out; omega
        exact (((((HB4.out.setCell (p:=⟨w2.heap.size,0,none⟩) hw2 _).setCell (p:=⟨w2.heap.size,1,none⟩) hw2 _).setCell (p:=⟨w.heap.size,0,none⟩) (Nat.le_refl _) _).setCell (p:=⟨w.heap.size,1,none⟩) (Nat.le_refl _) _).alloc (by simp; omega) _).drew}
       {rw[HTE.out];exact ⟨rfl,rfl,by omega⟩}
     | ok x=>
      obtain ⟨t,n⟩:=x;rw[ht] at he;have he2:e= .returned (.tuple #[.agg #[.int .i64 t.kind,.string ⟨t.text.toArray⟩,.int .i64 0],.int .i64 (n:Int),.agg #[.int .i64 0,.int .i64 0]]):=he;clear he;subst he2;have hpc:=HPC.out;rw[ht] at hpc;simp only at hpc;obtain ⟨c1,c2,c3,_⟩:=hpc;have HC1:Hid (Lex.toks s 0=Lex.joinR (pre++ [(t,i)]) (Lex.toks (s.drop (i+n)) (i+n))):=Y1 (by rw[HEQ.out,c1,List.map_cons,List.map_nil,Lex.Z5v,HL.out,List.drop_drop]);have HPL:=Y1 (show pre.length<=i from HS.out.len);have hpl4: (tkOf pre).length<=4096:=by rw[Z1D]; have:=HS.out.len; omega
      obtain ⟨p0,z0,z1,u0,u1⟩:=HX74.out;clear ht c1;have hv2: ∀k,u4.ownBlock=some k->k < w2.heap.size:=fun k hk=>(HO2.out.lt k hk).2;have HO5:Hid (∀a b,((w4.setCell ⟨w2.heap.size,0,none⟩ a).setCell ⟨w2.heap.size,1,none⟩ b).ownsRow W0.heap.size 54 3 u4 (tkOf pre).length (cellsT (tkOf pre))):=Y1 (fun a b=>ownsRow_setCell_other (a:=⟨w2.heap.size,1,none⟩) (ownsRow_setCell_other (a:=⟨w2.heap.size,0,none⟩) HO4.out (fun e=>absurd (hv2 _ e) (Nat.lt_irrefl _)) _) (fun e=>absurd (hv2 _ e) (Nat.lt_irrefl _)) _);have hw0w4:=HBel4.out.size;clear hv2
      go_wp2_with (at_builtin; refine wpList_append_own _ rfl _ _ 36 rfl W0.heap.size 54 i0 (.agg #[.int .i64 0,.string ByteArray.empty,.int .i64 0]) 3 32 Tryz.underlying36 hi hz0 hz1 hz2 rfl (by decide) _ _ _ rfl (((HO5.out _ _).alloc _).alloc _) ⟨w4.heap.size+1,0,none⟩ 1 1 [.int .i64 t.kind,.string ⟨t.text.toArray⟩,.int .i64 (i:Int)] rfl rfl (ZbF _ _ _ _ _ (by simp)) one3 (by unfold maxLen; omega) (by omega) (by simp; omega) ?_)
      intro v' w5 hown5 hgrow _;have hb5:Below W0.heap.size W0 w5:=((((HBel4.out.setCell (p:=⟨w2.heap.size,0,none⟩) hw2s _).setCell (p:=⟨w2.heap.size,1,none⟩) hw2s _).alloc (by simp; omega) _).alloc (by simp; omega) _).grown hgrow (by simp; omega) (fun k hk=>(HO4.out.lt k hk).1);have HS5:Hid (RScan s W0 w5 v' (i+n) (pre++ [(t,i)])):=Y1 ⟨by
       have e:tkOf (pre++ [(t,i)])=tkOf pre++ [⟨t,(i:Int)⟩]:=by rw[Z2C]; rfl
       rw[e,Z3v,List.length_append]; exact hown5,hb5,by rw[List.length_append]; simp; have:=HPL.out; omega,HC1.out⟩
      clear hown5 hgrow hb5;go_wp2
      go_roundw
      case rel=>exact ⟨i+n,_,by go_num,by omega,HS5⟩
      case measure=>simp[intOf]; omega}
  {have hi1: ¬(i:Int) < (s.length:Int):=by omega
   have hie:i=s.length:=by omega
   have HTE:Hid (Lex.scanR s= .ok (pre++ [(Lex.endTok,s.length)])):=Y1 (by rw[HR.out,HS.out.eq,List.drop_eq_nil_of_le (by omega),Lex.Z36]; simp[Lex.joinR]);have hpl4: (tkOf pre).length<=4096:=by rw[Z1D]; have:=HS.out.len; omega
   have HO:=Y1 HS.out.own;have HBel:=Y1 HS.out.bel;have HX2:=Y1 (HX.out.keep HXL.out HBel.out);clear hie
   go_wp2_with (at_builtin; refine wpList_append_own _ rfl _ _ 36 rfl W0.heap.size 54 i0 (.agg #[.int .i64 0,.string ByteArray.empty,.int .i64 0]) 3 32 Tryz.underlying36 hi hz0 hz1 hz2 rfl (by decide) _ _ _ rfl (HO.out.alloc _) ⟨wr.heap.size,0,none⟩ 1 1 [.int .i64 0,.string ByteArray.empty,.int .i64 (s.length:Int)] rfl rfl (ZbF _ _ _ _ _ (by simp)) one3 (by unfold maxLen; omega) (by omega) (by simp; omega) ?_)
   intro v' w5 hown5 hgrow _;have hb5:Below W0.heap.size W0 w5:=(HBel.out.alloc hsz _).grown hgrow (by simp; omega) (fun k hk=>(HO.out.lt k hk).1);have HB5:=Y1 (Z00 HB0.out hb5);have HX5:=Y1 (HX.out.keep HXL.out hb5);obtain ⟨g1,cap,hv',_,hg1⟩:=hown5.form (Nat.succ_pos _);have e:tkOf (pre++ [(Lex.endTok,s.length)])=tkOf pre++ [⟨Lex.endTok,(s.length:Int)⟩]:=by rw[Z2C]; rfl
   have hlen: (tkOf (pre++ [(Lex.endTok,s.length)])).length=(tkOf pre).length+1:=by rw[e,List.length_append]; rfl
   have ho:w5.ownsRow W0.heap.size 54 3 (.slice (some ⟨g1,0,none⟩) (tkOf (pre++ [(Lex.endTok,s.length)])).length cap) (tkOf (pre++ [(Lex.endTok,s.length)])).length (cellsT (tkOf (pre++ [(Lex.endTok,s.length)]))):=by
    rw[hlen,e,Z3v, <-hv']; exact hown5
   have HOW:=Y1 ho;have HV:Hid (v'= .slice (some ⟨g1,0,none⟩) (tkOf (pre++ [(Lex.endTok,s.length)])).length cap):=Y1 (by rw[hlen]; exact hv');obtain ⟨q0,x0,x1,y0,y1⟩:=HX5.out;clear hown5 hgrow hb5 hv' e hlen ho hg1;go_wp2;refine bodyPost_ret (v:= .tuple #[v',.agg #[.int .i64 0,.int .i64 0]]) (by simp[results,Tryz.results19,go_sem,x0,x1]) rfl ?_;refine ⟨some ⟨g1,0,none⟩,cap,tkOf (pre++ [(Lex.endTok,s.length)]),0,0,by rw[HV.out], ?_,(HB5.out.setCell (p:=⟨w.heap.size,0,none⟩) (Nat.le_refl _) _).setCell (p:=⟨w.heap.size,1,none⟩) (Nat.le_refl _) _, ?_⟩
   {exact Z2n (ownsRow_setCell_below (a:=⟨w.heap.size,1,none⟩) (ownsRow_setCell_below (a:=⟨w.heap.size,0,none⟩) HOW.out HXL.out _) HXL.out _) (Nat.le_of_lt HXL.out)}
   {rw[HTE.out];exact ⟨rfl,rfl,rfl⟩}}
theorem Zc7 (h4:4096 < s.length) (hs:s.length<=9223372036854775807) (w:World):
 Calls Tryz.prog 19 #[.string ⟨s.toArray⟩] w (ScanV s w):=by
 have hz: (⟨s.toArray⟩:ByteArray).size=s.length:=Z07 _;have h1: (4096:Int) < (s.length:Int):=by omega
 have HR:=Y1 (Z6h h4);clear h4;go_enter Tryz.func19,Tryz.ntmps19;go_wp2;refine bodyPost_ret (v:= .tuple #[.slice none 0 0,.agg #[.int .i64 3,.int .i64 4096]]) (by simp[results,Tryz.results19,go_sem]) rfl ?_;refine ⟨none,0,[],3,4096,rfl,World.ownsRow_nil _ _ _ _,Z01 _ _, ?_⟩;rw[HR.out];exact ⟨rfl,rfl,rfl⟩
theorem Zak (hs:s.length<=9223372036854775807) (w:World):
 Calls Tryz.prog 19 #[.string ⟨s.toArray⟩] w (ScanV s w):=by
 by_cases h4:s.length<=4096
 {exact Zaj s h4 w}
 {exact Zc7 s (by omega) hs w}
end
end Go.Proofs.YtkncdbaoaeeoiaaGreatDoor
