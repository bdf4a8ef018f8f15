/- What the proofs of ExpandResolves want, part 3. -/
import Derived.Sort.Walk7a
import Derived.Deep.CutBlock
import Derived.Test.YtchklpedlbkgaaaDoorK0n2
set_option linter.unusedVariables false
set_option linter.unusedSimpArgs false
set_option linter.unusedSectionVars false
set_option maxRecDepth 100000
set_option maxHeartbeats 16000000
namespace Go.Proofs.YtchklpedlbkgaaaDoor
section
open Go.RowKit Go.Sort
variable {α : Type} [Inhabited α] {N B : Nat} {rv : Value} {lt : α -> α -> Bool} {St : Array α -> World -> Prop}
theorem Z88 (b0 X:Nat) (hX:X < 18446744073709551616) (w:World) (hc:w.cell? ⟨b0,0,none⟩=some (.int .u64 X)) (hf:w.frozen? ⟨b0,0,none⟩=false):
 Calls Tryd.prog 90 #[.pointer (some ⟨b0,0,none⟩)] w fun e w'=>e= .returned (.int .u64 (xorNextN X:Nat))/\w'=(w.setCell ⟨b0,0,none⟩ (.int .u64 (xorNextN X:Nat))).drewN 3:=by
 obtain ⟨x1,h1⟩: ∃x1:Nat,x1=X ^^^ (X * 8192 % 18446744073709551616):=⟨_,rfl⟩;obtain ⟨x2,h2⟩: ∃x2:Nat,x2=x1 ^^^ (x1 / 128):=⟨_,rfl⟩;obtain ⟨x3,h3⟩: ∃x3:Nat,x3=x2 ^^^ (x2 * 131072 % 18446744073709551616):=⟨_,rfl⟩;have l1:x1 < 18446744073709551616:=by rw[h1]; exact Nat.xor_lt_two_pow (n:=64) (by omega) (by omega)
 have l2:x2 < 18446744073709551616:=by rw[h2]; exact Nat.xor_lt_two_pow (n:=64) (by omega) (by omega)
 have e1:bits .xor .u64 (X:Int) (IntKind.u64.wrap ((X:Int) * 8192))=(x1:Int):=by
  rw[IntKind.wrap_u64,show ((X:Int) * 8192 % 18446744073709551616)=((X * 8192 % 18446744073709551616:Nat):Int) by omega,bits_xor_u64_nat _ _ hX (by omega),h1]
 have e2:bits .xor .u64 (x1:Int) ((x1:Int) / 128)=(x2:Int):=by
  rw[show ((x1:Int) / 128)=((x1 / 128:Nat):Int) by omega,bits_xor_u64_nat _ _ l1 (by omega),h2]
 have e3:bits .xor .u64 (x2:Int) (IntKind.u64.wrap ((x2:Int) * 131072))=(x3:Int):=by
  rw[IntKind.wrap_u64,show ((x2:Int) * 131072 % 18446744073709551616)=((x2 * 131072 % 18446744073709551616:Nat):Int) by omega,bits_xor_u64_nat _ _ l2 (by omega),h3]
 have hv:xorNextN X=x3:=by unfold xorNextN; simp only[]; rw[<-h1, <-h2, <-h3]
 rw[hv];clear h1 h2 h3 hv;have hss: ∀v v',(w.setCell ⟨b0,0,none⟩ v).setCell ⟨b0,0,none⟩ v'=w.setCell ⟨b0,0,none⟩ v':=setCell_setCell w b0 0;go_enter Tryd.func90,Tryd.ntmps90;go_wp2
 go_region
 all_goals go_wp2
 all_goals go_region
 all_goals go_wp2
 all_goals go_region
 all_goals go_wp2
 go_ret;exact ⟨rfl,rfl⟩
section
variable (n : Nat) (hn : n < 4611686018427387904) (w : World)
include n hn w
theorem Z4Z:Calls Tryd.prog 62 #[.int .u64 (n:Int)] w fun e w'=>e= .returned (.int .i64 (bitsLen n:Nat))/\w'=w:=by
 have h:=fun w=>Tryd.len64 (n:Int) w (by omega) (by omega);rw[Int.toNat_natCast,bitLen_eq _ (by omega)] at h;go_enter Tryd.func62,Tryd.ntmps62
 go_wp2_with fail
 refine (h _).mono ?_;rintro e w' ⟨rfl,rfl⟩;clear h
 go_wp2_with fail
 go_ret;exact ⟨rfl,rfl⟩
theorem Z6V:Calls Tryd.prog 89 #[.int .i64 n] w fun e w'=>e= .returned (.int .u64 ((1 <<< bitsLen n:Nat):Int))/\w'=w:=by
 have hk:bitsLen n<=62:=(bitsLen_le_iff n 62).2 (by omega);have hp:=wrap_two_pow (bitsLen n) hk;go_enter Tryd.func89,Tryd.ntmps89
 go_wp2_with fail
 refine (Z4Z n hn _).mono ?_;rintro e w' ⟨rfl,rfl⟩
 go_wp2_with fail
 go_ret;exact ⟨rfl,rfl⟩
end
theorem Z6W (H:Srt N B rv lt St) (a b:Nat) (d:Array α) (w:World) (hH:St d w) (hab:a+8<=b) (hb:b<=N):
 Calls Tryd.prog 77 #[.iface 92 rv,.int .i64 a,.int .i64 b] w fun e w'=>e= .returned (.tuple #[])/\ ∃d',PermIn a b d d'/\St d' w':=by
 have mS:=H.mS;have hbig:=H.big;have hB:=H.base _ _ hH;obtain ⟨L,hL⟩: ∃L:Nat,L=b - a:=⟨_,rfl⟩;obtain ⟨M,hM⟩: ∃M:Nat,M=1 <<< bitsLen L:=⟨_,rfl⟩;have hM1:1<=M:=by rw[hM,Nat.one_shiftLeft]; exact Nat.two_pow_pos _
 have hM2:M<=2 * L:=by rw[hM,Nat.one_shiftLeft]; exact two_pow_bitsLen_le (by omega)
 have hLz: ((b:Int) - (a:Int))=(L:Int):=by omega
 have h8z: (8:Int)<=(L:Int):=by omega
 have hNP: ∀w,Calls Tryd.prog 89 #[.int .i64 (L:Int)] w fun e w'=>e= .returned (.int .u64 (M:Int))/\w'=w:=by rw[hM]; exact fun w=>Z6V L (by omega) w
 have HL:Hid (L=b - a):=hL;clear hM hL;have hC0: ∃R:Nat,R < 18446744073709551616/\(w.alloc (.cells #[.int .u64 (L:Int)] 134)).cell? ⟨w.heap.size,0,none⟩=some (.int .u64 (R:Int)):=⟨L,by omega,by rw[World.cell?_alloc_at _ _ _ _ rfl]; rfl⟩;have hF0: (w.alloc (.cells #[.int .u64 (L:Int)] 134)).frozen? ⟨w.heap.size,0,none⟩=false:=World.frozen?_alloc_at _ _ _ _ rfl;have hS0:St d (w.alloc (.cells #[.int .u64 (L:Int)] 134)):=H.keep _ _ _ hH (Y2.alloc hB _);have hZ0:w.heap.size < (w.alloc (.cells #[.int .u64 (L:Int)] 134)).heap.size:=by simp
 clear hH;go_enter Tryd.func77,Tryd.ntmps77
 go_wp2_with fail
 refine (hNP _).mono ?_;rintro e w' ⟨rfl,rfl⟩;clear hNP
 go_wp2_with fail
 generalize hW0:w.alloc (.cells #[.int .u64 (L:Int)] 134)=W0 at hC0 hF0 hS0 hZ0 ⊢;generalize w.heap.size=b0 at hC0 hF0 hZ0 hB ⊢;clear hW0
 go_loopg [9] 3 (fun g1 vi wr=> ∃(t R:Nat) (dk:Array α),vi= .int .i64 ((a:Int)+(L:Int) / 4 * 2 - 1+(t:Int))/\t<=3/\3 - t<=g1/\St dk wr/\Hid (PermIn a b d dk)/\R < 18446744073709551616/\
  b0 < wr.heap.size/\wr.cell? ⟨b0,0,none⟩=some (.int .u64 (R:Int))/\wr.frozen? ⟨b0,0,none⟩=false)
 case atStart=>
  obtain ⟨R,h1,h2⟩:=hC0;exact ⟨0,R,d,by simp,by omega,by omega,hS0,permIn_refl _ _ _,h1,hZ0,h2,hF0⟩
 case round=>
  clear hC0 hF0 hS0 hZ0;obtain ⟨t,R,dk,rfl,ht,hg1,hS,HP,lR,hz,cR,fR⟩:=hrel;have hsk:=H.size _ _ hS;have hLg:8<=L:=by have:=HL.out; omega
  by_cases ht3:t < 3
  {have hle: (a:Int)+(L:Int) / 4 * 2 - 1+(t:Int)<=(a:Int)+(L:Int) / 4 * 2+1:=by omega
   obtain ⟨R',hR'⟩: ∃R':Nat,R'=xorNextN R:=⟨_,rfl⟩;have lR':R' < 18446744073709551616:=by rw[hR']; exact xorNextN_lt R lR
   obtain ⟨O,hO⟩: ∃O:Nat,O=R' &&& (M - 1):=⟨_,rfl⟩;have lO:O<=M - 1:=by rw[hO]; exact Nat.and_le_right
   have eAnd:bits .and .u64 (R':Int) ((M:Int) - 1)=(O:Int):=by
    rw[show ((M:Int) - 1)=((M - 1:Nat):Int) by omega,bits_and_u64_nat _ _ lR' (by omega),hO]
   have hN:=Z88 b0 R lR wr cR fR;rw[<-hR'] at hN;have hS2:St dk ((wr.setCell ⟨b0,0,none⟩ (.int .u64 (R':Int))).drewN 3):=H.keep _ _ _ hS (Z0E (Y2.setCell hB _) 3);have c2: ((wr.setCell ⟨b0,0,none⟩ (.int .u64 (R':Int))).drewN 3).cell? ⟨b0,0,none⟩=some (.int .u64 (R':Int)):=by rw[World.cell?_drewN]; exact World.cell?_setCell_same _ _ _ cR
   have f2: ((wr.setCell ⟨b0,0,none⟩ (.int .u64 (R':Int))).drewN 3).frozen? ⟨b0,0,none⟩=false:=by rw[World.frozen?_drewN]; simpa using fR
   have z2:b0 < ((wr.setCell ⟨b0,0,none⟩ (.int .u64 (R':Int))).drewN 3).heap.size:=by simpa[World.setCell] using hz
   generalize (wr.setCell ⟨b0,0,none⟩ (.int .u64 (R':Int))).drewN 3=w2 at hN hS2 c2 f2 z2;clear hR' hO cR fR hz hS;have hLn:a+L<=b:=by have:=HL.out; omega
   have hLn':b<=a+L:=by have:=HL.out; omega
   by_cases hLO:L<=O
   {have hLOz: (L:Int)<=(O:Int):=by omega
    go_wp2_with fail
    refine hN.mono ?_;rintro e w1 ⟨rfl,h1⟩;have hS1:St dk w1:=by rw[h1]; exact hS2
    have c1:w1.cell? ⟨b0,0,none⟩=some (.int .u64 (R':Int)):=by rw[h1]; exact c2
    have f1:w1.frozen? ⟨b0,0,none⟩=false:=by rw[h1]; exact f2
    have z1:b0 < w1.heap.size:=by rw[h1]; exact z2
    clear h1 hN c2 f2 z2 hS2
    go_wp2_with fail
    refine (H.swapAt hS1 (a+L / 4 * 2 - 1+t) (a+(O - L)) (by omega) (by omega) (by omega) (by omega)).mono ?_;rintro e w3 ⟨rfl,hS3,hk⟩
    go_wp2_with fail
    go_roundg (3 - (t+1))
    case measure=>omega
    case rel=>exact ⟨t+1,R',_,by congr 1; push_cast; omega,by omega,Nat.le_refl _,hS3,(show Hid _ from permIn_trans _ _ _ a b HP.out (swp_permIn _ _ _ _ _ (by omega) (by omega) (by omega) (by omega) (by omega))),lR',Nat.lt_of_lt_of_le z1 hk.1,(World.cell?_of_block (w:=w1) (hk.2 _ hB z1)).trans c1,(World.frozen?_of_block (w:=w1) (hk.2 _ hB z1)).trans f1⟩}
   {have hLOz: ¬(L:Int)<=(O:Int):=by omega
    go_wp2_with fail
    refine hN.mono ?_;rintro e w1 ⟨rfl,h1⟩;have hS1:St dk w1:=by rw[h1]; exact hS2
    have c1:w1.cell? ⟨b0,0,none⟩=some (.int .u64 (R':Int)):=by rw[h1]; exact c2
    have f1:w1.frozen? ⟨b0,0,none⟩=false:=by rw[h1]; exact f2
    have z1:b0 < w1.heap.size:=by rw[h1]; exact z2
    clear h1 hN c2 f2 z2 hS2
    go_wp2_with fail
    refine (H.swapAt hS1 (a+L / 4 * 2 - 1+t) (a+O) (by omega) (by omega) (by omega) (by omega)).mono ?_;rintro e w3 ⟨rfl,hS3,hk⟩
    go_wp2_with fail
    go_roundg (3 - (t+1))
    case measure=>omega
    case rel=>exact ⟨t+1,R',_,by congr 1; push_cast; omega,by omega,Nat.le_refl _,hS3,(show Hid _ from permIn_trans _ _ _ a b HP.out (swp_permIn _ _ _ _ _ (by omega) (by omega) (by omega) (by omega) (by omega))),lR',Nat.lt_of_lt_of_le z1 hk.1,(World.cell?_of_block (w:=w1) (hk.2 _ hB z1)).trans c1,(World.frozen?_of_block (w:=w1) (hk.2 _ hB z1)).trans f1⟩}}
  {obtain rfl:t=3:=by omega
   have hle: ¬((a:Int)+(L:Int) / 4 * 2 - 1+((3:Nat):Int)<=(a:Int)+(L:Int) / 4 * 2+1):=by omega
   go_wp2
   go_end0
   exact ⟨rfl,dk,HP.out,hS⟩}
structure Cntr (B:Nat) (w:World) (p:Addr) (s:Int):Prop where
 lo:B<=p.block
 lt:p.block < w.heap.size
 at_:w.cell? p=some (.int .i64 s)
 fz:w.frozen? p=false
theorem Cntr.kpt {w w':World} {p:Addr} {s:Int} (h:Cntr B w p s) (hk:Kpt B w w'):Cntr B w' p s:=
 ⟨h.lo,Nat.lt_of_lt_of_le h.lt hk.1,(World.cell?_of_block (w:=w) (hk.2 _ h.lo h.lt)).trans h.at_,(World.frozen?_of_block (w:=w) (hk.2 _ h.lo h.lt)).trans h.fz⟩
section
variable (H : Srt N B rv lt St)
include H
theorem Z2s (a b:Nat) (b0:Nat) (s:Int) (d:Array α) (w:World) (hH:St d w) (ha:a < N) (hb:b < N) (hC:Cntr B w ⟨b0,0,none⟩ s) (hs0:0<=s) (hs:s < 1000):
 Calls Tryd.prog 97 #[.iface 92 rv,.int .i64 a,.int .i64 b,.pointer (some ⟨b0,0,none⟩)] w fun e w'=> ∃(x y:Nat) (s':Int),e= .returned (.tuple #[.int .i64 x,.int .i64 y])/\(x=a/\y=b\/x=b/\y=a)/\St d w'/\Cntr B w' ⟨b0,0,none⟩ s'/\0<=s'/\s'<=s+1:=by
 have mL:=H.mL;have mS:=H.mS;have hbig:=H.big;go_enter Tryd.func97,Tryd.ntmps97;cases hlv:lt d[b]! d[a]! with
 | true=>
  go_wp2_with fail
  refine (H.lessAt hH b a hlv hb ha rfl rfl).mono ?_;rintro e w1 ⟨rfl,hS1,hk⟩;have hC1:=hC.kpt hk;have c0:=hC1.at_;have f0:=hC1.fz;have HC:Hid (Cntr B w1 ⟨b0,0,none⟩ s):=hC1;clear hC hC1 hk
  go_wp2_with fail
  go_ret2
  have hC1:=HC.out;refine ⟨b,a,s+1,rfl,Or.inr ⟨rfl,rfl⟩,H.keep _ _ _ hS1 (Y2.setCell hC1.lo _),⟨hC1.lo,by simpa[World.setCell] using hC1.lt,World.cell?_setCell_same _ _ _ c0,by simpa[World.frozen?_setCell] using f0⟩,by omega,by omega⟩
 | false=>
  go_wp2_with fail
  refine (H.lessAt hH b a hlv hb ha rfl rfl).mono ?_;rintro e w1 ⟨rfl,hS1,hk⟩;have hC1:=hC.kpt hk
  go_wp2_with fail
  go_ret2
  exact ⟨a,b,s,rfl,Or.inl ⟨rfl,rfl⟩,hS1,hC1,hs0,by omega⟩
theorem Z2a (a b c:Nat) (b0:Nat) (s:Int) (d:Array α) (w:World) (hH:St d w) (ha:a < N) (hb:b < N) (hc:c < N) (hC:Cntr B w ⟨b0,0,none⟩ s) (hs0:0<=s) (hs:s < 900):
 Calls Tryd.prog 92 #[.iface 92 rv,.int .i64 a,.int .i64 b,.int .i64 c,.pointer (some ⟨b0,0,none⟩)] w fun e w'=> ∃(x:Nat) (s':Int),e= .returned (.int .i64 x)/\(x=a\/x=b\/x=c)/\St d w'/\Cntr B w' ⟨b0,0,none⟩ s'/\0<=s'/\s'<=s+3:=by
 go_enter Tryd.func92,Tryd.ntmps92
 go_wp2_with fail
 refine (Z2s H a b b0 s d w hH ha hb hC hs0 (by omega)).mono ?_;rintro e w1 ⟨x1,y1,s1,rfl,h1,hS1,hC1,p1,q1⟩
 go_wp2_with fail
 refine (Z2s H y1 c b0 s1 d w1 hS1 (by omega) hc hC1 p1 (by omega)).mono ?_;rintro e w2 ⟨x2,y2,s2,rfl,h2,hS2,hC2,p2,q2⟩
 go_wp2_with fail
 refine (Z2s H x1 x2 b0 s2 d w2 hS2 (by omega) (by omega) hC2 p2 (by omega)).mono ?_;rintro e w3 ⟨x3,y3,s3,rfl,h3,hS3,hC3,p3,q3⟩
 go_wp2_with fail
 go_ret;exact ⟨y3,s3,rfl,by omega,hS3,hC3,p3,by omega⟩
theorem Z2b (a:Nat) (b0:Nat) (s:Int) (d:Array α) (w:World) (hH:St d w) (ha:1<=a) (hb:a+1 < N) (hC:Cntr B w ⟨b0,0,none⟩ s) (hs0:0<=s) (hs:s < 900):
 Calls Tryd.prog 91 #[.iface 92 rv,.int .i64 a,.pointer (some ⟨b0,0,none⟩)] w fun e w'=> ∃(x:Nat) (s':Int),e= .returned (.int .i64 x)/\(a - 1<=x/\x<=a+1)/\St d w'/\Cntr B w' ⟨b0,0,none⟩ s'/\0<=s'/\s'<=s+3:=by
 have hbig:=H.big;have hm:=Z2a H (a - 1) a (a+1) b0 s d w hH (by omega) (by omega) (by omega) hC hs0 hs;rw[show ((a - 1:Nat):Int)=(a:Int) - 1 by omega,show ((a+1:Nat):Int)=(a:Int)+1 by omega] at hm;go_enter Tryd.func91,Tryd.ntmps91
 go_wp2_with fail
 refine hm.mono ?_;rintro e w3 ⟨x3,s3,rfl,h3,hS3,hC3,p3,q3⟩;clear hm
 go_wp2_with fail
 go_ret;exact ⟨x3,s3,rfl,by omega,hS3,hC3,p3,by omega⟩
theorem Z6X (a b:Nat) (d:Array α) (w:World) (hH:St d w) (hab:a+8<=b) (hb:b<=N):
 Calls Tryd.prog 78 #[.iface 92 rv,.int .i64 a,.int .i64 b] w fun e w'=> ∃(p:Nat) (h:Int),e= .returned (.tuple #[.int .i64 p,.int .i64 h])/\a<=p/\p < b/\0<=h/\h<=2/\St d w':=by
 have hbig:=H.big;have hB:=H.base _ _ hH;have hC0:Cntr B (w.alloc (.cells #[.int .i64 0] 3)) ⟨w.heap.size,0,none⟩ 0:=⟨hB,by simp,by rw[World.cell?_alloc_at _ _ _ _ rfl]; rfl,World.frozen?_alloc_at _ _ _ _ rfl⟩;have hS0:St d (w.alloc (.cells #[.int .i64 0] 3)):=H.keep _ _ _ hH (Y2.alloc hB _);obtain ⟨I,hI⟩: ∃I:Nat,I=a+(b - a) / 4 * 1:=⟨_,rfl⟩;obtain ⟨J,hJ⟩: ∃J:Nat,J=a+(b - a) / 4 * 2:=⟨_,rfl⟩;obtain ⟨K,hK⟩: ∃K:Nat,K=a+(b - a) / 4 * 3:=⟨_,rfl⟩;have eI: ((a:Int)+((b:Int) - (a:Int)) / 4)=(I:Int):=by omega
 have eJ: ((a:Int)+((b:Int) - (a:Int)) / 4 * 2)=(J:Int):=by omega
 have eK: ((a:Int)+((b:Int) - (a:Int)) / 4 * 3)=(K:Int):=by omega
 have h8z: (8:Int)<=(b:Int) - (a:Int):=by omega
 have HI:Hid (I=a+(b - a) / 4 * 1):=hI;have HJ:Hid (J=a+(b - a) / 4 * 2):=hJ;have HK:Hid (K=a+(b - a) / 4 * 3):=hK;clear hI hJ hK hH;have cS:=hC0.at_;go_enter Tryd.func78,Tryd.ntmps78
 go_upto_region 3 with fail
 generalize hW0:w.alloc (.cells #[.int .i64 0] 3)=W0 at hC0 hS0 cS ⊢;generalize w.heap.size=b0 at hC0 cS ⊢;clear hW0 hB w cS;by_cases h50:b - a>=50
 {have h50z: (50:Int)<=(b:Int) - (a:Int):=by omega
  have g:1<=I/\K+2<=b/\I+2<=J/\J+2<=K/\a+1<=I:=by have:=HI.out; have:=HJ.out; have:=HK.out; omega
  go_upto_region 8 with fail
  (try rw[eI]); (try rw[eJ]); (try rw[eK])
  clear eI eJ eK
  go_wp2_with fail
  refine (Z2b H I b0 0 d W0 hS0 (by omega) (by omega) hC0 (by omega) (by omega)).mono ?_;rintro e w1 ⟨x1,s1,rfl,h1,hS1,hC1,p1,q1⟩
  go_wp2_with fail
  refine (Z2b H J b0 s1 d w1 hS1 (by omega) (by omega) hC1 (by omega) (by omega)).mono ?_;rintro e w2 ⟨x2,s2,rfl,h2,hS2,hC2,p2,q2⟩
  go_wp2_with fail
  refine (Z2b H K b0 s2 d w2 hS2 (by omega) (by omega) hC2 (by omega) (by omega)).mono ?_;rintro e w3 ⟨x3,s3,rfl,h3,hS3,hC3,p3,q3⟩
  go_wp2_with fail
  refine (Z2a H x1 x2 x3 b0 s3 d w3 hS3 (by omega) (by omega) (by omega) hC3 (by omega) (by omega)).mono ?_;rintro e w4 ⟨x4,s4,rfl,h4,hS4,hC4,p4,q4⟩;have c4:=hC4.at_;have hx:a<=x4/\x4 < b:=by omega
  clear hC4 hC3 hC2 hC1 hC0;by_cases z0:s4=0
  {subst z0
   go_wp2_with fail
   go_ret2
   exact ⟨x4,1,rfl,hx.1,hx.2,by omega,by omega,hS4⟩}
  {by_cases z1:s4=12
   {subst z1
    go_wp2_with fail
    go_ret2
    exact ⟨x4,2,rfl,hx.1,hx.2,by omega,by omega,hS4⟩}
   {go_wp2_with fail
    go_ret2
    exact ⟨x4,0,rfl,hx.1,hx.2,by omega,by omega,hS4⟩}}}
 {have h50z: ¬(50:Int)<=(b:Int) - (a:Int):=by omega
  have g:a<=I/\K < b/\I<=J/\J<=K:=by have:=HI.out; have:=HJ.out; have:=HK.out; omega
  go_upto_region 11 with fail
  (try rw[eI]); (try rw[eJ]); (try rw[eK])
  clear eI eJ eK
  go_wp2_with fail
  refine (Z2a H I J K b0 0 d W0 hS0 (by omega) (by omega) (by omega) hC0 (by omega) (by omega)).mono ?_;rintro e w4 ⟨x4,s4,rfl,h4,hS4,hC4,p4,q4⟩;have c4:=hC4.at_;have hx:a<=x4/\x4 < b:=by omega
  clear hC4 hC0;by_cases z0:s4=0
  {subst z0
   go_wp2_with fail
   go_ret2
   exact ⟨x4,1,rfl,hx.1,hx.2,by omega,by omega,hS4⟩}
  {have z1:s4≠12:=by omega
   go_wp2_with fail
   go_ret2
   exact ⟨x4,0,rfl,hx.1,hx.2,by omega,by omega,hS4⟩}}
theorem Z9s (a b pivot:Nat) (d:Array α) (w:World) (hH:St d w) (hap:a<=pivot) (hpb:pivot < b) (hb:b<=N):
 Calls Tryd.prog 81 #[.iface 92 rv,.int .i64 a,.int .i64 b,.int .i64 pivot] w fun e w'=>e= .returned (.int .i64 (Sort.partitionEqual lt d a b pivot).1)/\St (Sort.partitionEqual lt d a b pivot).2 w':=by
 have mL:=H.mL;have mS:=H.mS;have hbig:=H.big;go_enter Tryd.func81,Tryd.ntmps81
 go_wp2_with fail
 refine (H.swapAt hH a pivot (by omega) (by omega) rfl rfl).mono ?_;rintro e w1 ⟨rfl,hS0, -⟩;clear hH
 go_wp2_with fail
 go_loopw [9,10] (fun vi vj wr=> ∃(i j:Nat) (dk:Array α),vi= .int .i64 i/\vj= .int .i64 j/\a < i/\i<=j+1/\j < b/\St dk wr/\Hid (Sort.partEqLoop lt a i j dk=Sort.partEqLoop lt a (a+1) (b - 1) (Sort.swp d a pivot)))
  (fun vi vj _=>(intOf vj).toNat+1 - (intOf vi).toNat)
 case atStart=>exact ⟨a+1,b - 1,_,by go_num,by go_num,by omega,by omega,by omega,hS0,rfl⟩
 case round=>
  clear hS0;obtain ⟨i,j,dk,rfl,rfl,hai,hij,hjb,hS,HE⟩:=hrel
  go_upto_block 2 with fail
  go_cut [9] (fun p wx=> ∃i2:Nat,p= .int .i64 i2/\i<=i2/\i2<=j+1/\St dk wx/\Hid (i2=Sort.scanUp (fun x=> !lt dk[a]! x) dk j i))
  case first=>
   go_wp2_with fail
   go_loopw [9] (fun vi w1=> ∃i':Nat,vi= .int .i64 i'/\i<=i'/\i'<=j+1/\St dk w1/\Hid (Sort.scanUp (fun x=> !lt dk[a]! x) dk j i'=Sort.scanUp (fun x=> !lt dk[a]! x) dk j i)) (fun vi _=>j+1 - (intOf vi).toNat)
   case atStart=>exact ⟨i,rfl,Nat.le_refl _,by omega,hS,rfl⟩
   case round=>
    clear hS;obtain ⟨i',rfl,hii,hij',hS,hsc⟩:=hrel;by_cases hle:i'<=j
    {cases hlv:lt dk[a]! dk[i']! with
     | false=>
      go_wp2_with fail
      refine (H.lessAt hS a i' hlv (by omega) (by omega) rfl rfl).mono ?_;rintro e w' ⟨rfl,hS1, -⟩
      go_wp2_with fail
      go_roundw
      case rel=>exact ⟨i'+1,by go_num,by omega,by omega,hS1,(show Hid _ from (scanUp_go (fun x=> !lt dk[a]! x) dk j i' hle (by simp[hlv])).symm.trans hsc.out)⟩
      case measure=>simp[intOf]; omega
     | true=>
      go_wp2_with fail
      refine (H.lessAt hS a i' hlv (by omega) (by omega) rfl rfl).mono ?_;rintro e w' ⟨rfl,hS1, -⟩
      go_wp2_with fail
      go_meet
      exact ⟨i',rfl,hii,hij',hS1,(show Hid _ from (scanUp_end (fun x=> !lt dk[a]! x) dk j i' (Or.inr (by simp[hlv]))).symm.trans hsc.out)⟩}
    {go_wp2_with fail
     go_meet
     exact ⟨i',rfl,hii,hij',hS,(show Hid _ from (scanUp_end (fun x=> !lt dk[a]! x) dk j i' (Or.inl hle)).symm.trans hsc.out)⟩}
  case rest=>
   clear hS;obtain ⟨i2,rfl,hi2,hi2j,hS,HI⟩:=hcut
   go_upto_block 4 with fail
   go_cut [10] (fun p wx=> ∃j2:Nat,p= .int .i64 j2/\j2<=j/\i2<=j2+1/\St dk wx/\Hid (j2=Sort.scanDown (fun x=>lt dk[a]! x) dk i2 j))
   case first=>
    go_wp2_with fail
    go_loopw [10] (fun vj w1=> ∃j':Nat,vj= .int .i64 j'/\j'<=j/\i2<=j'+1/\St dk w1/\Hid (Sort.scanDown (fun x=>lt dk[a]! x) dk i2 j'=Sort.scanDown (fun x=>lt dk[a]! x) dk i2 j)) (fun vj _=>(intOf vj).toNat)
    case atStart=>exact ⟨j,rfl,Nat.le_refl _,by omega,hS,rfl⟩
    case round=>
     clear hS;obtain ⟨j',rfl,hjj,hij',hS,hsc⟩:=hrel;by_cases hle:i2<=j'
     {cases hlv:lt dk[a]! dk[j']! with
      | true=>
       go_wp2_with fail
       refine (H.lessAt hS a j' hlv (by omega) (by omega) rfl rfl).mono ?_;rintro e w' ⟨rfl,hS1, -⟩
       go_wp2_with fail
       go_roundw
       case rel=>exact ⟨j' - 1,by go_num,by omega,by omega,hS1,(show Hid _ from (scanDown_go (fun x=>lt dk[a]! x) dk i2 j' hle (by omega) (by simp[hlv])).symm.trans hsc.out)⟩
       case measure=>simp[intOf]; omega
      | false=>
       go_wp2_with fail
       refine (H.lessAt hS a j' hlv (by omega) (by omega) rfl rfl).mono ?_;rintro e w' ⟨rfl,hS1, -⟩
       go_wp2_with fail
       go_meet
       exact ⟨j',rfl,hjj,hij',hS1,(show Hid _ from (scanDown_end (fun x=>lt dk[a]! x) dk i2 j' (Or.inr (by simp[hlv]))).symm.trans hsc.out)⟩}
     {go_wp2_with fail
      go_meet
      exact ⟨j',rfl,hjj,hij',hS,(show Hid _ from (scanDown_end (fun x=>lt dk[a]! x) dk i2 j' (Or.inl hle)).symm.trans hsc.out)⟩}
   case rest=>
    clear hS;obtain ⟨j2,rfl,hj2,hj2i,hS,HJ⟩:=hcut;by_cases hgt:j2 < i2
    {go_wp2_with fail
     go_ret;have e:=partEq_break lt a i j dk HI.out HJ.out hgt;have e2:=HE.out.symm.trans e;unfold Sort.partitionEqual;rw[e2];exact ⟨rfl,hS⟩}
    {have hlt3:=scans_lt lt a i j dk (by omega) HI.out HJ.out (by omega)
     go_wp2_with fail
     refine (H.swapAt hS i2 j2 (by omega) (by omega) rfl rfl).mono ?_;rintro e w3 ⟨rfl,hS3, -⟩
     go_wp2_with fail
     go_roundw
     case rel=>exact ⟨i2+1,j2 - 1,_,by go_num,by go_num,by omega,by omega,by omega,hS3,(show Hid _ from by rw[<-HE.out]; exact (partEq_go lt a i j dk HI.out HJ.out (by omega)).symm)⟩
     case measure=>simp[intOf]; omega}
theorem Z89 (a b pivot:Nat) (d:Array α) (w:World) (hH:St d w) (hap:a<=pivot) (hpb:pivot < b) (hb:b<=N):
 Calls Tryd.prog 82 #[.iface 92 rv,.int .i64 a,.int .i64 b,.int .i64 pivot] w fun e w'=>
  e= .returned (.tuple #[.int .i64 (Sort.partition lt d a b pivot).1,.bool (Sort.partition lt d a b pivot).2.1])/\St (Sort.partition lt d a b pivot).2.2 w':=by
 have mL:=H.mL;have mS:=H.mS;have hbig:=H.big;obtain ⟨i,hi⟩: ∃i:Nat,i=a+1:=⟨_,rfl⟩;obtain ⟨j,hj⟩: ∃j:Nat,j=b - 1:=⟨_,rfl⟩;obtain ⟨dk,hdk⟩: ∃dk:Array α,dk=Sort.swp d a pivot:=⟨_,rfl⟩;have eI: (a:Int)+1=(i:Int):=by omega
 have eJ: (b:Int) - 1=(j:Int):=by omega
 have hai:a < i:=by omega
 have hij:i<=j+1:=by omega
 have hjb:j < b:=by omega
 have HI0:Hid (i=a+1):=hi;have HJ0:Hid (j=b - 1):=hj;have HD0:Hid (dk=Sort.swp d a pivot):=hdk;clear hi hj;go_enter Tryd.func82,Tryd.ntmps82
 go_wp2_with fail
 refine (H.swapAt hH a pivot (by omega) (by omega) rfl rfl).mono ?_;rintro e w1 ⟨rfl,hS, -⟩;rw[<-hdk] at hS;clear hH hdk
 go_upto_block 0 with fail
 go_cut [10] (fun p wx=> ∃i2:Nat,p= .int .i64 i2/\i<=i2/\i2<=j+1/\St dk wx/\Hid (i2=Sort.scanUp (fun x=>lt x dk[a]!) dk j i))
 case first=>
  go_wp2_with fail
  go_loopw [10] (fun vi w1=> ∃i':Nat,vi= .int .i64 i'/\i<=i'/\i'<=j+1/\St dk w1/\Hid (Sort.scanUp (fun x=>lt x dk[a]!) dk j i'=Sort.scanUp (fun x=>lt x dk[a]!) dk j i)) (fun vi _=>j+1 - (intOf vi).toNat)
  case atStart=>exact ⟨i,rfl,Nat.le_refl _,by omega,hS,rfl⟩
  case round=>
   clear hS;obtain ⟨i',rfl,hii,hij',hS,hsc⟩:=hrel;by_cases hle:i'<=j
   {cases hlv:lt dk[i']! dk[a]! with
    | true=>
     go_wp2_with fail
     refine (H.lessAt hS i' a hlv (by omega) (by omega) rfl rfl).mono ?_;rintro e w' ⟨rfl,hS1, -⟩
     go_wp2_with fail
     go_roundw
     case rel=>exact ⟨i'+1,by go_num,by omega,by omega,hS1,(show Hid _ from (scanUp_go (fun x=>lt x dk[a]!) dk j i' hle (by simp[hlv])).symm.trans hsc.out)⟩
     case measure=>simp[intOf]; omega
    | false=>
     go_wp2_with fail
     refine (H.lessAt hS i' a hlv (by omega) (by omega) rfl rfl).mono ?_;rintro e w' ⟨rfl,hS1, -⟩
     go_wp2_with fail
     go_meet
     exact ⟨i',rfl,hii,hij',hS1,(show Hid _ from (scanUp_end (fun x=>lt x dk[a]!) dk j i' (Or.inr (by simp[hlv]))).symm.trans hsc.out)⟩}
   {go_wp2_with fail
    go_meet
    exact ⟨i',rfl,hii,hij',hS,(show Hid _ from (scanUp_end (fun x=>lt x dk[a]!) dk j i' (Or.inl hle)).symm.trans hsc.out)⟩}
 case rest=>
  clear hS;obtain ⟨i2,rfl,hi2,hi2j,hS,HI⟩:=hcut
  go_upto_block 2 with fail
  go_cut [11] (fun p wx=> ∃j2:Nat,p= .int .i64 j2/\j2<=j/\i2<=j2+1/\St dk wx/\Hid (j2=Sort.scanDown (fun x=> !lt x dk[a]!) dk i2 j))
  case first=>
   go_wp2_with fail
   go_loopw [11] (fun vj w1=> ∃j':Nat,vj= .int .i64 j'/\j'<=j/\i2<=j'+1/\St dk w1/\Hid (Sort.scanDown (fun x=> !lt x dk[a]!) dk i2 j'=Sort.scanDown (fun x=> !lt x dk[a]!) dk i2 j)) (fun vj _=>(intOf vj).toNat)
   case atStart=>exact ⟨j,rfl,Nat.le_refl _,by omega,hS,rfl⟩
   case round=>
    clear hS;obtain ⟨j',rfl,hjj,hij',hS,hsc⟩:=hrel;by_cases hle:i2<=j'
    {cases hlv:lt dk[j']! dk[a]! with
     | false=>
      go_wp2_with fail
      refine (H.lessAt hS j' a hlv (by omega) (by omega) rfl rfl).mono ?_;rintro e w' ⟨rfl,hS1, -⟩
      go_wp2_with fail
      go_roundw
      case rel=>exact ⟨j' - 1,by go_num,by omega,by omega,hS1,(show Hid _ from (scanDown_go (fun x=> !lt x dk[a]!) dk i2 j' hle (by omega) (by simp[hlv])).symm.trans hsc.out)⟩
      case measure=>simp[intOf]; omega
     | true=>
      go_wp2_with fail
      refine (H.lessAt hS j' a hlv (by omega) (by omega) rfl rfl).mono ?_;rintro e w' ⟨rfl,hS1, -⟩
      go_wp2_with fail
      go_meet
      exact ⟨j',rfl,hjj,hij',hS1,(show Hid _ from (scanDown_end (fun x=> !lt x dk[a]!) dk i2 j' (Or.inr (by simp[hlv]))).symm.trans hsc.out)⟩}
    {go_wp2_with fail
     go_meet
     exact ⟨j',rfl,hjj,hij',hS,(show Hid _ from (scanDown_end (fun x=> !lt x dk[a]!) dk i2 j' (Or.inl hle)).symm.trans hsc.out)⟩}
  case rest=>
   clear hS;obtain ⟨j2,rfl,hj2,hj2i,hS,HJ⟩:=hcut;clear eI eJ;by_cases hgt:j2 < i2
   {go_wp2_with fail
    refine (H.swapAt hS j2 a (by omega) (by omega) rfl rfl).mono ?_;rintro e w3 ⟨rfl,hS3, -⟩
    go_wp2_with fail
    go_ret2
    have e:=part_first_break lt d a b pivot HI0.out HJ0.out HD0.out HI.out HJ.out hgt;rw[e];exact ⟨rfl,hS3⟩}
   {have hlt3:=part_scans_lt lt a i j dk (by omega) HI.out HJ.out (by omega)
    go_wp2_with fail
    refine (H.swapAt hS i2 j2 (by omega) (by omega) rfl rfl).mono ?_;rintro e w3 ⟨rfl,hS3, -⟩
    go_wp2_with fail
    (try rw[decide_eq_false (show ¬j2 < i2 by omega)])
    obtain ⟨I0,hI0⟩: ∃I0:Nat,I0=i2+1:=⟨_,rfl⟩;obtain ⟨J0,hJ0⟩: ∃J0:Nat,J0=j2 - 1:=⟨_,rfl⟩;obtain ⟨D0,hD0⟩: ∃D0:Array α,D0=Sort.swp dk i2 j2:=⟨_,rfl⟩;have PF:Hid (Sort.partition lt d a b pivot=((Sort.partLoop lt a I0 J0 D0).1,false,Sort.swp (Sort.partLoop lt a I0 J0 D0).2 (Sort.partLoop lt a I0 J0 D0).1 a)):=by
     rw[hI0,hJ0,hD0]; exact part_first_go lt d a b pivot HI0.out HJ0.out HD0.out HI.out HJ.out (by omega)
    rw[<-hD0] at hS3
    go_loopw [10,11] (fun vi vj wr=> ∃(i j:Nat) (dk:Array α),vi= .int .i64 i/\vj= .int .i64 j/\a < i/\i<=j+1/\j < b/\St dk wr/\Hid (Sort.partLoop lt a i j dk=Sort.partLoop lt a I0 J0 D0))
     (fun vi vj _=>(intOf vj).toNat+1 - (intOf vi).toNat)
    case atStart=>exact ⟨I0,J0,D0,by rw[hI0]; go_num,by rw[hJ0]; go_num,by omega,by omega,by omega,hS3,rfl⟩
    case round=>
     clear hI0 hJ0 hD0 HJ HI hS hS3 hlt3 hgt HI0 HJ0 HD0 hj2 hj2i hi2 hi2j hai hij hjb;obtain ⟨i,j,dk,rfl,rfl,hai,hij,hjb,hS,HE⟩:=hrel
     go_upto_block 6 with fail
     go_cut [10] (fun p wx=> ∃i2:Nat,p= .int .i64 i2/\i<=i2/\i2<=j+1/\St dk wx/\Hid (i2=Sort.scanUp (fun x=>lt x dk[a]!) dk j i))
     case first=>
      go_wp2_with fail
      go_loopw [10] (fun vi w1=> ∃i':Nat,vi= .int .i64 i'/\i<=i'/\i'<=j+1/\St dk w1/\Hid (Sort.scanUp (fun x=>lt x dk[a]!) dk j i'=Sort.scanUp (fun x=>lt x dk[a]!) dk j i)) (fun vi _=>j+1 - (intOf vi).toNat)
      case atStart=>exact ⟨i,rfl,Nat.le_refl _,by omega,hS,rfl⟩
      case round=>
       clear hS;obtain ⟨i',rfl,hii,hij',hS,hsc⟩:=hrel;by_cases hle:i'<=j
       {cases hlv:lt dk[i']! dk[a]! with
        | true=>
         go_wp2_with fail
         refine (H.lessAt hS i' a hlv (by omega) (by omega) rfl rfl).mono ?_;rintro e w' ⟨rfl,hS1, -⟩
         go_wp2_with fail
         go_roundw
         case rel=>exact ⟨i'+1,by go_num,by omega,by omega,hS1,(show Hid _ from (scanUp_go (fun x=>lt x dk[a]!) dk j i' hle (by simp[hlv])).symm.trans hsc.out)⟩
         case measure=>simp[intOf]; omega
        | false=>
         go_wp2_with fail
         refine (H.lessAt hS i' a hlv (by omega) (by omega) rfl rfl).mono ?_;rintro e w' ⟨rfl,hS1, -⟩
         go_wp2_with fail
         go_meet
         exact ⟨i',rfl,hii,hij',hS1,(show Hid _ from (scanUp_end (fun x=>lt x dk[a]!) dk j i' (Or.inr (by simp[hlv]))).symm.trans hsc.out)⟩}
       {go_wp2_with fail
        go_meet
        exact ⟨i',rfl,hii,hij',hS,(show Hid _ from (scanUp_end (fun x=>lt x dk[a]!) dk j i' (Or.inl hle)).symm.trans hsc.out)⟩}
     case rest=>
      clear hS;obtain ⟨i2,rfl,hi2,hi2j,hS,HI⟩:=hcut
      go_upto_block 8 with fail
      go_cut [11] (fun p wx=> ∃j2:Nat,p= .int .i64 j2/\j2<=j/\i2<=j2+1/\St dk wx/\Hid (j2=Sort.scanDown (fun x=> !lt x dk[a]!) dk i2 j))
      case first=>
       go_wp2_with fail
       go_loopw [11] (fun vj w1=> ∃j':Nat,vj= .int .i64 j'/\j'<=j/\i2<=j'+1/\St dk w1/\Hid (Sort.scanDown (fun x=> !lt x dk[a]!) dk i2 j'=Sort.scanDown (fun x=> !lt x dk[a]!) dk i2 j)) (fun vj _=>(intOf vj).toNat)
       case atStart=>exact ⟨j,rfl,Nat.le_refl _,by omega,hS,rfl⟩
       case round=>
        clear hS;obtain ⟨j',rfl,hjj,hij',hS,hsc⟩:=hrel;by_cases hle:i2<=j'
        {cases hlv:lt dk[j']! dk[a]! with
         | false=>
          go_wp2_with fail
          refine (H.lessAt hS j' a hlv (by omega) (by omega) rfl rfl).mono ?_;rintro e w' ⟨rfl,hS1, -⟩
          go_wp2_with fail
          go_roundw
          case rel=>exact ⟨j' - 1,by go_num,by omega,by omega,hS1,(show Hid _ from (scanDown_go (fun x=> !lt x dk[a]!) dk i2 j' hle (by omega) (by simp[hlv])).symm.trans hsc.out)⟩
          case measure=>simp[intOf]; omega
         | true=>
          go_wp2_with fail
          refine (H.lessAt hS j' a hlv (by omega) (by omega) rfl rfl).mono ?_;rintro e w' ⟨rfl,hS1, -⟩
          go_wp2_with fail
          go_meet
          exact ⟨j',rfl,hjj,hij',hS1,(show Hid _ from (scanDown_end (fun x=> !lt x dk[a]!) dk i2 j' (Or.inr (by simp[hlv]))).symm.trans hsc.out)⟩}
        {go_wp2_with fail
         go_meet
         exact ⟨j',rfl,hjj,hij',hS,(show Hid _ from (scanDown_end (fun x=> !lt x dk[a]!) dk i2 j' (Or.inl hle)).symm.trans hsc.out)⟩}
      case rest=>
       clear hS;obtain ⟨j2,rfl,hj2,hj2i,hS,HJ⟩:=hcut;by_cases hgt:j2 < i2
       {have HE2:Hid (Sort.partLoop lt a I0 J0 D0=(j2,dk)):=HE.out.symm.trans (part_break lt a i j dk HI.out HJ.out hgt)
        go_wp2_with fail
        refine (H.swapAt hS j2 a (by omega) (by omega) rfl rfl).mono ?_;rintro e w3 ⟨rfl,hS3, -⟩
        go_wp2_with fail
        go_ret2
        rw[PF.out,HE2.out];exact ⟨rfl,hS3⟩}
       {have hlt3:=part_scans_lt lt a i j dk (by omega) HI.out HJ.out (by omega)
        go_wp2_with fail
        refine (H.swapAt hS i2 j2 (by omega) (by omega) rfl rfl).mono ?_;rintro e w3 ⟨rfl,hS3, -⟩
        go_wp2_with fail
        go_roundw
        case rel=>exact ⟨i2+1,j2 - 1,_,by go_num,by go_num,by omega,by omega,by omega,hS3,(show Hid _ from by rw[<-HE.out]; exact (part_go lt a i j dk HI.out HJ.out (by omega)).symm)⟩
        case measure=>simp[intOf]; omega}}
theorem ZaA (a b:Nat) (d:Array α) (w:World) (hH:St d w) (hab:a < b) (hb:b<=N):
 Calls Tryd.prog 80 #[.iface 92 rv,.int .i64 a,.int .i64 b] w fun e w'=>
  e= .returned (.bool (Sort.partialInsertionSort lt d a b).2)/\St (Sort.partialInsertionSort lt d a b).1 w':=by
 have mL:=H.mL;have mS:=H.mS;have hbig:=H.big;go_enter Tryd.func80,Tryd.ntmps80
 go_wp2_with fail
 go_loopw [7,8] (fun vi vs wr=> ∃(i s:Nat) (dk:Array α),vi= .int .i64 i/\vs= .int .i64 s/\s<=5/\a < i/\i<=b/\St dk wr/\Hid (partialIns lt a b (5 - s) i dk=partialIns lt a b 5 (a+1) d)) (fun _ vs _=>5 - (intOf vs).toNat)
 case atStart=>exact ⟨a+1,0,d,by go_num,rfl,by omega,by omega,by omega,hH,rfl⟩
 case round=>
  clear hH;obtain ⟨i,s,dk,rfl,rfl,hs5,hai,hib,hS,HO⟩:=hrel;by_cases hs:s < 5
  {go_upto_block 2 with fail
   (try rw[decide_eq_true (show (s:Int) < 5 by omega)])
   go_cut [7] (fun p wx=> ∃k:Nat,p= .int .i64 k/\i<=k/\k<=b/\St dk wx/\Hid (scanSorted lt dk b i=k))
   case first=>
    go_wp2_with fail
    go_loopw [7] (fun vi w1=> ∃k:Nat,vi= .int .i64 k/\i<=k/\k<=b/\St dk w1/\Hid (scanSorted lt dk b i=scanSorted lt dk b k)) (fun vi _=>b - (intOf vi).toNat)
    case atStart=>exact ⟨i,rfl,Nat.le_refl _,hib,hS,rfl⟩
    case round=>
     clear hS;obtain ⟨k,rfl,hik,hkb,hS,hsc⟩:=hrel;by_cases hlt:k < b
     {cases hlv:lt dk[k]! dk[k - 1]! with
      | false=>
       go_wp2_with fail
       refine (H.lessAt hS k (k - 1) hlv (by omega) (by omega) (by omega) (by omega)).mono ?_;rintro e w' ⟨rfl,hS1, -⟩
       go_wp2_with fail
       go_roundw
       case rel=>exact ⟨k+1,by go_num,by omega,by omega,hS1,(show Hid _ from hsc.out.trans (scanSorted_go lt dk b k hlt hlv))⟩
       case measure=>simp[intOf]; omega
      | true=>
       go_wp2_with fail
       refine (H.lessAt hS k (k - 1) hlv (by omega) (by omega) (by omega) (by omega)).mono ?_;rintro e w' ⟨rfl,hS1, -⟩
       go_wp2_with fail
       go_meet
       exact ⟨k,rfl,hik,hkb,hS1,(show Hid _ from hsc.out.trans (scanSorted_stop lt dk b k (Or.inr hlv)))⟩}
     {go_wp2_with fail
      go_meet
      exact ⟨k,rfl,hik,hkb,hS,(show Hid _ from hsc.out.trans (scanSorted_stop lt dk b k (Or.inl hlt)))⟩}
   case rest=>
    clear hS;obtain ⟨k,rfl,hik,hkb,hS,HK⟩:=hcut;by_cases hkb':k=b
    {have hx:=HO.out.symm.trans (pi_true lt a b s i dk hs (by rw[HK.out,hkb']));have HX:Hid _:=hx;clear hx;subst hkb'
     go_wp2_with fail
     go_ret;unfold Sort.partialInsertionSort;rw[HX.out];exact ⟨rfl,hS⟩}
    {by_cases h50:b - a < 50
     {have hx:=HO.out.symm.trans (pi_short lt a b s i dk hs (by rw[HK.out]; exact hkb') h50);have HX:Hid _:=hx;clear hx;have h50z: (b:Int) - (a:Int) < 50:=by omega
      go_wp2_with fail
      go_ret;unfold Sort.partialInsertionSort;rw[HX.out];exact ⟨rfl,hS⟩}
     {have hx:=HO.out.symm.trans (pi_go lt a b s i k dk hs HK.out hkb' h50);have HX:Hid _:=hx;clear hx HO HK;have h50z: ¬(b:Int) - (a:Int) < 50:=by omega
      go_wp2_with fail
      refine (H.swapAt hS k (k - 1) (by omega) (by omega) (by omega) (by omega)).mono ?_;rintro e w1 ⟨rfl,hS1, -⟩;obtain ⟨d1,hd1⟩: ∃d1:Array α,d1=swp dk k (k - 1):=⟨_,rfl⟩;rw[<-hd1] at hS1 HX;clear hS hd1
      go_upto_if 45 with fail
      go_cut [9] (fun p wx=>St (fixDown lt a k d1) wx)
      case first=>
       clear HX;by_cases h2:k - a>=2
       {have h2z: (2:Int)<=(k:Int) - (a:Int):=by omega
        go_wp2_with fail
        (try rw[decide_eq_true h2z])
        go_loopw [9] (fun vj w1=> ∃(j:Nat) (dj:Array α),vj= .int .i64 j/\j < k/\St dj w1/\Hid (shiftDown lt j dj=fixDown lt a k d1)) (fun vj _=>(intOf vj).toNat)
        case atStart=>exact ⟨k - 1,d1,by go_num,by omega,hS1,(show Hid _ from by unfold fixDown; rw[if_pos h2]; rfl)⟩
        case round=>
         clear hS1;obtain ⟨j,dj,rfl,hjk,hS,HJ⟩:=hrel;by_cases hj:1<=j
         {cases hlv:lt dj[j]! dj[j - 1]! with
          | true=>
           go_wp2_with fail
           refine (H.lessAt hS j (j - 1) hlv (by omega) (by omega) (by omega) (by omega)).mono ?_;rintro e w' ⟨rfl,hS1, -⟩
           go_wp2_with fail
           refine (H.swapAt hS1 j (j - 1) (by omega) (by omega) (by omega) (by omega)).mono ?_;rintro e w2 ⟨rfl,hS2, -⟩
           go_wp2_with fail
           go_roundw
           case rel=>exact ⟨j - 1,_,by go_num,by omega,hS2,(show Hid _ from (shiftDown_go lt j dj hj hlv).symm.trans HJ.out)⟩
           case measure=>simp[intOf]; omega
          | false=>
           go_wp2_with fail
           refine (H.lessAt hS j (j - 1) hlv (by omega) (by omega) (by omega) (by omega)).mono ?_;rintro e w' ⟨rfl,hS1, -⟩
           go_wp2_with fail
           go_meet
           rw[<-HJ.out,shiftDown_stop lt j dj (Or.inr hlv)];exact hS1}
         {go_wp2_with fail
          go_meet
          rw[<-HJ.out,shiftDown_stop lt j dj (Or.inl (by omega))];exact hS}}
       {have h2z: ¬(2:Int)<=(k:Int) - (a:Int):=by omega
        go_wp2_with fail
        go_meet
        unfold fixDown;rw[if_neg h2];exact hS1}
      case rest=>
       clear hS1;generalize fixDown lt a k d1=d2 at hcut HX
       rename_i hS1
       have END: ∀d3 wx,St d3 wx->d3=fixUp lt b k d2-> ∃(i' s':Nat) (dk':Array α),Value.int .i64 (k:Int)= .int .i64 (i':Nat)/\Value.int .i64 ((s:Int)+1)= .int .i64 (s':Nat)/\s'<=5/\a < i'/\i'<=b/\St dk' wx/\Hid (partialIns lt a b (5 - s') i' dk'=partialIns lt a b 5 (a+1) d):=
        fun d3 wx h3 e3=>⟨k,s+1,d3,rfl,by go_num,by omega,by omega,by omega,h3,by rw[e3]; exact HX.out.symm⟩
       have HE:Hid _:=END;clear END;by_cases h2:b - k>=2
       {have h2z: (2:Int)<=(b:Int) - (k:Int):=by omega
        go_wp2_with fail
        (try rw[decide_eq_true h2z])
        go_loopw [10] (fun vj w1=> ∃(j:Nat) (dj:Array α),vj= .int .i64 j/\k < j/\j<=b/\St dj w1/\Hid (shiftUp lt b j dj=fixUp lt b k d2)) (fun vj _=>b - (intOf vj).toNat)
        case atStart=>exact ⟨k+1,d2,by go_num,by omega,by omega,hcut,(show Hid _ from by unfold fixUp; rw[if_pos h2]; rfl)⟩
        case round=>
         clear hcut;obtain ⟨j,dj,rfl,hkj,hjb,hS,HJ⟩:=hrel;by_cases hj:j < b
         {cases hlv:lt dj[j]! dj[j - 1]! with
          | true=>
           go_wp2_with fail
           refine (H.lessAt hS j (j - 1) hlv (by omega) (by omega) (by omega) (by omega)).mono ?_;rintro e w' ⟨rfl,hS1, -⟩
           go_wp2_with fail
           refine (H.swapAt hS1 j (j - 1) (by omega) (by omega) (by omega) (by omega)).mono ?_;rintro e w2 ⟨rfl,hS2, -⟩
           go_wp2_with fail
           go_roundw
           case rel=>exact ⟨j+1,_,by go_num,by omega,by omega,hS2,(show Hid _ from (shiftUp_go lt b j dj hj hlv).symm.trans HJ.out)⟩
           case measure=>simp[intOf]; omega
          | false=>
           go_wp2_with fail
           refine (H.lessAt hS j (j - 1) hlv (by omega) (by omega) (by omega) (by omega)).mono ?_;rintro e w' ⟨rfl,hS1, -⟩
           go_wp2_with fail
           go_roundw
           case rel=>exact HE.out dj _ hS1 (by rw[<-HJ.out,shiftUp_stop lt b j dj (Or.inr hlv)])
           case measure=>simp[intOf]; omega}
         {go_wp2_with fail
          go_roundw
          case rel=>exact HE.out dj _ hS (by rw[<-HJ.out,shiftUp_stop lt b j dj (Or.inl hj)])
          case measure=>simp[intOf]; omega}}
       {have h2z: ¬(2:Int)<=(b:Int) - (k:Int):=by omega
        go_wp2_with fail
        go_roundw
        case rel=>exact HE.out d2 _ hcut (by unfold fixUp; rw[if_neg h2])
        case measure=>simp[intOf]; omega}}}}
  {have hx:s=5:=by omega
   subst hx;have HX:Hid _:=HO.out.symm.trans (pi_end lt a b i dk);clear HO
   go_wp2_with fail
   go_ret;unfold Sort.partialInsertionSort;rw[HX.out];exact ⟨rfl,hS⟩}
end
def Sorts {α:Type} [Inhabited α] (lt:α->α->Bool) (a b:Nat) (d:Array α) (a' b':Nat) (dk:Array α):Prop:= ∀R,PermIn a' b' dk R->SortedIn lt a' b' R->PermIn a b d R/\SortedIn lt a b R
theorem Sorts.perm {a b a' b':Nat} {d dk d2:Array α} (h:Sorts lt a b d a' b' dk) (hp:PermIn a' b' dk d2):Sorts lt a b d a' b' d2:=fun R h1 h2=>h R (permIn_trans _ _ _ a' b' hp h1) h2
theorem Z9t (H:Srt N B rv lt St) (hO:SWO lt): ∀(n a b limit:Nat) (d:Array α) (w:World),b - a < n->St d w->a<=b->b<=N->limit < 1000000->Sort.Below lt a b d->
 Calls Tryd.prog 63 #[.iface 92 rv,.int .i64 a,.int .i64 b,.int .i64 limit] w fun e w'=>e= .returned (.tuple #[])/\ ∃d',PermIn a b d d'/\SortedIn lt a b d'/\St d' w':=by
 have mL:=H.mL;have mS:=H.mS;have hbig:=H.big;intro n;induction n with
 | zero=>intro _ _ _ _ _ h; exact absurd h (Nat.not_lt_zero _)
 | succ n ih=>
  intro a b limit d w hn hH hab hb hlimit hBel;have IH:Hid _:=ih;clear ih;go_enter Tryd.func63,Tryd.ntmps63;go_wp2
  go_loopg [1,2,3,8,9] (b - a) (fun k s1 s2 s3 s8 s9 wr=> ∃(a' b' lim:Nat) (wb wp:Bool) (dk:Array α),s1= .int .i64 a'/\s2= .int .i64 b'/\s3= .int .i64 lim/\s8= .bool wb/\s9= .bool wp/\
   a'<=b'/\b'<=b/\b' - a'<=k/\k<=b - a/\lim<=limit/\St dk wr/\Hid (Sort.Below lt a' b' dk)/\Hid (Sorts lt a b d a' b' dk))
  case atStart=>exact ⟨a,b,limit,true,true,d,rfl,rfl,rfl,rfl,rfl,hab,Nat.le_refl _,Nat.le_refl _,Nat.le_refl _,Nat.le_refl _,hH,hBel,(show Hid _ from fun R h1 h2=>⟨h1,h2⟩)⟩
  case round=>
   clear hH hBel;obtain ⟨a',b',lim,wb,wp,dk,rfl,rfl,rfl,rfl,rfl,hab',hb',hk,hkN,hlim,hS,HB,HA⟩:=hrel;have hsk:=H.size _ _ hS;by_cases h12:b' - a'<=12
   {have h12z: (b':Int) - (a':Int)<=12:=by omega
    go_wp2_with fail
    refine (Z9q H a' b' dk _ hS hab' (by omega)).mono ?_;rintro e w1 ⟨rfl,hS1⟩
    go_wp2_with fail
    (try simp only[Exit.inBlock,Exit.then]); refine bodyPost_ret (results_none rfl _ _ _) rfl ?_
    obtain ⟨r1,r2⟩:=insertionSort_holds hO dk a' b' hab' (by omega);exact ⟨rfl,_,(HA.out _ r1 r2).1,(HA.out _ r1 r2).2,hS1⟩}
   {have h12z: ¬(b':Int) - (a':Int)<=12:=by omega
    by_cases hl0:lim=0
    {subst hl0
     go_wp2_with fail
     refine (Z87 H a' b' dk _ hS (by omega) (by omega)).mono ?_;rintro e w1 ⟨rfl,hS1⟩
     go_wp2_with fail
     (try simp only[Exit.inBlock,Exit.then]); refine bodyPost_ret (results_none rfl _ _ _) rfl ?_
     obtain ⟨r1,r2⟩:=heapSort_holds hO dk a' b' hab' (by omega);exact ⟨rfl,_,(HA.out _ r1 r2).1,(HA.out _ r1 r2).2,hS1⟩}
    {have hl0z: ¬(lim:Int)=0:=by omega
     go_upto_if 35 with fail
     go_cut [3] (fun p wx=> ∃(l2:Nat) (d2:Array α),p= .int .i64 l2/\l2<=lim/\Hid (PermIn a' b' dk d2)/\St d2 wx)
     case first=>
      cases wb with
      | true=>
       go_wp2_with fail
       go_meet
       exact ⟨lim,dk,rfl,Nat.le_refl _,permIn_refl _ _ _,hS⟩
      | false=>
       go_wp2_with fail
       refine (Z6W H a' b' dk _ hS (by omega) (by omega)).mono ?_;rintro e w1 ⟨rfl,d2,hp,hS1⟩;have HP:Hid _:=hp;clear hp
       go_wp2_with fail
       go_meet
       exact ⟨lim - 1,d2,by go_num,by omega,HP,hS1⟩
     case rest=>
      clear hS;obtain ⟨l2,d2,rfl,hl2,HP2,hS⟩:=hcut;have HB2:Hid (Sort.Below lt a' b' d2):=HB.out.perm (by omega) HP2.out;have HA2:Hid (Sorts lt a b d a' b' d2):=HA.out.perm HP2.out;clear HB HA HP2 hsk
      go_wp2_with fail
      refine (Z6X H a' b' d2 _ hS (by omega) (by omega)).mono ?_;rintro e w1 ⟨pv,hint,rfl,hp1,hp2,hh0,hh2,hS1⟩;have hsk:=H.size _ _ hS1
      go_upto_if 50 with fail
      go_cut [11,12] (fun p h wx=> ∃(p2:Nat) (h2:Int) (d3:Array α),p= .int .i64 p2/\h= .int .i64 h2/\a'<=p2/\p2 < b'/\Hid (PermIn a' b' d2 d3)/\St d3 wx)
      case first=>
       by_cases h2:hint=2
       {subst h2
        go_wp2_with fail
        refine (Z9r H a' b' d2 _ hS1 (by omega) (by omega)).mono ?_;rintro e w2 ⟨rfl,d3,hp,hS2⟩;have HP:Hid _:=hp;clear hp
        go_wp2_with fail
        go_meet
        exact ⟨(b' - 1) - (pv - a'),1,d3,by congr 1; omega,rfl,by omega,by omega,HP,hS2⟩}
       {go_wp2_with fail
        go_meet
        exact ⟨pv,hint,d2,rfl,rfl,hp1,hp2,permIn_refl _ _ _,hS1⟩}
      case rest=>
       clear hS hS1 hp1 hp2 hh0 hh2;obtain ⟨p,h,d3,rfl,rfl,hp1,hp2,HP3,hS⟩:=hcut;have HB3:Hid (Sort.Below lt a' b' d3):=HB2.out.perm (by omega) HP3.out;have HA3:Hid (Sorts lt a b d a' b' d3):=HA2.out.perm HP3.out;clear HB2 HA2 HP3 hsk;have hsk:=H.size _ _ hS
       go_upto_region 15 with fail
       go_cut [68] (fun q wx=> ∃v:Bool,q= .bool v/\St d3 wx)
       case first=>
        cases wb with
        | false=>
         go_wp2_with fail
         go_meet
         exact ⟨_,rfl,hS⟩
        | true=>
         cases wp with
         | false=>
          go_wp2_with fail
          go_meet
          exact ⟨_,rfl,hS⟩
         | true=>
          go_wp2_with fail
          go_meet
          exact ⟨_,rfl,hS⟩
       case rest=>
        clear hS;obtain ⟨v,rfl,hS⟩:=hcut
        go_upto_if 68 with fail
        go_cut [0] (fun q wx=> ∃d4:Array α,q= .iface 92 rv/\Hid (PermIn a' b' d3 d4)/\St d4 wx)
        case first=>
         cases v with
         | false=>
          go_wp2_with fail
          go_meet
          exact ⟨d3,rfl,permIn_refl _ _ _,hS⟩
         | true=>
          have hpi:=partialInsertionSort_holds hO d3 a' b' (by omega) (by omega) HB3.out;have hc:=ZaA H a' b' d3 wc hS (by omega) (by omega);generalize Sort.partialInsertionSort lt d3 a' b'=r at hpi hc;obtain ⟨d4,u⟩:=r;have HPI:Hid _:=hpi;clear hpi;cases u with
          | true=>
           go_wp2_with fail
           refine hc.mono ?_;rintro e w2 ⟨rfl,hS2⟩;clear hc
           go_wp2_with fail
           (try simp only[Exit.inBlock,Exit.then]); refine bodyPost_ret (results_none rfl _ _ _) rfl ?_
           obtain ⟨r1,r2⟩:=HPI.out;have r3:=r2 (by first | trivial | rfl);exact ⟨rfl,_,(HA3.out _ r1 r3).1,(HA3.out _ r1 r3).2,hS2⟩
          | false=>
           go_wp2_with fail
           refine hc.mono ?_;rintro e w2 ⟨rfl,hS2⟩;clear hc
           go_wp2_with fail
           go_meet
           exact ⟨d4,rfl,HPI.out.1,hS2⟩
        case rest=>
         clear hS;obtain ⟨d4,rfl,HP4,hS⟩:=hcut;have HB4:Hid (Sort.Below lt a' b' d4):=HB3.out.perm (by omega) HP4.out;have HA4:Hid (Sorts lt a b d a' b' d4):=HA3.out.perm HP4.out;clear HB3 HA3 HP4 hsk;have hsk:=H.size _ _ hS
         go_upto_region 17 with fail
         go_cut [82] (fun q wx=> ∃v:Bool,q= .bool v/\St d4 wx/\Hid (v=true->0 < a'/\lt d4[a' - 1]! d4[p]! =false))
         case first=>
          by_cases ha0:0 < a'
          {cases hlv:lt d4[a' - 1]! d4[p]! with
           | true=>
            go_wp2_with fail
            refine (H.lessAt hS (a' - 1) p hlv (by omega) (by omega) (by omega) rfl).mono ?_;rintro e w2 ⟨rfl,hS2, -⟩
            go_wp2_with fail
            go_meet
            exact ⟨_,rfl,hS2,(show Hid _ from fun h=>by cases h)⟩
           | false=>
            go_wp2_with fail
            refine (H.lessAt hS (a' - 1) p hlv (by omega) (by omega) (by omega) rfl).mono ?_;rintro e w2 ⟨rfl,hS2, -⟩
            go_wp2_with fail
            go_meet
            exact ⟨_,rfl,hS2,(show Hid _ from fun _=>⟨ha0,hlv⟩)⟩}
          {go_wp2_with fail
           go_meet
           exact ⟨_,rfl,hS,(show Hid _ from fun h=>by cases h)⟩}
         case rest=>
          clear hS;obtain ⟨v,rfl,hS,HV⟩:=hcut;cases v with
          | true=>
           have hv:=HV.out (by first | trivial | rfl);have hc:=Z9s H a' b' p d4 wc hS hp1 hp2 (by omega);obtain ⟨mid,d5,hx⟩: ∃mid d5,partitionEqual lt d4 a' b' p=(mid,d5):=⟨_,_,rfl⟩;obtain ⟨r1,r2,r3,r4,r5⟩:=round_eq hO (partitionEqual_holds lt) hv.1 hp1 hp2 (by omega) HB4.out hv.2 hx;rw[hx] at hc;have R4:Hid _:=r4;have R5:Hid _:=r5;clear r4 r5 hx hv
           go_wp2_with fail
           refine hc.mono ?_;rintro e w2 ⟨rfl,hS2⟩;clear hc
           go_wp2_with fail
           go_roundg (b' - mid)
           case measure=>omega
           case rel=>exact ⟨mid,b',l2,wb,wp,d5,rfl,rfl,rfl,rfl,rfl,r2,hb',Nat.le_refl _,by omega,by omega,hS2,R4,(show Hid _ from fun R h1 h2=>HA4.out R (R5.out R h1 h2).1 (R5.out R h1 h2).2)⟩
          | false=>
           have hc:=Z89 H a' b' p d4 wc hS hp1 hp2 (by omega);obtain ⟨mid,ap,d5,hx⟩: ∃mid ap d5,partition lt d4 a' b' p=(mid,ap,d5):=⟨_,_,_,rfl⟩;obtain ⟨r1,r2,r3,r4,r5,r6,r7⟩:=round_part hO (partition_holds lt) hp1 hp2 (by omega) HB4.out hx;rw[hx] at hc;have R4:Hid _:=r4;have R5:Hid _:=r5;have R6:Hid _:=r6;have R7:Hid _:=r7;clear r4 r5 r6 r7 hx HV
           go_wp2_with fail
           refine hc.mono ?_;rintro e w2 ⟨rfl,hS2⟩;clear hc;by_cases h4:mid - a' < b' - mid
           {have h4z: (mid:Int) - (a':Int) < (b':Int) - (mid:Int):=by omega
            go_wp2_with fail
            refine (IH.out a' mid l2 d5 _ (by omega) hS2 (by omega) (by omega) (by omega) R4.out).mono ?_;rintro e w3 ⟨rfl,d6,q1,q2,hS3⟩;have Q:=R6.out d6 q1 q2;have Q1:Hid _:=Q;clear Q q1 q2
            go_wp2_with fail
            go_roundg (b' - (mid+1))
            case measure=>omega
            case rel=>exact ⟨mid+1,b',l2,_,ap,d6,by go_num,rfl,rfl,rfl,rfl,by omega,by omega,Nat.le_refl _,by omega,by omega,hS3,(show Hid _ from Q1.out.1),(show Hid _ from fun R h1 h2=>HA4.out R (Q1.out.2 R h1 h2).1 (Q1.out.2 R h1 h2).2)⟩}
           {have h4z: ¬(mid:Int) - (a':Int) < (b':Int) - (mid:Int):=by omega
            have hih:=IH.out (mid+1) b' l2 d5;rw[show ((mid+1:Nat):Int)=(mid:Int)+1 by omega] at hih
            go_wp2_with fail
            refine (hih _ (by omega) hS2 (by omega) (by omega) (by omega) R5.out).mono ?_;rintro e w3 ⟨rfl,d6,q1,q2,hS3⟩;have Q:=R7.out d6 q1 q2;have Q1:Hid _:=Q;clear Q q1 q2 hih
            go_wp2_with fail
            go_roundg (mid - a')
            case measure=>omega
            case rel=>exact ⟨a',mid,l2,_,ap,d6,rfl,rfl,rfl,rfl,rfl,by omega,by omega,Nat.le_refl _,by omega,by omega,hS3,(show Hid _ from Q1.out.1),(show Hid _ from fun R h1 h2=>HA4.out R (Q1.out.2 R h1 h2).1 (Q1.out.2 R h1 h2).2)⟩}}}
theorem Z9u (n:Nat) (hn:n < 1000000):bitsLen n<=20:=(bitsLen_le_iff n 20).2 (by omega)
theorem Z4q (H:Srt N B rv lt St) (hO:SWO lt) (mN: ∀w,Sem.run Tryd.prog (method (Tryd.prog.types.size+100) 92 rv "Len") w= .ok (115,rv) w)
 (hlen: ∀d w,St d w->Calls Tryd.prog 115 #[rv] w fun e w'=>e= .returned (.int .i64 (N:Int))/\St d w') (d:Array α) (w:World) (hH:St d w):
 Calls Tryd.prog 52 #[.iface 92 rv] w fun e w'=>e= .returned (.tuple #[])/\ ∃d',PermIn 0 N d d'/\SortedIn lt 0 N d'/\St d' w':=by
 have hbig:=H.big;have hsz:=H.size _ _ hH;have hb:=Z9u N hbig;by_cases h1:N<=1
 {have h1z: (N:Int)<=1:=by omega
  go_enter Tryd.func52,Tryd.ntmps52
  go_wp2_with fail
  refine (hlen d _ hH).mono ?_;rintro e w1 ⟨rfl,hS1⟩
  go_wp2_with fail
  (try simp only[Exit.inBlock,Exit.then]); refine bodyPost_ret (results_none rfl _ _ _) rfl ?_
  exact ⟨rfl,d,permIn_refl _ _ _,fun i j _ h2 h3=>absurd h3 (by omega),hS1⟩}
 {have h1z: ¬(N:Int)<=1:=by omega
  have wr:IntKind.u64.wrap (N:Int)=N:=by rw[IntKind.wrap_u64]; omega
  go_enter Tryd.func52,Tryd.ntmps52
  go_wp2_with fail
  refine (hlen d _ hH).mono ?_;rintro e w1 ⟨rfl,hS1⟩
  go_wp2_with fail
  refine (Z4Z N (by omega) _).mono ?_;rintro e w2 ⟨rfl,rfl⟩
  go_wp2_with fail
  have hc:=Z9t H hO (N+1) 0 N (bitsLen N) d _ (by omega) hS1 (by omega) (by omega) (by omega) (Or.inl rfl);refine hc.mono ?_;rintro e w3 ⟨rfl,d',q1,q2,hS3⟩;clear hc
  go_wp2_with fail
  go_end0
  exact ⟨rfl,d',q1,q2,hS3⟩}
end
end Go.Proofs.YtchklpedlbkgaaaDoor
