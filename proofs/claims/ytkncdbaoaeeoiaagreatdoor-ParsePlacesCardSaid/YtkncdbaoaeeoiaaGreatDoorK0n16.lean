/- What the proofs of ParsePlaces want, part 16. -/
import Derived.Test.YtkncdbaoaeeoiaaGreatDoorK0n15
set_option linter.unusedVariables false
set_option linter.unusedSimpArgs false
set_option linter.unusedSectionVars false
set_option maxRecDepth 100000
set_option maxHeartbeats 16000000
namespace Go.Proofs.YtkncdbaoaeeoiaaGreatDoor
section
open Go.RowKit
def Decoded (ps:List Int) (rest:List UInt8) (w:World) (e:Ending) (w':World):Prop:=
 ∃(A:Option Addr) (cap:Nat) (zs:List Int) (f:Value),e= .returned (.tuple #[.slice A zs.length cap,f])/\Ints w' w'.heap.size A zs/\(A=none->zs.length=0/\cap=0)/\Below w.heap.size w w'/\
  ((rest= []/\zs=ps/\f= .agg #[.int .i64 0,.int .i64 0])\/(rest≠ []/\zs= []/\f= .agg #[.int .i64 30,.int .i64 (Utf.enc ps).length]))
theorem Z9T (s:ByteArray) (hs:s.size<=1000000000) (ps:List Int) (rest:List UInt8) (hR:Utf.Reads s.data.toList ps rest) (w:World):
 Calls Tryz.prog 150 #[.string s] w (Decoded ps rest w):=by
 have hz:=Y1 (Lib.size_eq s);obtain ⟨i0,hi,hz0,hz1,hz2⟩:=info_parts (P:=Tryz.prog) (e:=3) (z:= .int .i64 0) (size:=1) (bytes:=8) (by kernel_rfl);have hcount:ps.length<=s.size:=by
  have h1:=Utf.Zca ps;have h2:=(Utf.Z3d hR).2;rw[<-hz.out] at h2;omega
 go_enter Tryz.func150,Tryz.ntmps150
 go_wp2_with fail
 generalize hW1:w.alloc (Obj.cells #[Value.int IntKind.i64 0,Value.int IntKind.i64 0] 29)=W1;have hf0:Below w.heap.size w W1:=by rw[<-hW1]; exact Y2.alloc (Nat.le_refl _) _
 have hf1:w.heap.size < W1.heap.size:=by rw[<-hW1]; simp
 have HC:Hid (W1.cell? ⟨w.heap.size,0,none⟩=some (.int .i64 0)/\W1.cell? ⟨w.heap.size,1,none⟩=some (.int .i64 0)/\W1.frozen? ⟨w.heap.size,0,none⟩=false/\W1.frozen? ⟨w.heap.size,1,none⟩=false):=by
  rw[<-hW1];exact Y1 ⟨by simp[go_sem],by simp[go_sem],by simp[go_sem],by simp[go_sem]⟩
 clear hW1
 go_loopw [4,5] (fun v i wr=> ∃k a:Nat,i= .int .i64 a/\k<=ps.length/\Hid (a=(Utf.enc (ps.take k)).length)/\wr.ownsRow W1.heap.size 3 1 v k ((ps.take k).map (Value.int .i64))/\Below W1.heap.size W1 wr)
  (fun _ i _=>s.size - (intOf i).toNat)
 case atStart=>exact ⟨0,0,rfl,Nat.zero_le _,Y1 rfl,World.ownsRow_nil _ _ _ _,Below.refl _ _⟩
 case round=>
  obtain ⟨k,a,rfl,hk,HA,hown,hb⟩:=hrel;have hsz:=hb.size;by_cases hlt:k < ps.length
  {obtain ⟨h1,h2,h3⟩:=Utf.ZdK hR k hlt;rw[<-HA.out] at h1 h3;rw[<-hz.out] at h3;obtain ⟨hw1,hw2⟩:=Utf.Z0O ps[k];have hak:a < s.size:=by omega
   obtain ⟨x,hx⟩: ∃x,x=ps[k]:=⟨_,rfl⟩;have HX:=Y1 hx;rw[<-hx] at h1 h2 h3 hw1 hw2;have HN:Hid (a+Utf.width x=(Utf.enc (ps.take (k+1))).length):=Y1 (by rw[h2,List.length_append,Utf.Z0c, <-HA.out]);have H1:=Y1 h1;clear h1 h2 hx;obtain ⟨r,hsl,hr1,hr2,hr3,_,_⟩:=Zao s a hak;have HR1:=Y1 hr1;clear hr1;have hd0: ((Utf.width x:Int)==0)=false:=by rw[beq_eq_false_iff_ne]; omega
   have HT:Hid ((ps.take (k+1)).map (Value.int .i64)=(ps.take k).map (Value.int .i64)++ [.int .i64 x]):=Y1 (by rw[List.take_succ_eq_append_getElem hlt,List.map_append,HX.out]; rfl)
   go_wp2_with fail
   refine (Z6g r hr3 (by omega) _).mono ?_;rintro e w2 ⟨he,rfl⟩;have hown2:=hown;have hb3:=hb;have hsz3:=hsz;rw[HR1.out,H1.out,duo] at he;subst he
   go_wp2_with (at_builtin; refine wpList_append_own _ rfl _ _ 134 rfl W1.heap.size 3 i0 (.int .i64 0) 1 8 Tryz.underlying134 hi hz0 hz1 hz2 rfl (by decide) _ _ _ rfl (hown2.alloc _) ⟨wr.heap.size,0,none⟩ 1 1 [.int .i64 x] rfl rfl ?c1 ?c2 ?c3 ?c4 ?c5 ?_)
   case c1=>
    intro i u hu
    match i,hu with
    | 0,hu=>simp at hu; subst hu; simp[Addr.add]
   case c2=>intro u hu; simp at hu; subst hu; rfl
   case c3=>unfold maxLen; omega
   case c4=>omega
   case c5=>simp; omega
   intro v' w3 hown3 hgrow _;go_wp2
   go_roundw
   case rel=>
    refine ⟨k+1,a+Utf.width x,by go_num,by omega,HN, ?_,(hb3.alloc hsz3 _).grown hgrow (by simp; omega) (fun k hk=>(hown2.lt k hk).1)⟩;rw[HT.out,List.map_take];exact hown3
   case measure=>simp[intOf]; omega}
  {have hkl:k=ps.length:=by omega
   have HP:Hid (ps.take k=ps):=Y1 (List.take_of_length_le (by omega));rw[HP.out] at HA hown;obtain ⟨h1,h2⟩:=Utf.Z3d hR;rw[<-hz.out, <-HA.out] at h2;rw[<-HA.out] at h1;have H1:=Y1 h1;clear h1;by_cases hrest:rest= []
   {have hae: ¬a < s.size:=by rw[hrest,List.length_nil] at h2; omega
    obtain ⟨hc0,hc2⟩:=Z04 (o:=0) hb hf1;obtain ⟨hc1,hc3⟩:=Z04 (o:=1) hb hf1;obtain ⟨g0,g1,g2,g3⟩:=HC.out;rw[g0] at hc0;rw[g1] at hc1;rw[g2] at hc2;rw[g3] at hc3;obtain ⟨A,cap,hv,hI,hAn⟩:=Z9C (ownsRow_setCell_below (a:=⟨w.heap.size,1,none⟩) (ownsRow_setCell_below (a:=⟨w.heap.size,0,none⟩) hown hf1 (.int .i64 0)) hf1 (.int .i64 0));subst hkl;clear g0 g1 g2 g3;go_wp2;refine bodyPost_ret (v:= .tuple #[.slice A ps.length cap,.agg #[.int .i64 0,.int .i64 0]]) (by simp[results,Tryz.results150,go_sem,hv,hc0,hc1]) rfl ?_;have hbb:Below w.heap.size w wr:=hf0.trans (hb.mono (Nat.le_of_lt hf1));have hb2:Below w.heap.size w ((wr.setCell ⟨w.heap.size,0,none⟩ (.int .i64 0)).setCell ⟨w.heap.size,1,none⟩ (.int .i64 0)):=(hbb.setCell (Nat.le_refl _) _).setCell (Nat.le_refl _) _;exact ⟨A,cap,ps,_,rfl,hI,hAn,hb2,Or.inl ⟨hrest,rfl,rfl⟩⟩}
   {have hae:a < s.size:=by have:=List.length_pos_iff.2 hrest; omega
    obtain ⟨r,hsl,hr1,hr2,hr3,_,_⟩:=Zao s a hae;have HR1:=Y1 hr1;clear hr1
    go_wp2_with fail
    refine (Z6g r hr3 (by omega) _).mono ?_;rintro e w2 ⟨he,rfl⟩;have hb3:=hb;rw[HR1.out,H1.out,duo] at he;subst he;obtain ⟨hc0,hc2⟩:=Z04 (o:=0) hb3 hf1;obtain ⟨hc1,hc3⟩:=Z04 (o:=1) hb3 hf1;obtain ⟨g0,g1,g2,g3⟩:=HC.out;rw[g0] at hc0;rw[g1] at hc1;rw[g2] at hc2;rw[g3] at hc3;clear g0 g1 g2 g3;go_wp2;refine bodyPost_ret (v:= .tuple #[.slice none 0 0,.agg #[.int .i64 30,.int .i64 a]]) (by simp[results,Tryz.results150,go_sem,hc0,hc1]) rfl ?_;have hbb:Below w.heap.size w wr:=hf0.trans (hb3.mono (Nat.le_of_lt hf1));refine ⟨none,0,[],_,rfl,Or.inl rfl,fun _=>⟨rfl,rfl⟩,(hbb.setCell (Nat.le_refl _) _).setCell (Nat.le_refl _) _,Or.inr ⟨hrest,rfl,by rw[HA.out]⟩⟩}}
end
end Go.Proofs.YtkncdbaoaeeoiaaGreatDoor
namespace Lex
theorem ZaD {p:UInt8->Bool} {l:List UInt8} {k:Nat} (h1:k<=l.length) (h2: ∀j (hj:j < l.length),j < k->p (l[j]'hj)=true) (h3: ∀(h:k < l.length),p (l[k]'h)=false):l.take k=l.takeWhile p:=by
 have h:=Z52 h1 h2 h3;have:=(Z1g p l).2;rw[h] at this;exact this
end Lex
namespace Go.Proofs.YtkncdbaoaeeoiaaGreatDoor
open Go.RowKit
section
variable (g : Nat) (s : List UInt8) (i : Nat) (hi : i <= s.length) (hs : s.length <= 1000000) (w : World) (h : ScanAt w g s i)
include g s i hi hs w h
theorem ZbC:
 Calls Tryz.prog 153 #[.pointer (some ⟨g,0,none⟩),.func (.func 154) #[] #[]] w fun e w'=>e= .returned (.string ⟨((s.drop i).takeWhile Lex.nameB).toArray⟩)/\ ∃n,w'=w.drewN n:=by
 have hz: (⟨s.toArray⟩:ByteArray).size=s.length:=Z07 _;obtain ⟨hlt,c0,c1,f1,f2⟩:=h;go_enter Tryz.func153,Tryz.ntmps153
 go_wp2_with fail
 go_loopw [5] (fun ii wr=> ∃k:Nat,ii= .int .i64 ((i+k:Nat):Int)/\i+k<=s.length/\Hid (∀j (hj:j < (s.drop i).length),j < k->Lex.nameB ((s.drop i)[j]'hj)=true)/\w=wr)
  (fun ii _=>s.length - (intOf ii).toNat)
 case atStart=>exact ⟨0,by simp,by omega,Y1 (fun j _ hj=>absurd hj (by omega)),rfl⟩
 case round=>
  obtain ⟨k,rfl,hk,HN,rfl⟩:=hrel;have hdl: (s.drop i).length=s.length - i:=List.length_drop;have HDL:=Y1 hdl;clear hdl;obtain ⟨n,hn⟩: ∃n,n=i+k:=⟨_,rfl⟩;rw[<-hn] at hk ⊢;have HNN:=Y1 hn;clear hn;have stop: (∀h:n < s.length,Lex.nameB (s[n]'h)=false)->Hid (((s.drop i).take (n - i))=(s.drop i).takeWhile Lex.nameB):=fun h=>Y1 (by
   have e:=HNN.out;have e2:=HDL.out;refine Lex.ZaD (by omega) (fun j hj hjk=>HN.out j hj (by omega)) (fun hj=> ?_);rw[List.getElem_drop];have:i+(n - i)=n:=by omega
   simp only[this];exact h (by omega))
  by_cases hlt':n < s.length
  {have hi1: (n:Int) < (s.length:Int):=by omega
   obtain ⟨c,hc⟩: ∃c,c=s[n]'hlt':=⟨_,rfl⟩;have hidx: ∀W,(Instr.index 9 (.string ⟨s.toArray⟩) (.int .i64 (n:Int))).run Tryz.prog W= .ok (.int .u8 c.toNat) W:=fun W=>by
    rw[hc]; exact Z0i ⟨s.toArray⟩ n (by omega) W
   have HC:=Y1 hc;clear hc;cases hb:Lex.nameB c
   {have HS:=stop (fun _=>by rw[<-HC.out]; exact hb);have hsl: ∀W,(Instr.slice 9 (.string ⟨s.toArray⟩) (some (.int .i64 (i:Int))) (some (.int .i64 (n:Int))) none).run Tryz.prog W= .ok (.string ⟨((s.drop i).takeWhile Lex.nameB).toArray⟩) W:=fun W=>by
     rw[Z1i ⟨s.toArray⟩ i (n:Int) (by have:=HNN.out; omega) (by omega) W,Int.toNat_natCast];exact congrArg (fun b=>Result.ok (Value.string ⟨List.toArray b⟩) W) HS.out
    have hin: (i:Int)<=(n:Int):=by have:=HNN.out; omega
    have hn2: (n:Int)<=(s.length:Int):=by omega
    clear stop
    go_wp2_with fail
    refine (Z2w c _).mono ?_;rintro e w2 ⟨rfl,rfl⟩;rw[hb]
    go_wp2_with fail
    go_quiet (fail)
    go_wp2;go_ret;exact ⟨rfl,_,rfl⟩}
   {have HN2:Hid (∀j (hj:j < (s.drop i).length),j < k+1->Lex.nameB ((s.drop i)[j]'hj)=true):=Y1 (fun j hj hji=>by
     rcases Nat.lt_succ_iff_lt_or_eq.1 hji with h' | h'
     {exact HN.out j hj h'}
     · have e:=HNN.out
       rw[List.getElem_drop];have:i+j=n:=by omega
       simp only[this];rw[<-HC.out]; exact hb)
    clear stop
    go_wp2_with fail
    refine (Z2w c _).mono ?_;rintro e w2 ⟨rfl,rfl⟩;rw[hb];go_wp2
    go_roundw
    case rel=>exact ⟨k+1,by rw[HNN.out]; go_num,by have:=HNN.out; omega,HN2,trivial⟩
    case measure=>simp[intOf]; omega}}
  {have hi1: ¬(n:Int) < (s.length:Int):=by omega
   have HS:=stop (fun h=>absurd h hlt');have hsl: ∀W,(Instr.slice 9 (.string ⟨s.toArray⟩) (some (.int .i64 (i:Int))) (some (.int .i64 (n:Int))) none).run Tryz.prog W= .ok (.string ⟨((s.drop i).takeWhile Lex.nameB).toArray⟩) W:=fun W=>by
    rw[Z1i ⟨s.toArray⟩ i (n:Int) (by have:=HNN.out; omega) (by omega) W,Int.toNat_natCast];exact congrArg (fun b=>Result.ok (Value.string ⟨List.toArray b⟩) W) HS.out
   have hin: (i:Int)<=(n:Int):=by have:=HNN.out; omega
   have hn2: (n:Int)<=(s.length:Int):=by omega
   clear stop
   go_wp2_with fail
   go_quiet (fail)
   go_wp2;go_ret;exact ⟨rfl,_,rfl⟩}
theorem ZbD:
 Calls Tryz.prog 153 #[.pointer (some ⟨g,0,none⟩),.func (.func 156) #[] #[]] w fun e w'=>e= .returned (.string ⟨((s.drop i).takeWhile Lex.lumpB).toArray⟩)/\ ∃n,w'=w.drewN n:=by
 have hz: (⟨s.toArray⟩:ByteArray).size=s.length:=Z07 _;obtain ⟨hlt,c0,c1,f1,f2⟩:=h;go_enter Tryz.func153,Tryz.ntmps153
 go_wp2_with fail
 go_loopw [5] (fun ii wr=> ∃k:Nat,ii= .int .i64 ((i+k:Nat):Int)/\i+k<=s.length/\Hid (∀j (hj:j < (s.drop i).length),j < k->Lex.lumpB ((s.drop i)[j]'hj)=true)/\w=wr)
  (fun ii _=>s.length - (intOf ii).toNat)
 case atStart=>exact ⟨0,by simp,by omega,Y1 (fun j _ hj=>absurd hj (by omega)),rfl⟩
 case round=>
  obtain ⟨k,rfl,hk,HN,rfl⟩:=hrel;have hdl: (s.drop i).length=s.length - i:=List.length_drop;have HDL:=Y1 hdl;clear hdl;obtain ⟨n,hn⟩: ∃n,n=i+k:=⟨_,rfl⟩;rw[<-hn] at hk ⊢;have HNN:=Y1 hn;clear hn;have stop: (∀h:n < s.length,Lex.lumpB (s[n]'h)=false)->Hid (((s.drop i).take (n - i))=(s.drop i).takeWhile Lex.lumpB):=fun h=>Y1 (by
   have e:=HNN.out;have e2:=HDL.out;refine Lex.ZaD (by omega) (fun j hj hjk=>HN.out j hj (by omega)) (fun hj=> ?_);rw[List.getElem_drop];have:i+(n - i)=n:=by omega
   simp only[this];exact h (by omega))
  by_cases hlt':n < s.length
  {have hi1: (n:Int) < (s.length:Int):=by omega
   obtain ⟨c,hc⟩: ∃c,c=s[n]'hlt':=⟨_,rfl⟩;have hidx: ∀W,(Instr.index 9 (.string ⟨s.toArray⟩) (.int .i64 (n:Int))).run Tryz.prog W= .ok (.int .u8 c.toNat) W:=fun W=>by
    rw[hc]; exact Z0i ⟨s.toArray⟩ n (by omega) W
   have HC:=Y1 hc;clear hc;cases hb:Lex.lumpB c
   {have HS:=stop (fun _=>by rw[<-HC.out]; exact hb);have hsl: ∀W,(Instr.slice 9 (.string ⟨s.toArray⟩) (some (.int .i64 (i:Int))) (some (.int .i64 (n:Int))) none).run Tryz.prog W= .ok (.string ⟨((s.drop i).takeWhile Lex.lumpB).toArray⟩) W:=fun W=>by
     rw[Z1i ⟨s.toArray⟩ i (n:Int) (by have:=HNN.out; omega) (by omega) W,Int.toNat_natCast];exact congrArg (fun b=>Result.ok (Value.string ⟨List.toArray b⟩) W) HS.out
    have hin: (i:Int)<=(n:Int):=by have:=HNN.out; omega
    have hn2: (n:Int)<=(s.length:Int):=by omega
    clear stop
    go_wp2_with fail
    refine (Z5m c _).mono ?_;rintro e w2 ⟨rfl,rfl⟩;rw[hb]
    go_wp2_with fail
    go_quiet (fail)
    go_wp2;go_ret;exact ⟨rfl,_,rfl⟩}
   {have HN2:Hid (∀j (hj:j < (s.drop i).length),j < k+1->Lex.lumpB ((s.drop i)[j]'hj)=true):=Y1 (fun j hj hji=>by
     rcases Nat.lt_succ_iff_lt_or_eq.1 hji with h' | h'
     {exact HN.out j hj h'}
     · have e:=HNN.out
       rw[List.getElem_drop];have:i+j=n:=by omega
       simp only[this];rw[<-HC.out]; exact hb)
    clear stop
    go_wp2_with fail
    refine (Z5m c _).mono ?_;rintro e w2 ⟨rfl,rfl⟩;rw[hb];go_wp2
    go_roundw
    case rel=>exact ⟨k+1,by rw[HNN.out]; go_num,by have:=HNN.out; omega,HN2,trivial⟩
    case measure=>simp[intOf]; omega}}
  {have hi1: ¬(n:Int) < (s.length:Int):=by omega
   have HS:=stop (fun h=>absurd h hlt');have hsl: ∀W,(Instr.slice 9 (.string ⟨s.toArray⟩) (some (.int .i64 (i:Int))) (some (.int .i64 (n:Int))) none).run Tryz.prog W= .ok (.string ⟨((s.drop i).takeWhile Lex.lumpB).toArray⟩) W:=fun W=>by
    rw[Z1i ⟨s.toArray⟩ i (n:Int) (by have:=HNN.out; omega) (by omega) W,Int.toNat_natCast];exact congrArg (fun b=>Result.ok (Value.string ⟨List.toArray b⟩) W) HS.out
   have hin: (i:Int)<=(n:Int):=by have:=HNN.out; omega
   have hn2: (n:Int)<=(s.length:Int):=by omega
   clear stop
   go_wp2_with fail
   go_quiet (fail)
   go_wp2;go_ret;exact ⟨rfl,_,rfl⟩}
end
theorem Z4O (g:Nat) (s:List UInt8) (i:Nat) (w:World) (h:ScanAt w g s i):
 Y9 121 #[.pointer (some ⟨g,0,none⟩)] w (.agg #[.int .i64 60,.int .i64 (i:Int)]):=by
 have hb:=Z01 w (.cells Yc 29);obtain ⟨hlt,c0,c1,f1,f2⟩:=h;go_enter Tryz.func121,Tryz.ntmps121;go_wp2;refine bodyPost_ret (v:= .agg #[.int .i64 60,.int .i64 (i:Int)]) (by simp[results,Tryz.results121,go_sem]) rfl ?_;exact ⟨rfl,Z01 _ _⟩
def faultV (ps:List Int) (rest:List UInt8) (i:Nat):Value:=if rest= [] then .agg #[.int .i64 0,.int .i64 0] else .agg #[.int .i64 30,.int .i64 ((i+(Utf.enc ps).length:Nat):Int)]
theorem Z4P (g:Nat) (s:List UInt8) (i n:Nat) (hi:i<=s.length) (hs:s.length<=1000000) (hn:n<=1000000) (ps:List Int) (rest:List UInt8) (hR:Utf.Reads ((s.drop i).take n) ps rest) (w:World) (h:ScanAt w g s i):
 Y9 119 #[.pointer (some ⟨g,0,none⟩),.int .i64 (n:Int)] w (faultV ps rest i):=by
 have HX:=Y1 (Z0L w 0 0);have hb0:=Z01 w (.cells Yc 29);have HS:=Y1 (h.keep h.lt hb0);have HB0:=Y1 hb0;have hglt:g < w.heap.size:=h.lt;have hle: (Utf.enc ps).length<=1000000:=by
  have:=(Utf.Z3d hR).2;rw[List.length_take,List.length_drop] at this; omega
 have HR:=Y1 hR;clear h hb0 hR;go_enter Tryz.func119,Tryz.ntmps119
 go_wp2_with fail
 generalize hW:w.alloc (.cells Yc 29)=W0 at HX HB0 HS ⊢;clear hW
 go_wp2_with fail
 refine (Z1J g s i n hi hs hn _ HS.out).mono ?_;rintro e w2 ⟨rfl,nq,rfl⟩
 go_wp2_with fail
 refine (Z9T ⟨((s.drop i).take n).toArray⟩ (by rw[Z07,List.length_take]; omega) ps rest HR.out _).mono ?_;rintro e w3 ⟨A,cap,zs,f,rfl,_,_,hb3,hcase⟩;have hb3':Below W0.heap.size W0 w3:=(Z0g W0 nq).trans (hb3.mono (Nat.le_refl _));have HB3:=Y1 (Z00 HB0.out hb3');have HX3:=Y1 (HX.out.keep (B:=W0.heap.size) HX.out.1 hb3');have HS3:=Y1 (HS.out.keep HS.out.lt hb3');clear hb3 hb3' HX HS HR;rcases hcase with ⟨hr,_,rfl⟩ | ⟨hr,_,rfl⟩
 {have HF:Hid (faultV ps rest i= .agg #[.int .i64 0,.int .i64 0]):=Y1 (by unfold faultV; rw[if_pos hr]);have hbn:=Z03 HB3.out (.cells Yc 29);obtain ⟨q0,x0,x1,y0,y1⟩:=HX3.out;clear hr;go_wp2;refine bodyPost_ret (v:= .agg #[.int .i64 0,.int .i64 0]) (by simp[results,Tryz.results119,go_sem,x0,x1,q0]) rfl ?_;exact ⟨by rw[HF.out],((HB3.out.setCell (p:=⟨w.heap.size,0,none⟩) (Nat.le_refl _) _).setCell (p:=⟨w.heap.size,1,none⟩) (Nat.le_refl _) _).alloc (by have:=HB3.out.size; simp; omega) _⟩}
 {have HF:Hid (faultV ps rest i= .agg #[.int .i64 30,.int .i64 ((i+(Utf.enc ps).length:Nat):Int)]):=Y1 (by unfold faultV; rw[if_neg hr]);have hbn:=Z03 HB3.out (.cells #[.int .i64 30,.int .i64 (Utf.enc ps).length] 29);obtain ⟨m,hm⟩: ∃m,m=(Utf.enc ps).length:=⟨_,rfl⟩;rw[<-hm] at HF hle hbn ⊢;obtain ⟨q0,x0,x1,y0,y1⟩:=HX3.out;obtain ⟨hlt,c0,c1,f1,f2⟩:=HS3.out;have hne:w.heap.size≠w3.heap.size:=by omega
  have hne2:g≠w3.heap.size:=by omega
  have hne3:g≠w.heap.size:=by omega
  clear hr hm
  go_wp2_with fail
  go_region
  go_wp2;refine bodyPost_ret (v:= .agg #[.int .i64 30,.int .i64 ((m:Int)+(i:Int))]) (by simp[results,Tryz.results119,go_sem,x0,x1,q0]) rfl ?_;exact ⟨by rw[HF.out,show ((i+m:Nat):Int)=(m:Int)+(i:Int) by omega],(((HB3.out.setCell (p:=⟨w.heap.size,0,none⟩) (Nat.le_refl _) _).setCell (p:=⟨w.heap.size,1,none⟩) (Nat.le_refl _) _).alloc (by have:=HB3.out.size; simp; omega) _).drew⟩}
end Go.Proofs.YtkncdbaoaeeoiaaGreatDoor
namespace Go.Proofs.YtkncdbaoaeeoiaaGreatDoor
section
open Go.RowKit
def cellsT (l:List Tk):List Value:=l.flatMap fun b=> [.int .i64 b.t.kind,.string ⟨b.t.text.toArray⟩,.int .i64 b.at_]
theorem Z3v (l:List Tk) (b:Tk):cellsT (l++ [b])=cellsT l++ [.int .i64 b.t.kind,.string ⟨b.t.text.toArray⟩,.int .i64 b.at_]:=by simp[cellsT]
theorem Z7d: ∀(l:List Tk) (i:Nat) (h:i < l.length),(cellsT l)[i * 3]? =some (.int .i64 (l[i]'h).t.kind)/\(cellsT l)[i * 3+1]? =some (.string ⟨(l[i]'h).t.text.toArray⟩)/\(cellsT l)[i * 3+2]? =some (.int .i64 (l[i]'h).at_)
 | [],i,h=>by simp at h
 | b::r,0,_=>⟨rfl,rfl,rfl⟩
 | b::r,i+1,h=>by
  have ih:=Z7d r i (by simpa using h);have e: ∀k,(cellsT (b::r))[(i+1) * 3+k]? =(cellsT r)[i * 3+k]? :=fun k=>by
   rw[show (i+1) * 3+k=i * 3+k+3 from by omega];simp[cellsT]
  have e0:=e 0;simp only[Nat.add_zero] at e0;rw[e0,e 1,e 2];exact ih
theorem ZbE {w:World} {B:Nat} {v:Value} {l:List Tk} (h:w.ownsRow B 54 3 v l.length (cellsT l)): ∃A cap,v= .slice A l.length cap/\l.length<=cap/\Tks w w.heap.size A l:=by
 rcases h.2 with ⟨rfl,h0⟩ | ⟨g,cap,cur,rfl,hB,hh,hc,_⟩
 {exact ⟨none,0,by rw[h0],by omega,Or.inl h0⟩}
 {refine ⟨_,_,rfl,hc,Or.inr ⟨g,0,rfl,(h.lt g rfl).2,fun i hi=> ?_⟩⟩;obtain ⟨c0,c1,c2⟩:=Z7d l i hi;rw[Nat.zero_add];exact ⟨(h.cellAt _ (by omega)).trans c0,(h.cellAt _ (by omega)).trans c1,(h.cellAt _ (by omega)).trans c2⟩}
theorem ZbF (W:World) (a b:Int) (s:ByteArray) (g:Nat) (hg:g=W.heap.size): ∀j u,([.int .i64 a,.string s,.int .i64 b]:List Value)[j]? =some u->
 (W.alloc (.cells #[.int .i64 a,.string s,.int .i64 b] 54)).cell? ((⟨g,0,none⟩:Addr).add j)=some u:=by
 subst hg;exact World.news_of_block (heap_alloc_new W _)
theorem one3 {a b:Int} {s:ByteArray}: ∀u∈([.int .i64 a,.string s,.int .i64 b]:List Value),u.oneCell'=true:=by
 intro u hu;simp at hu;rcases hu with rfl | rfl | rfl <;> rfl
theorem Z2n {w:World} {B B':Nat} {e:TypeId} {size:Nat} {v:Value} {n:Nat} {xs:List Value} (h:w.ownsRow B e size v n xs) (hB:B'<=B):w.ownsRow B' e size v n xs:=by
 obtain ⟨h1,h2⟩:=h;refine ⟨h1, ?_⟩;rcases h2 with h2 | ⟨g,cap,cur,r1,r2,r⟩
 {exact Or.inl h2}
 {exact Or.inr ⟨g,cap,cur,r1,Nat.le_trans hB r2,r⟩}
theorem Z23 {w w':World} {B:Nat} {e:TypeId} {size:Nat} {v:Value} {n:Nat} {xs:List Value} (h:w.ownsRow B e size v n xs) (hb:Below w.heap.size w w'):w'.ownsRow B e size v n xs:=
 h.kept (Z2e hb (Nat.le_refl _) none) (by
  rcases hq:v.ownBlock with _ | x
  {exact Or.inl rfl}
  · exact Or.inr (by simp))
structure ScanT (W:World) (g B:Nat) (s:List UInt8) (i:Nat) (v:Value) (l:List Tk):Prop where
 at_:ScanAt W g s i
 c2:W.cell? ⟨g,2,none⟩=some v
 own:W.ownsRow B 54 3 v l.length (cellsT l)
 le:B<=W.heap.size
def UpdT (g:Nat) (v:Value) (w w':World):Prop:=Below g w w'/\ ∀b o,b < w.heap.size->b≠g->some b≠v.ownBlock->w'.cell? ⟨b,o,none⟩=w.cell? ⟨b,o,none⟩/\w'.frozen? ⟨b,o,none⟩=w.frozen? ⟨b,o,none⟩
theorem Zdd {w w1:World} {o:Obj} {row:Option Nat} (hg: (w.drew.alloc o).grownBy w1 row) {g:Nat} (hlt:g < w.heap.size) (hne:some g≠row) (j:Nat):
 w1.cell? ⟨g,j,none⟩=w.cell? ⟨g,j,none⟩/\w1.frozen? ⟨g,j,none⟩=w.frozen? ⟨g,j,none⟩:=by
 have hl2:g < (w.drew.alloc o).heap.size:=by simp; omega
 have hb:=Z01 w.drew o;exact ⟨(hg.cell_far ⟨g,j,none⟩ hl2 hne).trans (hb.cell (p:=⟨g,j,none⟩) hlt),(hg.frozen_far ⟨g,j,none⟩ hl2 hne).trans (hb.frozen (p:=⟨g,j,none⟩) hlt)⟩
theorem Z4Q (g B:Nat) (hgB:g < B) (s:List UInt8) (i:Nat) (v:Value) (l:List Tk) (hl:l.length<=1000000) (k:Int) (t:List UInt8) (n:Nat) (hn:i+n<=1000000) (w:World) (h:ScanT w g B s i v l):
 Calls Tryz.prog 62 #[.pointer (some ⟨g,0,none⟩),.int .i64 k,.string ⟨t.toArray⟩,.int .i64 (n:Int)] w fun e w'=>e= .returned (.tuple #[])/\(∃v',ScanT w' g B s (i+n) v' (l++ [⟨⟨k,t⟩,i⟩])/\ ∀x,v'.ownBlock=some x->v.ownBlock=some x\/w.heap.size<=x)/\UpdT g v w w':=by
 obtain ⟨i0,hi,hz0,hz1,hz2⟩:=info_parts (P:=Tryz.prog) (e:=54) (z:= .agg #[.int .i64 0,.string ByteArray.empty,.int .i64 0]) (size:=3) (bytes:=32) (by kernel_rfl);obtain ⟨⟨hlt,c0,c1,f1,f2⟩,c2,hown,hle⟩:=h;have HO:=Y1 hown;have hne:some g≠v.ownBlock:=fun e=>by have:=(hown.lt g e.symm).1; omega
 have HNE:=Y1 hne;clear hown;go_enter Tryz.func62,Tryz.ntmps62
 go_wp2_with fail
 have mixed:Tryz.prog.follows .mixedOrders=true:=by kernel_rfl
 go_region_law ((refine step_append_lies _ rfl _ _ 36 rfl B 54 i0 (.agg #[.int .i64 0,.string ByteArray.empty,.int .i64 0]) 3 32 Tryz.underlying36 hi hz0 hz1 hz2 rfl (by decide) v _ _ (by simp[Act.eval]) (HO.out.alloc _) ⟨w.heap.size,0,none⟩ 1 1 [.int .i64 k,.string ⟨t.toArray⟩,.int .i64 (i:Int)] (by simp[Act.eval]) rfl (ZbF _ _ _ _ _ rfl) one3 (by decide) (by unfold maxLen; omega) (by omega) (by simp; omega) _ rfl ?_); intro g1 cap w1 hown1 hgrow hat hlt1; have HF:=Y1 (Zdd hgrow hlt hne); have d1:=(HF.out 1).1.trans c1; have d2:=(HF.out 2).1.trans c2; have d0:=(HF.out 0).1.trans c0; have e1:=(HF.out 1).2.trans f1; have e2:=(HF.out 2).2.trans f2; have HG:=Y1 hgrow; have HW:=Y1 hown1; clear hown1 hgrow)
 all_goals
  go_wp2;refine bodyPost_end (v:= .tuple #[]) (by simp[results,Tryz.results62,go_sem]) rfl ?_;have hBw1:B<=w1.heap.size:=by have:=HG.out.size; simp at this; omega
  have hb1:Below g w w1:=(((Below.refl _ w).alloc (Nat.le_of_lt hlt) _).drew).grown HG.out (by simp; omega) (fun k hk=>by have:=(HO.out.lt k hk).1; omega);have hg1:B<=g1:=(HW.out.lt g1 rfl).1;refine ⟨rfl,⟨.slice (some ⟨g1,0,none⟩) (l.length+1) cap,⟨⟨?_, ?_, ?_, ?_, ?_⟩, ?_, ?_, ?_⟩, ?_⟩, ?_, ?_⟩
  {simp; omega}
  {simp[go_sem,d0]}
  {simp[go_sem,d1]}
  {simp[go_sem,e1]}
  {simp[go_sem]; exact (HF.out 2).2.trans f2}
  {simp[go_sem,d2]}
  {rw[Z3v,List.length_append];exact ownsRow_setCell_below (a:=⟨g,1,none⟩) (ownsRow_setCell_below (a:=⟨g,2,none⟩) HW.out hgB _) hgB _}
  {simpa using hBw1}
  {intro x hx;obtain rfl:g1=x:=by simpa[Value.ownBlock] using hx
   rcases hat with h | h
   {exact Or.inl h}
   {right; rw[h]; simp}}
  {exact (hb1.setCell (p:=⟨g,2,none⟩) (Nat.le_refl _) _).setCell (p:=⟨g,1,none⟩) (Nat.le_refl _) _}
  {intro b o hb hbg hbv;have:=Zdd HG.out hb hbv o;rw[<-this.1, <-this.2];refine ⟨?_, ?_⟩
   {rw[World.cell?_setCell_other _ _ _ _ (fun e=>hbg (congrArg Addr.block e).symm),World.cell?_setCell_other _ _ _ _ (fun e=>hbg (congrArg Addr.block e).symm)]}
   {simp[go_sem]}}
end
end Go.Proofs.YtkncdbaoaeeoiaaGreatDoor
namespace Lex
theorem Zes (l:List UInt8): (Sem.cut 10 l).1=l.takeWhile (· !=10):=by
 induction l with
 | nil=>rfl
 | cons c r ih=>
  rw[Sem.cut];by_cases h:c=10
  {subst h; rfl}
  {have hp: (c !=10)=true:=by simpa using h
   rw[if_neg h,List.takeWhile_cons,if_pos hp, <-ih]}
def piece (l:List UInt8):Except (Int×Nat) (List Tok×Nat):=if hasRemark l then (match remark l.length l with
 | .error k=> .error (30,k)
 | .ok n=> .ok ([],n)) else match token l with
 | .error x=> .error x
 | .ok (t,n)=> .ok ([t],n)
def joinR (pre:List (Tok×Nat)):Except (Int×Nat) (List (Tok×Nat))->Except (Int×Nat) (List (Tok×Nat))
 | .error x=> .error x
 | .ok m=> .ok (pre++m)
theorem Z5v (a b:List (Tok×Nat)) (r:Except (Int×Nat) (List (Tok×Nat))):joinR a (joinR b r)=joinR (a++b) r:=by cases r <;> simp[joinR]
theorem Z4R (r:Except (Int×Nat) (List (Tok×Nat))):joinR [] r=r:=by cases r <;> simp[joinR]
theorem Z4d {l:List UInt8} (hl:l≠ []) (hb: ∀c∈l.head?,blank c=false) (i:Nat):match piece l with
 | .error (x,k)=>toks l i= .error (x,i+k)
 | .ok (ts,n)=>toks l i=joinR (ts.map fun t=>(t,i)) (toks (l.drop n) (i+n))/\1<=n/\n<=l.length/\ts.length<=1:=by
 unfold piece;cases hr:hasRemark l with
 | true=>
  rw[Z0y hb hr];obtain ⟨k,hk⟩: ∃k,l.length=k+1:=⟨l.length - 1,by have:=List.length_pos_iff.2 hl; omega⟩;cases hm:remark l.length l with
  | error k=>simp
  | ok n=>
   have h1:=Z1m _ _ _ hm;rw[hk] at hm;have h2:=Z0Q hr hm;simp only[if_true,List.map_nil,Z4R];exact ⟨trivial,h2,h1,Nat.zero_le _⟩
 | false=>
  rw[Z0G hl hb hr];cases ht:token l with
  | error x=>obtain ⟨x,k⟩:=x; simp
  | ok x=>
   obtain ⟨t,n⟩:=x;obtain ⟨h1,h2,_⟩:=Z0I ht;simp only[Bool.false_eq_true,if_false,List.map_cons,List.map_nil];refine ⟨?_,h1,h2,by simp⟩;cases toks (l.drop n) (i+n) <;> rfl
end Lex
namespace Go.Proofs.YtkncdbaoaeeoiaaGreatDoor
open Go.RowKit
theorem UpdT.of {g:Nat} {v:Value} {w w':World} (h:Below w.heap.size w w') (hg:g<=w.heap.size):UpdT g v w w':=
 ⟨h.mono hg,fun b o hb _ _=>⟨h.cell (p:=⟨b,o,none⟩) hb,h.frozen (p:=⟨b,o,none⟩) hb⟩⟩
theorem UpdT.trans {g:Nat} {v:Value} {a b c:World} (h:UpdT g v a b) (k:UpdT g v b c):UpdT g v a c:=
 ⟨h.1.trans k.1,fun x o hx h1 h2=>⟨(k.2 x o (Nat.lt_of_lt_of_le hx h.1.size) h1 h2).1.trans (h.2 x o hx h1 h2).1,(k.2 x o (Nat.lt_of_lt_of_le hx h.1.size) h1 h2).2.trans (h.2 x o hx h1 h2).2⟩⟩
theorem ScanT.keep {w w':World} {g B i:Nat} {s:List UInt8} {v:Value} {l:List Tk} (h:ScanT w g B s i v l) (hb:Below w.heap.size w w'):ScanT w' g B s i v l:=
 ⟨h.at_.keep h.at_.lt hb,(hb.cell (p:=⟨g,2,none⟩) h.at_.lt).trans h.c2,h.own.kept (Z2e hb (Nat.le_refl _) none) (by
  rcases hq:v.ownBlock with _ | x
  {exact Or.inl rfl}
  · exact Or.inr (by simp)),Nat.le_trans h.le hb.size⟩
def UpdB (g B:Nat) (w w':World):Prop:=Below g w w'/\ ∀b o,b < B->b≠g->w'.cell? ⟨b,o,none⟩=w.cell? ⟨b,o,none⟩/\w'.frozen? ⟨b,o,none⟩=w.frozen? ⟨b,o,none⟩
theorem UpdT.toB {w w':World} {g B i:Nat} {s:List UInt8} {v:Value} {l:List Tk} (h:ScanT w g B s i v l) (u:UpdT g v w w'):UpdB g B w w':=
 ⟨u.1,fun b o hb hne=>u.2 b o (Nat.lt_of_lt_of_le hb h.le) hne (fun e=>by have:=(h.own.lt b e.symm).1; omega)⟩
def StepE (g B:Nat) (s:List UInt8) (i:Nat) (v:Value) (l:List Tk) (r:Except (Int×Nat) (List Lex.Tok×Nat)) (w:World) (e:Ending) (w':World):Prop:=
 UpdT g v w w'/\match r with
 | .error (x,k)=>e= .returned (.agg #[.int .i64 x,.int .i64 ((i+k:Nat):Int)])
 | .ok (ts,n)=>e= .returned (.agg #[.int .i64 0,.int .i64 0])/\ ∃v',ScanT w' g B s (i+n) v' (l++ts.map fun t=>⟨t,(i:Int)⟩)/\ ∀x,v'.ownBlock=some x->v.ownBlock=some x\/w.heap.size<=x
theorem ScanAt.draw {w:World} {g i:Nat} {s:List UInt8} (h:ScanAt w g s i) (n:Nat):ScanAt (w.drewN n) g s i:=h.keep h.lt (Z0g w n)
theorem Z8E {s:List UInt8} {i:Nat} (hi:i < s.length):Lex.longest (s.drop i)=if Lex.letter (s[i]'hi) then (s.drop i).takeWhile Lex.nameB else if Lex.digit (s[i]'hi) then (s.drop i).takeWhile Lex.lumpB else if Lex.isSign ((s.drop i).take 2) then (s.drop i).take 2 else (s.drop i).take 1:=by
 have h:=List.drop_eq_getElem_cons hi;have h1: (s.drop i).take 1= [s[i]'hi]:=by rw[h]; rfl
 rw[h1]
 conv=>lhs; rw[h,Lex.Z37, <-h]
 rfl
theorem Z8F (g:Nat) (s:List UInt8) (i:Nat) (hi:i < s.length) (hs:s.length<=1000000) (w:World) (h:ScanAt w g s i):
 Y9 122 #[.pointer (some ⟨g,0,none⟩)] w (.string ⟨(Lex.longest (s.drop i)).toArray⟩):=by
 have HL:=Y1 (Z8E hi);have HF:=Y1 (Z3u g s i hi);obtain ⟨c,hc⟩: ∃c,c=s[i]'hi:=⟨_,rfl⟩;rw[<-hc] at HL HF;clear hc;have HS:=Y1 h;clear h;cases h1:Lex.letter c
 {cases h2:Lex.digit c
  {cases h3:Lex.isSign ((s.drop i).take 2)
   {have HR:Hid (Lex.longest (s.drop i)=(s.drop i).take 1):=Y1 (by rw[HL.out,h1,h2,h3]; rfl);clear HL;go_enter Tryz.func122,Tryz.ntmps122
    go_wp2_with fail
    refine (HF.out _ HS.out).mono ?_;rintro e w2 ⟨rfl,n1,rfl⟩
    go_wp2_with fail
    refine (Z0m c _).mono ?_;rintro e w2 ⟨rfl,rfl⟩;rw[h1]
    go_wp2_with fail
    refine (Z0z c _).mono ?_;rintro e w2 ⟨rfl,rfl⟩;rw[h2]
    go_wp2_with fail
    refine (Z1J g s i 2 (Nat.le_of_lt hi) hs (by decide) _ (HS.out.draw _)).mono ?_;rintro e w2 ⟨rfl,n2,rfl⟩
    go_wp2_with fail
    refine (Z1H _ _).mono ?_;rintro e w2 ⟨rfl,rfl⟩;rw[h3]
    go_wp2_with fail
    refine (Z1J g s i 1 (Nat.le_of_lt hi) hs (by decide) _ (HS.out.draw _)).mono ?_;rintro e w2 ⟨rfl,n3,rfl⟩;go_wp2;go_ret;exact ⟨by rw[HR.out]; rfl,Z0g _ _⟩}
   {have HR:Hid (Lex.longest (s.drop i)=(s.drop i).take 2):=Y1 (by rw[HL.out,h1,h2,h3]; rfl);clear HL;go_enter Tryz.func122,Tryz.ntmps122
    go_wp2_with fail
    refine (HF.out _ HS.out).mono ?_;rintro e w2 ⟨rfl,n1,rfl⟩
    go_wp2_with fail
    refine (Z0m c _).mono ?_;rintro e w2 ⟨rfl,rfl⟩;rw[h1]
    go_wp2_with fail
    refine (Z0z c _).mono ?_;rintro e w2 ⟨rfl,rfl⟩;rw[h2]
    go_wp2_with fail
    refine (Z1J g s i 2 (Nat.le_of_lt hi) hs (by decide) _ (HS.out.draw _)).mono ?_;rintro e w2 ⟨rfl,n2,rfl⟩
    go_wp2_with fail
    refine (Z1H _ _).mono ?_;rintro e w2 ⟨rfl,rfl⟩;rw[h3]
    go_wp2_with fail
    refine (Z1J g s i 2 (Nat.le_of_lt hi) hs (by decide) _ (HS.out.draw _)).mono ?_;rintro e w2 ⟨rfl,n3,rfl⟩;go_wp2;go_ret;exact ⟨by rw[HR.out]; rfl,Z0g _ _⟩}}
  {have HR:Hid (Lex.longest (s.drop i)=(s.drop i).takeWhile Lex.lumpB):=Y1 (by rw[HL.out,h1,h2]; rfl);clear HL;go_enter Tryz.func122,Tryz.ntmps122
   go_wp2_with fail
   refine (HF.out _ HS.out).mono ?_;rintro e w2 ⟨rfl,n1,rfl⟩
   go_wp2_with fail
   refine (Z0m c _).mono ?_;rintro e w2 ⟨rfl,rfl⟩;rw[h1]
   go_wp2_with fail
   refine (Z0z c _).mono ?_;rintro e w2 ⟨rfl,rfl⟩;rw[h2]
   go_wp2_with fail
   refine (ZbD g s i (Nat.le_of_lt hi) hs _ (HS.out.draw _)).mono ?_;rintro e w2 ⟨rfl,n2,rfl⟩;go_wp2;go_ret;exact ⟨by rw[HR.out]; rfl,Z0g _ _⟩}}
 {have HR:Hid (Lex.longest (s.drop i)=(s.drop i).takeWhile Lex.nameB):=Y1 (by rw[HL.out,h1]; rfl);clear HL;go_enter Tryz.func122,Tryz.ntmps122
  go_wp2_with fail
  refine (HF.out _ HS.out).mono ?_;rintro e w2 ⟨rfl,n1,rfl⟩
  go_wp2_with fail
  refine (Z0m c _).mono ?_;rintro e w2 ⟨rfl,rfl⟩;rw[h1]
  go_wp2_with fail
  refine (ZbC g s i (Nat.le_of_lt hi) hs _ (HS.out.draw _)).mono ?_;rintro e w2 ⟨rfl,n2,rfl⟩;go_wp2;go_ret;exact ⟨by rw[HR.out]; rfl,Z0g _ _⟩}
theorem Z1C {g:Nat} {v:Value} {w w':World} (h:UpdT g v w w') (gr:Nat) (hgr:w.heap.size<=gr) (hgg:g<=gr) (a b:Value):UpdT g v w ((w'.setCell ⟨gr,0,none⟩ a).setCell ⟨gr,1,none⟩ b):=
 ⟨(h.1.setCell (p:=⟨gr,0,none⟩) hgg _).setCell (p:=⟨gr,1,none⟩) hgg _,fun x o hx h1 h2=>by
  have hn: ∀k,(⟨gr,k,none⟩:Addr)≠⟨x,o,none⟩:=fun k e=>by have:=congrArg Addr.block e; simp at this; omega
  refine ⟨?_, ?_⟩
  {rw[World.cell?_setCell_other _ _ _ _ (hn 1),World.cell?_setCell_other _ _ _ _ (hn 0)]; exact (h.2 x o hx h1 h2).1}
  · have:=(h.2 x o hx h1 h2).2
    simpa[go_sem] using this⟩
theorem ScanT.box {w:World} {g B i:Nat} {s:List UInt8} {v:Value} {l:List Tk} (h:ScanT w g B s i v l) (gr:Nat) (hg:g≠gr) (hv:v.ownBlock≠some gr) (a:Value) (j:Nat):ScanT (w.setCell ⟨gr,j,none⟩ a) g B s i v l:=by
 have hn: ∀o,(⟨gr,j,none⟩:Addr)≠⟨g,o,none⟩:=fun o e=>hg (congrArg Addr.block e).symm;obtain ⟨⟨hlt,c0,c1,f1,f2⟩,c2,own,le⟩:=h;refine ⟨⟨by simpa using hlt, ?_, ?_,by simpa[go_sem] using f1,by simpa[go_sem] using f2⟩, ?_, ?_,by simpa using le⟩
 {rw[World.cell?_setCell_other _ _ _ _ (hn 0)]; exact c0}
 {rw[World.cell?_setCell_other _ _ _ _ (hn 1)]; exact c1}
 {rw[World.cell?_setCell_other _ _ _ _ (hn 2)]; exact c2}
 {exact ownsRow_setCell_other own hv _}
theorem Box2.updT {W W':World} {g gr:Nat} {v:Value} {a b:Int} (h:Box2 W gr a b) (hu:UpdT g v W W') (hg:gr≠g) (hv:some gr≠v.ownBlock):Box2 W' gr a b:=by
 obtain ⟨h0,h1,h2,h3,h4⟩:=h;have k:=fun o=>hu.2 gr o h0 hg hv;exact ⟨Nat.lt_of_lt_of_le h0 hu.1.size,(k 0).1.trans h1,(k 1).1.trans h2,(k 0).2.trans h3,(k 1).2.trans h4⟩
theorem ZbG {s:List UInt8} {i:Nat} (hi:i < s.length) (h34:s[i]'hi≠34):Lex.token (s.drop i)=match Lex.kindR (Lex.longest (s.drop i)) with
 | some k=> .ok (⟨k,Lex.longest (s.drop i)⟩,(Lex.longest (s.drop i)).length)
 | none=> .error (60,0):=by
 rw[List.drop_eq_getElem_cons hi];exact Lex.Zcz h34
theorem Z9U (l:List UInt8): (Lex.longest l).length<=l.length:=by
 cases l with
 | nil=>exact Nat.le_refl _
 | cons c r=>
  rw[Lex.Z37];split
  {exact (Lex.Z1g _ _).1}
  split
  {exact (Lex.Z1g _ _).1}
  split
  {rw[List.length_take]; omega}
  {simp}
theorem ZbH (g B:Nat) (hgB:g < B) (s:List UInt8) (i:Nat) (hi:i < s.length) (hs:s.length<=4096) (h34:s[i]'hi≠34) (hr:Lex.hasRemark (s.drop i)=false) (v:Value) (l:List Tk) (hl:l.length<=i) (w:World) (h:ScanT w g B s i v l) (hg:Globs w):
 Calls Tryz.prog 87 #[.pointer (some ⟨g,0,none⟩)] w (StepE g B s i v l (Lex.piece (s.drop i)) w):=by
 have HT:=Y1 (ZbG hi h34);have HP:Hid (Lex.piece (s.drop i)=match Lex.token (s.drop i) with | .error x=> .error x | .ok (t,n)=> .ok ([t],n)):=Y1 (by unfold Lex.piece; rw[hr]; rfl);have hll: (Lex.longest (s.drop i)).length<=s.length - i:=by have:=Z9U (s.drop i); rw[List.length_drop] at this; exact this
 obtain ⟨t,ht⟩: ∃t,t=Lex.longest (s.drop i):=⟨_,rfl⟩;have HLW:=Y1 (Z8F g s i hi (by omega));rw[<-ht] at HT hll HLW;have hb0:=Z01 w (.cells Yc 29);have HX:=Y1 (Z0L w 0 0);have HS:=Y1 (h.keep hb0);have HG:=Y1 (hg.next hb0);have HB0:=Y1 hb0;have hglt:=h.at_.lt;have hBw:=h.le;have hne:w.heap.size≠g:=by omega
 have hnv:some w.heap.size≠v.ownBlock:=fun e=>by have:=(h.own.lt _ e.symm).2; omega
 have HNV:=Y1 hnv;have hz: (⟨t.toArray⟩:ByteArray).size=t.length:=Z07 _;clear hb0 h34 h hnv hg hr;go_enter Tryz.func87,Tryz.ntmps87
 go_wp2_with fail
 generalize hW:w.alloc (.cells Yc 29)=W0 at HX HB0 HS HG ⊢;clear hW
 go_wp2_with fail
 refine (HLW.out _ HS.out.at_).mono ?_;rintro e w2 ⟨rfl,hb2⟩;have HS2:=Y1 (HS.out.keep hb2);have HX2:=Y1 (HX.out.keep (B:=W0.heap.size) HX.out.1 hb2);have HG2:=Y1 (HG.out.next hb2);have HB2:=Y1 (Z00 HB0.out hb2);clear hb2 HS HX HG HB0 HLW ht
 go_wp2_with fail
 refine (ZbB t (by omega) _ HG2.out).mono ?_;rintro e w3 ⟨he,hb3⟩;have HS3:=Y1 (HS2.out.keep hb3);have HX3:=Y1 (HX2.out.keep (B:=w2.heap.size) HX2.out.1 hb3);have HB3:=Y1 (Z00 HB2.out hb3);clear hb3 HS2 HX2 HG2 HB2;cases hk:Lex.kindR t with
 | none=>
  have hkv:kindV t= .tuple #[.int .i64 0,.bool false]:=by unfold kindV; rw[hk]
  rw[hkv] at he;subst he;have HR:Hid (Lex.piece (s.drop i)= .error (60,0)):=Y1 (by rw[HP.out,HT.out,hk]);clear hk hkv HT HP
  go_wp2_with fail
  refine (Z4O g s i _ HS3.out.at_).mono ?_;rintro e w4 ⟨rfl,hb4⟩;have HX4:=Y1 (HX3.out.keep (B:=w3.heap.size) HX3.out.1 hb4);have HB4:=Y1 (Z00 HB3.out hb4);obtain ⟨q0,x0,x1,y0,y1⟩:=HX4.out;clear hb4;go_wp2;refine bodyPost_ret (v:= .agg #[.int .i64 60,.int .i64 (i:Int)]) (by simp[results,Tryz.results87,go_sem,x0,x1]) rfl ?_;refine ⟨Z1C (UpdT.of HB4.out (by omega)) _ (by omega) (by omega) _ _, ?_⟩;rw[HR.out];simp
 | some k=>
  have hkv:kindV t= .tuple #[.int .i64 k,.bool true]:=by unfold kindV; rw[hk]
  rw[hkv] at he;subst he;have HR:Hid (Lex.piece (s.drop i)= .ok ([⟨k,t⟩],t.length)):=Y1 (by rw[HP.out,HT.out,hk]);clear hk hkv HT HP
  go_wp2_with fail
  refine (Z48 t (by omega) _).mono ?_;rintro e w4 ⟨rfl,hb4⟩;have HS4:=Y1 (HS3.out.keep hb4);have HX4:=Y1 (HX3.out.keep (B:=w3.heap.size) HX3.out.1 hb4);have HB4:=Y1 (Z00 HB3.out hb4);clear hb4 HX3 HB3 HS3
  go_wp2_with fail
  refine (Z4Q g B hgB s i v l (by omega) k t t.length (by omega) _ HS4.out).mono ?_;rintro e w5 ⟨rfl,⟨v',hS5,hv5⟩,hu5⟩;have HV5:Hid (v'.ownBlock≠some w.heap.size):=Y1 (fun e=>by
   rcases hv5 _ e with h | h
   {exact HNV.out h.symm}
   · have:=HX4.out.1; omega)
  have HVV:Hid (∀x,v'.ownBlock=some x->v.ownBlock=some x\/w.heap.size<=x):=Y1 (fun x hx=>by
   rcases hv5 x hx with h | h
   {exact Or.inl h}
   · right; have:=HB4.out.size; omega)
  clear hv5;have HX5:=Y1 (HX4.out.updT hu5 hne HNV.out);have HU5:=Y1 ((UpdT.of HB4.out (by omega)).trans hu5);have HS5:=Y1 hS5;clear hS5 hu5;obtain ⟨q0,x0,x1,y0,y1⟩:=HX5.out;go_wp2;refine bodyPost_ret (v:= .agg #[.int .i64 0,.int .i64 0]) (by simp[results,Tryz.results87,go_sem,x0,x1]) rfl ?_;refine ⟨Z1C HU5.out _ (by omega) (by omega) _ _, ?_⟩;rw[HR.out];exact ⟨rfl,v',(HS5.out.box _ (Ne.symm hne) HV5.out _ _).box _ (Ne.symm hne) HV5.out _ _,HVV.out⟩
end Go.Proofs.YtkncdbaoaeeoiaaGreatDoor
namespace Go.Proofs.YtkncdbaoaeeoiaaGreatDoor
section
open Go.RowKit
theorem ScanT.move {w:World} {g B i:Nat} {s:List UInt8} {v:Value} {l:List Tk} (h:ScanT w g B s i v l) (hgB:g < B) (j:Nat):ScanT (w.setCell ⟨g,1,none⟩ (.int .i64 (j:Int))) g B s j v l:=by
 obtain ⟨⟨hlt,c0,c1,f1,f2⟩,c2,own,le⟩:=h;refine ⟨⟨by simpa using hlt, ?_, ?_,by simpa[go_sem] using f1,by simpa[go_sem] using f2⟩, ?_, ?_,by simpa using le⟩
 {simp[go_sem,c0]}
 {simp[go_sem,c1]}
 {simp[go_sem,c2]}
 {exact ownsRow_setCell_below (a:=⟨g,1,none⟩) own hgB _}
theorem Zde {g:Nat} {v:Value} {w w':World} (h:UpdT g v w w') (a:Value) (j:Nat):UpdT g v w (w'.setCell ⟨g,j,none⟩ a):=
 ⟨h.1.setCell (p:=⟨g,j,none⟩) (Nat.le_refl _) _,fun x o hx h1 h2=>by
  refine ⟨?_, ?_⟩
  {rw[World.cell?_setCell_other _ _ _ _ (fun e=>h1 (congrArg Addr.block e).symm)]; exact (h.2 x o hx h1 h2).1}
  · have:=(h.2 x o hx h1 h2).2
    simpa[go_sem] using this⟩
theorem Z9V (g B:Nat) (hgB:g < B) (s:List UInt8) (i:Nat) (hi:i < s.length) (hs:s.length<=4096) (hr:Lex.hasRemark (s.drop i)=true) (v:Value) (l:List Tk) (w:World) (h:ScanT w g B s i v l):
 Calls Tryz.prog 85 #[.pointer (some ⟨g,0,none⟩)] w (StepE g B s i v l (Lex.piece (s.drop i)) w):=by
 obtain ⟨ps,rest,hR,hP⟩:=Lex.Z61 (s.drop i).length (s.drop i) (Nat.le_refl _);have HP:Hid (Lex.piece (s.drop i)=match Lex.remark (s.drop i).length (s.drop i) with | .error k=> .error (30,k) | .ok n=> .ok ([],n)):=Y1 (by unfold Lex.piece; first | (rw[if_pos hr]; done) | (rw[if_pos hr]; rfl));rw[hP] at HP;have hcut:=Lex.Zes (s.drop i);obtain ⟨htl,htt⟩:=Lex.Z1g (· !=10) (s.drop i)
 obtain ⟨t,ht⟩: ∃t,t=(s.drop i).takeWhile (· !=10):=⟨_,rfl⟩
 rw[<-ht] at hR HP hcut htl htt;have hll:t.length<=s.length - i:=by rw[List.length_drop] at htl; exact htl
 have HD:=Y1 (Z4P g s i t.length (Nat.le_of_lt hi) (by omega) (by omega) ps rest (by rw[htt]; exact hR));have HC:Hid (cutR 10 (s.drop i)= .tuple #[.string ⟨t.toArray⟩,.string ⟨(Sem.cut 10 (s.drop i)).2.1.toArray⟩,.bool (Sem.cut 10 (s.drop i)).2.2]):=Y1 (by unfold cutR; rw[hcut]);obtain ⟨c2,hc2⟩: ∃x,x=(Sem.cut 10 (s.drop i)).2.1:=⟨_,rfl⟩;obtain ⟨c3,hc3⟩: ∃x,x=(Sem.cut 10 (s.drop i)).2.2:=⟨_,rfl⟩;rw[<-hc2, <-hc3] at HC;have hb0:=Z01 w (.cells Yc 29);have HX:=Y1 (Z0L w 0 0);have HS:=Y1 (h.keep hb0);have HB0:=Y1 hb0;have hglt:=h.at_.lt;have hBw:=h.le;have hne:w.heap.size≠g:=by omega
 have HNV:Hid (v.ownBlock≠some w.heap.size):=Y1 (fun e=>by have:=(h.own.lt _ e).2; omega);have hz: (⟨t.toArray⟩:ByteArray).size=t.length:=Z07 _;clear hb0 h hr hR hP hcut htl htt ht hc2 hc3;go_enter Tryz.func85,Tryz.ntmps85
 go_wp2_with fail
 generalize hW:w.alloc (.cells Yc 29)=W0 at HX HB0 HS ⊢;clear hW
 go_wp2_with fail
 refine (Z6f g s i (Nat.le_of_lt hi) _ HS.out.at_).mono ?_;rintro e w2 ⟨rfl,nq,rfl⟩
 go_wp2_with fail
 refine (Z8q ⟨(s.drop i).toArray⟩ 10 (by rw[Z07,List.length_drop]; omega) _).mono ?_;rintro e w3 ⟨he,hb3⟩;rw[show (⟨(s.drop i).toArray⟩:ByteArray).data.toList=s.drop i from rfl,HC.out] at he;subst he;have hb3':Below W0.heap.size W0 w3:=(Z0g W0 nq).trans (hb3.mono (Nat.le_refl _));have HS3:=Y1 (HS.out.keep hb3');have HX3:=Y1 (HX.out.keep (B:=W0.heap.size) HX.out.1 hb3');have HB3:=Y1 (Z00 HB0.out hb3');clear hb3 hb3' HS HX HB0 HC
 go_wp2_with fail
 refine (HD.out _ HS3.out.at_).mono ?_;rintro e w4 ⟨he,hb4⟩;have HS4:=Y1 (HS3.out.keep hb4);have HX4:=Y1 (HX3.out.keep (B:=w3.heap.size) HX3.out.1 hb4);have HB4:=Y1 (Z00 HB3.out hb4);clear hb4 HS3 HX3 HB3 HD;by_cases hrest:rest= []
 {have hfv:faultV ps rest i= .agg #[.int .i64 0,.int .i64 0]:=by unfold faultV; rw[if_pos hrest]
  rw[hfv] at he;subst he;have HR:Hid (Lex.piece (s.drop i)= .ok ([],t.length)):=Y1 (by rw[HP.out,if_neg (by rw[hrest]; simp)]);have hbn:=Z01 w4 (.cells Yc 29);have HSn:=Y1 (HS4.out.keep hbn);have HXn:=Y1 (HX4.out.keep (B:=w4.heap.size) HX4.out.1 hbn);have HBn:=Y1 (Z00 HB4.out hbn);have hq4:=HX4.out.1;have HQ:Hid (w.heap.size < w4.heap.size):=Y1 hq4;clear hrest hfv HP hbn hq4;obtain ⟨q0,x0,x1,y0,y1⟩:=HX4.out;obtain ⟨⟨hlt,c0,c1,f1,f2⟩,d2,_,_⟩:=HS4.out;go_wp2;refine bodyPost_ret (v:= .agg #[.int .i64 0,.int .i64 0]) (by simp[results,Tryz.results85,go_sem,x0,x1,q0]) rfl ?_;have hwb:=HB4.out.size;refine ⟨(Z1C (Zde (UpdT.of HB4.out (by omega)) _ 1) _ (by omega) (by omega) _ _).trans (UpdT.of (Z01 _ _) (by simp; omega)), ?_⟩;rw[HR.out];exact ⟨rfl,v,by rw[List.map_nil,List.append_nil]; exact ((((HS4.out.move hgB (i+t.length)).box _ (Ne.symm hne) HNV.out _ _).box _ (Ne.symm hne) HNV.out _ _).keep (Z01 _ _)),fun x hx=>Or.inl hx⟩}
 {have hfv:faultV ps rest i= .agg #[.int .i64 30,.int .i64 ((i+(Utf.enc ps).length:Nat):Int)]:=by unfold faultV; rw[if_neg hrest]
  rw[hfv] at he;subst he;have HR:Hid (Lex.piece (s.drop i)= .error (30,(Utf.enc ps).length)):=Y1 (by rw[HP.out,if_pos hrest]);obtain ⟨m,hm⟩: ∃m,m=i+(Utf.enc ps).length:=⟨_,rfl⟩;rw[<-hm];have HMM:=Y1 hm;clear hrest hfv HP hm;obtain ⟨q0,x0,x1,y0,y1⟩:=HX4.out;go_wp2;refine bodyPost_ret (v:= .agg #[.int .i64 30,.int .i64 (m:Int)]) (by simp[results,Tryz.results85,go_sem,x0,x1,q0]) rfl ?_;have hwb:=HB4.out.size;refine ⟨(Z1C (UpdT.of HB4.out (by omega)) _ (by omega) (by omega) _ _).trans (UpdT.of (Z01 _ _) (by simp; omega)), ?_⟩;rw[HR.out];show _=Ending.returned (.agg #[.int .i64 30,.int .i64 ((i+(Utf.enc ps).length:Nat):Int)]);rw[<-HMM.out]}
end
end Go.Proofs.YtkncdbaoaeeoiaaGreatDoor
namespace Go.Proofs
def Tryz.lays137_ren:Go.Shelf.Ren:=⟨fun | 137=>177 | 217=>184 | 266=>203 | n=>n,fun | 9=>9 | 5=>5 | 3=>3 | n=>n,fun | n=>n⟩
theorem Tryz.lays137:Go.Proofs.Lays.n137 Tryz.prog Tryz.lays137_ren:= {
 mixed:=by kernel_rfl
 f137:=Tryz.func177.trans (congrArg some (by kernel_rfl))
 f217:=Tryz.func184.trans (congrArg some (by kernel_rfl))
 f266:=Tryz.func203.trans (congrArg some (by kernel_rfl))
 t3:=Tryz.underlying3
 a3:=Tryz.isAgg3
 z3:=Tryz.sizeOf3
 v3:=Tryz.zeroValue3
 t5:=Tryz.underlying5
 a5:=Tryz.isAgg5
 z5:=Tryz.sizeOf5
 v5:=Tryz.zeroValue5
 t9:=Tryz.underlying9
 a9:=Tryz.isAgg9
 z9:=Tryz.sizeOf9
 v9:=Tryz.zeroValue9 }
end Go.Proofs
namespace Go.Proofs.YtkncdbaoaeeoiaaGreatDoor
open Go.RowKit
theorem Z6E (s:List UInt8) (c:UInt8) (w:World):
 Calls Tryz.prog 177 #[.string ⟨s.toArray⟩,.int .u8 (c.toNat:Int)] w fun e w'=>e= .returned (.int .i64 (Lib.indexByte s c))/\w=w':=by
 have h:=Any.strings_IndexByte Tryz.lays137 ⟨s.toArray⟩ (c.toNat:Int) w;have e: ((c.toNat:Int)).toNat.toUInt8=c:=by simp
 rw[e] at h;refine h.mono ?_;rintro e w' ⟨rfl,rfl⟩;exact ⟨rfl,rfl⟩
def unescV:List UInt8->Value
 | []=> .tuple #[.int .u8 0,.bool false]
 | d::_=>match Lex.unesc d with
  | some x=> .tuple #[.int .u8 (x.toNat:Int),.bool true]
  | none=> .tuple #[.int .u8 0,.bool false]
theorem Z5w (d:UInt8) (q:List UInt8):unescV (d::q)=match Lex.unesc d with | some x=> .tuple #[.int .u8 (x.toNat:Int),.bool true] | none=> .tuple #[.int .u8 0,.bool false]:=rfl
theorem ZbI (d:UInt8): (Lib.indexByte [110,116,34,92] d=0/\Lex.unesc d=some 10)\/(Lib.indexByte [110,116,34,92] d=1/\Lex.unesc d=some 9)\/
 (Lib.indexByte [110,116,34,92] d=2/\Lex.unesc d=some 34)\/(Lib.indexByte [110,116,34,92] d=3/\Lex.unesc d=some 92)\/(Lib.indexByte [110,116,34,92] d= -1/\Lex.unesc d=none):=by
 by_cases h1:d=110
 {subst h1; exact Or.inl ⟨by decide,rfl⟩}
 by_cases h2:d=116
 {subst h2; exact Or.inr (Or.inl ⟨by decide,rfl⟩)}
 by_cases h3:d=34
 {subst h3; exact Or.inr (Or.inr (Or.inl ⟨by decide,rfl⟩))}
 by_cases h4:d=92
 {subst h4; exact Or.inr (Or.inr (Or.inr (Or.inl ⟨by decide,rfl⟩)))}
 {refine Or.inr (Or.inr (Or.inr (Or.inr ⟨?_, ?_⟩)))
  {have g1: ((110:UInt8)==d)=false:=beq_eq_false_iff_ne.2 (Ne.symm h1);have g2: ((116:UInt8)==d)=false:=beq_eq_false_iff_ne.2 (Ne.symm h2);have g3: ((34:UInt8)==d)=false:=beq_eq_false_iff_ne.2 (Ne.symm h3);have g4: ((92:UInt8)==d)=false:=beq_eq_false_iff_ne.2 (Ne.symm h4);simp[Lib.indexByte,g1,g2,g3,g4]}
  {unfold Lex.unesc; rw[if_neg h1,if_neg h2,if_neg h3,if_neg h4]}}
theorem Z2L (l:List UInt8) (w:World):
 Calls Tryz.prog 151 #[.string ⟨l.toArray⟩] w fun e w'=>e= .returned (unescV l)/\w=w':=by
 cases l with
 | nil=>
  have HM:Hid (unescV []= .tuple #[.int .u8 0,.bool false]):=Y1 rfl;go_enter Tryz.func151,Tryz.ntmps151;go_wp2
  go_ret2
  exact ⟨by rw[HM.out]; rfl,rfl⟩
 | cons d q=>
  have hM:unescV (d::q)=match Lex.unesc d with | some x=> .tuple #[.int .u8 (x.toNat:Int),.bool true] | none=> .tuple #[.int .u8 0,.bool false]:=rfl
  obtain ⟨l,hll⟩: ∃l:List UInt8,l=d::q:=⟨_,rfl⟩;rw[<-hll] at hM ⊢;have hz: (⟨l.toArray⟩:ByteArray).size=l.length:=Z07 _;have he:l.isEmpty=false:=by rw[hll]; rfl
  have he2: (l== [])=false:=by rw[hll]; rfl
  have hidx: ∀W,(Instr.index 9 (.string ⟨l.toArray⟩) (.int .i64 0)).run Tryz.prog W= .ok (.int .u8 d.toNat) W:=fun W=>by rw[hll]; rfl
  clear hll;rcases ZbI d with ⟨h2,h3⟩ | ⟨h2,h3⟩ | ⟨h2,h3⟩ | ⟨h2,h3⟩ | ⟨h2,h3⟩
  all_goals
   rw[h3] at hM;have HM:=Y1 hM;clear hM h3;go_enter Tryz.func151,Tryz.ntmps151
   go_wp2_with fail
   refine (Z6E [110,116,34,92] d _).mono ?_;rintro e w2 ⟨rfl,rfl⟩;rw[h2];clear h2;go_wp2
   go_ret2
   exact ⟨by rw[HM.out]; rfl,rfl⟩
end Go.Proofs.YtkncdbaoaeeoiaaGreatDoor
