/- What the proofs of ParseAround want, part 14. -/
import Derived.Test.YtkncdbaoaeeoiaaGreatDoorL0n13
set_option linter.unusedVariables false
set_option linter.unusedSimpArgs false
set_option linter.unusedSectionVars false
set_option maxRecDepth 100000
set_option maxHeartbeats 16000000
namespace Go.Proofs.YtkncdbaoaeeoiaaGreatDoor
section
open Go.RowKit
theorem Z9S (a:UInt8):0<=(Utf.plead a.toNat).1/\(Utf.plead a.toNat).1<=127/\(Utf.plead a.toNat).2<=4:=by
 have d:=a.toNat_lt;rcases Utf.Z1L a.toNat with ⟨b,e⟩ | ⟨b,c,e⟩ | ⟨b,c,e⟩ | ⟨b,c,e⟩ | ⟨b,e⟩ <;> rw[e] <;> simp only <;> omega
theorem Zg8 {p:Int} {l:List UInt8} (d:0<=p) (e:p<=127) (a:l.length<=2) (h: ∀b∈l,128<=b.toNat/\b.toNat < 192):0<=Utf.val p l/\Utf.val p l<=1000000:=by
 match l,a,h with
 | [],_,_=>simp only[Utf.val]; omega
 | [b],_,h=>have:=h b (by simp); simp only[Utf.val]; omega
 | [b,c],_,h=>have:=h b (by simp); have:=h c (by simp); simp only[Utf.val]; omega
theorem onbits (x:Int) (b:UInt8) (a:0<=x) (c:x<=1000000) (d:128<=b.toNat) (e:b.toNat < 192):
 bits .or .i64 (x * 64) ((b.toNat:Int) - 128)=x * 64+b.toNat - 128:=by
 rw[ZcG x _ a (by omega) (by omega) (by omega)];omega
def On (r:List UInt8) (k:Nat):Prop:= ∀b∈r.take k,128<=b.toNat/\b.toNat < 192
theorem Zfy {r:List UInt8} {k:Nat} (h:On r k) (e:k < r.length) (c:128<=r[k].toNat) (d:r[k].toNat < 192):On r (k+1):=by
 intro b a;rw[List.take_succ_eq_append_getElem e,List.mem_append] at a;rcases a with a | a
 {exact h b a}
 {simp at a; subst a; exact ⟨c,d⟩}
theorem Z6g (s:ByteArray) (h:0 < s.size) (hs:s.size<=9223372036854775807) (w:World):
 Calls Tryz.prog 176 #[.string s] w fun e w'=>e= .returned (duo (Utf.first s.data.toList))/\w=w':=by
 obtain ⟨r,M,U,T⟩:=Z3F s h;obtain ⟨t,u,B⟩:=Z9S s[0];have E:=Y1 M;have D:=Y1 U;have Q:=Y1 T;clear M U T;obtain ⟨v,n,y⟩: ∃v n,Utf.plead (s[0]).toNat=(v,n):=⟨_,_,rfl⟩;have d:=Y1 y;rw[y] at t u B;simp only at t u B;clear y;by_cases f:n=0
 {subst f;go_enter Tryz.func176,Tryz.ntmps176
  go_wp2_with fail
  refine (Z4E s[0] _).mono ?_;rintro e w' ⟨g,rfl⟩;rw[d.out,duo] at g;subst g;go_wp2
  go_ret2
  refine ⟨?_,rfl⟩;rw[E.out,Utf.Z7O (by rw[d.out])];rfl}
 {have a0: ((n:Int)==0)=false:=by simp; omega
  by_cases C:s.size < n
  {have hd1:decide (s.size < n)=true:=by simpa using C
   go_enter Tryz.func176,Tryz.ntmps176
   go_wp2_with fail
   refine (Z4E s[0] _).mono ?_;rintro e w' ⟨g,rfl⟩;rw[d.out,duo] at g;subst g;go_wp2
   go_ret2
   refine ⟨?_,rfl⟩;rw[E.out,Utf.Z92 (by rw[d.out]; exact f) (by rw[d.out]; have:=D.out; simp only; omega)];rfl}
  {have hd1:decide (s.size < n)=false:=by simpa using C
   go_enter Tryz.func176,Tryz.ntmps176
   go_wp2_with fail
   refine (Z4E s[0] _).mono ?_;rintro e w' ⟨g,rfl⟩;rw[d.out,duo] at g;subst g
   go_wp2_with fail
   go_loop [4,6] (fun p i=> ∃(k:Nat) (x:Int),i= .int .i64 k/\1<=k/\k<=n/\p= .int .i64 x/\Hid (x=Utf.val v (r.take (k - 1)))/\Hid (On r (k - 1)))
    (fun _ i=>4 - (intOf i).toNat)
   case atStart=>exact ⟨1,_,rfl,by omega,by omega,rfl,Y1 rfl,Y1 (fun b hb=>by simp at hb)⟩
   case round=>
    obtain ⟨k,x,rfl,K,hk,rfl,I,G⟩:=hrel;by_cases a1:k < n
    {have c:k < s.size:=by omega
     have W:=Zg8 (p:=v) (l:=r.take (k - 1)) t u (by rw[List.length_take]; omega) G.out;rw[<-I.out] at W;obtain ⟨O,P⟩:=W;have Z:=(s[k]'c).toNat_lt;have S:Hid (∃M:k - 1 < r.length,r[k - 1]=s[k]'c):=Y1 (by
      have F:=D.out;have A:=Q.out (k - 1) (by omega) (by omega);refine ⟨by omega,A.trans ?_⟩;simp only[show k - 1+1=k from by omega])
     by_cases q:128<=(s[k]'c).toNat/\(s[k]'c).toNat < 192
     {obtain ⟨m,o⟩:=q;have HN:Hid (x * 64+(s[k]'c).toNat - 128=Utf.val v (r.take k)):=Y1 (Z46 s r D.out Q.out k K c I.out);have X:=Y1 (onbits x (s[k]'c) O P m o);have H:Hid (On r k):=Y1 (by
       obtain ⟨F,A⟩:=S.out;have:=Zfy G.out F (by rw[A]; exact m) (by rw[A]; exact o)
       rwa [show k - 1+1=k from by omega] at this)
      go_wp2_with fail
      go_round
      case rel=>exact ⟨k+1,_,by go_num,by omega,by omega,by rw[X.out],HN,H⟩
      case measure=>simp[intOf]; omega}
     {have j:Utf.first s.data.toList=(0,0):=by
       obtain ⟨F,A⟩:=S.out;rw[E.out];exact Utf.ZaL (i:=k - 1) (by rw[d.out]; exact f) (by rw[d.out]; simp only; omega) F (by rw[A]; omega)
      have z:=Y1 j;clear j;by_cases m: (s[k]'c).toNat < 128
      {clear q;go_wp2
       go_ret2
       exact ⟨by rw[z.out]; rfl,rfl⟩}
      {have o:192<=(s[k]'c).toNat:=by omega
       clear q;go_wp2
       go_ret2
       exact ⟨by rw[z.out]; rfl,rfl⟩}}}
    {have L:k=n:=by omega
     subst L;have j:=Utf.Zc9 (a:=s[0]) (r:=r) (by rw[d.out]; exact f) (by rw[d.out]; have:=D.out; simp only; omega) (by rw[d.out]; exact G.out);rw[d.out] at j;simp only at j;rw[<-I.out, <-E.out] at j;have z:=Y1 j;clear j;cases V:Utf.pt x
     {go_wp2_with (first | (go_at_call 189; refine (Z4D _ _).mono ?_; rintro e w' ⟨rfl,rfl⟩) | (go_at_call 190; refine (Z45 _ _).mono ?_; rintro e w' ⟨rfl,rfl⟩))
      go_ret2
      refine ⟨?_,rfl⟩;rw[z.out,V,if_neg (by simp)];rfl}
     {by_cases N:Utf.width x=k
      {have hd2: ((Utf.width x:Int)==(k:Int))=true:=by rw[beq_iff_eq]; omega
       have J: ((Utf.width x:Int) !=(k:Int))=false:=by rw[bne_eq_false_iff_eq]; omega
       have Y:=Y1 N;clear N
       go_wp2_with (first | (go_at_call 189; refine (Z4D _ _).mono ?_; rintro e w' ⟨rfl,rfl⟩) | (go_at_call 190; refine (Z45 _ _).mono ?_; rintro e w' ⟨rfl,rfl⟩))
       go_ret2
       refine ⟨?_,rfl⟩;rw[z.out,if_pos ⟨V,Y.out⟩];rfl}
      {have hd2: ((Utf.width x:Int)==(k:Int))=false:=by rw[beq_eq_false_iff_ne]; omega
       have J: ((Utf.width x:Int) !=(k:Int))=true:=by rw[bne_iff_ne]; omega
       go_wp2_with (first | (go_at_call 189; refine (Z4D _ _).mono ?_; rintro e w' ⟨rfl,rfl⟩) | (go_at_call 190; refine (Z45 _ _).mono ?_; rintro e w' ⟨rfl,rfl⟩))
       go_ret2
       refine ⟨?_,rfl⟩;rw[z.out,if_neg (by rintro ⟨_,h⟩; exact N h)];rfl}}}}}
def Decoded (ps:List Int) (rest:List UInt8) (w:World) (e:Ending) (w':World):Prop:=
 ∃(A:Option Addr) (cap:Nat) (zs:List Int) (f:Value),e= .returned (.tuple #[.slice A zs.length cap,f])/\Ints w' w'.heap.size A zs/\(A=none->zs.length=0/\cap=0)/\Below w.heap.size w w'/\
  ((rest= []/\zs=ps/\f= .agg #[.int .i64 0,.int .i64 0])\/(rest≠ []/\zs= []/\f= .agg #[.int .i64 30,.int .i64 (Utf.enc ps).length]))
theorem Z9T (s:ByteArray) (hs:s.size<=1000000000) (ps:List Int) (rest:List UInt8) (N:Utf.Reads s.data.toList ps rest) (w:World):
 Calls Tryz.prog 150 #[.string s] w (Decoded ps rest w):=by
 have W:=Y1 (Lib.size_eq s);obtain ⟨i0,hi,X,Y,Z⟩:=info_parts (P:=Tryz.prog) (e:=3) (z:= .int .i64 0) (size:=1) (bytes:=8) (by kernel_rfl);have K:ps.length<=s.size:=by
  have j:=Utf.Zca ps;have h2:=(Utf.Z3d N).2;rw[<-W.out] at h2;omega
 go_enter Tryz.func150,Tryz.ntmps150
 go_wp2_with fail
 generalize hW1:w.alloc (Obj.cells #[Value.int IntKind.i64 0,Value.int IntKind.i64 0] 29)=W1;have H:Below w.heap.size w W1:=by rw[<-hW1]; exact Y2.alloc (Nat.le_refl _) _
 have c:w.heap.size < W1.heap.size:=by rw[<-hW1]; simp
 have HC:Hid (W1.cell? ⟨w.heap.size,0,none⟩=some (.int .i64 0)/\W1.cell? ⟨w.heap.size,1,none⟩=some (.int .i64 0)/\W1.frozen? ⟨w.heap.size,0,none⟩=false/\W1.frozen? ⟨w.heap.size,1,none⟩=false):=by
  rw[<-hW1];exact Y1 ⟨by simp[go_sem],by simp[go_sem],by simp[go_sem],by simp[go_sem]⟩
 clear hW1
 go_loopw [4,5] (fun v i wr=> ∃k a:Nat,i= .int .i64 a/\k<=ps.length/\Hid (a=(Utf.enc (ps.take k)).length)/\wr.ownsRow W1.heap.size 3 1 v k ((ps.take k).map (Value.int .i64))/\Below W1.heap.size W1 wr)
  (fun _ i _=>s.size - (intOf i).toNat)
 case atStart=>exact ⟨0,0,rfl,Nat.zero_le _,Y1 rfl,World.ownsRow_nil _ _ _ _,Below.refl _ _⟩
 case round=>
  obtain ⟨k,a,rfl,hk,B,g,C⟩:=hrel;have S:=C.size;by_cases I:k < ps.length
  {obtain ⟨j,h2,M⟩:=Utf.ZdK N k I;rw[<-B.out] at j M;rw[<-W.out] at M;obtain ⟨T,U⟩:=Utf.Z0O ps[k];have O:a < s.size:=by omega
   obtain ⟨x,V⟩: ∃x,x=ps[k]:=⟨_,rfl⟩;have HX:=Y1 V;rw[<-V] at j h2 M T U;have HN:Hid (a+Utf.width x=(Utf.enc (ps.take (k+1))).length):=Y1 (by rw[h2,List.length_append,Utf.Z0c, <-B.out]);have L:=Y1 j;clear j h2 V;obtain ⟨r,hsl,hr1,hr2,hr3,_,_⟩:=Zao s a O;have l:=Y1 hr1;clear hr1;have a5: ((Utf.width x:Int)==0)=false:=by rw[beq_eq_false_iff_ne]; omega
   have HT:Hid ((ps.take (k+1)).map (Value.int .i64)=(ps.take k).map (Value.int .i64)++ [.int .i64 x]):=Y1 (by rw[List.take_succ_eq_append_getElem I,List.map_append,HX.out]; rfl)
   go_wp2_with fail
   refine (Z6g r hr3 (by omega) _).mono ?_;rintro e w2 ⟨G,rfl⟩;have h:=g;have d:=C;have J:=S;rw[l.out,L.out,duo] at G;subst G
   go_wp2_with (at_builtin; refine wpList_append_own _ rfl _ _ 134 rfl W1.heap.size 3 i0 (.int .i64 0) 1 8 Tryz.underlying134 hi X Y Z rfl (by decide) _ _ _ rfl (h.alloc _) ⟨wr.heap.size,0,none⟩ 1 1 [.int .i64 x] rfl rfl ?c1 ?c2 ?c3 ?c4 ?c5 ?_)
   case c1=>
    intro i u y
    match i,y with
    | 0,y=>simp at y; subst y; simp[Addr.add]
   case c2=>intro u y; simp at y; subst y; rfl
   case c3=>unfold maxLen; omega
   case c4=>omega
   case c5=>simp; omega
   intro v' w3 t q _;go_wp2
   go_roundw
   case rel=>
    refine ⟨k+1,a+Utf.width x,by go_num,by omega,HN, ?_,(d.alloc J _).grown q (by simp; omega) (fun k hk=>(h.lt k hk).1)⟩;rw[HT.out,List.map_take];exact t
   case measure=>simp[intOf]; omega}
  {have Q:k=ps.length:=by omega
   have HP:Hid (ps.take k=ps):=Y1 (List.take_of_length_le (by omega));rw[HP.out] at B g;obtain ⟨j,h2⟩:=Utf.Z3d N;rw[<-W.out, <-B.out] at h2;rw[<-B.out] at j;have L:=Y1 j;clear j;by_cases b:rest= []
   {have F: ¬a < s.size:=by rw[b,List.length_nil] at h2; omega
    obtain ⟨hc0,n⟩:=Z04 (o:=0) C c;obtain ⟨f,p⟩:=Z04 (o:=1) C c;obtain ⟨D,g1,g2,E⟩:=HC.out;rw[D] at hc0;rw[g1] at f;rw[g2] at n;rw[E] at p;obtain ⟨A,cap,hv,hI,hAn⟩:=Z9C (ownsRow_setCell_below (a:=⟨w.heap.size,1,none⟩) (ownsRow_setCell_below (a:=⟨w.heap.size,0,none⟩) g c (.int .i64 0)) c (.int .i64 0));subst Q;clear D g1 g2 E;go_wp2;refine bodyPost_ret (v:= .tuple #[.slice A ps.length cap,.agg #[.int .i64 0,.int .i64 0]]) (by simp[results,Tryz.results150,go_sem,hv,hc0,f]) rfl ?_;have m:Below w.heap.size w wr:=H.trans (C.mono (Nat.le_of_lt c));have hb2:Below w.heap.size w ((wr.setCell ⟨w.heap.size,0,none⟩ (.int .i64 0)).setCell ⟨w.heap.size,1,none⟩ (.int .i64 0)):=(m.setCell (Nat.le_refl _) _).setCell (Nat.le_refl _) _;exact ⟨A,cap,ps,_,rfl,hI,hAn,hb2,Or.inl ⟨b,rfl,rfl⟩⟩}
   {have F:a < s.size:=by have:=List.length_pos_iff.2 b; omega
    obtain ⟨r,hsl,hr1,hr2,hr3,_,_⟩:=Zao s a F;have l:=Y1 hr1;clear hr1
    go_wp2_with fail
    refine (Z6g r hr3 (by omega) _).mono ?_;rintro e w2 ⟨G,rfl⟩;have d:=C;rw[l.out,L.out,duo] at G;subst G;obtain ⟨hc0,n⟩:=Z04 (o:=0) d c;obtain ⟨f,p⟩:=Z04 (o:=1) d c;obtain ⟨D,g1,g2,E⟩:=HC.out;rw[D] at hc0;rw[g1] at f;rw[g2] at n;rw[E] at p;clear D g1 g2 E;go_wp2;refine bodyPost_ret (v:= .tuple #[.slice none 0 0,.agg #[.int .i64 30,.int .i64 a]]) (by simp[results,Tryz.results150,go_sem,hc0,f]) rfl ?_;have m:Below w.heap.size w wr:=H.trans (d.mono (Nat.le_of_lt c));refine ⟨none,0,[],_,rfl,Or.inl rfl,fun _=>⟨rfl,rfl⟩,(m.setCell (Nat.le_refl _) _).setCell (Nat.le_refl _) _,Or.inr ⟨b,rfl,by rw[B.out]⟩⟩}}
end
end Go.Proofs.YtkncdbaoaeeoiaaGreatDoor
namespace Lex
theorem ZaD {p:UInt8->Bool} {l:List UInt8} {k:Nat} (a:k<=l.length) (b: ∀j (hj:j < l.length),j < k->p (l[j]'hj)=true) (c: ∀(h:k < l.length),p (l[k]'h)=false):l.take k=l.takeWhile p:=by
 have h:=Z52 a b c;have:=(Z1g p l).2;rw[h] at this;exact this
end Lex
namespace Go.Proofs.YtkncdbaoaeeoiaaGreatDoor
open Go.RowKit
section
variable (g : Nat) (s : List UInt8) (i : Nat) (hi : i <= s.length) (hs : s.length <= 1000000) (w : World) (h : ScanAt w g s i)
include g s i hi hs w h
theorem ZbC:
 Calls Tryz.prog 153 #[.pointer (some ⟨g,0,none⟩),.func (.func 154) #[] #[]] w fun e w'=>e= .returned (.string ⟨((s.drop i).takeWhile Lex.nameB).toArray⟩)/\ ∃n,w'=w.drewN n:=by
 have L: (⟨s.toArray⟩:ByteArray).size=s.length:=Z07 _;obtain ⟨F,H,c1,J,K⟩:=h;go_enter Tryz.func153,Tryz.ntmps153
 go_wp2_with fail
 go_loopw [5] (fun ii wr=> ∃k:Nat,ii= .int .i64 ((i+k:Nat):Int)/\i+k<=s.length/\Hid (∀j (hj:j < (s.drop i).length),j < k->Lex.nameB ((s.drop i)[j]'hj)=true)/\w=wr)
  (fun ii _=>s.length - (intOf ii).toNat)
 case atStart=>exact ⟨0,by simp,by omega,Y1 (fun j _ hj=>absurd hj (by omega)),rfl⟩
 case round=>
  obtain ⟨k,rfl,E,B,rfl⟩:=hrel;have l: (s.drop i).length=s.length - i:=List.length_drop;have o:=Y1 l;clear l;obtain ⟨n,v⟩: ∃n,n=i+k:=⟨_,rfl⟩;rw[<-v] at E ⊢;have a:=Y1 v;clear v;have d: (∀h:n < s.length,Lex.nameB (s[n]'h)=false)->Hid (((s.drop i).take (n - i))=(s.drop i).takeWhile Lex.nameB):=fun h=>Y1 (by
   have e:=a.out;have I:=o.out;refine Lex.ZaD (by omega) (fun j hj hjk=>B.out j hj (by omega)) (fun hj=> ?_);rw[List.getElem_drop];have:i+(n - i)=n:=by omega
   simp only[this];exact h (by omega))
  by_cases f:n < s.length
  {have t: (n:Int) < (s.length:Int):=by omega
   obtain ⟨c,r⟩: ∃c,c=s[n]'f:=⟨_,rfl⟩;have D: ∀W,(Instr.index 9 (.string ⟨s.toArray⟩) (.int .i64 (n:Int))).run Tryz.prog W= .ok (.int .u8 c.toNat) W:=fun W=>by
    rw[r]; exact Z0i ⟨s.toArray⟩ n (by omega) W
   have A:=Y1 r;clear r;cases m:Lex.nameB c
   {have q:=d (fun _=>by rw[<-A.out]; exact m);have z: ∀W,(Instr.slice 9 (.string ⟨s.toArray⟩) (some (.int .i64 (i:Int))) (some (.int .i64 (n:Int))) none).run Tryz.prog W= .ok (.string ⟨((s.drop i).takeWhile Lex.nameB).toArray⟩) W:=fun W=>by
     rw[Z1i ⟨s.toArray⟩ i (n:Int) (by have:=a.out; omega) (by omega) W,Int.toNat_natCast];exact congrArg (fun b=>Result.ok (Value.string ⟨List.toArray b⟩) W) q.out
    have u: (i:Int)<=(n:Int):=by have:=a.out; omega
    have y: (n:Int)<=(s.length:Int):=by omega
    clear d
    go_wp2_with fail
    refine (Z2w c _).mono ?_;rintro e G ⟨rfl,rfl⟩;rw[m]
    go_wp2_with fail
    go_quiet (fail)
    go_wp2;go_ret;exact ⟨rfl,_,rfl⟩}
   {have p:Hid (∀j (hj:j < (s.drop i).length),j < k+1->Lex.nameB ((s.drop i)[j]'hj)=true):=Y1 (fun j hj hji=>by
     rcases Nat.lt_succ_iff_lt_or_eq.1 hji with C | C
     {exact B.out j hj C}
     · have e:=a.out
       rw[List.getElem_drop];have:i+j=n:=by omega
       simp only[this];rw[<-A.out]; exact m)
    clear d
    go_wp2_with fail
    refine (Z2w c _).mono ?_;rintro e G ⟨rfl,rfl⟩;rw[m];go_wp2
    go_roundw
    case rel=>exact ⟨k+1,by rw[a.out]; go_num,by have:=a.out; omega,p,trivial⟩
    case measure=>simp[intOf]; omega}}
  {have t: ¬(n:Int) < (s.length:Int):=by omega
   have q:=d (fun h=>absurd h f);have z: ∀W,(Instr.slice 9 (.string ⟨s.toArray⟩) (some (.int .i64 (i:Int))) (some (.int .i64 (n:Int))) none).run Tryz.prog W= .ok (.string ⟨((s.drop i).takeWhile Lex.nameB).toArray⟩) W:=fun W=>by
    rw[Z1i ⟨s.toArray⟩ i (n:Int) (by have:=a.out; omega) (by omega) W,Int.toNat_natCast];exact congrArg (fun b=>Result.ok (Value.string ⟨List.toArray b⟩) W) q.out
   have u: (i:Int)<=(n:Int):=by have:=a.out; omega
   have y: (n:Int)<=(s.length:Int):=by omega
   clear d
   go_wp2_with fail
   go_quiet (fail)
   go_wp2;go_ret;exact ⟨rfl,_,rfl⟩}
theorem ZbD:
 Calls Tryz.prog 153 #[.pointer (some ⟨g,0,none⟩),.func (.func 156) #[] #[]] w fun e w'=>e= .returned (.string ⟨((s.drop i).takeWhile Lex.lumpB).toArray⟩)/\ ∃n,w'=w.drewN n:=by
 have L: (⟨s.toArray⟩:ByteArray).size=s.length:=Z07 _;obtain ⟨F,H,c1,J,K⟩:=h;go_enter Tryz.func153,Tryz.ntmps153
 go_wp2_with fail
 go_loopw [5] (fun ii wr=> ∃k:Nat,ii= .int .i64 ((i+k:Nat):Int)/\i+k<=s.length/\Hid (∀j (hj:j < (s.drop i).length),j < k->Lex.lumpB ((s.drop i)[j]'hj)=true)/\w=wr)
  (fun ii _=>s.length - (intOf ii).toNat)
 case atStart=>exact ⟨0,by simp,by omega,Y1 (fun j _ hj=>absurd hj (by omega)),rfl⟩
 case round=>
  obtain ⟨k,rfl,E,B,rfl⟩:=hrel;have l: (s.drop i).length=s.length - i:=List.length_drop;have o:=Y1 l;clear l;obtain ⟨n,v⟩: ∃n,n=i+k:=⟨_,rfl⟩;rw[<-v] at E ⊢;have a:=Y1 v;clear v;have d: (∀h:n < s.length,Lex.lumpB (s[n]'h)=false)->Hid (((s.drop i).take (n - i))=(s.drop i).takeWhile Lex.lumpB):=fun h=>Y1 (by
   have e:=a.out;have I:=o.out;refine Lex.ZaD (by omega) (fun j hj hjk=>B.out j hj (by omega)) (fun hj=> ?_);rw[List.getElem_drop];have:i+(n - i)=n:=by omega
   simp only[this];exact h (by omega))
  by_cases f:n < s.length
  {have t: (n:Int) < (s.length:Int):=by omega
   obtain ⟨c,r⟩: ∃c,c=s[n]'f:=⟨_,rfl⟩;have D: ∀W,(Instr.index 9 (.string ⟨s.toArray⟩) (.int .i64 (n:Int))).run Tryz.prog W= .ok (.int .u8 c.toNat) W:=fun W=>by
    rw[r]; exact Z0i ⟨s.toArray⟩ n (by omega) W
   have A:=Y1 r;clear r;cases m:Lex.lumpB c
   {have q:=d (fun _=>by rw[<-A.out]; exact m);have z: ∀W,(Instr.slice 9 (.string ⟨s.toArray⟩) (some (.int .i64 (i:Int))) (some (.int .i64 (n:Int))) none).run Tryz.prog W= .ok (.string ⟨((s.drop i).takeWhile Lex.lumpB).toArray⟩) W:=fun W=>by
     rw[Z1i ⟨s.toArray⟩ i (n:Int) (by have:=a.out; omega) (by omega) W,Int.toNat_natCast];exact congrArg (fun b=>Result.ok (Value.string ⟨List.toArray b⟩) W) q.out
    have u: (i:Int)<=(n:Int):=by have:=a.out; omega
    have y: (n:Int)<=(s.length:Int):=by omega
    clear d
    go_wp2_with fail
    refine (Z5m c _).mono ?_;rintro e G ⟨rfl,rfl⟩;rw[m]
    go_wp2_with fail
    go_quiet (fail)
    go_wp2;go_ret;exact ⟨rfl,_,rfl⟩}
   {have p:Hid (∀j (hj:j < (s.drop i).length),j < k+1->Lex.lumpB ((s.drop i)[j]'hj)=true):=Y1 (fun j hj hji=>by
     rcases Nat.lt_succ_iff_lt_or_eq.1 hji with C | C
     {exact B.out j hj C}
     · have e:=a.out
       rw[List.getElem_drop];have:i+j=n:=by omega
       simp only[this];rw[<-A.out]; exact m)
    clear d
    go_wp2_with fail
    refine (Z5m c _).mono ?_;rintro e G ⟨rfl,rfl⟩;rw[m];go_wp2
    go_roundw
    case rel=>exact ⟨k+1,by rw[a.out]; go_num,by have:=a.out; omega,p,trivial⟩
    case measure=>simp[intOf]; omega}}
  {have t: ¬(n:Int) < (s.length:Int):=by omega
   have q:=d (fun h=>absurd h f);have z: ∀W,(Instr.slice 9 (.string ⟨s.toArray⟩) (some (.int .i64 (i:Int))) (some (.int .i64 (n:Int))) none).run Tryz.prog W= .ok (.string ⟨((s.drop i).takeWhile Lex.lumpB).toArray⟩) W:=fun W=>by
    rw[Z1i ⟨s.toArray⟩ i (n:Int) (by have:=a.out; omega) (by omega) W,Int.toNat_natCast];exact congrArg (fun b=>Result.ok (Value.string ⟨List.toArray b⟩) W) q.out
   have u: (i:Int)<=(n:Int):=by have:=a.out; omega
   have y: (n:Int)<=(s.length:Int):=by omega
   clear d
   go_wp2_with fail
   go_quiet (fail)
   go_wp2;go_ret;exact ⟨rfl,_,rfl⟩}
end
theorem Z4O (g:Nat) (s:List UInt8) (i:Nat) (w:World) (h:ScanAt w g s i):
 Y9 121 #[.pointer (some ⟨g,0,none⟩)] w (.agg #[.int .i64 60,.int .i64 (i:Int)]):=by
 have e:=Z01 w (.cells Yc 29);obtain ⟨a,b,c1,c,d⟩:=h;go_enter Tryz.func121,Tryz.ntmps121;go_wp2;refine bodyPost_ret (v:= .agg #[.int .i64 60,.int .i64 (i:Int)]) (by simp[results,Tryz.results121,go_sem]) rfl ?_;exact ⟨rfl,Z01 _ _⟩
def faultV (ps:List Int) (rest:List UInt8) (i:Nat):Value:=if rest= [] then .agg #[.int .i64 0,.int .i64 0] else .agg #[.int .i64 30,.int .i64 ((i+(Utf.enc ps).length:Nat):Int)]
theorem Z4P (g:Nat) (s:List UInt8) (i n:Nat) (J:i<=s.length) (N:s.length<=1000000) (L:n<=1000000) (ps:List Int) (rest:List UInt8) (y:Utf.Reads ((s.drop i).take n) ps rest) (w:World) (h:ScanAt w g s i):
 Y9 119 #[.pointer (some ⟨g,0,none⟩),.int .i64 (n:Int)] w (faultV ps rest i):=by
 have t:=Y1 (Z0L w 0 0);have hb0:=Z01 w (.cells Yc 29);have j:=Y1 (h.keep h.lt hb0);have d:=Y1 hb0;have F:g < w.heap.size:=h.lt;have z: (Utf.enc ps).length<=1000000:=by
  have:=(Utf.Z3d y).2;rw[List.length_take,List.length_drop] at this; omega
 have E:=Y1 y;clear h hb0 y;go_enter Tryz.func119,Tryz.ntmps119
 go_wp2_with fail
 generalize hW:w.alloc (.cells Yc 29)=W0 at t d j ⊢;clear hW
 go_wp2_with fail
 refine (Z1J g s i n J N L _ j.out).mono ?_;rintro e S ⟨rfl,O,rfl⟩
 go_wp2_with fail
 refine (Z9T ⟨((s.drop i).take n).toArray⟩ (by rw[Z07,List.length_take]; omega) ps rest E.out _).mono ?_;rintro e D ⟨A,cap,T,f,rfl,_,_,l,c⟩;have a:Below W0.heap.size W0 D:=(Z0g W0 O).trans (l.mono (Nat.le_refl _));have b:=Y1 (Z00 d.out a);have k:=Y1 (t.out.keep (B:=W0.heap.size) t.out.1 a);have u:=Y1 (j.out.keep j.out.lt a);clear l a t j E;rcases c with ⟨q,_,rfl⟩ | ⟨q,_,rfl⟩
 {have r:Hid (faultV ps rest i= .agg #[.int .i64 0,.int .i64 0]):=Y1 (by unfold faultV; rw[if_pos q]);have o:=Z03 b.out (.cells Yc 29);obtain ⟨C,x0,x1,y0,P⟩:=k.out;clear q;go_wp2;refine bodyPost_ret (v:= .agg #[.int .i64 0,.int .i64 0]) (by simp[results,Tryz.results119,go_sem,x0,x1,C]) rfl ?_;exact ⟨by rw[r.out],((b.out.setCell (p:=⟨w.heap.size,0,none⟩) (Nat.le_refl _) _).setCell (p:=⟨w.heap.size,1,none⟩) (Nat.le_refl _) _).alloc (by have:=b.out.size; simp; omega) _⟩}
 {have r:Hid (faultV ps rest i= .agg #[.int .i64 30,.int .i64 ((i+(Utf.enc ps).length:Nat):Int)]):=Y1 (by unfold faultV; rw[if_neg q]);have o:=Z03 b.out (.cells #[.int .i64 30,.int .i64 (Utf.enc ps).length] 29);obtain ⟨m,G⟩: ∃m,m=(Utf.enc ps).length:=⟨_,rfl⟩;rw[<-G] at r z o ⊢;obtain ⟨C,x0,x1,y0,P⟩:=k.out;obtain ⟨K,c0,c1,f1,Q⟩:=u.out;have M:w.heap.size≠D.heap.size:=by omega
  have H:g≠D.heap.size:=by omega
  have I:g≠w.heap.size:=by omega
  clear q G
  go_wp2_with fail
  go_region
  go_wp2;refine bodyPost_ret (v:= .agg #[.int .i64 30,.int .i64 ((m:Int)+(i:Int))]) (by simp[results,Tryz.results119,go_sem,x0,x1,C]) rfl ?_;exact ⟨by rw[r.out,show ((i+m:Nat):Int)=(m:Int)+(i:Int) by omega],(((b.out.setCell (p:=⟨w.heap.size,0,none⟩) (Nat.le_refl _) _).setCell (p:=⟨w.heap.size,1,none⟩) (Nat.le_refl _) _).alloc (by have:=b.out.size; simp; omega) _).drew⟩}
end Go.Proofs.YtkncdbaoaeeoiaaGreatDoor
namespace Go.Proofs.YtkncdbaoaeeoiaaGreatDoor
section
open Go.RowKit
def cellsT (l:List Tk):List Value:=l.flatMap fun b=> [.int .i64 b.t.kind,.string ⟨b.t.text.toArray⟩,.int .i64 b.at_]
theorem Z3v (l:List Tk) (b:Tk):cellsT (l++ [b])=cellsT l++ [.int .i64 b.t.kind,.string ⟨b.t.text.toArray⟩,.int .i64 b.at_]:=by simp[cellsT]
theorem Z7d: ∀(l:List Tk) (i:Nat) (h:i < l.length),(cellsT l)[i * 3]? =some (.int .i64 (l[i]'h).t.kind)/\(cellsT l)[i * 3+1]? =some (.string ⟨(l[i]'h).t.text.toArray⟩)/\(cellsT l)[i * 3+2]? =some (.int .i64 (l[i]'h).at_)
 | [],i,h=>by simp at h
 | b::r,0,_=>⟨rfl,rfl,rfl⟩
 | b::r,i+1,h=>by
  have c:=Z7d r i (by simpa using h);have e: ∀k,(cellsT (b::r))[(i+1) * 3+k]? =(cellsT r)[i * 3+k]? :=fun k=>by
   rw[show (i+1) * 3+k=i * 3+k+3 from by omega];simp[cellsT]
  have a:=e 0;simp only[Nat.add_zero] at a;rw[a,e 1,e 2];exact c
theorem ZbE {w:World} {B:Nat} {v:Value} {l:List Tk} (h:w.ownsRow B 54 3 v l.length (cellsT l)): ∃A cap,v= .slice A l.length cap/\l.length<=cap/\Tks w w.heap.size A l:=by
 rcases h.2 with ⟨rfl,a⟩ | ⟨g,cap,c,rfl,d,e,hc,_⟩
 {exact ⟨none,0,by rw[a],by omega,Or.inl a⟩}
 {refine ⟨_,_,rfl,hc,Or.inr ⟨g,0,rfl,(h.lt g rfl).2,fun i hi=> ?_⟩⟩;obtain ⟨b,c1,c2⟩:=Z7d l i hi;rw[Nat.zero_add];exact ⟨(h.cellAt _ (by omega)).trans b,(h.cellAt _ (by omega)).trans c1,(h.cellAt _ (by omega)).trans c2⟩}
theorem ZbF (W:World) (a b:Int) (s:ByteArray) (g:Nat) (c:g=W.heap.size): ∀j u,([.int .i64 a,.string s,.int .i64 b]:List Value)[j]? =some u->
 (W.alloc (.cells #[.int .i64 a,.string s,.int .i64 b] 54)).cell? ((⟨g,0,none⟩:Addr).add j)=some u:=by
 subst c;exact World.news_of_block (heap_alloc_new W _)
theorem one3 {a b:Int} {s:ByteArray}: ∀u∈([.int .i64 a,.string s,.int .i64 b]:List Value),u.oneCell'=true:=by
 intro u c;simp at c;rcases c with rfl | rfl | rfl <;> rfl
theorem Z2n {w:World} {B B':Nat} {e:TypeId} {size:Nat} {v:Value} {n:Nat} {c:List Value} (h:w.ownsRow B e size v n c) (f:B'<=B):w.ownsRow B' e size v n c:=by
 obtain ⟨d,b⟩:=h;refine ⟨d, ?_⟩;rcases b with b | ⟨g,cap,a,i,j,r⟩
 {exact Or.inl b}
 {exact Or.inr ⟨g,cap,a,i,Nat.le_trans f j,r⟩}
theorem Z23 {w w':World} {B:Nat} {e:TypeId} {size:Nat} {v:Value} {n:Nat} {a:List Value} (h:w.ownsRow B e size v n a) (b:Below w.heap.size w w'):w'.ownsRow B e size v n a:=
 h.kept (Z2e b (Nat.le_refl _) none) (by
  rcases c:v.ownBlock with _ | x
  {exact Or.inl rfl}
  · exact Or.inr (by simp))
structure ScanT (W:World) (g B:Nat) (s:List UInt8) (i:Nat) (v:Value) (l:List Tk):Prop where
 at_:ScanAt W g s i
 c2:W.cell? ⟨g,2,none⟩=some v
 own:W.ownsRow B 54 3 v l.length (cellsT l)
 le:B<=W.heap.size
def UpdT (g:Nat) (v:Value) (w w':World):Prop:=Below g w w'/\ ∀b o,b < w.heap.size->b≠g->some b≠v.ownBlock->w'.cell? ⟨b,o,none⟩=w.cell? ⟨b,o,none⟩/\w'.frozen? ⟨b,o,none⟩=w.frozen? ⟨b,o,none⟩
theorem Zdd {w d:World} {o:Obj} {row:Option Nat} (f: (w.drew.alloc o).grownBy d row) {g:Nat} (b:g < w.heap.size) (c:some g≠row) (j:Nat):
 d.cell? ⟨g,j,none⟩=w.cell? ⟨g,j,none⟩/\d.frozen? ⟨g,j,none⟩=w.frozen? ⟨g,j,none⟩:=by
 have a:g < (w.drew.alloc o).heap.size:=by simp; omega
 have e:=Z01 w.drew o;exact ⟨(f.cell_far ⟨g,j,none⟩ a c).trans (e.cell (p:=⟨g,j,none⟩) b),(f.frozen_far ⟨g,j,none⟩ a c).trans (e.frozen (p:=⟨g,j,none⟩) b)⟩
theorem Z4Q (g B:Nat) (r:g < B) (s:List UInt8) (i:Nat) (v:Value) (l:List Tk) (hl:l.length<=1000000) (k:Int) (t:List UInt8) (n:Nat) (hn:i+n<=1000000) (w:World) (h:ScanT w g B s i v l):
 Calls Tryz.prog 62 #[.pointer (some ⟨g,0,none⟩),.int .i64 k,.string ⟨t.toArray⟩,.int .i64 (n:Int)] w fun e w'=>e= .returned (.tuple #[])/\(∃v',ScanT w' g B s (i+n) v' (l++ [⟨⟨k,t⟩,i⟩])/\ ∀x,v'.ownBlock=some x->v.ownBlock=some x\/w.heap.size<=x)/\UpdT g v w w':=by
 obtain ⟨i0,Z,G,H,I⟩:=info_parts (P:=Tryz.prog) (e:=54) (z:= .agg #[.int .i64 0,.string ByteArray.empty,.int .i64 0]) (size:=3) (bytes:=32) (by kernel_rfl);obtain ⟨⟨u,Q,c1,W,L⟩,c2,d,a0⟩:=h;have J:=Y1 d;have y:some g≠v.ownBlock:=fun e=>by have:=(d.lt g e.symm).1; omega
 have O:=Y1 y;clear d;go_enter Tryz.func62,Tryz.ntmps62
 go_wp2_with fail
 have mixed:Tryz.prog.follows .mixedOrders=true:=by kernel_rfl
 go_region_law ((refine step_append_lies _ rfl _ _ 36 rfl B 54 i0 (.agg #[.int .i64 0,.string ByteArray.empty,.int .i64 0]) 3 32 Tryz.underlying36 Z G H I rfl (by decide) v _ _ (by simp[Act.eval]) (J.out.alloc _) ⟨w.heap.size,0,none⟩ 1 1 [.int .i64 k,.string ⟨t.toArray⟩,.int .i64 (i:Int)] (by simp[Act.eval]) rfl (ZbF _ _ _ _ _ rfl) one3 (by decide) (by unfold maxLen; omega) (by omega) (by simp; omega) _ rfl ?_); intro A cap N f c D M; have j:=Y1 (Zdd c u y); have T:=(j.out 1).1.trans c1; have U:=(j.out 2).1.trans c2; have S:=(j.out 0).1.trans Q; have V:=(j.out 1).2.trans W; have e2:=(j.out 2).2.trans L; have C:=Y1 c; have K:=Y1 f; clear f c)
 all_goals
  go_wp2;refine bodyPost_end (v:= .tuple #[]) (by simp[results,Tryz.results62,go_sem]) rfl ?_;have m:B<=N.heap.size:=by have:=C.out.size; simp at this; omega
  have E:Below g w N:=(((Below.refl _ w).alloc (Nat.le_of_lt u) _).drew).grown C.out (by simp; omega) (fun k hk=>by have:=(J.out.lt k hk).1; omega);have Y:B<=A:=(K.out.lt A rfl).1;refine ⟨rfl,⟨.slice (some ⟨A,0,none⟩) (l.length+1) cap,⟨⟨?_, ?_, ?_, ?_, ?_⟩, ?_, ?_, ?_⟩, ?_⟩, ?_, ?_⟩
  {simp; omega}
  {simp[go_sem,S]}
  {simp[go_sem,T]}
  {simp[go_sem,V]}
  {simp[go_sem]; exact (j.out 2).2.trans L}
  {simp[go_sem,U]}
  {rw[Z3v,List.length_append];exact ownsRow_setCell_below (a:=⟨g,1,none⟩) (ownsRow_setCell_below (a:=⟨g,2,none⟩) K.out r _) r _}
  {simpa using m}
  {intro x hx;obtain rfl:A=x:=by simpa[Value.ownBlock] using hx
   rcases D with h | h
   {exact Or.inl h}
   {right; rw[h]; simp}}
  {exact (E.setCell (p:=⟨g,2,none⟩) (Nat.le_refl _) _).setCell (p:=⟨g,1,none⟩) (Nat.le_refl _) _}
  {intro b o X q F;have:=Zdd C.out X F o;rw[<-this.1, <-this.2];refine ⟨?_, ?_⟩
   {rw[World.cell?_setCell_other _ _ _ _ (fun e=>q (congrArg Addr.block e).symm),World.cell?_setCell_other _ _ _ _ (fun e=>q (congrArg Addr.block e).symm)]}
   {simp[go_sem]}}
end
end Go.Proofs.YtkncdbaoaeeoiaaGreatDoor
namespace Lex
theorem Zes (l:List UInt8): (Sem.cut 10 l).1=l.takeWhile (· !=10):=by
 induction l with
 | nil=>rfl
 | cons c r ih=>
  rw[Sem.cut];by_cases h:c=10
  {subst h; rfl}
  {have a: (c !=10)=true:=by simpa using h
   rw[if_neg h,List.takeWhile_cons,if_pos a, <-ih]}
def piece (l:List UInt8):Except (Int×Nat) (List Tok×Nat):=if hasRemark l then (match remark l.length l with
 | .error k=> .error (30,k)
 | .ok n=> .ok ([],n)) else match token l with
 | .error x=> .error x
 | .ok (t,n)=> .ok ([t],n)
def joinR (pre:List (Tok×Nat)):Except (Int×Nat) (List (Tok×Nat))->Except (Int×Nat) (List (Tok×Nat))
 | .error x=> .error x
 | .ok m=> .ok (pre++m)
theorem Z5v (a b:List (Tok×Nat)) (r:Except (Int×Nat) (List (Tok×Nat))):joinR a (joinR b r)=joinR (a++b) r:=by cases r <;> simp[joinR]
theorem Z4R (r:Except (Int×Nat) (List (Tok×Nat))):joinR [] r=r:=by cases r <;> simp[joinR]
theorem Z4d {l:List UInt8} (g:l≠ []) (f: ∀c∈l.head?,blank c=false) (i:Nat):match piece l with
 | .error (x,k)=>toks l i= .error (x,i+k)
 | .ok (ts,n)=>toks l i=joinR (ts.map fun t=>(t,i)) (toks (l.drop n) (i+n))/\1<=n/\n<=l.length/\ts.length<=1:=by
 unfold piece;cases e:hasRemark l with
 | true=>
  rw[Z0y f e];obtain ⟨k,h⟩: ∃k,l.length=k+1:=⟨l.length - 1,by have:=List.length_pos_iff.2 g; omega⟩;cases d:remark l.length l with
  | error k=>simp
  | ok n=>
   have a:=Z1m _ _ _ d;rw[h] at d;have b:=Z0Q e d;simp only[if_true,List.map_nil,Z4R];exact ⟨trivial,b,a,Nat.zero_le _⟩
 | false=>
  rw[Z0G g f e];cases j:token l with
  | error x=>obtain ⟨x,k⟩:=x; simp
  | ok x=>
   obtain ⟨t,n⟩:=x;obtain ⟨a,b,_⟩:=Z0I j;simp only[Bool.false_eq_true,if_false,List.map_cons,List.map_nil];refine ⟨?_,a,b,by simp⟩;cases toks (l.drop n) (i+n) <;> rfl
end Lex
namespace Go.Proofs.YtkncdbaoaeeoiaaGreatDoor
open Go.RowKit
theorem UpdT.of {g:Nat} {v:Value} {w w':World} (h:Below w.heap.size w w') (a:g<=w.heap.size):UpdT g v w w':=
 ⟨h.mono a,fun b o hb _ _=>⟨h.cell (p:=⟨b,o,none⟩) hb,h.frozen (p:=⟨b,o,none⟩) hb⟩⟩
theorem UpdT.trans {g:Nat} {v:Value} {a b c:World} (h:UpdT g v a b) (k:UpdT g v b c):UpdT g v a c:=
 ⟨h.1.trans k.1,fun x o hx h1 h2=>⟨(k.2 x o (Nat.lt_of_lt_of_le hx h.1.size) h1 h2).1.trans (h.2 x o hx h1 h2).1,(k.2 x o (Nat.lt_of_lt_of_le hx h.1.size) h1 h2).2.trans (h.2 x o hx h1 h2).2⟩⟩
theorem ScanT.keep {w w':World} {g B i:Nat} {s:List UInt8} {v:Value} {l:List Tk} (h:ScanT w g B s i v l) (a:Below w.heap.size w w'):ScanT w' g B s i v l:=
 ⟨h.at_.keep h.at_.lt a,(a.cell (p:=⟨g,2,none⟩) h.at_.lt).trans h.c2,h.own.kept (Z2e a (Nat.le_refl _) none) (by
  rcases b:v.ownBlock with _ | x
  {exact Or.inl rfl}
  · exact Or.inr (by simp)),Nat.le_trans h.le a.size⟩
def UpdB (g B:Nat) (w w':World):Prop:=Below g w w'/\ ∀b o,b < B->b≠g->w'.cell? ⟨b,o,none⟩=w.cell? ⟨b,o,none⟩/\w'.frozen? ⟨b,o,none⟩=w.frozen? ⟨b,o,none⟩
theorem UpdT.toB {w w':World} {g B i:Nat} {s:List UInt8} {v:Value} {l:List Tk} (h:ScanT w g B s i v l) (u:UpdT g v w w'):UpdB g B w w':=
 ⟨u.1,fun b o hb hne=>u.2 b o (Nat.lt_of_lt_of_le hb h.le) hne (fun e=>by have:=(h.own.lt b e.symm).1; omega)⟩
def StepE (g B:Nat) (s:List UInt8) (i:Nat) (v:Value) (l:List Tk) (r:Except (Int×Nat) (List Lex.Tok×Nat)) (w:World) (e:Ending) (w':World):Prop:=
 UpdT g v w w'/\match r with
 | .error (x,k)=>e= .returned (.agg #[.int .i64 x,.int .i64 ((i+k:Nat):Int)])
 | .ok (ts,n)=>e= .returned (.agg #[.int .i64 0,.int .i64 0])/\ ∃v',ScanT w' g B s (i+n) v' (l++ts.map fun t=>⟨t,(i:Int)⟩)/\ ∀x,v'.ownBlock=some x->v.ownBlock=some x\/w.heap.size<=x
theorem ScanAt.draw {w:World} {g i:Nat} {s:List UInt8} (h:ScanAt w g s i) (n:Nat):ScanAt (w.drewN n) g s i:=h.keep h.lt (Z0g w n)
theorem Z8E {s:List UInt8} {i:Nat} (a:i < s.length):Lex.longest (s.drop i)=if Lex.letter (s[i]'a) then (s.drop i).takeWhile Lex.nameB else if Lex.digit (s[i]'a) then (s.drop i).takeWhile Lex.lumpB else if Lex.isSign ((s.drop i).take 2) then (s.drop i).take 2 else (s.drop i).take 1:=by
 have h:=List.drop_eq_getElem_cons a;have b: (s.drop i).take 1= [s[i]'a]:=by rw[h]; rfl
 rw[b]
 conv=>lhs; rw[h,Lex.Z37, <-h]
 rfl
theorem Z8F (g:Nat) (s:List UInt8) (i:Nat) (f:i < s.length) (k:s.length<=1000000) (w:World) (h:ScanAt w g s i):
 Y9 122 #[.pointer (some ⟨g,0,none⟩)] w (.string ⟨(Lex.longest (s.drop i)).toArray⟩):=by
 have d:=Y1 (Z8E f);have l:=Y1 (Z3u g s i f);obtain ⟨c,n⟩: ∃c,c=s[i]'f:=⟨_,rfl⟩;rw[<-n] at d l;clear n;have b:=Y1 h;clear h;cases h1:Lex.letter c
 {cases h2:Lex.digit c
  {cases m:Lex.isSign ((s.drop i).take 2)
   {have j:Hid (Lex.longest (s.drop i)=(s.drop i).take 1):=Y1 (by rw[d.out,h1,h2,m]; rfl);clear d;go_enter Tryz.func122,Tryz.ntmps122
    go_wp2_with fail
    refine (l.out _ b.out).mono ?_;rintro e a ⟨rfl,n1,rfl⟩
    go_wp2_with fail
    refine (Z0m c _).mono ?_;rintro e a ⟨rfl,rfl⟩;rw[h1]
    go_wp2_with fail
    refine (Z0z c _).mono ?_;rintro e a ⟨rfl,rfl⟩;rw[h2]
    go_wp2_with fail
    refine (Z1J g s i 2 (Nat.le_of_lt f) k (by decide) _ (b.out.draw _)).mono ?_;rintro e a ⟨rfl,n2,rfl⟩
    go_wp2_with fail
    refine (Z1H _ _).mono ?_;rintro e a ⟨rfl,rfl⟩;rw[m]
    go_wp2_with fail
    refine (Z1J g s i 1 (Nat.le_of_lt f) k (by decide) _ (b.out.draw _)).mono ?_;rintro e a ⟨rfl,n3,rfl⟩;go_wp2;go_ret;exact ⟨by rw[j.out]; rfl,Z0g _ _⟩}
   {have j:Hid (Lex.longest (s.drop i)=(s.drop i).take 2):=Y1 (by rw[d.out,h1,h2,m]; rfl);clear d;go_enter Tryz.func122,Tryz.ntmps122
    go_wp2_with fail
    refine (l.out _ b.out).mono ?_;rintro e a ⟨rfl,n1,rfl⟩
    go_wp2_with fail
    refine (Z0m c _).mono ?_;rintro e a ⟨rfl,rfl⟩;rw[h1]
    go_wp2_with fail
    refine (Z0z c _).mono ?_;rintro e a ⟨rfl,rfl⟩;rw[h2]
    go_wp2_with fail
    refine (Z1J g s i 2 (Nat.le_of_lt f) k (by decide) _ (b.out.draw _)).mono ?_;rintro e a ⟨rfl,n2,rfl⟩
    go_wp2_with fail
    refine (Z1H _ _).mono ?_;rintro e a ⟨rfl,rfl⟩;rw[m]
    go_wp2_with fail
    refine (Z1J g s i 2 (Nat.le_of_lt f) k (by decide) _ (b.out.draw _)).mono ?_;rintro e a ⟨rfl,n3,rfl⟩;go_wp2;go_ret;exact ⟨by rw[j.out]; rfl,Z0g _ _⟩}}
  {have j:Hid (Lex.longest (s.drop i)=(s.drop i).takeWhile Lex.lumpB):=Y1 (by rw[d.out,h1,h2]; rfl);clear d;go_enter Tryz.func122,Tryz.ntmps122
   go_wp2_with fail
   refine (l.out _ b.out).mono ?_;rintro e a ⟨rfl,n1,rfl⟩
   go_wp2_with fail
   refine (Z0m c _).mono ?_;rintro e a ⟨rfl,rfl⟩;rw[h1]
   go_wp2_with fail
   refine (Z0z c _).mono ?_;rintro e a ⟨rfl,rfl⟩;rw[h2]
   go_wp2_with fail
   refine (ZbD g s i (Nat.le_of_lt f) k _ (b.out.draw _)).mono ?_;rintro e a ⟨rfl,n2,rfl⟩;go_wp2;go_ret;exact ⟨by rw[j.out]; rfl,Z0g _ _⟩}}
 {have j:Hid (Lex.longest (s.drop i)=(s.drop i).takeWhile Lex.nameB):=Y1 (by rw[d.out,h1]; rfl);clear d;go_enter Tryz.func122,Tryz.ntmps122
  go_wp2_with fail
  refine (l.out _ b.out).mono ?_;rintro e a ⟨rfl,n1,rfl⟩
  go_wp2_with fail
  refine (Z0m c _).mono ?_;rintro e a ⟨rfl,rfl⟩;rw[h1]
  go_wp2_with fail
  refine (ZbC g s i (Nat.le_of_lt f) k _ (b.out.draw _)).mono ?_;rintro e a ⟨rfl,n2,rfl⟩;go_wp2;go_ret;exact ⟨by rw[j.out]; rfl,Z0g _ _⟩}
theorem Z1C {g:Nat} {v:Value} {w w':World} (h:UpdT g v w w') (c:Nat) (i:w.heap.size<=c) (d:g<=c) (a b:Value):UpdT g v w ((w'.setCell ⟨c,0,none⟩ a).setCell ⟨c,1,none⟩ b):=
 ⟨(h.1.setCell (p:=⟨c,0,none⟩) d _).setCell (p:=⟨c,1,none⟩) d _,fun x o hx h1 h2=>by
  have f: ∀k,(⟨c,k,none⟩:Addr)≠⟨x,o,none⟩:=fun k e=>by have:=congrArg Addr.block e; simp at this; omega
  refine ⟨?_, ?_⟩
  {rw[World.cell?_setCell_other _ _ _ _ (f 1),World.cell?_setCell_other _ _ _ _ (f 0)]; exact (h.2 x o hx h1 h2).1}
  · have:=(h.2 x o hx h1 h2).2
    simpa[go_sem] using this⟩
theorem ScanT.box {w:World} {g B i:Nat} {s:List UInt8} {v:Value} {l:List Tk} (h:ScanT w g B s i v l) (b:Nat) (n:g≠b) (p:v.ownBlock≠some b) (a:Value) (j:Nat):ScanT (w.setCell ⟨b,j,none⟩ a) g B s i v l:=by
 have d: ∀o,(⟨b,j,none⟩:Addr)≠⟨g,o,none⟩:=fun o e=>n (congrArg Addr.block e).symm;obtain ⟨⟨c,f,c1,k,m⟩,c2,own,q⟩:=h;refine ⟨⟨by simpa using c, ?_, ?_,by simpa[go_sem] using k,by simpa[go_sem] using m⟩, ?_, ?_,by simpa using q⟩
 {rw[World.cell?_setCell_other _ _ _ _ (d 0)]; exact f}
 {rw[World.cell?_setCell_other _ _ _ _ (d 1)]; exact c1}
 {rw[World.cell?_setCell_other _ _ _ _ (d 2)]; exact c2}
 {exact ownsRow_setCell_other own p _}
theorem Box2.updT {W W':World} {g c:Nat} {v:Value} {a b:Int} (h:Box2 W c a b) (e:UpdT g v W W') (m:c≠g) (n:some c≠v.ownBlock):Box2 W' c a b:=by
 obtain ⟨d,f,i,j,l⟩:=h;have k:=fun o=>e.2 c o d m n;exact ⟨Nat.lt_of_lt_of_le d e.1.size,(k 0).1.trans f,(k 1).1.trans i,(k 0).2.trans j,(k 1).2.trans l⟩
theorem ZbG {s:List UInt8} {i:Nat} (b:i < s.length) (a:s[i]'b≠34):Lex.token (s.drop i)=match Lex.kindR (Lex.longest (s.drop i)) with
 | some k=> .ok (⟨k,Lex.longest (s.drop i)⟩,(Lex.longest (s.drop i)).length)
 | none=> .error (60,0):=by
 rw[List.drop_eq_getElem_cons b];exact Lex.Zcz a
theorem Z9U (l:List UInt8): (Lex.longest l).length<=l.length:=by
 cases l with
 | nil=>exact Nat.le_refl _
 | cons c r=>
  rw[Lex.Z37];split
  {exact (Lex.Z1g _ _).1}
  split
  {exact (Lex.Z1g _ _).1}
  split
  {rw[List.length_take]; omega}
  {simp}
theorem ZbH (g B:Nat) (Y:g < B) (s:List UInt8) (i:Nat) (Z:i < s.length) (hs:s.length<=4096) (J:s[i]'Z≠34) (hr:Lex.hasRemark (s.drop i)=false) (v:Value) (l:List Tk) (hl:l.length<=i) (w:World) (h:ScanT w g B s i v l) (hg:Globs w):
 Calls Tryz.prog 87 #[.pointer (some ⟨g,0,none⟩)] w (StepE g B s i v l (Lex.piece (s.drop i)) w):=by
 have H:=Y1 (ZbG Z J);have M:Hid (Lex.piece (s.drop i)=match Lex.token (s.drop i) with | .error x=> .error x | .ok (t,n)=> .ok ([t],n)):=Y1 (by unfold Lex.piece; rw[hr]; rfl);have a0: (Lex.longest (s.drop i)).length<=s.length - i:=by have:=Z9U (s.drop i); rw[List.length_drop] at this; exact this
 obtain ⟨t,ht⟩: ∃t,t=Lex.longest (s.drop i):=⟨_,rfl⟩;have q:=Y1 (Z8F g s i Z (by omega));rw[<-ht] at H a0 q;have hb0:=Z01 w (.cells Yc 29);have O:=Y1 (Z0L w 0 0);have N:=Y1 (h.keep hb0);have Q:=Y1 (hg.next hb0);have o:=Y1 hb0;have a3:=h.at_.lt;have a7:=h.le;have y:w.heap.size≠g:=by omega
 have L:some w.heap.size≠v.ownBlock:=fun e=>by have:=(h.own.lt _ e.symm).2; omega
 have F:=Y1 L;have hz: (⟨t.toArray⟩:ByteArray).size=t.length:=Z07 _;clear hb0 J h L hg hr;go_enter Tryz.func87,Tryz.ntmps87
 go_wp2_with fail
 generalize hW:w.alloc (.cells Yc 29)=W0 at O o N Q ⊢;clear hW
 go_wp2_with fail
 refine (q.out _ N.out.at_).mono ?_;rintro e w2 ⟨rfl,c⟩;have G:=Y1 (N.out.keep c);have u:=Y1 (O.out.keep (B:=W0.heap.size) O.out.1 c);have E:=Y1 (Q.out.next c);have D:=Y1 (Z00 o.out c);clear c N O Q o q ht
 go_wp2_with fail
 refine (ZbB t (by omega) _ E.out).mono ?_;rintro e w3 ⟨P,m⟩;have r:=Y1 (G.out.keep m);have b:=Y1 (u.out.keep (B:=w2.heap.size) u.out.1 m);have p:=Y1 (Z00 D.out m);clear m G u E D;cases C:Lex.kindR t with
 | none=>
  have d:kindV t= .tuple #[.int .i64 0,.bool false]:=by unfold kindV; rw[C]
  rw[d] at P;subst P;have S:Hid (Lex.piece (s.drop i)= .error (60,0)):=Y1 (by rw[M.out,H.out,C]);clear C d H M
  go_wp2_with fail
  refine (Z4O g s i _ r.out.at_).mono ?_;rintro e w4 ⟨rfl,a⟩;have j:=Y1 (b.out.keep (B:=w3.heap.size) b.out.1 a);have f:=Y1 (Z00 p.out a);obtain ⟨q0,x0,x1,y0,y1⟩:=j.out;clear a;go_wp2;refine bodyPost_ret (v:= .agg #[.int .i64 60,.int .i64 (i:Int)]) (by simp[results,Tryz.results87,go_sem,x0,x1]) rfl ?_;refine ⟨Z1C (UpdT.of f.out (by omega)) _ (by omega) (by omega) _ _, ?_⟩;rw[S.out];simp
 | some k=>
  have d:kindV t= .tuple #[.int .i64 k,.bool true]:=by unfold kindV; rw[C]
  rw[d] at P;subst P;have S:Hid (Lex.piece (s.drop i)= .ok ([⟨k,t⟩],t.length)):=Y1 (by rw[M.out,H.out,C]);clear C d H M
  go_wp2_with fail
  refine (Z48 t (by omega) _).mono ?_;rintro e w4 ⟨rfl,a⟩;have T:=Y1 (r.out.keep a);have j:=Y1 (b.out.keep (B:=w3.heap.size) b.out.1 a);have f:=Y1 (Z00 p.out a);clear a b p r
  go_wp2_with fail
  refine (Z4Q g B Y s i v l (by omega) k t t.length (by omega) _ T.out).mono ?_;rintro e w5 ⟨rfl,⟨v',K,A⟩,z⟩;have I:Hid (v'.ownBlock≠some w.heap.size):=Y1 (fun e=>by
   rcases A _ e with h | h
   {exact F.out h.symm}
   · have:=j.out.1; omega)
  have W:Hid (∀x,v'.ownBlock=some x->v.ownBlock=some x\/w.heap.size<=x):=Y1 (fun x hx=>by
   rcases A x hx with h | h
   {exact Or.inl h}
   · right; have:=f.out.size; omega)
  clear A;have X:=Y1 (j.out.updT z y F.out);have V:=Y1 ((UpdT.of f.out (by omega)).trans z);have U:=Y1 K;clear K z;obtain ⟨q0,x0,x1,y0,y1⟩:=X.out;go_wp2;refine bodyPost_ret (v:= .agg #[.int .i64 0,.int .i64 0]) (by simp[results,Tryz.results87,go_sem,x0,x1]) rfl ?_;refine ⟨Z1C V.out _ (by omega) (by omega) _ _, ?_⟩;rw[S.out];exact ⟨rfl,v',(U.out.box _ (Ne.symm y) I.out _ _).box _ (Ne.symm y) I.out _ _,W.out⟩
end Go.Proofs.YtkncdbaoaeeoiaaGreatDoor
namespace Go.Proofs.YtkncdbaoaeeoiaaGreatDoor
section
open Go.RowKit
theorem ScanT.move {w:World} {g B i:Nat} {s:List UInt8} {v:Value} {l:List Tk} (h:ScanT w g B s i v l) (b:g < B) (j:Nat):ScanT (w.setCell ⟨g,1,none⟩ (.int .i64 (j:Int))) g B s j v l:=by
 obtain ⟨⟨c,d,c1,e,f⟩,c2,own,k⟩:=h;refine ⟨⟨by simpa using c, ?_, ?_,by simpa[go_sem] using e,by simpa[go_sem] using f⟩, ?_, ?_,by simpa using k⟩
 {simp[go_sem,d]}
 {simp[go_sem,c1]}
 {simp[go_sem,c2]}
 {exact ownsRow_setCell_below (a:=⟨g,1,none⟩) own b _}
theorem Zde {g:Nat} {v:Value} {w w':World} (h:UpdT g v w w') (a:Value) (j:Nat):UpdT g v w (w'.setCell ⟨g,j,none⟩ a):=
 ⟨h.1.setCell (p:=⟨g,j,none⟩) (Nat.le_refl _) _,fun x o hx h1 h2=>by
  refine ⟨?_, ?_⟩
  {rw[World.cell?_setCell_other _ _ _ _ (fun e=>h1 (congrArg Addr.block e).symm)]; exact (h.2 x o hx h1 h2).1}
  · have:=(h.2 x o hx h1 h2).2
    simpa[go_sem] using this⟩
theorem Z9V (g B:Nat) (S:g < B) (s:List UInt8) (i:Nat) (hi:i < s.length) (hs:s.length<=4096) (U:Lex.hasRemark (s.drop i)=true) (v:Value) (l:List Tk) (w:World) (h:ScanT w g B s i v l):
 Calls Tryz.prog 85 #[.pointer (some ⟨g,0,none⟩)] w (StepE g B s i v l (Lex.piece (s.drop i)) w):=by
 obtain ⟨ps,rest,Q,Z⟩:=Lex.Z61 (s.drop i).length (s.drop i) (Nat.le_refl _);have D:Hid (Lex.piece (s.drop i)=match Lex.remark (s.drop i).length (s.drop i) with | .error k=> .error (30,k) | .ok n=> .ok ([],n)):=Y1 (by unfold Lex.piece; first | (rw[if_pos U]; done) | (rw[if_pos U]; rfl));rw[Z] at D;have f:=Lex.Zes (s.drop i);obtain ⟨q,C⟩:=Lex.Z1g (· !=10) (s.drop i)
 obtain ⟨t,ht⟩: ∃t,t=(s.drop i).takeWhile (· !=10):=⟨_,rfl⟩
 rw[<-ht] at Q D f q C;have a8:t.length<=s.length - i:=by rw[List.length_drop] at q; exact q
 have Y:=Y1 (Z4P g s i t.length (Nat.le_of_lt hi) (by omega) (by omega) ps rest (by rw[C]; exact Q));have N:Hid (cutR 10 (s.drop i)= .tuple #[.string ⟨t.toArray⟩,.string ⟨(Sem.cut 10 (s.drop i)).2.1.toArray⟩,.bool (Sem.cut 10 (s.drop i)).2.2]):=Y1 (by unfold cutR; rw[f]);obtain ⟨c2,H⟩: ∃x,x=(Sem.cut 10 (s.drop i)).2.1:=⟨_,rfl⟩;obtain ⟨c3,I⟩: ∃x,x=(Sem.cut 10 (s.drop i)).2.2:=⟨_,rfl⟩;rw[<-H, <-I] at N;have hb0:=Z01 w (.cells Yc 29);have M:=Y1 (Z0L w 0 0);have L:=Y1 (h.keep hb0);have r:=Y1 hb0;have a0:=h.at_.lt;have a7:=h.le;have J:w.heap.size≠g:=by omega
 have F:Hid (v.ownBlock≠some w.heap.size):=Y1 (fun e=>by have:=(h.own.lt _ e).2; omega);have hz: (⟨t.toArray⟩:ByteArray).size=t.length:=Z07 _;clear hb0 h U Q Z f q C ht H I;go_enter Tryz.func85,Tryz.ntmps85
 go_wp2_with fail
 generalize hW:w.alloc (.cells Yc 29)=W0 at M r L ⊢;clear hW
 go_wp2_with fail
 refine (Z6f g s i (Nat.le_of_lt hi) _ L.out.at_).mono ?_;rintro e w2 ⟨rfl,nq,rfl⟩
 go_wp2_with fail
 refine (Z8q ⟨(s.drop i).toArray⟩ 10 (by rw[Z07,List.length_drop]; omega) _).mono ?_;rintro e w3 ⟨A,G⟩;rw[show (⟨(s.drop i).toArray⟩:ByteArray).data.toList=s.drop i from rfl,N.out] at A;subst A;have b:Below W0.heap.size W0 w3:=(Z0g W0 nq).trans (G.mono (Nat.le_refl _));have u:=Y1 (L.out.keep b);have z:=Y1 (M.out.keep (B:=W0.heap.size) M.out.1 b);have E:=Y1 (Z00 r.out b);clear G b L M r N
 go_wp2_with fail
 refine (Y.out _ u.out.at_).mono ?_;rintro e X ⟨A,o⟩;have y:=Y1 (u.out.keep o);have d:=Y1 (z.out.keep (B:=w3.heap.size) z.out.1 o);have c:=Y1 (Z00 E.out o);clear o u z E Y;by_cases a:rest= []
 {have j:faultV ps rest i= .agg #[.int .i64 0,.int .i64 0]:=by unfold faultV; rw[if_pos a]
  rw[j] at A;subst A;have P:Hid (Lex.piece (s.drop i)= .ok ([],t.length)):=Y1 (by rw[D.out,if_neg (by rw[a]; simp)]);have p:=Z01 X (.cells Yc 29);have a5:=Y1 (y.out.keep p);have a6:=Y1 (d.out.keep (B:=X.heap.size) d.out.1 p);have a4:=Y1 (Z00 c.out p);have K:=d.out.1;have HQ:Hid (w.heap.size < X.heap.size):=Y1 K;clear a j D p K;obtain ⟨W,x0,x1,y0,y1⟩:=d.out;obtain ⟨⟨a9,c0,c1,f1,f2⟩,d2,_,_⟩:=y.out;go_wp2;refine bodyPost_ret (v:= .agg #[.int .i64 0,.int .i64 0]) (by simp[results,Tryz.results85,go_sem,x0,x1,W]) rfl ?_;have V:=c.out.size;refine ⟨(Z1C (Zde (UpdT.of c.out (by omega)) _ 1) _ (by omega) (by omega) _ _).trans (UpdT.of (Z01 _ _) (by simp; omega)), ?_⟩;rw[P.out];exact ⟨rfl,v,by rw[List.map_nil,List.append_nil]; exact ((((y.out.move S (i+t.length)).box _ (Ne.symm J) F.out _ _).box _ (Ne.symm J) F.out _ _).keep (Z01 _ _)),fun x hx=>Or.inl hx⟩}
 {have j:faultV ps rest i= .agg #[.int .i64 30,.int .i64 ((i+(Utf.enc ps).length:Nat):Int)]:=by unfold faultV; rw[if_neg a]
  rw[j] at A;subst A;have P:Hid (Lex.piece (s.drop i)= .error (30,(Utf.enc ps).length)):=Y1 (by rw[D.out,if_pos a]);obtain ⟨m,T⟩: ∃m,m=i+(Utf.enc ps).length:=⟨_,rfl⟩;rw[<-T];have O:=Y1 T;clear a j D T;obtain ⟨W,x0,x1,y0,y1⟩:=d.out;go_wp2;refine bodyPost_ret (v:= .agg #[.int .i64 30,.int .i64 (m:Int)]) (by simp[results,Tryz.results85,go_sem,x0,x1,W]) rfl ?_;have V:=c.out.size;refine ⟨(Z1C (UpdT.of c.out (by omega)) _ (by omega) (by omega) _ _).trans (UpdT.of (Z01 _ _) (by simp; omega)), ?_⟩;rw[P.out];show _=Ending.returned (.agg #[.int .i64 30,.int .i64 ((i+(Utf.enc ps).length:Nat):Int)]);rw[<-O.out]}
end
end Go.Proofs.YtkncdbaoaeeoiaaGreatDoor
namespace Go.Proofs
def Tryz.lays137_ren:Go.Shelf.Ren:=⟨fun | 137=>177 | 217=>184 | 266=>203 | n=>n,fun | 9=>9 | 5=>5 | 3=>3 | n=>n,fun | n=>n⟩
theorem Tryz.lays137:Go.Proofs.Lays.n137 Tryz.prog Tryz.lays137_ren:= {
 mixed:=by kernel_rfl
 f137:=Tryz.func177.trans (congrArg some (by kernel_rfl))
 f217:=Tryz.func184.trans (congrArg some (by kernel_rfl))
 f266:=Tryz.func203.trans (congrArg some (by kernel_rfl))
 t3:=Tryz.underlying3
 a3:=Tryz.isAgg3
 z3:=Tryz.sizeOf3
 v3:=Tryz.zeroValue3
 t5:=Tryz.underlying5
 a5:=Tryz.isAgg5
 z5:=Tryz.sizeOf5
 v5:=Tryz.zeroValue5
 t9:=Tryz.underlying9
 a9:=Tryz.isAgg9
 z9:=Tryz.sizeOf9
 v9:=Tryz.zeroValue9 }
end Go.Proofs
namespace Go.Proofs.YtkncdbaoaeeoiaaGreatDoor
open Go.RowKit
theorem Z6E (s:List UInt8) (c:UInt8) (w:World):
 Calls Tryz.prog 177 #[.string ⟨s.toArray⟩,.int .u8 (c.toNat:Int)] w fun e w'=>e= .returned (.int .i64 (Lib.indexByte s c))/\w=w':=by
 have h:=Any.strings_IndexByte Tryz.lays137 ⟨s.toArray⟩ (c.toNat:Int) w;have e: ((c.toNat:Int)).toNat.toUInt8=c:=by simp
 rw[e] at h;refine h.mono ?_;rintro e w' ⟨rfl,rfl⟩;exact ⟨rfl,rfl⟩
def unescV:List UInt8->Value
 | []=> .tuple #[.int .u8 0,.bool false]
 | d::_=>match Lex.unesc d with
  | some x=> .tuple #[.int .u8 (x.toNat:Int),.bool true]
  | none=> .tuple #[.int .u8 0,.bool false]
theorem Z5w (d:UInt8) (q:List UInt8):unescV (d::q)=match Lex.unesc d with | some x=> .tuple #[.int .u8 (x.toNat:Int),.bool true] | none=> .tuple #[.int .u8 0,.bool false]:=rfl
theorem ZbI (d:UInt8): (Lib.indexByte [110,116,34,92] d=0/\Lex.unesc d=some 10)\/(Lib.indexByte [110,116,34,92] d=1/\Lex.unesc d=some 9)\/
 (Lib.indexByte [110,116,34,92] d=2/\Lex.unesc d=some 34)\/(Lib.indexByte [110,116,34,92] d=3/\Lex.unesc d=some 92)\/(Lib.indexByte [110,116,34,92] d= -1/\Lex.unesc d=none):=by
 by_cases a:d=110
 {subst a; exact Or.inl ⟨by decide,rfl⟩}
 by_cases b:d=116
 {subst b; exact Or.inr (Or.inl ⟨by decide,rfl⟩)}
 by_cases c:d=34
 {subst c; exact Or.inr (Or.inr (Or.inl ⟨by decide,rfl⟩))}
 by_cases e:d=92
 {subst e; exact Or.inr (Or.inr (Or.inr (Or.inl ⟨by decide,rfl⟩)))}
 {refine Or.inr (Or.inr (Or.inr (Or.inr ⟨?_, ?_⟩)))
  {have g1: ((110:UInt8)==d)=false:=beq_eq_false_iff_ne.2 (Ne.symm a);have g2: ((116:UInt8)==d)=false:=beq_eq_false_iff_ne.2 (Ne.symm b);have g3: ((34:UInt8)==d)=false:=beq_eq_false_iff_ne.2 (Ne.symm c);have f: ((92:UInt8)==d)=false:=beq_eq_false_iff_ne.2 (Ne.symm e);simp[Lib.indexByte,g1,g2,g3,f]}
  {unfold Lex.unesc; rw[if_neg a,if_neg b,if_neg c,if_neg e]}}
theorem Z2L (l:List UInt8) (w:World):
 Calls Tryz.prog 151 #[.string ⟨l.toArray⟩] w fun e w'=>e= .returned (unescV l)/\w=w':=by
 cases l with
 | nil=>
  have g:Hid (unescV []= .tuple #[.int .u8 0,.bool false]):=Y1 rfl;go_enter Tryz.func151,Tryz.ntmps151;go_wp2
  go_ret2
  exact ⟨by rw[g.out]; rfl,rfl⟩
 | cons d q=>
  have f:unescV (d::q)=match Lex.unesc d with | some x=> .tuple #[.int .u8 (x.toNat:Int),.bool true] | none=> .tuple #[.int .u8 0,.bool false]:=rfl
  obtain ⟨l,a⟩: ∃l:List UInt8,l=d::q:=⟨_,rfl⟩;rw[<-a] at f ⊢;have k: (⟨l.toArray⟩:ByteArray).size=l.length:=Z07 _;have j:l.isEmpty=false:=by rw[a]; rfl
  have i: (l== [])=false:=by rw[a]; rfl
  have h: ∀W,(Instr.index 9 (.string ⟨l.toArray⟩) (.int .i64 0)).run Tryz.prog W= .ok (.int .u8 d.toNat) W:=fun W=>by rw[a]; rfl
  clear a;rcases ZbI d with ⟨b,c⟩ | ⟨b,c⟩ | ⟨b,c⟩ | ⟨b,c⟩ | ⟨b,c⟩
  all_goals
   rw[c] at f;have g:=Y1 f;clear f c;go_enter Tryz.func151,Tryz.ntmps151
   go_wp2_with fail
   refine (Z6E [110,116,34,92] d _).mono ?_;rintro e m ⟨rfl,rfl⟩;rw[b];clear b;go_wp2
   go_ret2
   exact ⟨by rw[g.out]; rfl,rfl⟩
end Go.Proofs.YtkncdbaoaeeoiaaGreatDoor
