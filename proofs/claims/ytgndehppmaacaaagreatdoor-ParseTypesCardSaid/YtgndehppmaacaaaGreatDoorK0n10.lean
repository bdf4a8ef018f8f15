/- What the proofs of ParseTypes want, part 10. -/
import Derived.Test.YtgndehppmaacaaaGreatDoorK0n9
set_option linter.unusedVariables false
set_option linter.unusedSimpArgs false
set_option linter.unusedSectionVars false
set_option maxRecDepth 100000
set_option maxHeartbeats 16000000
namespace Go.Proofs.YtgndehppmaacaaaGreatDoor
section
open Go.RowKit
def parseR (o:Option Sem.Ver):Value:=match o with
 | some v=> .tuple #[verV v,.int .i64 0]
 | none=> .tuple #[verV ⟨0,0,0,[]⟩,.int .i64 40]
theorem Zlx {l:List UInt8} (h:60 < l.length):Sem.parse l=none:=by
 cases c:Sem.parse l with
 | none=>rfl
 | some v=>
  obtain ⟨a,b⟩:=Sem.Z8A c;have:=Sem.text_len a;rw[b] at this;omega
def tl (t:Nat×Nat×Nat):List Value:= [.int .i64 t.1,.int .i64 t.2.1,.int .i64 t.2.2]
theorem ZpS (t:Nat×Nat×Nat) (k:Nat) (h:k<=2): (tl t)[k]? =some (.int .i64 (Sem.get t k)):=by
 match k,h with
 | 0,_=>rfl
 | 1,_=>rfl
 | 2,_=>rfl
theorem ZpT (t:Nat×Nat×Nat) (k x:Nat) (h:k<=2): (tl t).set k (.int .i64 x)=tl (Sem.put t k x):=by
 match k,h with
 | 0,_=>rfl
 | 1,_=>rfl
 | 2,_=>rfl
theorem Zk8 (s:ByteArray) (h:60 < s.size) (a:s.size<=9223372036854775807) (w:World):
 Y9 71 #[.string s] w (parseR (Sem.parse s.data.toList)):=by
 rw[Zlx (by rw[<-Lib.size_eq]; exact h)];go_enter Tryz.func71,Tryz.ntmps71;go_wp2;refine bodyPost_ret (v:= .tuple #[.agg #[.int .i64 0,.int .i64 0,.int .i64 0,.string ByteArray.empty],.int .i64 40]) (by simp[results,Tryz.results71,go_sem]; rfl) rfl ?_;exact ⟨rfl,Z01 _ _⟩
theorem Zic {s:ByteArray} {i:Nat} (h:i < s.size) (k:Nat) (t:Nat×Nat×Nat):Sem.scan (s.data.toList.drop i) k t=
 if s[i]'h=45 then some (t,s.data.toList.drop i) else if s[i]'h=46 then (if k < 2 then Sem.scan (s.data.toList.drop (i+1)) (k+1) t else none)
 else if Sem.dig (s[i]'h)=true then Sem.scan (s.data.toList.drop (i+1)) k (Sem.put t k (Sem.rd (Sem.get t k) (s[i]'h))) else none:=by
 rw[List.drop_eq_getElem_cons (by rw[<-Lib.size_eq]; exact h),Sem.scan];rfl
theorem bel4 {w W:World} {x0 x1 x2 a:Value} (h:Below w.heap.size w W):Below w.heap.size w ((((W.setCell ⟨w.heap.size,0,none⟩ x0).setCell ⟨w.heap.size,1,none⟩ x1).setCell ⟨w.heap.size,2,none⟩ x2).setCell ⟨w.heap.size,3,none⟩ a):=
 (((h.setCell (p:=⟨w.heap.size,0,none⟩) (Nat.le_refl _) _).setCell (p:=⟨w.heap.size,1,none⟩) (Nat.le_refl _) _).setCell (p:=⟨w.heap.size,2,none⟩) (Nat.le_refl _) _).setCell (p:=⟨w.heap.size,3,none⟩) (Nat.le_refl _) _
theorem Zqm {a:Nat} {c:UInt8} (h:a<=9999999) (b:c.toNat<=57):Sem.rd a c<=9999999:=by
 unfold Sem.rd; split <;> omega
theorem ZpU {t:Nat×Nat×Nat} {k x:Nat} (h: ∀j,Sem.get t j<=9999999) (e:x<=9999999): ∀j,Sem.get (Sem.put t k x) j<=9999999:=by
 have d:t.1<=9999999:=h 0;have f:t.2.1<=9999999:=h 1;have g:t.2.2<=9999999:=h 2;intro j;unfold Sem.put;by_cases b:k=0
 {rw[if_pos b]; unfold Sem.get;by_cases a:j=0
  {rw[if_pos a]; exact e}
  {rw[if_neg a]; split <;> assumption}}
 {rw[if_neg b];by_cases c:k=1
  {rw[if_pos c]; unfold Sem.get;by_cases a:j=0
   {rw[if_pos a]; exact d}
   {rw[if_neg a]; split <;> assumption}}
  {rw[if_neg c]; unfold Sem.get;by_cases a:j=0
   {rw[if_pos a]; exact d}
   {rw[if_neg a]; split <;> assumption}}}
theorem Zid {l:List UInt8} (h:Sem.scan l 0 (0,0,0)=none):Sem.parse l=none:=by rw[Sem.parse,h]
theorem ZmO {l:List UInt8} {t:Nat×Nat×Nat} {rest:List UInt8} (h:Sem.scan l 0 (0,0,0)=some (t,rest)):
 Sem.parse l=if Sem.may ⟨t.1,t.2.1,t.2.2,rest.tail⟩=true/\Sem.text ⟨t.1,t.2.1,t.2.2,rest.tail⟩=l then some ⟨t.1,t.2.1,t.2.2,rest.tail⟩ else none:=by
 rw[Sem.parse,h]
theorem ZmP (s:ByteArray) (h:s.size<=60) (w:World):
 Y9 71 #[.string s] w (parseR (Sem.parse s.data.toList)):=by
 have hz:=Y1 (Lib.size_eq s);go_enter Tryz.func71,Tryz.ntmps71
 go_wp2_with fail
 generalize hW0:w.alloc (Obj.cells #[Value.int IntKind.i64 0,Value.int IntKind.i64 0,Value.int IntKind.i64 0,Value.string ⟨#[]⟩] 103)=W0;have a6:W0.heap.size=w.heap.size+1:=by rw[<-hW0]; simp
 have b4:VerAt W0 w.heap.size ⟨0,0,0,[]⟩:=by rw[<-hW0]; exact Zej w ⟨0,0,0,[]⟩
 have d3:Hid (W0.frozen? ⟨w.heap.size,0,none⟩=false/\W0.frozen? ⟨w.heap.size,1,none⟩=false/\W0.frozen? ⟨w.heap.size,2,none⟩=false/\W0.frozen? ⟨w.heap.size,3,none⟩=false):=by
  rw[<-hW0]; exact Y1 ⟨by simp[go_sem],by simp[go_sem],by simp[go_sem],by simp[go_sem]⟩
 have hb0:Below w.heap.size w W0:=by rw[<-hW0]; exact Z01 _ _
 have a3: (W0.alloc (Obj.cells #[Value.int IntKind.i64 0,Value.int IntKind.i64 0,Value.int IntKind.i64 0] 3)).ownsRow (w.heap.size+1) 3 1 (.slice (some ⟨w.heap.size+1,0,none⟩) 3 3) 3 (tl (0,0,0)):=by
  have:=World.ownsRow_lit (base:=W0.heap.size) (e:=3) (size:=1) W0 #[Value.int IntKind.i64 0,Value.int IntKind.i64 0,Value.int IntKind.i64 0] 3 (Nat.le_refl _) (by simp[maxLen]) rfl;rw[a6] at this;exact this
 have a9:Below (w.heap.size+1) W0 (W0.alloc (Obj.cells #[Value.int IntKind.i64 0,Value.int IntKind.i64 0,Value.int IntKind.i64 0] 3)):=by rw[<-a6]; exact Z01 _ _
 have d1:=Y1 b4;have b0:=Y1 a6;clear hW0 b4 a6
 go_loopw [5,6] (fun kk ii wr=> ∃(k i:Nat) (t:Nat×Nat×Nat),kk= .int .i64 k/\ii= .int .i64 i/\k<=2/\i<=s.size/\Hid (∀j,Sem.get t j<=9999999)/\
  Hid (Sem.scan s.data.toList 0 (0,0,0)=Sem.scan (s.data.toList.drop i) k t)/\wr.ownsRow (w.heap.size+1) 3 1 (.slice (some ⟨w.heap.size+1,0,none⟩) 3 3) 3 (tl t)/\Below (w.heap.size+1) W0 wr)
  (fun _ i _=>s.size - (intOf i).toNat)
 case atStart=>exact ⟨0,0,(0,0,0),rfl,rfl,by omega,Nat.zero_le _,Y1 (fun j=>by unfold Sem.get; split <;> simp),Y1 rfl,a3,a9⟩
 case round=>
  clear a3 a9;obtain ⟨k,i,t,rfl,rfl,hk,hi,HT,J,hown,hb⟩:=hrel;have Z:Below w.heap.size w wr:=hb0.trans (hb.mono (by omega));have f5:w.heap.size < w.heap.size+1:=by omega
  obtain ⟨_,r0,r1,r2,y⟩:=d1.out;obtain ⟨N,O,P,Q⟩:=d3.out;have D:Below W0.heap.size W0 wr:=by rw[b0.out]; exact hb
  have E:w.heap.size < W0.heap.size:=by rw[b0.out]; omega
  rw[<-(ZcE (o:=0) D E).1] at r0;rw[<-(ZcE (o:=1) D E).1] at r1;rw[<-(ZcE (o:=2) D E).1] at r2;rw[<-(ZcE (o:=3) D E).1] at y;rw[<-(ZcE (o:=0) D E).2] at N;rw[<-(ZcE (o:=1) D E).2] at O;rw[<-(ZcE (o:=2) D E).2] at P;rw[<-(ZcE (o:=3) D E).2] at Q;have c8:w.heap.size+1<=wr.heap.size:=by have:=hb.size; rw[b0.out] at this; exact this
  clear D E;by_cases a2: ∃h:i < s.size,(s[i]'h).toNat≠45
  {obtain ⟨c,A⟩:=a2;have m:=Zic c k t;have z:s[i]'c≠45:=fun h=>A (by rw[h]; rfl);rw[if_neg z] at m;have b7: (((s[i]'c).toNat:Int) !=45)=true:=by rw[bne_iff_ne]; omega
   by_cases B: (s[i]'c).toNat=46
   {have G:s[i]'c=46:=UInt8.toNat_inj.1 B;have b8: (((s[i]'c).toNat:Int)==46)=true:=by rw[beq_iff_eq]; omega
    have b1: (((s[i]'c).toNat:Int) !=46)=false:=by rw[bne_eq_false_iff_eq]; omega
    rw[if_pos G] at m;by_cases b9:k < 2
    {rw[if_pos b9] at m;have HN:Hid (Sem.scan s.data.toList 0 (0,0,0)=Sem.scan (s.data.toList.drop (i+1)) (k+1) t):=Y1 (J.out.trans m);clear m z A B G r0 r1 r2 y N O P Q
     go_wp2_with fail
     go_roundw
     case rel=>exact ⟨k+1,i+1,t,by go_num,by go_num,by omega,by omega,HT,HN,hown,hb⟩
     case measure=>simp[intOf]; omega}
    {rw[if_neg b9] at m;have I:Hid (Sem.parse s.data.toList=none):=Y1 (Zid (J.out.trans m));clear m z A B G;go_wp2;refine bodyPost_ret (v:= .tuple #[.agg #[.int .i64 0,.int .i64 0,.int .i64 0,.string ByteArray.empty],.int .i64 40]) (by simp[results,Tryz.results71,go_sem,r0,r1,r2,y]; rfl) rfl ?_;exact ⟨by rw[I.out]; rfl,bel4 Z⟩}}
   {have G:s[i]'c≠46:=fun h=>B (by rw[h]; rfl);have b8: (((s[i]'c).toNat:Int)==46)=false:=by rw[beq_eq_false_iff_ne]; omega
    have b1: (((s[i]'c).toNat:Int) !=46)=true:=by rw[bne_iff_ne]; omega
    rw[if_neg G] at m;by_cases a1:48<=(s[i]'c).toNat/\(s[i]'c).toNat<=57
    {rw[if_pos (by simp[Sem.dig]; omega)] at m;have HN:=Y1 (J.out.trans m);obtain ⟨e5,d4⟩:=a1;have a0:=hown.cellAt k (by omega);rw[ZpS t k hk] at a0;have e6:=hown.frozenAt k;obtain ⟨a,ha⟩: ∃a,a=Sem.get t k:=⟨_,rfl⟩;have e4:a<=9999999:=by rw[ha]; exact HT.out k
     rw[<-ha] at a0;have HX:=Y1 ha;have e9: (k:Int) < 3:=by omega
     by_cases a7:a<=999999
     {have d2:=Y1 (hown.stored k (.int .i64 (10 * a+((s[i]'c).toNat - 48):Nat)));have HP:Hid ((tl t).set k (.int .i64 (10 * a+((s[i]'c).toNat - 48):Nat))=tl (Sem.put t k (Sem.rd (Sem.get t k) (s[i]'c)))):=Y1 (by
       rw[ZpT t k _ hk, <-HX.out,Sem.rd,if_pos a7])
      clear m z A B G ha hown r0 r1 r2 y N O P Q
      go_wp2_with fail
      have d5:IntKind.i64.wrap (10 * (a:Int))=10 * (a:Int):=IntWalk.i64_in _ (by omega);have d6:IntKind.u8.wrap (((s[i]'c).toNat:Int) - 48)=((s[i]'c).toNat:Int) - 48:=IntWalk.u8_in _ (by omega);have d7:IntKind.i64.wrap (((s[i]'c).toNat:Int) - 48)=((s[i]'c).toNat:Int) - 48:=IntWalk.i64_in _ (by omega);have d8:IntKind.i64.wrap (10 * (a:Int)+(((s[i]'c).toNat:Int) - 48))=10 * (a:Int)+(((s[i]'c).toNat:Int) - 48):=IntWalk.i64_in _ (by omega);have e8: (i:Int) < (s.size:Int):=by omega
      go_still_tail 14,(by kernel_rfl)
      change wpList _ _ _ _ _ wr.drew;clear d5 d6 d7 d8;go_wp2
      go_roundw
      case rel=>
       refine ⟨k,i+1,_,rfl,by go_num,hk,by omega,Y1 (ZpU HT.out (Zqm (HT.out k) d4)),HN, ?_,((hb.setCell (p:=⟨w.heap.size+1,k,none⟩) (Nat.le_refl _) _).drew)⟩;rw[<-HP.out];have:=d2.out.1.drew;rw[show ((10 * a+((s[i]'c).toNat - 48):Nat):Int)=10 * (a:Int)+(((s[i]'c).toNat:Int) - 48) from by omega] at this ⊢;exact this
      case measure=>simp[intOf]; omega}
     {have HP:Hid (Sem.put t k (Sem.rd (Sem.get t k) (s[i]'c))=t):=Y1 (by
       have e:Sem.rd (Sem.get t k) (s[i]'c)=Sem.get t k:=by rw[<-HX.out,Sem.rd,if_neg a7]
       rw[e]
       match k,hk with
       | 0,_=>rfl
       | 1,_=>rfl
       | 2,_=>rfl)
      rw[HP.out] at HN;clear m z A B G ha r0 r1 r2 y N O P Q
      go_wp2_with fail
      go_roundw
      case rel=>exact ⟨k,i+1,t,rfl,by go_num,hk,by omega,HT,HN,hown,hb⟩
      case measure=>simp[intOf]; omega}}
    {rw[if_neg (by simp[Sem.dig]; omega)] at m;have I:Hid (Sem.parse s.data.toList=none):=Y1 (Zid (J.out.trans m));clear m z A G;by_cases e2: (s[i]'c).toNat < 48
     {clear a1;go_wp2;refine bodyPost_ret (v:= .tuple #[.agg #[.int .i64 0,.int .i64 0,.int .i64 0,.string ByteArray.empty],.int .i64 40]) (by simp[results,Tryz.results71,go_sem,r0,r1,r2,y]; rfl) rfl ?_;exact ⟨by rw[I.out]; rfl,bel4 Z⟩}
     {have e3:57 < (s[i]'c).toNat:=by omega
      clear a1;go_wp2;refine bodyPost_ret (v:= .tuple #[.agg #[.int .i64 0,.int .i64 0,.int .i64 0,.string ByteArray.empty],.int .i64 40]) (by simp[results,Tryz.results71,go_sem,r0,r1,r2,y]; rfl) rfl ?_;exact ⟨by rw[I.out]; rfl,bel4 Z⟩}}}}
  {have M:Sem.scan (s.data.toList.drop i) k t=some (t,s.data.toList.drop i):=by
    by_cases c:i < s.size
    {have z:s[i]'c=45:=UInt8.toNat_inj.1 (Classical.not_not.1 (fun h=>a2 ⟨c,h⟩));rw[Zic c,if_pos z]}
    {rw[List.drop_eq_nil_of_le (by rw[<-hz.out]; omega)]; rfl}
   have Y:=ZmO (J.out.trans M);obtain ⟨r,tb,tc⟩:=t;have f7:r<=9999999:=HT.out 0;have f8:tb<=9999999:=HT.out 1;have f9:tc<=9999999:=HT.out 2;have e7:w.heap.size+1 < wr.heap.size:=(hown.lt (w.heap.size+1) rfl).2;have n:w.heap.size < wr.heap.size:=by omega
   have c0:wr.cell? ⟨w.heap.size+1,0,none⟩=some (.int .i64 r):=by have:=hown.cellAt 0 (by omega); exact this
   have c1:wr.cell? ⟨w.heap.size+1,1,none⟩=some (.int .i64 tb):=by have:=hown.cellAt 1 (by omega); exact this
   have c2:wr.cell? ⟨w.heap.size+1,2,none⟩=some (.int .i64 tc):=by have:=hown.cellAt 2 (by omega); exact this
   by_cases c:i < s.size
   {have z: (s[i]'c).toNat=45:=Classical.not_not.1 (fun h=>a2 ⟨c,h⟩);have b7: (((s[i]'c).toNat:Int) !=45)=false:=by rw[bne_eq_false_iff_eq]; omega
    obtain ⟨f,a4⟩: ∃f,f=(s.data.toList.drop i).tail:=⟨_,rfl⟩;have L:s.data.toList.drop (i+1)=f:=by rw[a4,List.tail_drop]
    have f4:f.length<=60:=by rw[<-L,List.length_drop, <-hz.out]; omega
    have f6: ∀W:World,(Instr.slice 9 (.string s) (some (.int .i64 ((i:Int)+1))) none none).run Tryz.prog W= .ok (.string ⟨f.toArray⟩) W:=fun W=>by
     have:=Z8E s (i+1) (by omega) W;rw[L] at this;exact this
    rw[<-a4] at Y;have C:=Y1 Y;clear Y a4 L M a2 z hown HT J
    go_wp2_with fail
    go_region
    go_wp2_with fail
    generalize hX: (wr.alloc (Obj.cells #[Value.int IntKind.i64 (r:Int),Value.int IntKind.i64 (tb:Int),Value.int IntKind.i64 (tc:Int),Value.string ⟨f.toArray⟩] 103)).drew=X;have g:=(Z01 wr (Obj.cells #[Value.int IntKind.i64 (r:Int),Value.int IntKind.i64 (tb:Int),Value.int IntKind.i64 (tc:Int),Value.string ⟨f.toArray⟩] 103)).drew;have hV:VerAt X wr.heap.size ⟨r,tb,tc,f⟩:=by rw[<-hX]; exact Zej wr ⟨r,tb,tc,f⟩
    rw[hX] at g;have q:VerAt X w.heap.size ⟨0,0,0,[]⟩:=VerAt.next ⟨n,r0,r1,r2,y⟩ g;have K:=Z03 Z g;have S:=(ZcE (o:=0) g n).2.trans N;have T:=(ZcE (o:=1) g n).2.trans O;have U:=(ZcE (o:=2) g n).2.trans P;have V:=(ZcE (o:=3) g n).2.trans Q;have d:w.heap.size < X.heap.size:=q.1;clear hX g r0 r1 r2 y N O P Q c0 c1 c2 hb c8;cases hm:Sem.may ⟨r,tb,tc,f⟩
    {have I:Hid (Sem.parse s.data.toList=none):=Y1 (by rw[C.out,hm,if_neg (by simp)]);have u:Hid (showR ⟨r,tb,tc,f⟩= .tuple #[.string ByteArray.empty,.int .i64 40]):=Y1 (by rw[showR,hm,if_neg (by simp)]);clear hm;refine (ZdL ⟨r,tb,tc,f⟩ (by simp only; omega) _).mono ?_;rintro e w2 ⟨H,b⟩;rw[u.out] at H;subst H;obtain ⟨_,r0,r1,r2,y⟩:=q.next b;have N:=(ZcE (o:=0) b d).2.trans S;have O:=(ZcE (o:=1) b d).2.trans T;have P:=(ZcE (o:=2) b d).2.trans U;have Q:=(ZcE (o:=3) b d).2.trans V;have l:=Z03 K b;clear S T U V hV q b;go_wp2;refine bodyPost_ret (v:= .tuple #[.agg #[.int .i64 0,.int .i64 0,.int .i64 0,.string ByteArray.empty],.int .i64 40]) (by simp[results,Tryz.results71,go_sem,r0,r1,r2,y]; rfl) rfl ?_;exact ⟨by rw[I.out]; rfl,bel4 l⟩}
    {have u:Hid (showR ⟨r,tb,tc,f⟩= .tuple #[.string ⟨(Sem.text ⟨r,tb,tc,f⟩).toArray⟩,.int .i64 0]):=Y1 (by rw[showR,hm,if_pos rfl]);obtain ⟨x,hx⟩: ∃x,x=Sem.text ⟨r,tb,tc,f⟩:=⟨_,rfl⟩;rw[hm, <-hx] at C;rw[<-hx] at u;clear hm hx;cases F:x==s.toList
     {have I:Hid (Sem.parse s.data.toList=none):=Y1 (by
       rw[C.out,if_neg]; rintro ⟨_,h⟩; rw[Zdh,beq_eq_false_iff_ne] at F; exact F h)
      refine (ZdL ⟨r,tb,tc,f⟩ (by simp only; omega) _).mono ?_;rintro e w2 ⟨H,b⟩;rw[u.out] at H;subst H;obtain ⟨_,r0,r1,r2,y⟩:=q.next b;have N:=(ZcE (o:=0) b d).2.trans S;have O:=(ZcE (o:=1) b d).2.trans T;have P:=(ZcE (o:=2) b d).2.trans U;have Q:=(ZcE (o:=3) b d).2.trans V;have l:=Z03 K b;clear S T U V hV q b;go_wp2;refine bodyPost_ret (v:= .tuple #[.agg #[.int .i64 0,.int .i64 0,.int .i64 0,.string ByteArray.empty],.int .i64 40]) (by simp[results,Tryz.results71,go_sem,r0,r1,r2,y]; rfl) rfl ?_;exact ⟨by rw[I.out]; rfl,bel4 l⟩}
     {have I:Hid (Sem.parse s.data.toList=some ⟨r,tb,tc,f⟩):=Y1 (by
       have b3:x=s.data.toList:=by
        rw[Zdh,beq_iff_eq] at F;exact F
       rw[C.out,if_pos ⟨rfl,b3⟩])
      refine (ZdL ⟨r,tb,tc,f⟩ (by simp only; omega) _).mono ?_;rintro e w2 ⟨H,b⟩;rw[u.out] at H;subst H;obtain ⟨_,r0,r1,r2,y⟩:=q.next b;obtain ⟨_,v0,v1,v2,v3⟩:=hV.next b;have N:=(ZcE (o:=0) b d).2.trans S;have O:=(ZcE (o:=1) b d).2.trans T;have P:=(ZcE (o:=2) b d).2.trans U;have Q:=(ZcE (o:=3) b d).2.trans V;have l:=Z03 K b;clear S T U V hV q b;go_wp2;refine bodyPost_ret (v:= .tuple #[.agg #[.int .i64 r,.int .i64 tb,.int .i64 tc,.string ⟨f.toArray⟩],.int .i64 0]) (by simp[results,Tryz.results71,go_sem,r0,r1,r2,y]) rfl ?_;exact ⟨by rw[I.out]; rfl,bel4 l⟩}}}
   {have b6:s.data.toList.drop i= []:=List.drop_eq_nil_of_le (by rw[<-hz.out]; omega);rw[b6,List.tail_nil] at Y;have C:=Y1 Y;clear Y M a2 hown HT J b6
    go_wp2_with fail
    go_region
    go_wp2_with fail
    generalize hX: (wr.alloc (Obj.cells #[Value.int IntKind.i64 (r:Int),Value.int IntKind.i64 (tb:Int),Value.int IntKind.i64 (tc:Int),Value.string ⟨#[]⟩] 103)).drew=X;have g:=(Z01 wr (Obj.cells #[Value.int IntKind.i64 (r:Int),Value.int IntKind.i64 (tb:Int),Value.int IntKind.i64 (tc:Int),Value.string ⟨#[]⟩] 103)).drew;have hV:VerAt X wr.heap.size ⟨r,tb,tc,[]⟩:=by rw[<-hX]; exact Zej wr ⟨r,tb,tc,[]⟩
    rw[hX] at g;have q:VerAt X w.heap.size ⟨0,0,0,[]⟩:=VerAt.next ⟨n,r0,r1,r2,y⟩ g;have K:=Z03 Z g;have S:=(ZcE (o:=0) g n).2.trans N;have T:=(ZcE (o:=1) g n).2.trans O;have U:=(ZcE (o:=2) g n).2.trans P;have V:=(ZcE (o:=3) g n).2.trans Q;have d:w.heap.size < X.heap.size:=q.1;clear hX g r0 r1 r2 y N O P Q c0 c1 c2 hb c8;cases hm:Sem.may ⟨r,tb,tc,[]⟩
    {have I:Hid (Sem.parse s.data.toList=none):=Y1 (by rw[C.out,hm,if_neg (by simp)]);have u:Hid (showR ⟨r,tb,tc,[]⟩= .tuple #[.string ByteArray.empty,.int .i64 40]):=Y1 (by rw[showR,hm,if_neg (by simp)]);clear hm;refine (ZdL ⟨r,tb,tc,[]⟩ (by simp only; decide) _).mono ?_;rintro e w2 ⟨H,b⟩;rw[u.out] at H;subst H;obtain ⟨_,r0,r1,r2,y⟩:=q.next b;have N:=(ZcE (o:=0) b d).2.trans S;have O:=(ZcE (o:=1) b d).2.trans T;have P:=(ZcE (o:=2) b d).2.trans U;have Q:=(ZcE (o:=3) b d).2.trans V;have l:=Z03 K b;clear S T U V hV q b;go_wp2;refine bodyPost_ret (v:= .tuple #[.agg #[.int .i64 0,.int .i64 0,.int .i64 0,.string ByteArray.empty],.int .i64 40]) (by simp[results,Tryz.results71,go_sem,r0,r1,r2,y]; rfl) rfl ?_;exact ⟨by rw[I.out]; rfl,bel4 l⟩}
    {have u:Hid (showR ⟨r,tb,tc,[]⟩= .tuple #[.string ⟨(Sem.text ⟨r,tb,tc,[]⟩).toArray⟩,.int .i64 0]):=Y1 (by rw[showR,hm,if_pos rfl]);obtain ⟨x,hx⟩: ∃x,x=Sem.text ⟨r,tb,tc,[]⟩:=⟨_,rfl⟩;rw[hm, <-hx] at C;rw[<-hx] at u;clear hm hx;cases F:x==s.toList
     {have I:Hid (Sem.parse s.data.toList=none):=Y1 (by
       rw[C.out,if_neg]; rintro ⟨_,h⟩; rw[Zdh,beq_eq_false_iff_ne] at F; exact F h)
      refine (ZdL ⟨r,tb,tc,[]⟩ (by simp only; decide) _).mono ?_;rintro e w2 ⟨H,b⟩;rw[u.out] at H;subst H;obtain ⟨_,r0,r1,r2,y⟩:=q.next b;have N:=(ZcE (o:=0) b d).2.trans S;have O:=(ZcE (o:=1) b d).2.trans T;have P:=(ZcE (o:=2) b d).2.trans U;have Q:=(ZcE (o:=3) b d).2.trans V;have l:=Z03 K b;clear S T U V hV q b;go_wp2;refine bodyPost_ret (v:= .tuple #[.agg #[.int .i64 0,.int .i64 0,.int .i64 0,.string ByteArray.empty],.int .i64 40]) (by simp[results,Tryz.results71,go_sem,r0,r1,r2,y]; rfl) rfl ?_;exact ⟨by rw[I.out]; rfl,bel4 l⟩}
     {have I:Hid (Sem.parse s.data.toList=some ⟨r,tb,tc,[]⟩):=Y1 (by
       have b3:x=s.data.toList:=by
        rw[Zdh,beq_iff_eq] at F;exact F
       rw[C.out,if_pos ⟨rfl,b3⟩])
      refine (ZdL ⟨r,tb,tc,[]⟩ (by simp only; decide) _).mono ?_;rintro e w2 ⟨H,b⟩;rw[u.out] at H;subst H;obtain ⟨_,r0,r1,r2,y⟩:=q.next b;obtain ⟨_,v0,v1,v2,v3⟩:=hV.next b;have N:=(ZcE (o:=0) b d).2.trans S;have O:=(ZcE (o:=1) b d).2.trans T;have P:=(ZcE (o:=2) b d).2.trans U;have Q:=(ZcE (o:=3) b d).2.trans V;have l:=Z03 K b;clear S T U V hV q b;go_wp2;refine bodyPost_ret (v:= .tuple #[.agg #[.int .i64 r,.int .i64 tb,.int .i64 tc,.string ⟨#[]⟩],.int .i64 0]) (by simp[results,Tryz.results71,go_sem,r0,r1,r2,y]) rfl ?_;exact ⟨by rw[I.out]; rfl,bel4 l⟩}}}}
theorem ZgP (s:ByteArray) (a:s.size<=9223372036854775807) (w:World):
 Y9 71 #[.string s] w (parseR (Sem.parse s.data.toList)):=by
 by_cases h:60 < s.size
 {exact Zk8 s h a w}
 {exact ZmP s (by omega) w}
def Arr3 (W:World) (g:Nat) (x0 x1 x2:Int):Prop:=g < W.heap.size/\W.cell? ⟨g,0,none⟩=some (.int .i64 x0)/\W.cell? ⟨g,1,none⟩=some (.int .i64 x1)/\W.cell? ⟨g,2,none⟩=some (.int .i64 x2)/\
 W.frozen? ⟨g,0,none⟩=false/\W.frozen? ⟨g,1,none⟩=false/\W.frozen? ⟨g,2,none⟩=false
theorem Arr3.keep {W W':World} {g B:Nat} {x0 x1 x2:Int} (h:Arr3 W g x0 x1 x2) (b:g < B) (a:Below B W W'):Arr3 W' g x0 x1 x2:=by
 obtain ⟨f,i,j,k,c,d,e⟩:=h;exact ⟨Nat.lt_of_lt_of_le f a.size,(a.cell (p:=⟨g,0,none⟩) b).trans i,(a.cell (p:=⟨g,1,none⟩) b).trans j,(a.cell (p:=⟨g,2,none⟩) b).trans k,
  (a.frozen (p:=⟨g,0,none⟩) b).trans c,(a.frozen (p:=⟨g,1,none⟩) b).trans d,(a.frozen (p:=⟨g,2,none⟩) b).trans e⟩
section
variable {W : World} {g : Nat} {x0 x1 x2 : Int} (h : Arr3 W g x0 x1 x2) (x : Int)
include W g x0 x1 x2 h x
theorem Arr3.set0:Arr3 (W.setCell ⟨g,0,none⟩ (.int .i64 x)) g x x1 x2:=by
 obtain ⟨d,e,f,i,a,b,c⟩:=h;exact ⟨by simpa using d,by simp[go_sem,e],by simp[go_sem,f],by simp[go_sem,i],by simp[go_sem,a],by simp[go_sem,b],by simp[go_sem,c]⟩
theorem Arr3.set1:Arr3 (W.setCell ⟨g,1,none⟩ (.int .i64 x)) g x0 x x2:=by
 obtain ⟨d,e,f,i,a,b,c⟩:=h;exact ⟨by simpa using d,by simp[go_sem,e],by simp[go_sem,f],by simp[go_sem,i],by simp[go_sem,a],by simp[go_sem,b],by simp[go_sem,c]⟩
theorem Arr3.set2:Arr3 (W.setCell ⟨g,2,none⟩ (.int .i64 x)) g x0 x1 x:=by
 obtain ⟨d,e,f,i,a,b,c⟩:=h;exact ⟨by simpa using d,by simp[go_sem,e],by simp[go_sem,f],by simp[go_sem,i],by simp[go_sem,a],by simp[go_sem,b],by simp[go_sem,c]⟩
end
theorem Zje {ps:List (List UInt8)} (h:ps.length=3): ∃p0 p1 p2,ps= [p0,p1,p2]:=by
 match ps,h with
 | [a,b,c],_=>exact ⟨a,b,c,rfl⟩
def Read (p0 p1 p2:List UInt8) (i:Value) (x0 x1 x2:Int):Prop:=i= .int .i64 0\/(i= .int .i64 1/\Lib.atoiAll p0= .ok x0)\/(i= .int .i64 2/\Lib.atoiAll p0= .ok x0/\Lib.atoiAll p1= .ok x1)\/(i= .int .i64 3/\Lib.atoiAll p0= .ok x0/\Lib.atoiAll p1= .ok x1/\Lib.atoiAll p2= .ok x2)
theorem ZfL (p:List UInt8): (∃v,Lib.atoiAll p= .ok v)\/(∀v,Lib.atoiAll p≠ .ok v):=by
 rcases h:Lib.atoiAll p with v | _ | _
 {exact Or.inl ⟨v,rfl⟩}
 {exact Or.inr (fun v h=>by cases h)}
 {exact Or.inr (fun v h=>by cases h)}
theorem Zk9 (l:List UInt8) (hl:l.length<=140737488351232) (w:World) (hg:Globs w):
 Y9 205 #[.string ⟨l.toArray⟩] w (parseR (Sem.parse l)):=by
 obtain ⟨a1,a2,_⟩:=Sem.ZhI 45 l;have HC:=Y1 (@Sem.Zk5 l);have T:=Y1 (fun (p0 p1 p2:List UInt8)=>Sem.Zmx (l:=l) (p0:=p0) (p1:=p1) (p2:=p2));have HM:=Y1 (fun (p0 p1 p2:List UInt8) (x0 x1 x2:Int)=>Sem.Zll (l:=l) (p0:=p0) (p1:=p1) (p2:=p2) (x0:=x0) (x1:=x1) (x2:=x2));have t: ∀w,Y9 157 #[.string ⟨l.toArray⟩,.string ⟨#[45]⟩] w (.tuple #[.string ⟨(Sem.cut 45 l).1.toArray⟩,.string ⟨(Sem.cut 45 l).2.1.toArray⟩,.bool (Sem.cut 45 l).2.2]):=
  fun w=>Zj9 ⟨l.toArray⟩ 45 (by rw[Z0J]; omega) w
 rcases a3:Sem.cut 45 l with ⟨core,d,m⟩;rw[a3] at a1 a2 t HC T HM;simp only at a1 a2 t T HM;clear a3;go_enter Tryz.func205,Tryz.ntmps205
 go_wp2_with fail
 refine (t _).mono ?_;rintro e w1 ⟨rfl,I⟩
 go_wp2_with fail
 refine (Zk4 core (by omega) _).mono ?_;rintro e s ⟨g,N,rfl,hS,P⟩;have Q:=(ZkO w ⟨0,0,0,[]⟩).keep (B:=w.heap.size+1) (by omega) ((I.mono (by simp)).trans (P.mono (by have:=I.size; simp at this; omega)));have r:Below w.heap.size w s:=Z03 (Z03 (Z01 w (.cells #[.int .i64 0,.int .i64 0,.int .i64 0,.string ⟨#[]⟩] 103)) I) P;have J:=hg.next r;have G: ∀p∈Sem.split (min 3 core.length) core,p.length<=140737488351232:=fun p hp=>by have:=Sem.ZgN _ _ p hp; omega
 obtain ⟨ps,a5⟩: ∃ps,ps=Sem.split (min 3 core.length) core:=⟨_,rfl⟩;rw[<-a5] at hS G HC T HM ⊢;clear a5 t I P;have f:=Y1 Q;by_cases h3:ps.length=3
 {obtain ⟨p0,p1,p2,rfl⟩:=Zje h3;have l0:=G p0 (by simp);have l1:=G p1 (by simp);have l2:=G p2 (by simp);have b0:Hid (s.cell? ⟨g,0,none⟩=some (.string ⟨p0.toArray⟩)/\s.cell? ⟨g,1,none⟩=some (.string ⟨p1.toArray⟩)/\s.cell? ⟨g,2,none⟩=some (.string ⟨p2.toArray⟩)/\g < s.heap.size):=by
   rcases hS with h | ⟨b,off,C,b6,hc⟩
   {simp[strs] at h}
   {simp only[Option.some.injEq,Addr.mk.injEq,and_true] at C;obtain ⟨rfl,rfl⟩:=C;have q0:=hc 0 (by simp[strs]);have q1:=hc 1 (by simp[strs]);have q2:=hc 2 (by simp[strs]);exact Y1 ⟨by simpa[strs] using q0,by simpa[strs] using q1,by simpa[strs] using q2,b6⟩}
  clear hS Q h3 G HC
  go_wp2_with fail
  go_loopw [30] (fun i wr=> ∃x0 x1 x2:Int,Read p0 p1 p2 i x0 x1 x2/\Arr3 wr s.heap.size x0 x1 x2/\Below s.heap.size s wr) (fun i _=>3 - (intOf i).toNat)
  case atStart=>exact ⟨0,0,0,Or.inl rfl,⟨by simp,by simp[go_sem],by simp[go_sem],by simp[go_sem],by simp[go_sem],by simp[go_sem],by simp[go_sem]⟩,Z01 _ _⟩
  case round=>
   obtain ⟨x0,x1,x2,S,C,q⟩:=hrel;obtain ⟨L,M,O,zg⟩:=b0.out;rw[<-(ZcE (o:=0) q zg).1] at L;rw[<-(ZcE (o:=1) q zg).1] at M;rw[<-(ZcE (o:=2) q zg).1] at O;rcases S with rfl | ⟨rfl,q0⟩ | ⟨rfl,q0,q1⟩ | ⟨rfl,q0,q1,q2⟩
   {rcases ZfL p0 with ⟨v,n⟩ | n
    {go_wp2_with fail
     refine (Zgt p0 (by omega) v n _).mono ?_;rintro e K ⟨rfl,a⟩;have c:=Z03 q a;have j:=C.keep (B:=wr.heap.size) C.1 a;have A:=Y1 j;obtain ⟨_,t0,t1,t2,s0,s1,s2⟩:=j;clear L M O;go_wp2
     go_roundw
     case rel=>exact ⟨v,x1,x2,Or.inr (Or.inl ⟨rfl,n⟩),A.out.set0 v,c.setCell (p:=⟨s.heap.size,0,none⟩) (Nat.le_refl _) _⟩
     case measure=>simp[intOf]}
    {have u:=Y1 (T.out p0 p1 p2 rfl (Or.inl n));have F:=J.next q
     go_wp2_with fail
     refine (Zh0 p0 (by omega) n _ F).mono ?_;rintro e K ⟨z,N3,rfl,a⟩;have c:=Z03 q a;have k:=Z03 r c;obtain ⟨⟨_,r0,r1,r2,y⟩,f0,f1,f2,U⟩:=f.out.keep (B:=s.heap.size) f.out.1.1 c;clear L M O;go_wp2;refine bodyPost_ret (v:= .tuple #[.agg #[.int .i64 0,.int .i64 0,.int .i64 0,.string ByteArray.empty],.int .i64 40]) (by simp[results,Tryz.results205,go_sem,r0,r1,r2,y]; rfl) rfl ?_;exact ⟨by rw[u.out]; rfl,bel4 k⟩}}
   {rcases ZfL p1 with ⟨v,n⟩ | n
    {go_wp2_with fail
     refine (Zgt p1 (by omega) v n _).mono ?_;rintro e K ⟨rfl,a⟩;have c:=Z03 q a;have j:=C.keep (B:=wr.heap.size) C.1 a;have A:=Y1 j;obtain ⟨_,t0,t1,t2,s0,s1,s2⟩:=j;clear L M O;go_wp2
     go_roundw
     case rel=>exact ⟨x0,v,x2,Or.inr (Or.inr (Or.inl ⟨rfl,q0,n⟩)),A.out.set1 v,c.setCell (p:=⟨s.heap.size,1,none⟩) (Nat.le_refl _) _⟩
     case measure=>simp[intOf]}
    {have u:=Y1 (T.out p0 p1 p2 rfl (Or.inr (Or.inl n)));have F:=J.next q
     go_wp2_with fail
     refine (Zh0 p1 (by omega) n _ F).mono ?_;rintro e K ⟨z,N3,rfl,a⟩;have c:=Z03 q a;have k:=Z03 r c;obtain ⟨⟨_,r0,r1,r2,y⟩,f0,f1,f2,U⟩:=f.out.keep (B:=s.heap.size) f.out.1.1 c;clear L M O;go_wp2;refine bodyPost_ret (v:= .tuple #[.agg #[.int .i64 0,.int .i64 0,.int .i64 0,.string ByteArray.empty],.int .i64 40]) (by simp[results,Tryz.results205,go_sem,r0,r1,r2,y]; rfl) rfl ?_;exact ⟨by rw[u.out]; rfl,bel4 k⟩}}
   {rcases ZfL p2 with ⟨v,n⟩ | n
    {go_wp2_with fail
     refine (Zgt p2 (by omega) v n _).mono ?_;rintro e K ⟨rfl,a⟩;have c:=Z03 q a;have j:=C.keep (B:=wr.heap.size) C.1 a;have A:=Y1 j;obtain ⟨_,t0,t1,t2,s0,s1,s2⟩:=j;clear L M O;go_wp2
     go_roundw
     case rel=>exact ⟨x0,x1,v,Or.inr (Or.inr (Or.inr ⟨rfl,q0,q1,n⟩)),A.out.set2 v,c.setCell (p:=⟨s.heap.size,2,none⟩) (Nat.le_refl _) _⟩
     case measure=>simp[intOf]}
    {have u:=Y1 (T.out p0 p1 p2 rfl (Or.inr (Or.inr n)));have F:=J.next q
     go_wp2_with fail
     refine (Zh0 p2 (by omega) n _ F).mono ?_;rintro e K ⟨z,N3,rfl,a⟩;have c:=Z03 q a;have k:=Z03 r c;obtain ⟨⟨_,r0,r1,r2,y⟩,f0,f1,f2,U⟩:=f.out.keep (B:=s.heap.size) f.out.1.1 c;clear L M O;go_wp2;refine bodyPost_ret (v:= .tuple #[.agg #[.int .i64 0,.int .i64 0,.int .i64 0,.string ByteArray.empty],.int .i64 40]) (by simp[results,Tryz.results205,go_sem,r0,r1,r2,y]; rfl) rfl ?_;exact ⟨by rw[u.out]; rfl,bel4 k⟩}}
   {have HE:=Y1 (HM.out p0 p1 p2 x0 x1 x2 rfl q0 q1 q2);clear L M O q0 q1 q2;have HA:=Y1 C;obtain ⟨_,t0,t1,t2,_,_,_⟩:=C
    go_wp2_with fail
    have b5:d.length<=140737488351232:=by omega
    have b1:=Y1 (ZkO wr ⟨x0,x1,x2,d⟩);have D:=Z01 wr (.cells #[.int .i64 x0,.int .i64 x1,.int .i64 x2,.string ⟨d.toArray⟩] 103);refine (ZmN ⟨x0,x1,x2,d⟩ b5 _ ((J.next q).next D)).mono ?_;rintro e K ⟨V,a⟩;have Y:=Z03 q (Z03 D a);have E:=Z03 r Y;have X:=Y1 (b1.out.keep (B:=wr.heap.size+1) (by omega) (a.mono (by simp)));have H:=Y1 (f.out.keep (B:=s.heap.size) f.out.1.1 Y);clear t0 t1 t2;cases hmay:Sem.may ⟨x0,x1,x2,d⟩
    {have u:Hid (Sem.parse l=none):=Y1 (by rw[HE.out,if_neg (by rw[hmay]; simp)]);rw[showR,hmay,if_neg (by simp)] at V;subst V;obtain ⟨⟨_,r0,r1,r2,y⟩,f0,f1,f2,U⟩:=H.out;clear D a;go_wp2;refine bodyPost_ret (v:= .tuple #[.agg #[.int .i64 0,.int .i64 0,.int .i64 0,.string ByteArray.empty],.int .i64 40]) (by simp[results,Tryz.results205,go_sem,r0,r1,r2,y]; rfl) rfl ?_;exact ⟨by rw[u.out]; rfl,bel4 E⟩}
    {rw[showR,hmay,if_pos rfl] at V;by_cases W:Sem.text ⟨x0,x1,x2,d⟩=l
     {have u:Hid (Sem.parse l=some ⟨x0,x1,x2,d⟩):=Y1 (by rw[HE.out,if_pos ⟨hmay,W⟩]);rw[W] at V;subst V;have a4: (l==l)=true:=by simp
      clear D a W
      go_wp2_with fail
      refine (ZfG d (by omega) _).mono ?_;rintro e w4 ⟨rfl,c⟩;have Z:=Z03 E c;obtain ⟨⟨_,v0,v1,v2,v3⟩,_,_,_,y3⟩:=X.out.keep (B:=K.heap.size) X.out.1.1 c;obtain ⟨⟨_,r0,r1,r2,y⟩,f0,f1,f2,U⟩:=H.out.keep (B:=K.heap.size) H.out.1.1 c;have c0:wr.heap.size≠w.heap.size:=by have:=q.size; have:=f.out.1.1; omega
      simp only at v0 v1 v2 v3;clear c a4;go_wp2;have a0:Below w.heap.size w (w4.setCell ⟨wr.heap.size,3,none⟩ (.string ⟨d.toArray⟩)):=Z.setCell (p:=⟨wr.heap.size,3,none⟩) (by show w.heap.size<=wr.heap.size; have:=r.size; have:=q.size; omega) _;refine bodyPost_ret (v:= .tuple #[.agg #[.int .i64 x0,.int .i64 x1,.int .i64 x2,.string ⟨d.toArray⟩],.int .i64 0]) (by simp[results,Tryz.results205,go_sem,r0,r1,r2,y]) rfl ?_;exact ⟨by rw[u.out]; rfl,bel4 a0⟩}
     {have u:Hid (Sem.parse l=none):=Y1 (by rw[HE.out,if_neg (fun h=>W h.2)]);subst V;have a4: (Sem.text ⟨x0,x1,x2,d⟩==l)=false:=by simpa using W
      obtain ⟨⟨_,r0,r1,r2,y⟩,f0,f1,f2,U⟩:=H.out;clear D a W;go_wp2;refine bodyPost_ret (v:= .tuple #[.agg #[.int .i64 0,.int .i64 0,.int .i64 0,.string ByteArray.empty],.int .i64 40]) (by simp[results,Tryz.results205,go_sem,r0,r1,r2,y]; rfl) rfl ?_;exact ⟨by rw[u.out]; rfl,bel4 E⟩}}}}
 {have u:=Y1 (HC.out h3);obtain ⟨⟨_,r0,r1,r2,y⟩,f0,f1,f2,U⟩:=Q;have hd: ((ps.length:Int) !=3)=true:=by rw[bne_iff_ne]; omega
  go_wp2;refine bodyPost_ret (v:= .tuple #[.agg #[.int .i64 0,.int .i64 0,.int .i64 0,.string ByteArray.empty],.int .i64 40]) (by simp[results,Tryz.results205,go_sem,r0,r1,r2,y]; rfl) rfl ?_;exact ⟨by rw[u.out]; rfl,bel4 r⟩}
theorem Zly (s:ByteArray) (b:s.size<=140737488351232) (w:World) (a:Globs w):
 Y9 205 #[.string s] w (parseR (Sem.parse s.data.toList)):=by
 have h:=Zk9 s.data.toList (by rw[<-Lib.size_eq]; exact b) w a;rw[<-ZcA s] at h;exact h
def kindV (l:List UInt8):Value:=match Lex.kindR l with
 | some k=> .tuple #[.int .i64 k,.bool true]
 | none=> .tuple #[.int .i64 0,.bool false]
section
variable (l : List UInt8) (hl : l.length <= 140737488351232)
include l hl
theorem Zge (u:Sem.Ver) (d:Int) (h:parseR (Sem.parse l)= .tuple #[verV u,.int .i64 d]) (w:World) (j:Globs w):
 Y9 192 #[.string ⟨l.toArray⟩] w (.bool (d==0)):=by
 obtain ⟨a,b,c,p⟩:=u;have i:Hid (parseR (Sem.parse l)= .tuple #[.agg #[.int .i64 a,.int .i64 b,.int .i64 c,.string ⟨p.toArray⟩],.int .i64 d]):=Y1 h;clear h;go_enter Tryz.func192,Tryz.ntmps192
 go_wp2_with fail
 refine (Zly ⟨l.toArray⟩ (by rw[Z0J]; exact hl) _ j).mono ?_;rintro e k ⟨g,f⟩;rw[show (⟨l.toArray⟩:ByteArray).data.toList=l from rfl,i.out] at g;subst g;go_wp2;go_ret;exact ⟨rfl,Z0h f _⟩
theorem ZfW (w:World) (a:Globs w):
 Y9 192 #[.string ⟨l.toArray⟩] w (.bool (Sem.parse l).isSome):=by
 rcases b:Sem.parse l with _ | v
 {exact Zge l hl ⟨0,0,0,[]⟩ 40 (by rw[b]; rfl) w a}
 {exact Zge l hl v 0 (by rw[b]; rfl) w a}
theorem Zlz (w:World) (g:Globs w):
 Y9 163 #[.string ⟨l.toArray⟩] w (kindV l):=by
 have c:Hid (Lex.kindR l=if Lex.isWord l then some 5 else if Lex.isName l then some 1 else if Lex.isUpper l then some 2 else if Lex.isSign l then some 6 else if Lex.number l then some 3 else if (Sem.parse l).isSome then some 7 else none):=Y1 rfl;cases h0:Lex.isWord l
 {cases h1:Lex.isName l
  {cases h2:Lex.isUpper l
   {cases h3:Lex.isSign l
    {cases h4:Lex.number l
     {cases d: (Sem.parse l).isSome
      {have b:Hid (kindV l= .tuple #[.int .i64 0,.bool false]):=Y1 (by
        have:Lex.kindR l=none:=by rw[c.out,h0,h1,h2,h3,h4,d]; rfl
        unfold kindV; rw[this])
       go_enter Tryz.func163,Tryz.ntmps163
       go_wp2_with fail
       refine (Z8R l _).mono ?_;rintro e a ⟨rfl,rfl⟩;rw[h0]
       go_wp2_with fail
       refine (Z2i l (by omega) _).mono ?_;rintro e a ⟨rfl,rfl⟩;rw[h1]
       go_wp2_with fail
       refine (Z4l l (by omega) _).mono ?_;rintro e a ⟨rfl,rfl⟩;rw[h2]
       go_wp2_with fail
       refine (ZdJ l _).mono ?_;rintro e a ⟨rfl,rfl⟩;rw[h3]
       go_wp2_with fail
       refine (ZeN l (by omega) _).mono ?_;rintro e a ⟨rfl,rfl⟩;rw[h4]
       go_wp2_with fail
       refine (ZfW l hl _ g).mono ?_;rintro e a ⟨rfl,f⟩;rw[d];go_wp2
       go_ret2
       exact ⟨by rw[b.out]; rfl,f⟩}
      {have b:Hid (kindV l= .tuple #[.int .i64 7,.bool true]):=Y1 (by
        have:Lex.kindR l=some 7:=by rw[c.out,h0,h1,h2,h3,h4,d]; rfl
        unfold kindV; rw[this])
       go_enter Tryz.func163,Tryz.ntmps163
       go_wp2_with fail
       refine (Z8R l _).mono ?_;rintro e a ⟨rfl,rfl⟩;rw[h0]
       go_wp2_with fail
       refine (Z2i l (by omega) _).mono ?_;rintro e a ⟨rfl,rfl⟩;rw[h1]
       go_wp2_with fail
       refine (Z4l l (by omega) _).mono ?_;rintro e a ⟨rfl,rfl⟩;rw[h2]
       go_wp2_with fail
       refine (ZdJ l _).mono ?_;rintro e a ⟨rfl,rfl⟩;rw[h3]
       go_wp2_with fail
       refine (ZeN l (by omega) _).mono ?_;rintro e a ⟨rfl,rfl⟩;rw[h4]
       go_wp2_with fail
       refine (ZfW l hl _ g).mono ?_;rintro e a ⟨rfl,f⟩;rw[d];go_wp2
       go_ret2
       exact ⟨by rw[b.out]; rfl,f⟩}}
     {have b:Hid (kindV l= .tuple #[.int .i64 3,.bool true]):=Y1 (by
       have:Lex.kindR l=some 3:=by rw[c.out,h0,h1,h2,h3,h4]; rfl
       unfold kindV; rw[this])
      go_enter Tryz.func163,Tryz.ntmps163
      go_wp2_with fail
      refine (Z8R l _).mono ?_;rintro e a ⟨rfl,rfl⟩;rw[h0]
      go_wp2_with fail
      refine (Z2i l (by omega) _).mono ?_;rintro e a ⟨rfl,rfl⟩;rw[h1]
      go_wp2_with fail
      refine (Z4l l (by omega) _).mono ?_;rintro e a ⟨rfl,rfl⟩;rw[h2]
      go_wp2_with fail
      refine (ZdJ l _).mono ?_;rintro e a ⟨rfl,rfl⟩;rw[h3]
      go_wp2_with fail
      refine (ZeN l (by omega) _).mono ?_;rintro e a ⟨rfl,rfl⟩;rw[h4];go_wp2
      go_ret2
      exact ⟨by rw[b.out]; rfl,Below.refl _ _⟩}}
    {have b:Hid (kindV l= .tuple #[.int .i64 6,.bool true]):=Y1 (by
      have:Lex.kindR l=some 6:=by rw[c.out,h0,h1,h2,h3]; rfl
      unfold kindV; rw[this])
     go_enter Tryz.func163,Tryz.ntmps163
     go_wp2_with fail
     refine (Z8R l _).mono ?_;rintro e a ⟨rfl,rfl⟩;rw[h0]
     go_wp2_with fail
     refine (Z2i l (by omega) _).mono ?_;rintro e a ⟨rfl,rfl⟩;rw[h1]
     go_wp2_with fail
     refine (Z4l l (by omega) _).mono ?_;rintro e a ⟨rfl,rfl⟩;rw[h2]
     go_wp2_with fail
     refine (ZdJ l _).mono ?_;rintro e a ⟨rfl,rfl⟩;rw[h3];go_wp2
     go_ret2
     exact ⟨by rw[b.out]; rfl,Below.refl _ _⟩}}
   {have b:Hid (kindV l= .tuple #[.int .i64 2,.bool true]):=Y1 (by
     have:Lex.kindR l=some 2:=by rw[c.out,h0,h1,h2]; rfl
     unfold kindV; rw[this])
    go_enter Tryz.func163,Tryz.ntmps163
    go_wp2_with fail
    refine (Z8R l _).mono ?_;rintro e a ⟨rfl,rfl⟩;rw[h0]
    go_wp2_with fail
    refine (Z2i l (by omega) _).mono ?_;rintro e a ⟨rfl,rfl⟩;rw[h1]
    go_wp2_with fail
    refine (Z4l l (by omega) _).mono ?_;rintro e a ⟨rfl,rfl⟩;rw[h2];go_wp2
    go_ret2
    exact ⟨by rw[b.out]; rfl,Below.refl _ _⟩}}
  {have b:Hid (kindV l= .tuple #[.int .i64 1,.bool true]):=Y1 (by
    have:Lex.kindR l=some 1:=by rw[c.out,h0,h1]; rfl
    unfold kindV; rw[this])
   go_enter Tryz.func163,Tryz.ntmps163
   go_wp2_with fail
   refine (Z8R l _).mono ?_;rintro e a ⟨rfl,rfl⟩;rw[h0]
   go_wp2_with fail
   refine (Z2i l (by omega) _).mono ?_;rintro e a ⟨rfl,rfl⟩;rw[h1];go_wp2
   go_ret2
   exact ⟨by rw[b.out]; rfl,Below.refl _ _⟩}}
 {have b:Hid (kindV l= .tuple #[.int .i64 5,.bool true]):=Y1 (by
   have:Lex.kindR l=some 5:=by rw[c.out,h0]; rfl
   unfold kindV; rw[this])
  go_enter Tryz.func163,Tryz.ntmps163
  go_wp2_with fail
  refine (Z8R l _).mono ?_;rintro e a ⟨rfl,rfl⟩;rw[h0];go_wp2
  go_ret2
  exact ⟨by rw[b.out]; rfl,Below.refl _ _⟩}
end
structure ScanAt (W:World) (g:Nat) (s:List UInt8) (i:Nat):Prop where
 lt:g < W.heap.size
 c0:W.cell? ⟨g,0,none⟩=some (.string ⟨s.toArray⟩)
 c1:W.cell? ⟨g,1,none⟩=some (.int .i64 (i:Int))
 f1:W.frozen? ⟨g,1,none⟩=false
 f2:W.frozen? ⟨g,2,none⟩=false
theorem ScanAt.keep {W W':World} {g B i:Nat} {s:List UInt8} (h:ScanAt W g s i) (b:g < B) (a:Below B W W'):ScanAt W' g s i:=
 ⟨Nat.lt_of_lt_of_le h.lt a.size,(a.cell (p:=⟨g,0,none⟩) b).trans h.c0,(a.cell (p:=⟨g,1,none⟩) b).trans h.c1,(a.frozen (p:=⟨g,1,none⟩) b).trans h.f1,(a.frozen (p:=⟨g,2,none⟩) b).trans h.f2⟩
theorem ZcN (w:World) (n:Nat):Below w.heap.size w (w.drewN n):=Z0Q Y2 n
section
variable (g : Nat) (s : List UInt8)
include g s
theorem Zhm (i:Nat) (w:World) (h:ScanAt w g s i):
 Calls Tryz.prog 101 #[.pointer (some ⟨g,0,none⟩)] w fun e w'=>e= .returned (.bool ((i:Int)==(s.length:Int)))/\ ∃n,w'=w.drewN n:=by
 have f: (⟨s.toArray⟩:ByteArray).size=s.length:=Z0J _;obtain ⟨a,b,c1,c,d⟩:=h;go_enter Tryz.func101,Tryz.ntmps101
 go_wp2_with fail
 go_quiet (fail)
 go_wp2;go_ret;exact ⟨rfl,_,rfl⟩
theorem Zfc (i:Nat) (b:i < s.length) (w:World) (h:ScanAt w g s i):
 Calls Tryz.prog 102 #[.pointer (some ⟨g,0,none⟩)] w fun e w'=>e= .returned (.int .u8 (s[i]'b).toNat)/\ ∃n,w'=w.drewN n:=by
 have o: (⟨s.toArray⟩:ByteArray).size=s.length:=Z0J _;obtain ⟨c,a⟩: ∃c,c=s[i]'b:=⟨_,rfl⟩;have d: ∀W,(Instr.index 9 (.string ⟨s.toArray⟩) (.int .i64 (i:Int))).run Tryz.prog W= .ok (.int .u8 c.toNat) W:=fun W=>by
  rw[a]; exact Z4P ⟨s.toArray⟩ i (by omega) W
 rw[<-a];clear a;have f: (i:Int) < (s.length:Int):=by omega
 obtain ⟨j,k,c1,l,m⟩:=h;go_enter Tryz.func102,Tryz.ntmps102
 go_wp2_with fail
 go_quiet (fail)
 go_wp2;go_ret;exact ⟨rfl,_,rfl⟩
theorem Zhn (i:Nat) (k:i<=s.length) (w:World) (h:ScanAt w g s i):
 Calls Tryz.prog 158 #[.pointer (some ⟨g,0,none⟩)] w fun e w'=>e= .returned (.string ⟨(s.drop i).toArray⟩)/\ ∃n,w'=w.drewN n:=by
 have l: (⟨s.toArray⟩:ByteArray).size=s.length:=Z0J _;have c: ∀W,(Instr.slice 9 (.string ⟨s.toArray⟩) (some (.int .i64 (i:Int))) none none).run Tryz.prog W= .ok (.string ⟨(s.drop i).toArray⟩) W:=fun W=>Z8E (W:=W) ⟨s.toArray⟩ i (by omega);have a: (i:Int)<=(s.length:Int):=by omega
 obtain ⟨b,d,c1,f,j⟩:=h;go_enter Tryz.func158,Tryz.ntmps158
 go_wp2_with fail
 go_quiet (fail)
 go_wp2;go_ret;exact ⟨rfl,_,rfl⟩
theorem ZdM (i n:Nat) (o:i<=s.length) (r:s.length<=1000000) (q:n<=1000000) (w:World) (h:ScanAt w g s i):
 Calls Tryz.prog 131 #[.pointer (some ⟨g,0,none⟩),.int .i64 (n:Int)] w fun e w'=>e= .returned (.string ⟨((s.drop i).take n).toArray⟩)/\ ∃n,w'=w.drewN n:=by
 have u: (⟨s.toArray⟩:ByteArray).size=s.length:=Z0J _;have a: ∀(k:Int),(i:Int)<=k->k<=s.length-> ∀W,(Instr.slice 9 (.string ⟨s.toArray⟩) (some (.int .i64 (i:Int))) (some (.int .i64 k)) none).run Tryz.prog W= .ok (.string ⟨((s.drop i).take (k.toNat - i)).toArray⟩) W:=fun k b h2 W=>Z9U ⟨s.toArray⟩ i k b (by omega) W;have t:IntKind.i64.wrap ((i:Int)+(n:Int))=(i:Int)+(n:Int):=IntWalk.i64_in _ (by omega);obtain ⟨d,j,c1,l,m⟩:=h;by_cases p:i+n<=s.length
 {have f:min ((i:Int)+n) (s.length:Int)=(i:Int)+n:=by omega
  have b:=a ((i:Int)+n) (by omega) (by omega);have e: (((i:Int)+n).toNat - i)=n:=by omega
  rw[e] at b;have c: (i:Int)+n<=(s.length:Int):=by omega
  clear a e;go_enter Tryz.func131,Tryz.ntmps131
  go_wp2_with fail
  go_quiet (fail)
  go_wp2;go_ret;exact ⟨rfl,_,rfl⟩}
 {have f:min ((i:Int)+n) (s.length:Int)=(s.length:Int):=by omega
  have b:=a (s.length:Int) (by omega) (by omega);have e: ((s.drop i).take ((s.length:Int).toNat - i))=(s.drop i).take n:=by
   rw[List.take_of_length_le (by rw[List.length_drop]; omega),List.take_of_length_le (by rw[List.length_drop]; omega)]
  rw[e] at b;have c: ¬(i:Int)+n<=(s.length:Int):=by omega
  clear a e;go_enter Tryz.func131,Tryz.ntmps131
  go_wp2_with fail
  go_quiet (fail)
  go_wp2;go_ret;exact ⟨rfl,_,rfl⟩}
end
theorem Zka (a:UInt8):0<=(Utf.plead a.toNat).1/\(Utf.plead a.toNat).1<=127/\(Utf.plead a.toNat).2<=4:=by
 have d:=a.toNat_lt;rcases Utf.Z2J a.toNat with ⟨b,e⟩ | ⟨b,c,e⟩ | ⟨b,c,e⟩ | ⟨b,c,e⟩ | ⟨b,e⟩ <;> rw[e] <;> simp only <;> omega
theorem ZpV {p:Int} {l:List UInt8} (d:0<=p) (e:p<=127) (a:l.length<=2) (h: ∀b∈l,128<=b.toNat/\b.toNat < 192):0<=Utf.val p l/\Utf.val p l<=1000000:=by
 match l,a,h with
 | [],_,_=>simp only[Utf.val]; omega
 | [b],_,h=>have:=h b (by simp); simp only[Utf.val]; omega
 | [b,c],_,h=>have:=h b (by simp); have:=h c (by simp); simp only[Utf.val]; omega
theorem onbits (x:Int) (b:UInt8) (a:0<=x) (c:x<=1000000) (d:128<=b.toNat) (e:b.toNat < 192):
 bits .or .i64 (x * 64) ((b.toNat:Int) - 128)=x * 64+b.toNat - 128:=by
 rw[Zmp x _ a (by omega) (by omega) (by omega)];omega
def On (r:List UInt8) (k:Nat):Prop:= ∀b∈r.take k,128<=b.toNat/\b.toNat < 192
theorem Zpd {r:List UInt8} {k:Nat} (h:On r k) (e:k < r.length) (c:128<=r[k].toNat) (d:r[k].toNat < 192):On r (k+1):=by
 intro b a;rw[List.take_succ_eq_append_getElem e,List.mem_append] at a;rcases a with a | a
 {exact h b a}
 {simp at a; subst a; exact ⟨c,d⟩}
theorem Zho (s:ByteArray) (h:0 < s.size) (hs:s.size<=9223372036854775807) (w:World):
 Calls Tryz.prog 203 #[.string s] w fun e w'=>e= .returned (duo (Utf.first s.data.toList))/\w=w':=by
 obtain ⟨r,O,W,V⟩:=Zfn s h;obtain ⟨t,u,B⟩:=Zka s[0];have E:=Y1 O;have D:=Y1 W;have T:=Y1 V;clear O W V;obtain ⟨v,n,y⟩: ∃v n,Utf.plead (s[0]).toNat=(v,n):=⟨_,_,rfl⟩;have d:=Y1 y;rw[y] at t u B;simp only at t u B;clear y;by_cases f:n=0
 {subst f;go_enter Tryz.func203,Tryz.ntmps203
  go_wp2_with fail
  refine (Zg8 s[0] _).mono ?_;rintro e w' ⟨g,rfl⟩;rw[d.out,duo] at g;subst g;go_wp2
  go_ret2
  refine ⟨?_,rfl⟩;rw[E.out,Utf.ZiR (by rw[d.out])];rfl}
 {have a2: ((n:Int)==0)=false:=by simp; omega
  by_cases C:s.size < n
  {have J:decide (s.size < n)=true:=by simpa using C
   go_enter Tryz.func203,Tryz.ntmps203
   go_wp2_with fail
   refine (Zg8 s[0] _).mono ?_;rintro e w' ⟨g,rfl⟩;rw[d.out,duo] at g;subst g;go_wp2
   go_ret2
   refine ⟨?_,rfl⟩;rw[E.out,Utf.ZjO (by rw[d.out]; exact f) (by rw[d.out]; have:=D.out; simp only; omega)];rfl}
  {have J:decide (s.size < n)=false:=by simpa using C
   go_enter Tryz.func203,Tryz.ntmps203
   go_wp2_with fail
   refine (Zg8 s[0] _).mono ?_;rintro e w' ⟨g,rfl⟩;rw[d.out,duo] at g;subst g
   go_wp2_with fail
   go_loop [4,6] (fun p i=> ∃(k:Nat) (x:Int),i= .int .i64 k/\1<=k/\k<=n/\p= .int .i64 x/\Hid (x=Utf.val v (r.take (k - 1)))/\Hid (On r (k - 1)))
    (fun _ i=>4 - (intOf i).toNat)
   case atStart=>exact ⟨1,_,rfl,by omega,by omega,rfl,Y1 rfl,Y1 (fun b hb=>by simp at hb)⟩
   case round=>
    obtain ⟨k,x,rfl,M,hk,rfl,I,G⟩:=hrel;by_cases a3:k < n
    {have c:k < s.size:=by omega
     have Y:=ZpV (p:=v) (l:=r.take (k - 1)) t u (by rw[List.length_take]; omega) G.out;rw[<-I.out] at Y;obtain ⟨Q,S⟩:=Y;have a1:=(s[k]'c).toNat_lt;have U:Hid (∃O:k - 1 < r.length,r[k - 1]=s[k]'c):=Y1 (by
      have F:=D.out;have A:=T.out (k - 1) (by omega) (by omega);refine ⟨by omega,A.trans ?_⟩;simp only[show k - 1+1=k from by omega])
     by_cases q:128<=(s[k]'c).toNat/\(s[k]'c).toNat < 192
     {obtain ⟨m,o⟩:=q;have HN:Hid (x * 64+(s[k]'c).toNat - 128=Utf.val v (r.take k)):=Y1 (ZfE s r D.out T.out k M c I.out);have Z:=Y1 (onbits x (s[k]'c) Q S m o);have H:Hid (On r k):=Y1 (by
       obtain ⟨F,A⟩:=U.out;have:=Zpd G.out F (by rw[A]; exact m) (by rw[A]; exact o)
       rwa [show k - 1+1=k from by omega] at this)
      go_wp2_with fail
      go_round
      case rel=>exact ⟨k+1,_,by go_num,by omega,by omega,by rw[Z.out],HN,H⟩
      case measure=>simp[intOf]; omega}
     {have j:Utf.first s.data.toList=(0,0):=by
       obtain ⟨F,A⟩:=U.out;rw[E.out];exact Utf.Zl0 (i:=k - 1) (by rw[d.out]; exact f) (by rw[d.out]; simp only; omega) F (by rw[A]; omega)
      have z:=Y1 j;clear j;by_cases m: (s[k]'c).toNat < 128
      {clear q;go_wp2
       go_ret2
       exact ⟨by rw[z.out]; rfl,rfl⟩}
      {have o:192<=(s[k]'c).toNat:=by omega
       clear q;go_wp2
       go_ret2
       exact ⟨by rw[z.out]; rfl,rfl⟩}}}
    {have N:k=n:=by omega
     subst N;have j:=Utf.Zm8 (a:=s[0]) (r:=r) (by rw[d.out]; exact f) (by rw[d.out]; have:=D.out; simp only; omega) (by rw[d.out]; exact G.out);rw[d.out] at j;simp only at j;rw[<-I.out, <-E.out] at j;have z:=Y1 j;clear j;cases X:Utf.pt x
     {go_wp2_with (first | (go_at_call 216; refine (Zg7 _ _).mono ?_; rintro e w' ⟨rfl,rfl⟩) | (go_at_call 217; refine (ZfD _ _).mono ?_; rintro e w' ⟨rfl,rfl⟩))
      go_ret2
      refine ⟨?_,rfl⟩;rw[z.out,X,if_neg (by simp)];rfl}
     {by_cases P:Utf.width x=k
      {have K: ((Utf.width x:Int)==(k:Int))=true:=by rw[beq_iff_eq]; omega
       have L: ((Utf.width x:Int) !=(k:Int))=false:=by rw[bne_eq_false_iff_eq]; omega
       have HW:=Y1 P;clear P
       go_wp2_with (first | (go_at_call 216; refine (Zg7 _ _).mono ?_; rintro e w' ⟨rfl,rfl⟩) | (go_at_call 217; refine (ZfD _ _).mono ?_; rintro e w' ⟨rfl,rfl⟩))
       go_ret2
       refine ⟨?_,rfl⟩;rw[z.out,if_pos ⟨X,HW.out⟩];rfl}
      {have K: ((Utf.width x:Int)==(k:Int))=false:=by rw[beq_eq_false_iff_ne]; omega
       have L: ((Utf.width x:Int) !=(k:Int))=true:=by rw[bne_iff_ne]; omega
       go_wp2_with (first | (go_at_call 216; refine (Zg7 _ _).mono ?_; rintro e w' ⟨rfl,rfl⟩) | (go_at_call 217; refine (ZfD _ _).mono ?_; rintro e w' ⟨rfl,rfl⟩))
       go_ret2
       refine ⟨?_,rfl⟩;rw[z.out,if_neg (by rintro ⟨_,h⟩; exact P h)];rfl}}}}}
def Decoded (ps:List Int) (rest:List UInt8) (w:World) (e:Ending) (w':World):Prop:=
 ∃(A:Option Addr) (cap:Nat) (zs:List Int) (f:Value),e= .returned (.tuple #[.slice A zs.length cap,f])/\Ints w' w'.heap.size A zs/\(A=none->zs.length=0/\cap=0)/\Below w.heap.size w w'/\
  ((rest= []/\zs=ps/\f= .agg #[.int .i64 0,.int .i64 0])\/(rest≠ []/\zs= []/\f= .agg #[.int .i64 30,.int .i64 (Utf.enc ps).length]))
theorem Zkb (s:ByteArray) (hs:s.size<=1000000000) (ps:List Int) (rest:List UInt8) (N:Utf.Reads s.data.toList ps rest) (w:World):
 Calls Tryz.prog 186 #[.string s] w (Decoded ps rest w):=by
 have W:=Y1 (Lib.size_eq s);obtain ⟨i0,hi,X,Y,Z⟩:=info_parts (P:=Tryz.prog) (e:=3) (z:= .int .i64 0) (size:=1) (bytes:=8) (by kernel_rfl);have K:ps.length<=s.size:=by
  have j:=Utf.Zi0 ps;have h2:=(Utf.Ze2 N).2;rw[<-W.out] at h2;omega
 go_enter Tryz.func186,Tryz.ntmps186
 go_wp2_with fail
 generalize hW1:w.alloc (Obj.cells #[Value.int IntKind.i64 0,Value.int IntKind.i64 0] 31)=W1;have H:Below w.heap.size w W1:=by rw[<-hW1]; exact Y2.alloc (Nat.le_refl _) _
 have c:w.heap.size < W1.heap.size:=by rw[<-hW1]; simp
 have HC:Hid (W1.cell? ⟨w.heap.size,0,none⟩=some (.int .i64 0)/\W1.cell? ⟨w.heap.size,1,none⟩=some (.int .i64 0)/\W1.frozen? ⟨w.heap.size,0,none⟩=false/\W1.frozen? ⟨w.heap.size,1,none⟩=false):=by
  rw[<-hW1];exact Y1 ⟨by simp[go_sem],by simp[go_sem],by simp[go_sem],by simp[go_sem]⟩
 clear hW1
 go_loopw [4,5] (fun v i wr=> ∃k a:Nat,i= .int .i64 a/\k<=ps.length/\Hid (a=(Utf.enc (ps.take k)).length)/\wr.ownsRow W1.heap.size 3 1 v k ((ps.take k).map (Value.int .i64))/\Below W1.heap.size W1 wr)
  (fun _ i _=>s.size - (intOf i).toNat)
 case atStart=>exact ⟨0,0,rfl,Nat.zero_le _,Y1 rfl,World.ownsRow_nil _ _ _ _,Below.refl _ _⟩
 case round=>
  obtain ⟨k,a,rfl,hk,B,g,C⟩:=hrel;have S:=C.size;by_cases I:k < ps.length
  {obtain ⟨j,h2,M⟩:=Utf.ZiS N k I;rw[<-B.out] at j M;rw[<-W.out] at M;obtain ⟨T,U⟩:=Utf.Z1B ps[k];have O:a < s.size:=by omega
   obtain ⟨x,V⟩: ∃x,x=ps[k]:=⟨_,rfl⟩;have HX:=Y1 V;rw[<-V] at j h2 M T U;have HN:Hid (a+Utf.width x=(Utf.enc (ps.take (k+1))).length):=Y1 (by rw[h2,List.length_append,Utf.Z0n, <-B.out]);have L:=Y1 j;clear j h2 V;obtain ⟨r,hsl,hr1,hr2,hr3,_,_⟩:=Zgs s a O;have l:=Y1 hr1;clear hr1;have a5: ((Utf.width x:Int)==0)=false:=by rw[beq_eq_false_iff_ne]; omega
   have HT:Hid ((ps.take (k+1)).map (Value.int .i64)=(ps.take k).map (Value.int .i64)++ [.int .i64 x]):=Y1 (by rw[List.take_succ_eq_append_getElem I,List.map_append,HX.out]; rfl)
   go_wp2_with fail
   refine (Zho r hr3 (by omega) _).mono ?_;rintro e w2 ⟨G,rfl⟩;have h:=g;have d:=C;have J:=S;rw[l.out,L.out,duo] at G;subst G
   go_wp2_with (at_builtin; refine wpList_append_own _ rfl _ _ 128 rfl W1.heap.size 3 i0 (.int .i64 0) 1 8 Tryz.underlying128 hi X Y Z rfl (by decide) _ _ _ rfl (h.alloc _) ⟨wr.heap.size,0,none⟩ 1 1 [.int .i64 x] rfl rfl ?c1 ?c2 ?c3 ?c4 ?c5 ?_)
   case c1=>
    intro i u y
    match i,y with
    | 0,y=>simp at y; subst y; simp[Addr.add]
   case c2=>intro u y; simp at y; subst y; rfl
   case c3=>unfold maxLen; omega
   case c4=>omega
   case c5=>simp; omega
   intro v' w3 t q _;go_wp2
   go_roundw
   case rel=>
    refine ⟨k+1,a+Utf.width x,by go_num,by omega,HN, ?_,(d.alloc J _).grown q (by simp; omega) (fun k hk=>(h.lt k hk).1)⟩;rw[HT.out,List.map_take];exact t
   case measure=>simp[intOf]; omega}
  {have Q:k=ps.length:=by omega
   have HP:Hid (ps.take k=ps):=Y1 (List.take_of_length_le (by omega));rw[HP.out] at B g;obtain ⟨j,h2⟩:=Utf.Ze2 N;rw[<-W.out, <-B.out] at h2;rw[<-B.out] at j;have L:=Y1 j;clear j;by_cases b:rest= []
   {have F: ¬a < s.size:=by rw[b,List.length_nil] at h2; omega
    obtain ⟨hc0,n⟩:=ZcE (o:=0) C c;obtain ⟨f,p⟩:=ZcE (o:=1) C c;obtain ⟨D,g1,g2,E⟩:=HC.out;rw[D] at hc0;rw[g1] at f;rw[g2] at n;rw[E] at p;obtain ⟨A,cap,hv,hI,hAn⟩:=ZgM (ownsRow_setCell_below (a:=⟨w.heap.size,1,none⟩) (ownsRow_setCell_below (a:=⟨w.heap.size,0,none⟩) g c (.int .i64 0)) c (.int .i64 0));subst Q;clear D g1 g2 E;go_wp2;refine bodyPost_ret (v:= .tuple #[.slice A ps.length cap,.agg #[.int .i64 0,.int .i64 0]]) (by simp[results,Tryz.results186,go_sem,hv,hc0,f]) rfl ?_;have m:Below w.heap.size w wr:=H.trans (C.mono (Nat.le_of_lt c));have hb2:Below w.heap.size w ((wr.setCell ⟨w.heap.size,0,none⟩ (.int .i64 0)).setCell ⟨w.heap.size,1,none⟩ (.int .i64 0)):=(m.setCell (Nat.le_refl _) _).setCell (Nat.le_refl _) _;exact ⟨A,cap,ps,_,rfl,hI,hAn,hb2,Or.inl ⟨b,rfl,rfl⟩⟩}
   {have F:a < s.size:=by have:=List.length_pos_iff.2 b; omega
    obtain ⟨r,hsl,hr1,hr2,hr3,_,_⟩:=Zgs s a F;have l:=Y1 hr1;clear hr1
    go_wp2_with fail
    refine (Zho r hr3 (by omega) _).mono ?_;rintro e w2 ⟨G,rfl⟩;have d:=C;rw[l.out,L.out,duo] at G;subst G;obtain ⟨hc0,n⟩:=ZcE (o:=0) d c;obtain ⟨f,p⟩:=ZcE (o:=1) d c;obtain ⟨D,g1,g2,E⟩:=HC.out;rw[D] at hc0;rw[g1] at f;rw[g2] at n;rw[E] at p;clear D g1 g2 E;go_wp2;refine bodyPost_ret (v:= .tuple #[.slice none 0 0,.agg #[.int .i64 30,.int .i64 a]]) (by simp[results,Tryz.results186,go_sem,hc0,f]) rfl ?_;have m:Below w.heap.size w wr:=H.trans (d.mono (Nat.le_of_lt c));refine ⟨none,0,[],_,rfl,Or.inl rfl,fun _=>⟨rfl,rfl⟩,(m.setCell (Nat.le_refl _) _).setCell (Nat.le_refl _) _,Or.inr ⟨b,rfl,by rw[B.out]⟩⟩}}
end
end Go.Proofs.YtgndehppmaacaaaGreatDoor
namespace Lex
theorem ZkP {p:UInt8->Bool} {l:List UInt8} {k:Nat} (a:k<=l.length) (b: ∀j (hj:j < l.length),j < k->p (l[j]'hj)=true) (c: ∀(h:k < l.length),p (l[k]'h)=false):l.take k=l.takeWhile p:=by
 have h:=Z8F a b c;have:=(Z3S p l).2;rw[h] at this;exact this
end Lex
namespace Go.Proofs.YtgndehppmaacaaaGreatDoor
open Go.RowKit
section
variable (g : Nat) (s : List UInt8) (i : Nat) (hi : i <= s.length) (hs : s.length <= 1000000) (w : World) (h : ScanAt w g s i)
include g s i hi hs w h
theorem ZlA:
 Calls Tryz.prog 188 #[.pointer (some ⟨g,0,none⟩),.func (.func 155) #[] #[]] w fun e w'=>e= .returned (.string ⟨((s.drop i).takeWhile Lex.nameB).toArray⟩)/\ ∃n,w'=w.drewN n:=by
 have L: (⟨s.toArray⟩:ByteArray).size=s.length:=Z0J _;obtain ⟨F,H,c1,J,K⟩:=h;go_enter Tryz.func188,Tryz.ntmps188
 go_wp2_with fail
 go_loopw [5] (fun ii wr=> ∃k:Nat,ii= .int .i64 ((i+k:Nat):Int)/\i+k<=s.length/\Hid (∀j (hj:j < (s.drop i).length),j < k->Lex.nameB ((s.drop i)[j]'hj)=true)/\w=wr)
  (fun ii _=>s.length - (intOf ii).toNat)
 case atStart=>exact ⟨0,by simp,by omega,Y1 (fun j _ hj=>absurd hj (by omega)),rfl⟩
 case round=>
  obtain ⟨k,rfl,E,B,rfl⟩:=hrel;have l: (s.drop i).length=s.length - i:=List.length_drop;have o:=Y1 l;clear l;obtain ⟨n,v⟩: ∃n,n=i+k:=⟨_,rfl⟩;rw[<-v] at E ⊢;have a:=Y1 v;clear v;have d: (∀h:n < s.length,Lex.nameB (s[n]'h)=false)->Hid (((s.drop i).take (n - i))=(s.drop i).takeWhile Lex.nameB):=fun h=>Y1 (by
   have e:=a.out;have I:=o.out;refine Lex.ZkP (by omega) (fun j hj hjk=>B.out j hj (by omega)) (fun hj=> ?_);rw[List.getElem_drop];have:i+(n - i)=n:=by omega
   simp only[this];exact h (by omega))
  by_cases f:n < s.length
  {have t: (n:Int) < (s.length:Int):=by omega
   obtain ⟨c,r⟩: ∃c,c=s[n]'f:=⟨_,rfl⟩;have D: ∀W,(Instr.index 9 (.string ⟨s.toArray⟩) (.int .i64 (n:Int))).run Tryz.prog W= .ok (.int .u8 c.toNat) W:=fun W=>by
    rw[r]; exact Z4P ⟨s.toArray⟩ n (by omega) W
   have A:=Y1 r;clear r;cases m:Lex.nameB c
   {have q:=d (fun _=>by rw[<-A.out]; exact m);have z: ∀W,(Instr.slice 9 (.string ⟨s.toArray⟩) (some (.int .i64 (i:Int))) (some (.int .i64 (n:Int))) none).run Tryz.prog W= .ok (.string ⟨((s.drop i).takeWhile Lex.nameB).toArray⟩) W:=fun W=>by
     rw[Z9U ⟨s.toArray⟩ i (n:Int) (by have:=a.out; omega) (by omega) W,Int.toNat_natCast];exact congrArg (fun b=>Result.ok (Value.string ⟨List.toArray b⟩) W) q.out
    have u: (i:Int)<=(n:Int):=by have:=a.out; omega
    have y: (n:Int)<=(s.length:Int):=by omega
    clear d
    go_wp2_with fail
    refine (Z4k c _).mono ?_;rintro e G ⟨rfl,rfl⟩;rw[m]
    go_wp2_with fail
    go_quiet (fail)
    go_wp2;go_ret;exact ⟨rfl,_,rfl⟩}
   {have p:Hid (∀j (hj:j < (s.drop i).length),j < k+1->Lex.nameB ((s.drop i)[j]'hj)=true):=Y1 (fun j hj hji=>by
     rcases Nat.lt_succ_iff_lt_or_eq.1 hji with C | C
     {exact B.out j hj C}
     · have e:=a.out
       rw[List.getElem_drop];have:i+j=n:=by omega
       simp only[this];rw[<-A.out]; exact m)
    clear d
    go_wp2_with fail
    refine (Z4k c _).mono ?_;rintro e G ⟨rfl,rfl⟩;rw[m];go_wp2
    go_roundw
    case rel=>exact ⟨k+1,by rw[a.out]; go_num,by have:=a.out; omega,p,trivial⟩
    case measure=>simp[intOf]; omega}}
  {have t: ¬(n:Int) < (s.length:Int):=by omega
   have q:=d (fun h=>absurd h f);have z: ∀W,(Instr.slice 9 (.string ⟨s.toArray⟩) (some (.int .i64 (i:Int))) (some (.int .i64 (n:Int))) none).run Tryz.prog W= .ok (.string ⟨((s.drop i).takeWhile Lex.nameB).toArray⟩) W:=fun W=>by
    rw[Z9U ⟨s.toArray⟩ i (n:Int) (by have:=a.out; omega) (by omega) W,Int.toNat_natCast];exact congrArg (fun b=>Result.ok (Value.string ⟨List.toArray b⟩) W) q.out
   have u: (i:Int)<=(n:Int):=by have:=a.out; omega
   have y: (n:Int)<=(s.length:Int):=by omega
   clear d
   go_wp2_with fail
   go_quiet (fail)
   go_wp2;go_ret;exact ⟨rfl,_,rfl⟩}
theorem ZlB:
 Calls Tryz.prog 188 #[.pointer (some ⟨g,0,none⟩),.func (.func 189) #[] #[]] w fun e w'=>e= .returned (.string ⟨((s.drop i).takeWhile Lex.lumpB).toArray⟩)/\ ∃n,w'=w.drewN n:=by
 have L: (⟨s.toArray⟩:ByteArray).size=s.length:=Z0J _;obtain ⟨F,H,c1,J,K⟩:=h;go_enter Tryz.func188,Tryz.ntmps188
 go_wp2_with fail
 go_loopw [5] (fun ii wr=> ∃k:Nat,ii= .int .i64 ((i+k:Nat):Int)/\i+k<=s.length/\Hid (∀j (hj:j < (s.drop i).length),j < k->Lex.lumpB ((s.drop i)[j]'hj)=true)/\w=wr)
  (fun ii _=>s.length - (intOf ii).toNat)
 case atStart=>exact ⟨0,by simp,by omega,Y1 (fun j _ hj=>absurd hj (by omega)),rfl⟩
 case round=>
  obtain ⟨k,rfl,E,B,rfl⟩:=hrel;have l: (s.drop i).length=s.length - i:=List.length_drop;have o:=Y1 l;clear l;obtain ⟨n,v⟩: ∃n,n=i+k:=⟨_,rfl⟩;rw[<-v] at E ⊢;have a:=Y1 v;clear v;have d: (∀h:n < s.length,Lex.lumpB (s[n]'h)=false)->Hid (((s.drop i).take (n - i))=(s.drop i).takeWhile Lex.lumpB):=fun h=>Y1 (by
   have e:=a.out;have I:=o.out;refine Lex.ZkP (by omega) (fun j hj hjk=>B.out j hj (by omega)) (fun hj=> ?_);rw[List.getElem_drop];have:i+(n - i)=n:=by omega
   simp only[this];exact h (by omega))
  by_cases f:n < s.length
  {have t: (n:Int) < (s.length:Int):=by omega
   obtain ⟨c,r⟩: ∃c,c=s[n]'f:=⟨_,rfl⟩;have D: ∀W,(Instr.index 9 (.string ⟨s.toArray⟩) (.int .i64 (n:Int))).run Tryz.prog W= .ok (.int .u8 c.toNat) W:=fun W=>by
    rw[r]; exact Z4P ⟨s.toArray⟩ n (by omega) W
   have A:=Y1 r;clear r;cases m:Lex.lumpB c
   {have q:=d (fun _=>by rw[<-A.out]; exact m);have z: ∀W,(Instr.slice 9 (.string ⟨s.toArray⟩) (some (.int .i64 (i:Int))) (some (.int .i64 (n:Int))) none).run Tryz.prog W= .ok (.string ⟨((s.drop i).takeWhile Lex.lumpB).toArray⟩) W:=fun W=>by
     rw[Z9U ⟨s.toArray⟩ i (n:Int) (by have:=a.out; omega) (by omega) W,Int.toNat_natCast];exact congrArg (fun b=>Result.ok (Value.string ⟨List.toArray b⟩) W) q.out
    have u: (i:Int)<=(n:Int):=by have:=a.out; omega
    have y: (n:Int)<=(s.length:Int):=by omega
    clear d
    go_wp2_with fail
    refine (ZgI c _).mono ?_;rintro e G ⟨rfl,rfl⟩;rw[m]
    go_wp2_with fail
    go_quiet (fail)
    go_wp2;go_ret;exact ⟨rfl,_,rfl⟩}
   {have p:Hid (∀j (hj:j < (s.drop i).length),j < k+1->Lex.lumpB ((s.drop i)[j]'hj)=true):=Y1 (fun j hj hji=>by
     rcases Nat.lt_succ_iff_lt_or_eq.1 hji with C | C
     {exact B.out j hj C}
     · have e:=a.out
       rw[List.getElem_drop];have:i+j=n:=by omega
       simp only[this];rw[<-A.out]; exact m)
    clear d
    go_wp2_with fail
    refine (ZgI c _).mono ?_;rintro e G ⟨rfl,rfl⟩;rw[m];go_wp2
    go_roundw
    case rel=>exact ⟨k+1,by rw[a.out]; go_num,by have:=a.out; omega,p,trivial⟩
    case measure=>simp[intOf]; omega}}
  {have t: ¬(n:Int) < (s.length:Int):=by omega
   have q:=d (fun h=>absurd h f);have z: ∀W,(Instr.slice 9 (.string ⟨s.toArray⟩) (some (.int .i64 (i:Int))) (some (.int .i64 (n:Int))) none).run Tryz.prog W= .ok (.string ⟨((s.drop i).takeWhile Lex.lumpB).toArray⟩) W:=fun W=>by
    rw[Z9U ⟨s.toArray⟩ i (n:Int) (by have:=a.out; omega) (by omega) W,Int.toNat_natCast];exact congrArg (fun b=>Result.ok (Value.string ⟨List.toArray b⟩) W) q.out
   have u: (i:Int)<=(n:Int):=by have:=a.out; omega
   have y: (n:Int)<=(s.length:Int):=by omega
   clear d
   go_wp2_with fail
   go_quiet (fail)
   go_wp2;go_ret;exact ⟨rfl,_,rfl⟩}
end
theorem Zgf (g:Nat) (s:List UInt8) (i:Nat) (w:World) (h:ScanAt w g s i):
 Y9 161 #[.pointer (some ⟨g,0,none⟩)] w (.agg #[.int .i64 60,.int .i64 (i:Int)]):=by
 have e:=Z01 w (.cells Yc 31);obtain ⟨a,b,c1,c,d⟩:=h;go_enter Tryz.func161,Tryz.ntmps161;go_wp2;refine bodyPost_ret (v:= .agg #[.int .i64 60,.int .i64 (i:Int)]) (by simp[results,Tryz.results161,go_sem]) rfl ?_;exact ⟨rfl,Z01 _ _⟩
def faultV (ps:List Int) (rest:List UInt8) (i:Nat):Value:=if rest= [] then .agg #[.int .i64 0,.int .i64 0] else .agg #[.int .i64 30,.int .i64 ((i+(Utf.enc ps).length:Nat):Int)]
theorem Zgg (g:Nat) (s:List UInt8) (i n:Nat) (J:i<=s.length) (N:s.length<=1000000) (L:n<=1000000) (ps:List Int) (rest:List UInt8) (y:Utf.Reads ((s.drop i).take n) ps rest) (w:World) (h:ScanAt w g s i):
 Y9 159 #[.pointer (some ⟨g,0,none⟩),.int .i64 (n:Int)] w (faultV ps rest i):=by
 have t:=Y1 (ZcG w 0 0);have hb0:=Z01 w (.cells Yc 31);have j:=Y1 (h.keep h.lt hb0);have d:=Y1 hb0;have F:g < w.heap.size:=h.lt;have z: (Utf.enc ps).length<=1000000:=by
  have:=(Utf.Ze2 y).2;rw[List.length_take,List.length_drop] at this; omega
 have E:=Y1 y;clear h hb0 y;go_enter Tryz.func159,Tryz.ntmps159
 go_wp2_with fail
 generalize hW:w.alloc (.cells Yc 31)=W0 at t d j ⊢;clear hW
 go_wp2_with fail
 refine (ZdM g s i n J N L _ j.out).mono ?_;rintro e S ⟨rfl,O,rfl⟩
 go_wp2_with fail
 refine (Zkb ⟨((s.drop i).take n).toArray⟩ (by rw[Z0J,List.length_take]; omega) ps rest E.out _).mono ?_;rintro e D ⟨A,cap,T,f,rfl,_,_,l,c⟩;have a:Below W0.heap.size W0 D:=(ZcN W0 O).trans (l.mono (Nat.le_refl _));have b:=Y1 (Z03 d.out a);have k:=Y1 (t.out.keep (B:=W0.heap.size) t.out.1 a);have u:=Y1 (j.out.keep j.out.lt a);clear l a t j E;rcases c with ⟨q,_,rfl⟩ | ⟨q,_,rfl⟩
 {have r:Hid (faultV ps rest i= .agg #[.int .i64 0,.int .i64 0]):=Y1 (by unfold faultV; rw[if_pos q]);have o:=Z0h b.out (.cells Yc 31);obtain ⟨C,x0,x1,y0,P⟩:=k.out;clear q;go_wp2;refine bodyPost_ret (v:= .agg #[.int .i64 0,.int .i64 0]) (by simp[results,Tryz.results159,go_sem,x0,x1,C]) rfl ?_;exact ⟨by rw[r.out],((b.out.setCell (p:=⟨w.heap.size,0,none⟩) (Nat.le_refl _) _).setCell (p:=⟨w.heap.size,1,none⟩) (Nat.le_refl _) _).alloc (by have:=b.out.size; simp; omega) _⟩}
 {have r:Hid (faultV ps rest i= .agg #[.int .i64 30,.int .i64 ((i+(Utf.enc ps).length:Nat):Int)]):=Y1 (by unfold faultV; rw[if_neg q]);have o:=Z0h b.out (.cells #[.int .i64 30,.int .i64 (Utf.enc ps).length] 31);obtain ⟨m,G⟩: ∃m,m=(Utf.enc ps).length:=⟨_,rfl⟩;rw[<-G] at r z o ⊢;obtain ⟨C,x0,x1,y0,P⟩:=k.out;obtain ⟨K,c0,c1,f1,Q⟩:=u.out;have M:w.heap.size≠D.heap.size:=by omega
  have H:g≠D.heap.size:=by omega
  have I:g≠w.heap.size:=by omega
  clear q G
  go_wp2_with fail
  go_region
  go_wp2;refine bodyPost_ret (v:= .agg #[.int .i64 30,.int .i64 ((m:Int)+(i:Int))]) (by simp[results,Tryz.results159,go_sem,x0,x1,C]) rfl ?_;exact ⟨by rw[r.out,show ((i+m:Nat):Int)=(m:Int)+(i:Int) by omega],(((b.out.setCell (p:=⟨w.heap.size,0,none⟩) (Nat.le_refl _) _).setCell (p:=⟨w.heap.size,1,none⟩) (Nat.le_refl _) _).alloc (by have:=b.out.size; simp; omega) _).drew⟩}
end Go.Proofs.YtgndehppmaacaaaGreatDoor
namespace Go.Proofs.YtgndehppmaacaaaGreatDoor
section
open Go.RowKit
structure ScanT (W:World) (g B:Nat) (s:List UInt8) (i:Nat) (v:Value) (l:List Tk):Prop where
 at_:ScanAt W g s i
 c2:W.cell? ⟨g,2,none⟩=some v
 own:W.ownsRow B 46 3 v l.length (cellsT l)
 le:B<=W.heap.size
def UpdT (g:Nat) (v:Value) (w w':World):Prop:=Below g w w'/\ ∀b o,b < w.heap.size->b≠g->some b≠v.ownBlock->w'.cell? ⟨b,o,none⟩=w.cell? ⟨b,o,none⟩/\w'.frozen? ⟨b,o,none⟩=w.frozen? ⟨b,o,none⟩
theorem ZmQ {w d:World} {o:Obj} {row:Option Nat} (f: (w.drew.alloc o).grownBy d row) {g:Nat} (b:g < w.heap.size) (c:some g≠row) (j:Nat):
 d.cell? ⟨g,j,none⟩=w.cell? ⟨g,j,none⟩/\d.frozen? ⟨g,j,none⟩=w.frozen? ⟨g,j,none⟩:=by
 have a:g < (w.drew.alloc o).heap.size:=by simp; omega
 have e:=Z01 w.drew o;exact ⟨(f.cell_far ⟨g,j,none⟩ a c).trans (e.cell (p:=⟨g,j,none⟩) b),(f.frozen_far ⟨g,j,none⟩ a c).trans (e.frozen (p:=⟨g,j,none⟩) b)⟩
theorem Zgh (g B:Nat) (r:g < B) (s:List UInt8) (i:Nat) (v:Value) (l:List Tk) (hl:l.length<=1000000) (k:Int) (t:List UInt8) (n:Nat) (hn:i+n<=1000000) (w:World) (h:ScanT w g B s i v l):
 Calls Tryz.prog 104 #[.pointer (some ⟨g,0,none⟩),.int .i64 k,.string ⟨t.toArray⟩,.int .i64 (n:Int)] w fun e w'=>e= .returned (.tuple #[])/\(∃v',ScanT w' g B s (i+n) v' (l++ [⟨⟨k,t⟩,i⟩])/\ ∀x,v'.ownBlock=some x->v.ownBlock=some x\/w.heap.size<=x)/\UpdT g v w w':=by
 obtain ⟨i0,Z,G,H,I⟩:=info_parts (P:=Tryz.prog) (e:=46) (z:= .agg #[.int .i64 0,.string ByteArray.empty,.int .i64 0]) (size:=3) (bytes:=32) (by kernel_rfl);obtain ⟨⟨u,Q,c1,W,L⟩,c2,d,a0⟩:=h;have J:=Y1 d;have y:some g≠v.ownBlock:=fun e=>by have:=(d.lt g e.symm).1; omega
 have O:=Y1 y;clear d;go_enter Tryz.func104,Tryz.ntmps104
 go_wp2_with fail
 have mixed:Tryz.prog.follows .mixedOrders=true:=by kernel_rfl
 go_region_law ((refine step_append_lies _ rfl _ _ 22 rfl B 46 i0 (.agg #[.int .i64 0,.string ByteArray.empty,.int .i64 0]) 3 32 Tryz.underlying22 Z G H I rfl (by decide) v _ _ (by simp[Act.eval]) (J.out.alloc _) ⟨w.heap.size,0,none⟩ 1 1 [.int .i64 k,.string ⟨t.toArray⟩,.int .i64 (i:Int)] (by simp[Act.eval]) rfl (Zlc _ _ _ _ _ rfl) one3 (by decide) (by unfold maxLen; omega) (by omega) (by simp; omega) _ rfl ?_); intro A cap N f c D M; have j:=Y1 (ZmQ c u y); have T:=(j.out 1).1.trans c1; have U:=(j.out 2).1.trans c2; have S:=(j.out 0).1.trans Q; have V:=(j.out 1).2.trans W; have e2:=(j.out 2).2.trans L; have C:=Y1 c; have K:=Y1 f; clear f c)
 all_goals
  go_wp2;refine bodyPost_end (v:= .tuple #[]) (by simp[results,Tryz.results104,go_sem]) rfl ?_;have m:B<=N.heap.size:=by have:=C.out.size; simp at this; omega
  have E:Below g w N:=(((Below.refl _ w).alloc (Nat.le_of_lt u) _).drew).grown C.out (by simp; omega) (fun k hk=>by have:=(J.out.lt k hk).1; omega);have Y:B<=A:=(K.out.lt A rfl).1;refine ⟨rfl,⟨.slice (some ⟨A,0,none⟩) (l.length+1) cap,⟨⟨?_, ?_, ?_, ?_, ?_⟩, ?_, ?_, ?_⟩, ?_⟩, ?_, ?_⟩
  {simp; omega}
  {simp[go_sem,S]}
  {simp[go_sem,T]}
  {simp[go_sem,V]}
  {simp[go_sem]; exact (j.out 2).2.trans L}
  {simp[go_sem,U]}
  {rw[Zf8,List.length_append];exact ownsRow_setCell_below (a:=⟨g,1,none⟩) (ownsRow_setCell_below (a:=⟨g,2,none⟩) K.out r _) r _}
  {simpa using m}
  {intro x hx;obtain rfl:A=x:=by simpa[Value.ownBlock] using hx
   rcases D with h | h
   {exact Or.inl h}
   {right; rw[h]; simp}}
  {exact (E.setCell (p:=⟨g,2,none⟩) (Nat.le_refl _) _).setCell (p:=⟨g,1,none⟩) (Nat.le_refl _) _}
  {intro b o X q F;have:=ZmQ C.out X F o;rw[<-this.1, <-this.2];refine ⟨?_, ?_⟩
   {rw[World.cell?_setCell_other _ _ _ _ (fun e=>q (congrArg Addr.block e).symm),World.cell?_setCell_other _ _ _ _ (fun e=>q (congrArg Addr.block e).symm)]}
   {simp[go_sem]}}
end
end Go.Proofs.YtgndehppmaacaaaGreatDoor
