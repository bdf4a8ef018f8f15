/- What the proofs of ParsePlaces want, part 15. -/
import Derived.Test.YtkncdbaoaeeoiaaGreatDoorK0n14
set_option linter.unusedVariables false
set_option linter.unusedSimpArgs false
set_option linter.unusedSectionVars false
set_option maxRecDepth 100000
set_option maxHeartbeats 16000000
namespace Go.Proofs.YtkncdbaoaeeoiaaGreatDoor
section
open Go.RowKit
def parseR (o:Option Sem.Ver):Value:=match o with
 | some v=> .tuple #[verV v,.int .i64 0]
 | none=> .tuple #[verV ⟨0,0,0,[]⟩,.int .i64 40]
theorem Zbz {l:List UInt8} (h:60 < l.length):Sem.parse l=none:=by
 cases hp:Sem.parse l with
 | none=>rfl
 | some v=>
  obtain ⟨h1,h2⟩:=Sem.Z2M hp;have:=Sem.text_len h1;rw[h2] at this;omega
def tl (t:Nat×Nat×Nat):List Value:= [.int .i64 t.1,.int .i64 t.2.1,.int .i64 t.2.2]
theorem Zg5 (t:Nat×Nat×Nat) (k:Nat) (h:k<=2): (tl t)[k]? =some (.int .i64 (Sem.get t k)):=by
 match k,h with
 | 0,_=>rfl
 | 1,_=>rfl
 | 2,_=>rfl
theorem Zg6 (t:Nat×Nat×Nat) (k x:Nat) (h:k<=2): (tl t).set k (.int .i64 x)=tl (Sem.put t k x):=by
 match k,h with
 | 0,_=>rfl
 | 1,_=>rfl
 | 2,_=>rfl
theorem Z9Q (s:ByteArray) (h:60 < s.size) (hs:s.size<=9223372036854775807) (w:World):
 Y9 55 #[.string s] w (parseR (Sem.parse s.data.toList)):=by
 rw[Zbz (by rw[<-Lib.size_eq]; exact h)];go_enter Tryz.func55,Tryz.ntmps55;go_wp2;refine bodyPost_ret (v:= .tuple #[.agg #[.int .i64 0,.int .i64 0,.int .i64 0,.string ByteArray.empty],.int .i64 40]) (by simp[results,Tryz.results55,go_sem]; rfl) rfl ?_;exact ⟨rfl,Z01 _ _⟩
theorem Z7b {s:ByteArray} {i:Nat} (h:i < s.size) (k:Nat) (t:Nat×Nat×Nat):Sem.scan (s.data.toList.drop i) k t=
 if s[i]'h=45 then some (t,s.data.toList.drop i) else if s[i]'h=46 then (if k < 2 then Sem.scan (s.data.toList.drop (i+1)) (k+1) t else none)
 else if Sem.dig (s[i]'h)=true then Sem.scan (s.data.toList.drop (i+1)) k (Sem.put t k (Sem.rd (Sem.get t k) (s[i]'h))) else none:=by
 rw[List.drop_eq_getElem_cons (by rw[<-Lib.size_eq]; exact h),Sem.scan];rfl
theorem bel4 {w W:World} {x0 x1 x2 x3:Value} (h:Below w.heap.size w W):Below w.heap.size w ((((W.setCell ⟨w.heap.size,0,none⟩ x0).setCell ⟨w.heap.size,1,none⟩ x1).setCell ⟨w.heap.size,2,none⟩ x2).setCell ⟨w.heap.size,3,none⟩ x3):=
 (((h.setCell (p:=⟨w.heap.size,0,none⟩) (Nat.le_refl _) _).setCell (p:=⟨w.heap.size,1,none⟩) (Nat.le_refl _) _).setCell (p:=⟨w.heap.size,2,none⟩) (Nat.le_refl _) _).setCell (p:=⟨w.heap.size,3,none⟩) (Nat.le_refl _) _
theorem Zgw {a:Nat} {c:UInt8} (h:a<=9999999) (hc:c.toNat<=57):Sem.rd a c<=9999999:=by
 unfold Sem.rd; split <;> omega
theorem Zg7 {t:Nat×Nat×Nat} {k x:Nat} (h: ∀j,Sem.get t j<=9999999) (hx:x<=9999999): ∀j,Sem.get (Sem.put t k x) j<=9999999:=by
 have h0:t.1<=9999999:=h 0;have h1:t.2.1<=9999999:=h 1;have h2:t.2.2<=9999999:=h 2;intro j;unfold Sem.put;by_cases e0:k=0
 {rw[if_pos e0]; unfold Sem.get;by_cases j0:j=0
  {rw[if_pos j0]; exact hx}
  {rw[if_neg j0]; split <;> assumption}}
 {rw[if_neg e0];by_cases e1:k=1
  {rw[if_pos e1]; unfold Sem.get;by_cases j0:j=0
   {rw[if_pos j0]; exact h0}
   {rw[if_neg j0]; split <;> assumption}}
  {rw[if_neg e1]; unfold Sem.get;by_cases j0:j=0
   {rw[if_pos j0]; exact h0}
   {rw[if_neg j0]; split <;> assumption}}}
theorem Z7c {l:List UInt8} (h:Sem.scan l 0 (0,0,0)=none):Sem.parse l=none:=by rw[Sem.parse,h]
theorem Zdb {l:List UInt8} {t:Nat×Nat×Nat} {rest:List UInt8} (h:Sem.scan l 0 (0,0,0)=some (t,rest)):
 Sem.parse l=if Sem.may ⟨t.1,t.2.1,t.2.2,rest.tail⟩=true/\Sem.text ⟨t.1,t.2.1,t.2.2,rest.tail⟩=l then some ⟨t.1,t.2.1,t.2.2,rest.tail⟩ else none:=by
 rw[Sem.parse,h]
theorem Zdc (s:ByteArray) (h:s.size<=60) (w:World):
 Y9 55 #[.string s] w (parseR (Sem.parse s.data.toList)):=by
 have hz:=Y1 (Lib.size_eq s);go_enter Tryz.func55,Tryz.ntmps55
 go_wp2_with fail
 generalize hW0:w.alloc (Obj.cells #[Value.int IntKind.i64 0,Value.int IntKind.i64 0,Value.int IntKind.i64 0,Value.string ⟨#[]⟩] 105)=W0;have hz0:W0.heap.size=w.heap.size+1:=by rw[<-hW0]; simp
 have hR0:VerAt W0 w.heap.size ⟨0,0,0,[]⟩:=by rw[<-hW0]; exact Z2m w ⟨0,0,0,[]⟩
 have hF0:Hid (W0.frozen? ⟨w.heap.size,0,none⟩=false/\W0.frozen? ⟨w.heap.size,1,none⟩=false/\W0.frozen? ⟨w.heap.size,2,none⟩=false/\W0.frozen? ⟨w.heap.size,3,none⟩=false):=by
  rw[<-hW0]; exact Y1 ⟨by simp[go_sem],by simp[go_sem],by simp[go_sem],by simp[go_sem]⟩
 have hb0:Below w.heap.size w W0:=by rw[<-hW0]; exact Z01 _ _
 have hown0: (W0.alloc (Obj.cells #[Value.int IntKind.i64 0,Value.int IntKind.i64 0,Value.int IntKind.i64 0] 3)).ownsRow (w.heap.size+1) 3 1 (.slice (some ⟨w.heap.size+1,0,none⟩) 3 3) 3 (tl (0,0,0)):=by
  have:=World.ownsRow_lit (base:=W0.heap.size) (e:=3) (size:=1) W0 #[Value.int IntKind.i64 0,Value.int IntKind.i64 0,Value.int IntKind.i64 0] 3 (Nat.le_refl _) (by simp[maxLen]) rfl;rw[hz0] at this;exact this
 have hbl0:Below (w.heap.size+1) W0 (W0.alloc (Obj.cells #[Value.int IntKind.i64 0,Value.int IntKind.i64 0,Value.int IntKind.i64 0] 3)):=by rw[<-hz0]; exact Z01 _ _
 have HR0:=Y1 hR0;have HZ0:=Y1 hz0;clear hW0 hR0 hz0
 go_loopw [5,6] (fun kk ii wr=> ∃(k i:Nat) (t:Nat×Nat×Nat),kk= .int .i64 k/\ii= .int .i64 i/\k<=2/\i<=s.size/\Hid (∀j,Sem.get t j<=9999999)/\
  Hid (Sem.scan s.data.toList 0 (0,0,0)=Sem.scan (s.data.toList.drop i) k t)/\wr.ownsRow (w.heap.size+1) 3 1 (.slice (some ⟨w.heap.size+1,0,none⟩) 3 3) 3 (tl t)/\Below (w.heap.size+1) W0 wr)
  (fun _ i _=>s.size - (intOf i).toNat)
 case atStart=>exact ⟨0,0,(0,0,0),rfl,rfl,by omega,Nat.zero_le _,Y1 (fun j=>by unfold Sem.get; split <;> simp),Y1 rfl,hown0,hbl0⟩
 case round=>
  clear hown0 hbl0;obtain ⟨k,i,t,rfl,rfl,hk,hi,HT,HSC,hown,hb⟩:=hrel;have hbw:Below w.heap.size w wr:=hb0.trans (hb.mono (by omega));have hr1:w.heap.size < w.heap.size+1:=by omega
  obtain ⟨_,r0,r1,r2,r3⟩:=HR0.out;obtain ⟨f0,f1,f2,f3⟩:=hF0.out;have hbz:Below W0.heap.size W0 wr:=by rw[HZ0.out]; exact hb
  have hgz:w.heap.size < W0.heap.size:=by rw[HZ0.out]; omega
  rw[<-(Z04 (o:=0) hbz hgz).1] at r0;rw[<-(Z04 (o:=1) hbz hgz).1] at r1;rw[<-(Z04 (o:=2) hbz hgz).1] at r2;rw[<-(Z04 (o:=3) hbz hgz).1] at r3;rw[<-(Z04 (o:=0) hbz hgz).2] at f0;rw[<-(Z04 (o:=1) hbz hgz).2] at f1;rw[<-(Z04 (o:=2) hbz hgz).2] at f2;rw[<-(Z04 (o:=3) hbz hgz).2] at f3;have hwz:w.heap.size+1<=wr.heap.size:=by have:=hb.size; rw[HZ0.out] at this; exact this
  clear hbz hgz;by_cases hgo: ∃h:i < s.size,(s[i]'h).toNat≠45
  {obtain ⟨hlt,hc45⟩:=hgo;have hst:=Z7b hlt k t;have h45:s[i]'hlt≠45:=fun h=>hc45 (by rw[h]; rfl);rw[if_neg h45] at hst;have hd45: (((s[i]'hlt).toNat:Int) !=45)=true:=by rw[bne_iff_ne]; omega
   by_cases hc46: (s[i]'hlt).toNat=46
   {have h46:s[i]'hlt=46:=UInt8.toNat_inj.1 hc46;have hd46: (((s[i]'hlt).toNat:Int)==46)=true:=by rw[beq_iff_eq]; omega
    have hd46n: (((s[i]'hlt).toNat:Int) !=46)=false:=by rw[bne_eq_false_iff_eq]; omega
    rw[if_pos h46] at hst;by_cases hk2:k < 2
    {rw[if_pos hk2] at hst;have HN:Hid (Sem.scan s.data.toList 0 (0,0,0)=Sem.scan (s.data.toList.drop (i+1)) (k+1) t):=Y1 (HSC.out.trans hst);clear hst h45 hc45 hc46 h46 r0 r1 r2 r3 f0 f1 f2 f3
     go_wp2_with fail
     go_roundw
     case rel=>exact ⟨k+1,i+1,t,by go_num,by go_num,by omega,by omega,HT,HN,hown,hb⟩
     case measure=>simp[intOf]; omega}
    {rw[if_neg hk2] at hst;have HE:Hid (Sem.parse s.data.toList=none):=Y1 (Z7c (HSC.out.trans hst));clear hst h45 hc45 hc46 h46;go_wp2;refine bodyPost_ret (v:= .tuple #[.agg #[.int .i64 0,.int .i64 0,.int .i64 0,.string ByteArray.empty],.int .i64 40]) (by simp[results,Tryz.results55,go_sem,r0,r1,r2,r3]; rfl) rfl ?_;exact ⟨by rw[HE.out]; rfl,bel4 hbw⟩}}
   {have h46:s[i]'hlt≠46:=fun h=>hc46 (by rw[h]; rfl);have hd46: (((s[i]'hlt).toNat:Int)==46)=false:=by rw[beq_eq_false_iff_ne]; omega
    have hd46n: (((s[i]'hlt).toNat:Int) !=46)=true:=by rw[bne_iff_ne]; omega
    rw[if_neg h46] at hst;by_cases hdig:48<=(s[i]'hlt).toNat/\(s[i]'hlt).toNat<=57
    {rw[if_pos (by simp[Sem.dig]; omega)] at hst;have HN:=Y1 (HSC.out.trans hst);obtain ⟨hd1,hd2⟩:=hdig;have hcell:=hown.cellAt k (by omega);rw[Zg5 t k hk] at hcell;have hfr:=hown.frozenAt k;obtain ⟨a,ha⟩: ∃a,a=Sem.get t k:=⟨_,rfl⟩;have hal:a<=9999999:=by rw[ha]; exact HT.out k
     rw[<-ha] at hcell;have HX:=Y1 ha;have hkI: (k:Int) < 3:=by omega
     by_cases hal2:a<=999999
     {have HST:=Y1 (hown.stored k (.int .i64 (10 * a+((s[i]'hlt).toNat - 48):Nat)));have HP:Hid ((tl t).set k (.int .i64 (10 * a+((s[i]'hlt).toNat - 48):Nat))=tl (Sem.put t k (Sem.rd (Sem.get t k) (s[i]'hlt)))):=Y1 (by
       rw[Zg6 t k _ hk, <-HX.out,Sem.rd,if_pos hal2])
      clear hst h45 hc45 hc46 h46 ha hown r0 r1 r2 r3 f0 f1 f2 f3
      go_wp2_with fail
      have hw1:IntKind.i64.wrap (10 * (a:Int))=10 * (a:Int):=IntWalk.i64_in _ (by omega);have hw2:IntKind.u8.wrap (((s[i]'hlt).toNat:Int) - 48)=((s[i]'hlt).toNat:Int) - 48:=IntWalk.u8_in _ (by omega);have hw3:IntKind.i64.wrap (((s[i]'hlt).toNat:Int) - 48)=((s[i]'hlt).toNat:Int) - 48:=IntWalk.i64_in _ (by omega);have hw4:IntKind.i64.wrap (10 * (a:Int)+(((s[i]'hlt).toNat:Int) - 48))=10 * (a:Int)+(((s[i]'hlt).toNat:Int) - 48):=IntWalk.i64_in _ (by omega);have hi1: (i:Int) < (s.size:Int):=by omega
      go_still_tail 14,(by kernel_rfl)
      change wpList _ _ _ _ _ wr.drew;clear hw1 hw2 hw3 hw4;go_wp2
      go_roundw
      case rel=>
       refine ⟨k,i+1,_,rfl,by go_num,hk,by omega,Y1 (Zg7 HT.out (Zgw (HT.out k) hd2)),HN, ?_,((hb.setCell (p:=⟨w.heap.size+1,k,none⟩) (Nat.le_refl _) _).drew)⟩;rw[<-HP.out];have:=HST.out.1.drew;rw[show ((10 * a+((s[i]'hlt).toNat - 48):Nat):Int)=10 * (a:Int)+(((s[i]'hlt).toNat:Int) - 48) from by omega] at this ⊢;exact this
      case measure=>simp[intOf]; omega}
     {have HP:Hid (Sem.put t k (Sem.rd (Sem.get t k) (s[i]'hlt))=t):=Y1 (by
       have e:Sem.rd (Sem.get t k) (s[i]'hlt)=Sem.get t k:=by rw[<-HX.out,Sem.rd,if_neg hal2]
       rw[e]
       match k,hk with
       | 0,_=>rfl
       | 1,_=>rfl
       | 2,_=>rfl)
      rw[HP.out] at HN;clear hst h45 hc45 hc46 h46 ha r0 r1 r2 r3 f0 f1 f2 f3
      go_wp2_with fail
      go_roundw
      case rel=>exact ⟨k,i+1,t,rfl,by go_num,hk,by omega,HT,HN,hown,hb⟩
      case measure=>simp[intOf]; omega}}
    {rw[if_neg (by simp[Sem.dig]; omega)] at hst;have HE:Hid (Sem.parse s.data.toList=none):=Y1 (Z7c (HSC.out.trans hst));clear hst h45 hc45 h46;by_cases h48: (s[i]'hlt).toNat < 48
     {clear hdig;go_wp2;refine bodyPost_ret (v:= .tuple #[.agg #[.int .i64 0,.int .i64 0,.int .i64 0,.string ByteArray.empty],.int .i64 40]) (by simp[results,Tryz.results55,go_sem,r0,r1,r2,r3]; rfl) rfl ?_;exact ⟨by rw[HE.out]; rfl,bel4 hbw⟩}
     {have h57:57 < (s[i]'hlt).toNat:=by omega
      clear hdig;go_wp2;refine bodyPost_ret (v:= .tuple #[.agg #[.int .i64 0,.int .i64 0,.int .i64 0,.string ByteArray.empty],.int .i64 40]) (by simp[results,Tryz.results55,go_sem,r0,r1,r2,r3]; rfl) rfl ?_;exact ⟨by rw[HE.out]; rfl,bel4 hbw⟩}}}}
  {have hstop:Sem.scan (s.data.toList.drop i) k t=some (t,s.data.toList.drop i):=by
    by_cases hlt:i < s.size
    {have h45:s[i]'hlt=45:=UInt8.toNat_inj.1 (Classical.not_not.1 (fun h=>hgo ⟨hlt,h⟩));rw[Z7b hlt,if_pos h45]}
    {rw[List.drop_eq_nil_of_le (by rw[<-hz.out]; omega)]; rfl}
   have hps:=Zdb (HSC.out.trans hstop);obtain ⟨ta,tb,tc⟩:=t;have hta:ta<=9999999:=HT.out 0;have htb:tb<=9999999:=HT.out 1;have htc:tc<=9999999:=HT.out 2;have hgl:w.heap.size+1 < wr.heap.size:=(hown.lt (w.heap.size+1) rfl).2;have hgl2:w.heap.size < wr.heap.size:=by omega
   have c0:wr.cell? ⟨w.heap.size+1,0,none⟩=some (.int .i64 ta):=by have:=hown.cellAt 0 (by omega); exact this
   have c1:wr.cell? ⟨w.heap.size+1,1,none⟩=some (.int .i64 tb):=by have:=hown.cellAt 1 (by omega); exact this
   have c2:wr.cell? ⟨w.heap.size+1,2,none⟩=some (.int .i64 tc):=by have:=hown.cellAt 2 (by omega); exact this
   by_cases hlt:i < s.size
   {have h45: (s[i]'hlt).toNat=45:=Classical.not_not.1 (fun h=>hgo ⟨hlt,h⟩);have hd45: (((s[i]'hlt).toNat:Int) !=45)=false:=by rw[bne_eq_false_iff_eq]; omega
    obtain ⟨pre,hpre⟩: ∃pre,pre=(s.data.toList.drop i).tail:=⟨_,rfl⟩;have hpre2:s.data.toList.drop (i+1)=pre:=by rw[hpre,List.tail_drop]
    have hpl:pre.length<=60:=by rw[<-hpre2,List.length_drop, <-hz.out]; omega
    have hsl: ∀W:World,(Instr.slice 9 (.string s) (some (.int .i64 ((i:Int)+1))) none none).run Tryz.prog W= .ok (.string ⟨pre.toArray⟩) W:=fun W=>by
     have:=Z0Z s (i+1) (by omega) W;rw[hpre2] at this;exact this
    rw[<-hpre] at hps;have HPS:=Y1 hps;clear hps hpre hpre2 hstop hgo h45 hown HT HSC
    go_wp2_with fail
    go_region
    go_wp2_with fail
    generalize hX: (wr.alloc (Obj.cells #[Value.int IntKind.i64 (ta:Int),Value.int IntKind.i64 (tb:Int),Value.int IntKind.i64 (tc:Int),Value.string ⟨pre.toArray⟩] 105)).drew=X;have hbo:=(Z01 wr (Obj.cells #[Value.int IntKind.i64 (ta:Int),Value.int IntKind.i64 (tb:Int),Value.int IntKind.i64 (tc:Int),Value.string ⟨pre.toArray⟩] 105)).drew;have hV:VerAt X wr.heap.size ⟨ta,tb,tc,pre⟩:=by rw[<-hX]; exact Z2m wr ⟨ta,tb,tc,pre⟩
    rw[hX] at hbo;have hRX:VerAt X w.heap.size ⟨0,0,0,[]⟩:=VerAt.next ⟨hgl2,r0,r1,r2,r3⟩ hbo;have hbX:=Z00 hbw hbo;have F0:=(Z04 (o:=0) hbo hgl2).2.trans f0;have F1:=(Z04 (o:=1) hbo hgl2).2.trans f1;have F2:=(Z04 (o:=2) hbo hgl2).2.trans f2;have F3:=(Z04 (o:=3) hbo hgl2).2.trans f3;have hgX:w.heap.size < X.heap.size:=hRX.1;clear hX hbo r0 r1 r2 r3 f0 f1 f2 f3 c0 c1 c2 hb hwz;cases hm:Sem.may ⟨ta,tb,tc,pre⟩
    {have HE:Hid (Sem.parse s.data.toList=none):=Y1 (by rw[HPS.out,hm,if_neg (by simp)]);have HSH:Hid (showR ⟨ta,tb,tc,pre⟩= .tuple #[.string ByteArray.empty,.int .i64 40]):=Y1 (by rw[showR,hm,if_neg (by simp)]);clear hm;refine (Z1I ⟨ta,tb,tc,pre⟩ (by simp only; omega) _).mono ?_;rintro e w2 ⟨he,hb2⟩;rw[HSH.out] at he;subst he;obtain ⟨_,r0,r1,r2,r3⟩:=hRX.next hb2;have f0:=(Z04 (o:=0) hb2 hgX).2.trans F0;have f1:=(Z04 (o:=1) hb2 hgX).2.trans F1;have f2:=(Z04 (o:=2) hb2 hgX).2.trans F2;have f3:=(Z04 (o:=3) hb2 hgX).2.trans F3;have hbw2:=Z00 hbX hb2;clear F0 F1 F2 F3 hV hRX hb2;go_wp2;refine bodyPost_ret (v:= .tuple #[.agg #[.int .i64 0,.int .i64 0,.int .i64 0,.string ByteArray.empty],.int .i64 40]) (by simp[results,Tryz.results55,go_sem,r0,r1,r2,r3]; rfl) rfl ?_;exact ⟨by rw[HE.out]; rfl,bel4 hbw2⟩}
    {have HSH:Hid (showR ⟨ta,tb,tc,pre⟩= .tuple #[.string ⟨(Sem.text ⟨ta,tb,tc,pre⟩).toArray⟩,.int .i64 0]):=Y1 (by rw[showR,hm,if_pos rfl]);obtain ⟨x,hx⟩: ∃x,x=Sem.text ⟨ta,tb,tc,pre⟩:=⟨_,rfl⟩;rw[hm, <-hx] at HPS;rw[<-hx] at HSH;clear hm hx;cases hts:x==s.toList
     {have HE:Hid (Sem.parse s.data.toList=none):=Y1 (by
       rw[HPS.out,if_neg]; rintro ⟨_,h⟩; rw[Z16,beq_eq_false_iff_ne] at hts; exact hts h)
      refine (Z1I ⟨ta,tb,tc,pre⟩ (by simp only; omega) _).mono ?_;rintro e w2 ⟨he,hb2⟩;rw[HSH.out] at he;subst he;obtain ⟨_,r0,r1,r2,r3⟩:=hRX.next hb2;have f0:=(Z04 (o:=0) hb2 hgX).2.trans F0;have f1:=(Z04 (o:=1) hb2 hgX).2.trans F1;have f2:=(Z04 (o:=2) hb2 hgX).2.trans F2;have f3:=(Z04 (o:=3) hb2 hgX).2.trans F3;have hbw2:=Z00 hbX hb2;clear F0 F1 F2 F3 hV hRX hb2;go_wp2;refine bodyPost_ret (v:= .tuple #[.agg #[.int .i64 0,.int .i64 0,.int .i64 0,.string ByteArray.empty],.int .i64 40]) (by simp[results,Tryz.results55,go_sem,r0,r1,r2,r3]; rfl) rfl ?_;exact ⟨by rw[HE.out]; rfl,bel4 hbw2⟩}
     {have HE:Hid (Sem.parse s.data.toList=some ⟨ta,tb,tc,pre⟩):=Y1 (by
       have hxe:x=s.data.toList:=by
        rw[Z16,beq_iff_eq] at hts;exact hts
       rw[HPS.out,if_pos ⟨rfl,hxe⟩])
      refine (Z1I ⟨ta,tb,tc,pre⟩ (by simp only; omega) _).mono ?_;rintro e w2 ⟨he,hb2⟩;rw[HSH.out] at he;subst he;obtain ⟨_,r0,r1,r2,r3⟩:=hRX.next hb2;obtain ⟨_,v0,v1,v2,v3⟩:=hV.next hb2;have f0:=(Z04 (o:=0) hb2 hgX).2.trans F0;have f1:=(Z04 (o:=1) hb2 hgX).2.trans F1;have f2:=(Z04 (o:=2) hb2 hgX).2.trans F2;have f3:=(Z04 (o:=3) hb2 hgX).2.trans F3;have hbw2:=Z00 hbX hb2;clear F0 F1 F2 F3 hV hRX hb2;go_wp2;refine bodyPost_ret (v:= .tuple #[.agg #[.int .i64 ta,.int .i64 tb,.int .i64 tc,.string ⟨pre.toArray⟩],.int .i64 0]) (by simp[results,Tryz.results55,go_sem,r0,r1,r2,r3]) rfl ?_;exact ⟨by rw[HE.out]; rfl,bel4 hbw2⟩}}}
   {have hae:s.data.toList.drop i= []:=List.drop_eq_nil_of_le (by rw[<-hz.out]; omega);rw[hae,List.tail_nil] at hps;have HPS:=Y1 hps;clear hps hstop hgo hown HT HSC hae
    go_wp2_with fail
    go_region
    go_wp2_with fail
    generalize hX: (wr.alloc (Obj.cells #[Value.int IntKind.i64 (ta:Int),Value.int IntKind.i64 (tb:Int),Value.int IntKind.i64 (tc:Int),Value.string ⟨#[]⟩] 105)).drew=X;have hbo:=(Z01 wr (Obj.cells #[Value.int IntKind.i64 (ta:Int),Value.int IntKind.i64 (tb:Int),Value.int IntKind.i64 (tc:Int),Value.string ⟨#[]⟩] 105)).drew;have hV:VerAt X wr.heap.size ⟨ta,tb,tc,[]⟩:=by rw[<-hX]; exact Z2m wr ⟨ta,tb,tc,[]⟩
    rw[hX] at hbo;have hRX:VerAt X w.heap.size ⟨0,0,0,[]⟩:=VerAt.next ⟨hgl2,r0,r1,r2,r3⟩ hbo;have hbX:=Z00 hbw hbo;have F0:=(Z04 (o:=0) hbo hgl2).2.trans f0;have F1:=(Z04 (o:=1) hbo hgl2).2.trans f1;have F2:=(Z04 (o:=2) hbo hgl2).2.trans f2;have F3:=(Z04 (o:=3) hbo hgl2).2.trans f3;have hgX:w.heap.size < X.heap.size:=hRX.1;clear hX hbo r0 r1 r2 r3 f0 f1 f2 f3 c0 c1 c2 hb hwz;cases hm:Sem.may ⟨ta,tb,tc,[]⟩
    {have HE:Hid (Sem.parse s.data.toList=none):=Y1 (by rw[HPS.out,hm,if_neg (by simp)]);have HSH:Hid (showR ⟨ta,tb,tc,[]⟩= .tuple #[.string ByteArray.empty,.int .i64 40]):=Y1 (by rw[showR,hm,if_neg (by simp)]);clear hm;refine (Z1I ⟨ta,tb,tc,[]⟩ (by simp only; decide) _).mono ?_;rintro e w2 ⟨he,hb2⟩;rw[HSH.out] at he;subst he;obtain ⟨_,r0,r1,r2,r3⟩:=hRX.next hb2;have f0:=(Z04 (o:=0) hb2 hgX).2.trans F0;have f1:=(Z04 (o:=1) hb2 hgX).2.trans F1;have f2:=(Z04 (o:=2) hb2 hgX).2.trans F2;have f3:=(Z04 (o:=3) hb2 hgX).2.trans F3;have hbw2:=Z00 hbX hb2;clear F0 F1 F2 F3 hV hRX hb2;go_wp2;refine bodyPost_ret (v:= .tuple #[.agg #[.int .i64 0,.int .i64 0,.int .i64 0,.string ByteArray.empty],.int .i64 40]) (by simp[results,Tryz.results55,go_sem,r0,r1,r2,r3]; rfl) rfl ?_;exact ⟨by rw[HE.out]; rfl,bel4 hbw2⟩}
    {have HSH:Hid (showR ⟨ta,tb,tc,[]⟩= .tuple #[.string ⟨(Sem.text ⟨ta,tb,tc,[]⟩).toArray⟩,.int .i64 0]):=Y1 (by rw[showR,hm,if_pos rfl]);obtain ⟨x,hx⟩: ∃x,x=Sem.text ⟨ta,tb,tc,[]⟩:=⟨_,rfl⟩;rw[hm, <-hx] at HPS;rw[<-hx] at HSH;clear hm hx;cases hts:x==s.toList
     {have HE:Hid (Sem.parse s.data.toList=none):=Y1 (by
       rw[HPS.out,if_neg]; rintro ⟨_,h⟩; rw[Z16,beq_eq_false_iff_ne] at hts; exact hts h)
      refine (Z1I ⟨ta,tb,tc,[]⟩ (by simp only; decide) _).mono ?_;rintro e w2 ⟨he,hb2⟩;rw[HSH.out] at he;subst he;obtain ⟨_,r0,r1,r2,r3⟩:=hRX.next hb2;have f0:=(Z04 (o:=0) hb2 hgX).2.trans F0;have f1:=(Z04 (o:=1) hb2 hgX).2.trans F1;have f2:=(Z04 (o:=2) hb2 hgX).2.trans F2;have f3:=(Z04 (o:=3) hb2 hgX).2.trans F3;have hbw2:=Z00 hbX hb2;clear F0 F1 F2 F3 hV hRX hb2;go_wp2;refine bodyPost_ret (v:= .tuple #[.agg #[.int .i64 0,.int .i64 0,.int .i64 0,.string ByteArray.empty],.int .i64 40]) (by simp[results,Tryz.results55,go_sem,r0,r1,r2,r3]; rfl) rfl ?_;exact ⟨by rw[HE.out]; rfl,bel4 hbw2⟩}
     {have HE:Hid (Sem.parse s.data.toList=some ⟨ta,tb,tc,[]⟩):=Y1 (by
       have hxe:x=s.data.toList:=by
        rw[Z16,beq_iff_eq] at hts;exact hts
       rw[HPS.out,if_pos ⟨rfl,hxe⟩])
      refine (Z1I ⟨ta,tb,tc,[]⟩ (by simp only; decide) _).mono ?_;rintro e w2 ⟨he,hb2⟩;rw[HSH.out] at he;subst he;obtain ⟨_,r0,r1,r2,r3⟩:=hRX.next hb2;obtain ⟨_,v0,v1,v2,v3⟩:=hV.next hb2;have f0:=(Z04 (o:=0) hb2 hgX).2.trans F0;have f1:=(Z04 (o:=1) hb2 hgX).2.trans F1;have f2:=(Z04 (o:=2) hb2 hgX).2.trans F2;have f3:=(Z04 (o:=3) hb2 hgX).2.trans F3;have hbw2:=Z00 hbX hb2;clear F0 F1 F2 F3 hV hRX hb2;go_wp2;refine bodyPost_ret (v:= .tuple #[.agg #[.int .i64 ta,.int .i64 tb,.int .i64 tc,.string ⟨#[]⟩],.int .i64 0]) (by simp[results,Tryz.results55,go_sem,r0,r1,r2,r3]) rfl ?_;exact ⟨by rw[HE.out]; rfl,bel4 hbw2⟩}}}}
theorem Z5u (s:ByteArray) (hs:s.size<=9223372036854775807) (w:World):
 Y9 55 #[.string s] w (parseR (Sem.parse s.data.toList)):=by
 by_cases h:60 < s.size
 {exact Z9Q s h hs w}
 {exact Zdc s (by omega) w}
def Arr3 (W:World) (g:Nat) (x0 x1 x2:Int):Prop:=g < W.heap.size/\W.cell? ⟨g,0,none⟩=some (.int .i64 x0)/\W.cell? ⟨g,1,none⟩=some (.int .i64 x1)/\W.cell? ⟨g,2,none⟩=some (.int .i64 x2)/\
 W.frozen? ⟨g,0,none⟩=false/\W.frozen? ⟨g,1,none⟩=false/\W.frozen? ⟨g,2,none⟩=false
theorem Arr3.keep {W W':World} {g B:Nat} {x0 x1 x2:Int} (h:Arr3 W g x0 x1 x2) (hg:g < B) (hb:Below B W W'):Arr3 W' g x0 x1 x2:=by
 obtain ⟨h0,h1,h2,h3,f0,f1,f2⟩:=h;exact ⟨Nat.lt_of_lt_of_le h0 hb.size,(hb.cell (p:=⟨g,0,none⟩) hg).trans h1,(hb.cell (p:=⟨g,1,none⟩) hg).trans h2,(hb.cell (p:=⟨g,2,none⟩) hg).trans h3,
  (hb.frozen (p:=⟨g,0,none⟩) hg).trans f0,(hb.frozen (p:=⟨g,1,none⟩) hg).trans f1,(hb.frozen (p:=⟨g,2,none⟩) hg).trans f2⟩
section
variable {W : World} {g : Nat} {x0 x1 x2 : Int} (h : Arr3 W g x0 x1 x2) (x : Int)
include W g x0 x1 x2 h x
theorem Arr3.set0:Arr3 (W.setCell ⟨g,0,none⟩ (.int .i64 x)) g x x1 x2:=by
 obtain ⟨h0,h1,h2,h3,f0,f1,f2⟩:=h;exact ⟨by simpa using h0,by simp[go_sem,h1],by simp[go_sem,h2],by simp[go_sem,h3],by simp[go_sem,f0],by simp[go_sem,f1],by simp[go_sem,f2]⟩
theorem Arr3.set1:Arr3 (W.setCell ⟨g,1,none⟩ (.int .i64 x)) g x0 x x2:=by
 obtain ⟨h0,h1,h2,h3,f0,f1,f2⟩:=h;exact ⟨by simpa using h0,by simp[go_sem,h1],by simp[go_sem,h2],by simp[go_sem,h3],by simp[go_sem,f0],by simp[go_sem,f1],by simp[go_sem,f2]⟩
theorem Arr3.set2:Arr3 (W.setCell ⟨g,2,none⟩ (.int .i64 x)) g x0 x1 x:=by
 obtain ⟨h0,h1,h2,h3,f0,f1,f2⟩:=h;exact ⟨by simpa using h0,by simp[go_sem,h1],by simp[go_sem,h2],by simp[go_sem,h3],by simp[go_sem,f0],by simp[go_sem,f1],by simp[go_sem,f2]⟩
end
theorem Z8D {ps:List (List UInt8)} (h:ps.length=3): ∃p0 p1 p2,ps= [p0,p1,p2]:=by
 match ps,h with
 | [a,b,c],_=>exact ⟨a,b,c,rfl⟩
def Read (p0 p1 p2:List UInt8) (i:Value) (x0 x1 x2:Int):Prop:=i= .int .i64 0\/(i= .int .i64 1/\Lib.atoiAll p0= .ok x0)\/(i= .int .i64 2/\Lib.atoiAll p0= .ok x0/\Lib.atoiAll p1= .ok x1)\/(i= .int .i64 3/\Lib.atoiAll p0= .ok x0/\Lib.atoiAll p1= .ok x1/\Lib.atoiAll p2= .ok x2)
theorem Z4c (p:List UInt8): (∃v,Lib.atoiAll p= .ok v)\/(∀v,Lib.atoiAll p≠ .ok v):=by
 rcases h:Lib.atoiAll p with v | _ | _
 {exact Or.inl ⟨v,rfl⟩}
 {exact Or.inr (fun v h=>by cases h)}
 {exact Or.inr (fun v h=>by cases h)}
theorem Z9R (l:List UInt8) (hl:l.length<=140737488351232) (w:World) (hg:Globs w):
 Y9 178 #[.string ⟨l.toArray⟩] w (parseR (Sem.parse l)):=by
 obtain ⟨hc1,hc2,_⟩:=Sem.Z6y 45 l;have HC:=Y1 (@Sem.Z9J l);have HB:=Y1 (fun (p0 p1 p2:List UInt8)=>Sem.ZcO (l:=l) (p0:=p0) (p1:=p1) (p2:=p2));have HM:=Y1 (fun (p0 p1 p2:List UInt8) (x0 x1 x2:Int)=>Sem.Zbh (l:=l) (p0:=p0) (p1:=p1) (p2:=p2) (x0:=x0) (x1:=x1) (x2:=x2));have hcut: ∀w,Y9 117 #[.string ⟨l.toArray⟩,.string ⟨#[45]⟩] w (.tuple #[.string ⟨(Sem.cut 45 l).1.toArray⟩,.string ⟨(Sem.cut 45 l).2.1.toArray⟩,.bool (Sem.cut 45 l).2.2]):=
  fun w=>Z8q ⟨l.toArray⟩ 45 (by rw[Z07]; omega) w
 rcases hcd:Sem.cut 45 l with ⟨core,pre,m⟩;rw[hcd] at hc1 hc2 hcut HC HB HM;simp only at hc1 hc2 hcut HB HM;clear hcd;go_enter Tryz.func178,Tryz.ntmps178
 go_wp2_with fail
 refine (hcut _).mono ?_;rintro e w1 ⟨rfl,hb1⟩
 go_wp2_with fail
 refine (Z9I core (by omega) _).mono ?_;rintro e w2 ⟨g,N,rfl,hS,hb2⟩;have hbx:=(ZaC w ⟨0,0,0,[]⟩).keep (B:=w.heap.size+1) (by omega) ((hb1.mono (by simp)).trans (hb2.mono (by have:=hb1.size; simp at this; omega)));have hbw:Below w.heap.size w w2:=Z00 (Z00 (Z01 w (.cells #[.int .i64 0,.int .i64 0,.int .i64 0,.string ⟨#[]⟩] 105)) hb1) hb2;have hg2:=hg.next hbw;have hsh: ∀p∈Sem.split (min 3 core.length) core,p.length<=140737488351232:=fun p hp=>by have:=Sem.Z5r _ _ p hp; omega
 obtain ⟨ps,hps⟩: ∃ps,ps=Sem.split (min 3 core.length) core:=⟨_,rfl⟩;rw[<-hps] at hS hsh HC HB HM ⊢;clear hps hcut hb1 hb2;have HBX:=Y1 hbx;by_cases h3:ps.length=3
 {obtain ⟨p0,p1,p2,rfl⟩:=Z8D h3;have l0:=hsh p0 (by simp);have l1:=hsh p1 (by simp);have l2:=hsh p2 (by simp);have HST:Hid (w2.cell? ⟨g,0,none⟩=some (.string ⟨p0.toArray⟩)/\w2.cell? ⟨g,1,none⟩=some (.string ⟨p1.toArray⟩)/\w2.cell? ⟨g,2,none⟩=some (.string ⟨p2.toArray⟩)/\g < w2.heap.size):=by
   rcases hS with h | ⟨b,off,hA,hlt,hc⟩
   {simp[strs] at h}
   {simp only[Option.some.injEq,Addr.mk.injEq,and_true] at hA;obtain ⟨rfl,rfl⟩:=hA;have q0:=hc 0 (by simp[strs]);have q1:=hc 1 (by simp[strs]);have q2:=hc 2 (by simp[strs]);exact Y1 ⟨by simpa[strs] using q0,by simpa[strs] using q1,by simpa[strs] using q2,hlt⟩}
  clear hS hbx h3 hsh HC
  go_wp2_with fail
  go_loopw [30] (fun i wr=> ∃x0 x1 x2:Int,Read p0 p1 p2 i x0 x1 x2/\Arr3 wr w2.heap.size x0 x1 x2/\Below w2.heap.size w2 wr) (fun i _=>3 - (intOf i).toNat)
  case atStart=>exact ⟨0,0,0,Or.inl rfl,⟨by simp,by simp[go_sem],by simp[go_sem],by simp[go_sem],by simp[go_sem],by simp[go_sem],by simp[go_sem]⟩,Z01 _ _⟩
  case round=>
   obtain ⟨x0,x1,x2,hread,hA,hb⟩:=hrel;obtain ⟨z0,z1,z2,zg⟩:=HST.out;rw[<-(Z04 (o:=0) hb zg).1] at z0;rw[<-(Z04 (o:=1) hb zg).1] at z1;rw[<-(Z04 (o:=2) hb zg).1] at z2;rcases hread with rfl | ⟨rfl,q0⟩ | ⟨rfl,q0,q1⟩ | ⟨rfl,q0,q1,q2⟩
   {rcases Z4c p0 with ⟨v,hv⟩ | hv
    {go_wp2_with fail
     refine (Z53 p0 (by omega) v hv _).mono ?_;rintro e w3 ⟨rfl,hb3⟩;have hb4:=Z00 hb hb3;have hA3:=hA.keep (B:=wr.heap.size) hA.1 hb3;have HA3:=Y1 hA3;obtain ⟨_,t0,t1,t2,s0,s1,s2⟩:=hA3;clear z0 z1 z2;go_wp2
     go_roundw
     case rel=>exact ⟨v,x1,x2,Or.inr (Or.inl ⟨rfl,hv⟩),HA3.out.set0 v,hb4.setCell (p:=⟨w2.heap.size,0,none⟩) (Nat.le_refl _) _⟩
     case measure=>simp[intOf]}
    {have HN:=Y1 (HB.out p0 p1 p2 rfl (Or.inl hv));have hgr:=hg2.next hb
     go_wp2_with fail
     refine (Z5M p0 (by omega) hv _ hgr).mono ?_;rintro e w3 ⟨z,N3,rfl,hb3⟩;have hb4:=Z00 hb hb3;have hbw4:=Z00 hbw hb4;obtain ⟨⟨_,r0,r1,r2,r3⟩,f0,f1,f2,f3⟩:=HBX.out.keep (B:=w2.heap.size) HBX.out.1.1 hb4;clear z0 z1 z2;go_wp2;refine bodyPost_ret (v:= .tuple #[.agg #[.int .i64 0,.int .i64 0,.int .i64 0,.string ByteArray.empty],.int .i64 40]) (by simp[results,Tryz.results178,go_sem,r0,r1,r2,r3]; rfl) rfl ?_;exact ⟨by rw[HN.out]; rfl,bel4 hbw4⟩}}
   {rcases Z4c p1 with ⟨v,hv⟩ | hv
    {go_wp2_with fail
     refine (Z53 p1 (by omega) v hv _).mono ?_;rintro e w3 ⟨rfl,hb3⟩;have hb4:=Z00 hb hb3;have hA3:=hA.keep (B:=wr.heap.size) hA.1 hb3;have HA3:=Y1 hA3;obtain ⟨_,t0,t1,t2,s0,s1,s2⟩:=hA3;clear z0 z1 z2;go_wp2
     go_roundw
     case rel=>exact ⟨x0,v,x2,Or.inr (Or.inr (Or.inl ⟨rfl,q0,hv⟩)),HA3.out.set1 v,hb4.setCell (p:=⟨w2.heap.size,1,none⟩) (Nat.le_refl _) _⟩
     case measure=>simp[intOf]}
    {have HN:=Y1 (HB.out p0 p1 p2 rfl (Or.inr (Or.inl hv)));have hgr:=hg2.next hb
     go_wp2_with fail
     refine (Z5M p1 (by omega) hv _ hgr).mono ?_;rintro e w3 ⟨z,N3,rfl,hb3⟩;have hb4:=Z00 hb hb3;have hbw4:=Z00 hbw hb4;obtain ⟨⟨_,r0,r1,r2,r3⟩,f0,f1,f2,f3⟩:=HBX.out.keep (B:=w2.heap.size) HBX.out.1.1 hb4;clear z0 z1 z2;go_wp2;refine bodyPost_ret (v:= .tuple #[.agg #[.int .i64 0,.int .i64 0,.int .i64 0,.string ByteArray.empty],.int .i64 40]) (by simp[results,Tryz.results178,go_sem,r0,r1,r2,r3]; rfl) rfl ?_;exact ⟨by rw[HN.out]; rfl,bel4 hbw4⟩}}
   {rcases Z4c p2 with ⟨v,hv⟩ | hv
    {go_wp2_with fail
     refine (Z53 p2 (by omega) v hv _).mono ?_;rintro e w3 ⟨rfl,hb3⟩;have hb4:=Z00 hb hb3;have hA3:=hA.keep (B:=wr.heap.size) hA.1 hb3;have HA3:=Y1 hA3;obtain ⟨_,t0,t1,t2,s0,s1,s2⟩:=hA3;clear z0 z1 z2;go_wp2
     go_roundw
     case rel=>exact ⟨x0,x1,v,Or.inr (Or.inr (Or.inr ⟨rfl,q0,q1,hv⟩)),HA3.out.set2 v,hb4.setCell (p:=⟨w2.heap.size,2,none⟩) (Nat.le_refl _) _⟩
     case measure=>simp[intOf]}
    {have HN:=Y1 (HB.out p0 p1 p2 rfl (Or.inr (Or.inr hv)));have hgr:=hg2.next hb
     go_wp2_with fail
     refine (Z5M p2 (by omega) hv _ hgr).mono ?_;rintro e w3 ⟨z,N3,rfl,hb3⟩;have hb4:=Z00 hb hb3;have hbw4:=Z00 hbw hb4;obtain ⟨⟨_,r0,r1,r2,r3⟩,f0,f1,f2,f3⟩:=HBX.out.keep (B:=w2.heap.size) HBX.out.1.1 hb4;clear z0 z1 z2;go_wp2;refine bodyPost_ret (v:= .tuple #[.agg #[.int .i64 0,.int .i64 0,.int .i64 0,.string ByteArray.empty],.int .i64 40]) (by simp[results,Tryz.results178,go_sem,r0,r1,r2,r3]; rfl) rfl ?_;exact ⟨by rw[HN.out]; rfl,bel4 hbw4⟩}}
   {have HE:=Y1 (HM.out p0 p1 p2 x0 x1 x2 rfl q0 q1 q2);clear z0 z1 z2 q0 q1 q2;have HA:=Y1 hA;obtain ⟨_,t0,t1,t2,_,_,_⟩:=hA
    go_wp2_with fail
    have hlp:pre.length<=140737488351232:=by omega
    have HVB:=Y1 (ZaC wr ⟨x0,x1,x2,pre⟩);have hal:=Z01 wr (.cells #[.int .i64 x0,.int .i64 x1,.int .i64 x2,.string ⟨pre.toArray⟩] 105);refine (Zda ⟨x0,x1,x2,pre⟩ hlp _ ((hg2.next hb).next hal)).mono ?_;rintro e w3 ⟨he,hb3⟩;have hb5:=Z00 hb (Z00 hal hb3);have hbw5:=Z00 hbw hb5;have HV3:=Y1 (HVB.out.keep (B:=wr.heap.size+1) (by omega) (hb3.mono (by simp)));have HR3:=Y1 (HBX.out.keep (B:=w2.heap.size) HBX.out.1.1 hb5);clear t0 t1 t2;cases hmay:Sem.may ⟨x0,x1,x2,pre⟩
    {have HN:Hid (Sem.parse l=none):=Y1 (by rw[HE.out,if_neg (by rw[hmay]; simp)]);rw[showR,hmay,if_neg (by simp)] at he;subst he;obtain ⟨⟨_,r0,r1,r2,r3⟩,f0,f1,f2,f3⟩:=HR3.out;clear hal hb3;go_wp2;refine bodyPost_ret (v:= .tuple #[.agg #[.int .i64 0,.int .i64 0,.int .i64 0,.string ByteArray.empty],.int .i64 40]) (by simp[results,Tryz.results178,go_sem,r0,r1,r2,r3]; rfl) rfl ?_;exact ⟨by rw[HN.out]; rfl,bel4 hbw5⟩}
    {rw[showR,hmay,if_pos rfl] at he;by_cases ht:Sem.text ⟨x0,x1,x2,pre⟩=l
     {have HN:Hid (Sem.parse l=some ⟨x0,x1,x2,pre⟩):=Y1 (by rw[HE.out,if_pos ⟨hmay,ht⟩]);rw[ht] at he;subst he;have hll: (l==l)=true:=by simp
      clear hal hb3 ht
      go_wp2_with fail
      refine (Z48 pre (by omega) _).mono ?_;rintro e w4 ⟨rfl,hb4⟩;have hbw6:=Z00 hbw5 hb4;obtain ⟨⟨_,v0,v1,v2,v3⟩,_,_,_,y3⟩:=HV3.out.keep (B:=w3.heap.size) HV3.out.1.1 hb4;obtain ⟨⟨_,r0,r1,r2,r3⟩,f0,f1,f2,f3⟩:=HR3.out.keep (B:=w3.heap.size) HR3.out.1.1 hb4;have hne:wr.heap.size≠w.heap.size:=by have:=hb.size; have:=HBX.out.1.1; omega
      simp only at v0 v1 v2 v3;clear hb4 hll;go_wp2;have hbw7:Below w.heap.size w (w4.setCell ⟨wr.heap.size,3,none⟩ (.string ⟨pre.toArray⟩)):=hbw6.setCell (p:=⟨wr.heap.size,3,none⟩) (by show w.heap.size<=wr.heap.size; have:=hbw.size; have:=hb.size; omega) _;refine bodyPost_ret (v:= .tuple #[.agg #[.int .i64 x0,.int .i64 x1,.int .i64 x2,.string ⟨pre.toArray⟩],.int .i64 0]) (by simp[results,Tryz.results178,go_sem,r0,r1,r2,r3]) rfl ?_;exact ⟨by rw[HN.out]; rfl,bel4 hbw7⟩}
     {have HN:Hid (Sem.parse l=none):=Y1 (by rw[HE.out,if_neg (fun h=>ht h.2)]);subst he;have hll: (Sem.text ⟨x0,x1,x2,pre⟩==l)=false:=by simpa using ht
      obtain ⟨⟨_,r0,r1,r2,r3⟩,f0,f1,f2,f3⟩:=HR3.out;clear hal hb3 ht;go_wp2;refine bodyPost_ret (v:= .tuple #[.agg #[.int .i64 0,.int .i64 0,.int .i64 0,.string ByteArray.empty],.int .i64 40]) (by simp[results,Tryz.results178,go_sem,r0,r1,r2,r3]; rfl) rfl ?_;exact ⟨by rw[HN.out]; rfl,bel4 hbw5⟩}}}}
 {have HN:=Y1 (HC.out h3);obtain ⟨⟨_,r0,r1,r2,r3⟩,f0,f1,f2,f3⟩:=hbx;have hd: ((ps.length:Int) !=3)=true:=by rw[bne_iff_ne]; omega
  go_wp2;refine bodyPost_ret (v:= .tuple #[.agg #[.int .i64 0,.int .i64 0,.int .i64 0,.string ByteArray.empty],.int .i64 40]) (by simp[results,Tryz.results178,go_sem,r0,r1,r2,r3]; rfl) rfl ?_;exact ⟨by rw[HN.out]; rfl,bel4 hbw⟩}
theorem ZbA (s:ByteArray) (hs:s.size<=140737488351232) (w:World) (hg:Globs w):
 Y9 178 #[.string s] w (parseR (Sem.parse s.data.toList)):=by
 have h:=Z9R s.data.toList (by rw[<-Lib.size_eq]; exact hs) w hg;rw[<-ZeX s] at h;exact h
def kindV (l:List UInt8):Value:=match Lex.kindR l with
 | some k=> .tuple #[.int .i64 k,.bool true]
 | none=> .tuple #[.int .i64 0,.bool false]
section
variable (l : List UInt8) (hl : l.length <= 140737488351232)
include l hl
theorem Z4N (u:Sem.Ver) (e0:Int) (hp:parseR (Sem.parse l)= .tuple #[verV u,.int .i64 e0]) (w:World) (hg:Globs w):
 Y9 160 #[.string ⟨l.toArray⟩] w (.bool (e0==0)):=by
 obtain ⟨a,b,c,p⟩:=u;have HP:Hid (parseR (Sem.parse l)= .tuple #[.agg #[.int .i64 a,.int .i64 b,.int .i64 c,.string ⟨p.toArray⟩],.int .i64 e0]):=Y1 hp;clear hp;go_enter Tryz.func160,Tryz.ntmps160
 go_wp2_with fail
 refine (ZbA ⟨l.toArray⟩ (by rw[Z07]; exact hl) _ hg).mono ?_;rintro e w1 ⟨he,hb1⟩;rw[show (⟨l.toArray⟩:ByteArray).data.toList=l from rfl,HP.out] at he;subst he;go_wp2;go_ret;exact ⟨rfl,Z03 hb1 _⟩
theorem Z4m (w:World) (hg:Globs w):
 Y9 160 #[.string ⟨l.toArray⟩] w (.bool (Sem.parse l).isSome):=by
 rcases hp:Sem.parse l with _ | v
 {exact Z4N l hl ⟨0,0,0,[]⟩ 40 (by rw[hp]; rfl) w hg}
 {exact Z4N l hl v 0 (by rw[hp]; rfl) w hg}
theorem ZbB (w:World) (hg:Globs w):
 Y9 123 #[.string ⟨l.toArray⟩] w (kindV l):=by
 have HK:Hid (Lex.kindR l=if Lex.isWord l then some 5 else if Lex.isName l then some 1 else if Lex.isUpper l then some 2 else if Lex.isSign l then some 6 else if Lex.number l then some 3 else if (Sem.parse l).isSome then some 7 else none):=Y1 rfl;cases h0:Lex.isWord l
 {cases h1:Lex.isName l
  {cases h2:Lex.isUpper l
   {cases h3:Lex.isSign l
    {cases h4:Lex.number l
     {cases h5: (Sem.parse l).isSome
      {have HV:Hid (kindV l= .tuple #[.int .i64 0,.bool false]):=Y1 (by
        have:Lex.kindR l=none:=by rw[HK.out,h0,h1,h2,h3,h4,h5]; rfl
        unfold kindV; rw[this])
       go_enter Tryz.func123,Tryz.ntmps123
       go_wp2_with fail
       refine (Z19 l _).mono ?_;rintro e w2 ⟨rfl,rfl⟩;rw[h0]
       go_wp2_with fail
       refine (Z0s l (by omega) _).mono ?_;rintro e w2 ⟨rfl,rfl⟩;rw[h1]
       go_wp2_with fail
       refine (Z0R l (by omega) _).mono ?_;rintro e w2 ⟨rfl,rfl⟩;rw[h2]
       go_wp2_with fail
       refine (Z1H l _).mono ?_;rintro e w2 ⟨rfl,rfl⟩;rw[h3]
       go_wp2_with fail
       refine (Z38 l (by omega) _).mono ?_;rintro e w2 ⟨rfl,rfl⟩;rw[h4]
       go_wp2_with fail
       refine (Z4m l hl _ hg).mono ?_;rintro e w2 ⟨rfl,hb⟩;rw[h5];go_wp2
       go_ret2
       exact ⟨by rw[HV.out]; rfl,hb⟩}
      {have HV:Hid (kindV l= .tuple #[.int .i64 7,.bool true]):=Y1 (by
        have:Lex.kindR l=some 7:=by rw[HK.out,h0,h1,h2,h3,h4,h5]; rfl
        unfold kindV; rw[this])
       go_enter Tryz.func123,Tryz.ntmps123
       go_wp2_with fail
       refine (Z19 l _).mono ?_;rintro e w2 ⟨rfl,rfl⟩;rw[h0]
       go_wp2_with fail
       refine (Z0s l (by omega) _).mono ?_;rintro e w2 ⟨rfl,rfl⟩;rw[h1]
       go_wp2_with fail
       refine (Z0R l (by omega) _).mono ?_;rintro e w2 ⟨rfl,rfl⟩;rw[h2]
       go_wp2_with fail
       refine (Z1H l _).mono ?_;rintro e w2 ⟨rfl,rfl⟩;rw[h3]
       go_wp2_with fail
       refine (Z38 l (by omega) _).mono ?_;rintro e w2 ⟨rfl,rfl⟩;rw[h4]
       go_wp2_with fail
       refine (Z4m l hl _ hg).mono ?_;rintro e w2 ⟨rfl,hb⟩;rw[h5];go_wp2
       go_ret2
       exact ⟨by rw[HV.out]; rfl,hb⟩}}
     {have HV:Hid (kindV l= .tuple #[.int .i64 3,.bool true]):=Y1 (by
       have:Lex.kindR l=some 3:=by rw[HK.out,h0,h1,h2,h3,h4]; rfl
       unfold kindV; rw[this])
      go_enter Tryz.func123,Tryz.ntmps123
      go_wp2_with fail
      refine (Z19 l _).mono ?_;rintro e w2 ⟨rfl,rfl⟩;rw[h0]
      go_wp2_with fail
      refine (Z0s l (by omega) _).mono ?_;rintro e w2 ⟨rfl,rfl⟩;rw[h1]
      go_wp2_with fail
      refine (Z0R l (by omega) _).mono ?_;rintro e w2 ⟨rfl,rfl⟩;rw[h2]
      go_wp2_with fail
      refine (Z1H l _).mono ?_;rintro e w2 ⟨rfl,rfl⟩;rw[h3]
      go_wp2_with fail
      refine (Z38 l (by omega) _).mono ?_;rintro e w2 ⟨rfl,rfl⟩;rw[h4];go_wp2
      go_ret2
      exact ⟨by rw[HV.out]; rfl,Below.refl _ _⟩}}
    {have HV:Hid (kindV l= .tuple #[.int .i64 6,.bool true]):=Y1 (by
      have:Lex.kindR l=some 6:=by rw[HK.out,h0,h1,h2,h3]; rfl
      unfold kindV; rw[this])
     go_enter Tryz.func123,Tryz.ntmps123
     go_wp2_with fail
     refine (Z19 l _).mono ?_;rintro e w2 ⟨rfl,rfl⟩;rw[h0]
     go_wp2_with fail
     refine (Z0s l (by omega) _).mono ?_;rintro e w2 ⟨rfl,rfl⟩;rw[h1]
     go_wp2_with fail
     refine (Z0R l (by omega) _).mono ?_;rintro e w2 ⟨rfl,rfl⟩;rw[h2]
     go_wp2_with fail
     refine (Z1H l _).mono ?_;rintro e w2 ⟨rfl,rfl⟩;rw[h3];go_wp2
     go_ret2
     exact ⟨by rw[HV.out]; rfl,Below.refl _ _⟩}}
   {have HV:Hid (kindV l= .tuple #[.int .i64 2,.bool true]):=Y1 (by
     have:Lex.kindR l=some 2:=by rw[HK.out,h0,h1,h2]; rfl
     unfold kindV; rw[this])
    go_enter Tryz.func123,Tryz.ntmps123
    go_wp2_with fail
    refine (Z19 l _).mono ?_;rintro e w2 ⟨rfl,rfl⟩;rw[h0]
    go_wp2_with fail
    refine (Z0s l (by omega) _).mono ?_;rintro e w2 ⟨rfl,rfl⟩;rw[h1]
    go_wp2_with fail
    refine (Z0R l (by omega) _).mono ?_;rintro e w2 ⟨rfl,rfl⟩;rw[h2];go_wp2
    go_ret2
    exact ⟨by rw[HV.out]; rfl,Below.refl _ _⟩}}
  {have HV:Hid (kindV l= .tuple #[.int .i64 1,.bool true]):=Y1 (by
    have:Lex.kindR l=some 1:=by rw[HK.out,h0,h1]; rfl
    unfold kindV; rw[this])
   go_enter Tryz.func123,Tryz.ntmps123
   go_wp2_with fail
   refine (Z19 l _).mono ?_;rintro e w2 ⟨rfl,rfl⟩;rw[h0]
   go_wp2_with fail
   refine (Z0s l (by omega) _).mono ?_;rintro e w2 ⟨rfl,rfl⟩;rw[h1];go_wp2
   go_ret2
   exact ⟨by rw[HV.out]; rfl,Below.refl _ _⟩}}
 {have HV:Hid (kindV l= .tuple #[.int .i64 5,.bool true]):=Y1 (by
   have:Lex.kindR l=some 5:=by rw[HK.out,h0]; rfl
   unfold kindV; rw[this])
  go_enter Tryz.func123,Tryz.ntmps123
  go_wp2_with fail
  refine (Z19 l _).mono ?_;rintro e w2 ⟨rfl,rfl⟩;rw[h0];go_wp2
  go_ret2
  exact ⟨by rw[HV.out]; rfl,Below.refl _ _⟩}
end
structure ScanAt (W:World) (g:Nat) (s:List UInt8) (i:Nat):Prop where
 lt:g < W.heap.size
 c0:W.cell? ⟨g,0,none⟩=some (.string ⟨s.toArray⟩)
 c1:W.cell? ⟨g,1,none⟩=some (.int .i64 (i:Int))
 f1:W.frozen? ⟨g,1,none⟩=false
 f2:W.frozen? ⟨g,2,none⟩=false
theorem ScanAt.keep {W W':World} {g B i:Nat} {s:List UInt8} (h:ScanAt W g s i) (hg:g < B) (hb:Below B W W'):ScanAt W' g s i:=
 ⟨Nat.lt_of_lt_of_le h.lt hb.size,(hb.cell (p:=⟨g,0,none⟩) hg).trans h.c0,(hb.cell (p:=⟨g,1,none⟩) hg).trans h.c1,(hb.frozen (p:=⟨g,1,none⟩) hg).trans h.f1,(hb.frozen (p:=⟨g,2,none⟩) hg).trans h.f2⟩
theorem Z0g (w:World) (n:Nat):Below w.heap.size w (w.drewN n):=Z0b Y2 n
section
variable (g : Nat) (s : List UInt8)
include g s
theorem Z6e (i:Nat) (w:World) (h:ScanAt w g s i):
 Calls Tryz.prog 59 #[.pointer (some ⟨g,0,none⟩)] w fun e w'=>e= .returned (.bool ((i:Int)==(s.length:Int)))/\ ∃n,w'=w.drewN n:=by
 have hz: (⟨s.toArray⟩:ByteArray).size=s.length:=Z07 _;obtain ⟨hlt,c0,c1,f1,f2⟩:=h;go_enter Tryz.func59,Tryz.ntmps59
 go_wp2_with fail
 go_quiet (fail)
 go_wp2;go_ret;exact ⟨rfl,_,rfl⟩
theorem Z3u (i:Nat) (hi:i < s.length) (w:World) (h:ScanAt w g s i):
 Calls Tryz.prog 60 #[.pointer (some ⟨g,0,none⟩)] w fun e w'=>e= .returned (.int .u8 (s[i]'hi).toNat)/\ ∃n,w'=w.drewN n:=by
 have hz: (⟨s.toArray⟩:ByteArray).size=s.length:=Z07 _;obtain ⟨c,hc⟩: ∃c,c=s[i]'hi:=⟨_,rfl⟩;have hidx: ∀W,(Instr.index 9 (.string ⟨s.toArray⟩) (.int .i64 (i:Int))).run Tryz.prog W= .ok (.int .u8 c.toNat) W:=fun W=>by
  rw[hc]; exact Z0i ⟨s.toArray⟩ i (by omega) W
 rw[<-hc];clear hc;have hi1: (i:Int) < (s.length:Int):=by omega
 obtain ⟨hlt,c0,c1,f1,f2⟩:=h;go_enter Tryz.func60,Tryz.ntmps60
 go_wp2_with fail
 go_quiet (fail)
 go_wp2;go_ret;exact ⟨rfl,_,rfl⟩
theorem Z6f (i:Nat) (hi:i<=s.length) (w:World) (h:ScanAt w g s i):
 Calls Tryz.prog 118 #[.pointer (some ⟨g,0,none⟩)] w fun e w'=>e= .returned (.string ⟨(s.drop i).toArray⟩)/\ ∃n,w'=w.drewN n:=by
 have hz: (⟨s.toArray⟩:ByteArray).size=s.length:=Z07 _;have hsl: ∀W,(Instr.slice 9 (.string ⟨s.toArray⟩) (some (.int .i64 (i:Int))) none none).run Tryz.prog W= .ok (.string ⟨(s.drop i).toArray⟩) W:=fun W=>Z0Z (W:=W) ⟨s.toArray⟩ i (by omega);have hi1: (i:Int)<=(s.length:Int):=by omega
 obtain ⟨hlt,c0,c1,f1,f2⟩:=h;go_enter Tryz.func118,Tryz.ntmps118
 go_wp2_with fail
 go_quiet (fail)
 go_wp2;go_ret;exact ⟨rfl,_,rfl⟩
theorem Z1J (i n:Nat) (hi:i<=s.length) (hs:s.length<=1000000) (hn:n<=1000000) (w:World) (h:ScanAt w g s i):
 Calls Tryz.prog 84 #[.pointer (some ⟨g,0,none⟩),.int .i64 (n:Int)] w fun e w'=>e= .returned (.string ⟨((s.drop i).take n).toArray⟩)/\ ∃n,w'=w.drewN n:=by
 have hz: (⟨s.toArray⟩:ByteArray).size=s.length:=Z07 _;have hsl: ∀(k:Int),(i:Int)<=k->k<=s.length-> ∀W,(Instr.slice 9 (.string ⟨s.toArray⟩) (some (.int .i64 (i:Int))) (some (.int .i64 k)) none).run Tryz.prog W= .ok (.string ⟨((s.drop i).take (k.toNat - i)).toArray⟩) W:=fun k h1 h2 W=>Z1i ⟨s.toArray⟩ i k h1 (by omega) W;have hw:IntKind.i64.wrap ((i:Int)+(n:Int))=(i:Int)+(n:Int):=IntWalk.i64_in _ (by omega);obtain ⟨hlt,c0,c1,f1,f2⟩:=h;by_cases hl:i+n<=s.length
 {have hm:min ((i:Int)+n) (s.length:Int)=(i:Int)+n:=by omega
  have h1:=hsl ((i:Int)+n) (by omega) (by omega);have e: (((i:Int)+n).toNat - i)=n:=by omega
  rw[e] at h1;have hle: (i:Int)+n<=(s.length:Int):=by omega
  clear hsl e;go_enter Tryz.func84,Tryz.ntmps84
  go_wp2_with fail
  go_quiet (fail)
  go_wp2;go_ret;exact ⟨rfl,_,rfl⟩}
 {have hm:min ((i:Int)+n) (s.length:Int)=(s.length:Int):=by omega
  have h1:=hsl (s.length:Int) (by omega) (by omega);have e: ((s.drop i).take ((s.length:Int).toNat - i))=(s.drop i).take n:=by
   rw[List.take_of_length_le (by rw[List.length_drop]; omega),List.take_of_length_le (by rw[List.length_drop]; omega)]
  rw[e] at h1;have hle: ¬(i:Int)+n<=(s.length:Int):=by omega
  clear hsl e;go_enter Tryz.func84,Tryz.ntmps84
  go_wp2_with fail
  go_quiet (fail)
  go_wp2;go_ret;exact ⟨rfl,_,rfl⟩}
end
theorem Z9S (a:UInt8):0<=(Utf.plead a.toNat).1/\(Utf.plead a.toNat).1<=127/\(Utf.plead a.toNat).2<=4:=by
 have ha:=a.toNat_lt;rcases Utf.Z1L a.toNat with ⟨h1,e⟩ | ⟨h1,h2,e⟩ | ⟨h1,h2,e⟩ | ⟨h1,h2,e⟩ | ⟨h1,e⟩ <;> rw[e] <;> simp only <;> omega
theorem Zg8 {p:Int} {l:List UInt8} (h0:0<=p) (h1:p<=127) (hl:l.length<=2) (h: ∀b∈l,128<=b.toNat/\b.toNat < 192):0<=Utf.val p l/\Utf.val p l<=1000000:=by
 match l,hl,h with
 | [],_,_=>simp only[Utf.val]; omega
 | [b],_,h=>have:=h b (by simp); simp only[Utf.val]; omega
 | [b,c],_,h=>have:=h b (by simp); have:=h c (by simp); simp only[Utf.val]; omega
theorem onbits (x:Int) (b:UInt8) (h0:0<=x) (h1:x<=1000000) (h2:128<=b.toNat) (h3:b.toNat < 192):
 bits .or .i64 (x * 64) ((b.toNat:Int) - 128)=x * 64+b.toNat - 128:=by
 rw[ZcG x _ h0 (by omega) (by omega) (by omega)];omega
def On (r:List UInt8) (k:Nat):Prop:= ∀b∈r.take k,128<=b.toNat/\b.toNat < 192
theorem Zfy {r:List UInt8} {k:Nat} (h:On r k) (hk:k < r.length) (h1:128<=r[k].toNat) (h2:r[k].toNat < 192):On r (k+1):=by
 intro b hb;rw[List.take_succ_eq_append_getElem hk,List.mem_append] at hb;rcases hb with hb | hb
 {exact h b hb}
 {simp at hb; subst hb; exact ⟨h1,h2⟩}
theorem Z6g (s:ByteArray) (h:0 < s.size) (hs:s.size<=9223372036854775807) (w:World):
 Calls Tryz.prog 176 #[.string s] w fun e w'=>e= .returned (duo (Utf.first s.data.toList))/\w=w':=by
 obtain ⟨r,hr,hl,hi⟩:=Z3F s h;obtain ⟨hv0,hv1,hn4⟩:=Z9S s[0];have HR:=Y1 hr;have HL:=Y1 hl;have HI:=Y1 hi;clear hr hl hi;obtain ⟨v,n,hvn⟩: ∃v n,Utf.plead (s[0]).toNat=(v,n):=⟨_,_,rfl⟩;have HV:=Y1 hvn;rw[hvn] at hv0 hv1 hn4;simp only at hv0 hv1 hn4;clear hvn;by_cases hn0:n=0
 {subst hn0;go_enter Tryz.func176,Tryz.ntmps176
  go_wp2_with fail
  refine (Z4E s[0] _).mono ?_;rintro e w' ⟨he,rfl⟩;rw[HV.out,duo] at he;subst he;go_wp2
  go_ret2
  refine ⟨?_,rfl⟩;rw[HR.out,Utf.Z7O (by rw[HV.out])];rfl}
 {have hd0: ((n:Int)==0)=false:=by simp; omega
  by_cases hns:s.size < n
  {have hd1:decide (s.size < n)=true:=by simpa using hns
   go_enter Tryz.func176,Tryz.ntmps176
   go_wp2_with fail
   refine (Z4E s[0] _).mono ?_;rintro e w' ⟨he,rfl⟩;rw[HV.out,duo] at he;subst he;go_wp2
   go_ret2
   refine ⟨?_,rfl⟩;rw[HR.out,Utf.Z92 (by rw[HV.out]; exact hn0) (by rw[HV.out]; have:=HL.out; simp only; omega)];rfl}
  {have hd1:decide (s.size < n)=false:=by simpa using hns
   go_enter Tryz.func176,Tryz.ntmps176
   go_wp2_with fail
   refine (Z4E s[0] _).mono ?_;rintro e w' ⟨he,rfl⟩;rw[HV.out,duo] at he;subst he
   go_wp2_with fail
   go_loop [4,6] (fun p i=> ∃(k:Nat) (x:Int),i= .int .i64 k/\1<=k/\k<=n/\p= .int .i64 x/\Hid (x=Utf.val v (r.take (k - 1)))/\Hid (On r (k - 1)))
    (fun _ i=>4 - (intOf i).toNat)
   case atStart=>exact ⟨1,_,rfl,by omega,by omega,rfl,Y1 rfl,Y1 (fun b hb=>by simp at hb)⟩
   case round=>
    obtain ⟨k,x,rfl,hk1,hk,rfl,HX,HO⟩:=hrel;by_cases hlt:k < n
    {have hks:k < s.size:=by omega
     have hx:=Zg8 (p:=v) (l:=r.take (k - 1)) hv0 hv1 (by rw[List.length_take]; omega) HO.out;rw[<-HX.out] at hx;obtain ⟨hx1,hx2⟩:=hx;have hb8:=(s[k]'hks).toNat_lt;have HK:Hid (∃hr:k - 1 < r.length,r[k - 1]=s[k]'hks):=Y1 (by
      have h1:=HL.out;have h2:=HI.out (k - 1) (by omega) (by omega);refine ⟨by omega,h2.trans ?_⟩;simp only[show k - 1+1=k from by omega])
     by_cases hgo:128<=(s[k]'hks).toNat/\(s[k]'hks).toNat < 192
     {obtain ⟨hg1,hg2⟩:=hgo;have HN:Hid (x * 64+(s[k]'hks).toNat - 128=Utf.val v (r.take k)):=Y1 (Z46 s r HL.out HI.out k hk1 hks HX.out);have HB:=Y1 (onbits x (s[k]'hks) hx1 hx2 hg1 hg2);have HO2:Hid (On r k):=Y1 (by
       obtain ⟨h1,h2⟩:=HK.out;have:=Zfy HO.out h1 (by rw[h2]; exact hg1) (by rw[h2]; exact hg2)
       rwa [show k - 1+1=k from by omega] at this)
      go_wp2_with fail
      go_round
      case rel=>exact ⟨k+1,_,by go_num,by omega,by omega,by rw[HB.out],HN,HO2⟩
      case measure=>simp[intOf]; omega}
     {have hf:Utf.first s.data.toList=(0,0):=by
       obtain ⟨h1,h2⟩:=HK.out;rw[HR.out];exact Utf.ZaL (i:=k - 1) (by rw[HV.out]; exact hn0) (by rw[HV.out]; simp only; omega) h1 (by rw[h2]; omega)
      have HF:=Y1 hf;clear hf;by_cases hg1: (s[k]'hks).toNat < 128
      {clear hgo;go_wp2
       go_ret2
       exact ⟨by rw[HF.out]; rfl,rfl⟩}
      {have hg2:192<=(s[k]'hks).toNat:=by omega
       clear hgo;go_wp2
       go_ret2
       exact ⟨by rw[HF.out]; rfl,rfl⟩}}}
    {have hkn:k=n:=by omega
     subst hkn;have hf:=Utf.Zc9 (a:=s[0]) (r:=r) (by rw[HV.out]; exact hn0) (by rw[HV.out]; have:=HL.out; simp only; omega) (by rw[HV.out]; exact HO.out);rw[HV.out] at hf;simp only at hf;rw[<-HX.out, <-HR.out] at hf;have HF:=Y1 hf;clear hf;cases hp:Utf.pt x
     {go_wp2_with (first | (go_at_call 189; refine (Z4D _ _).mono ?_; rintro e w' ⟨rfl,rfl⟩) | (go_at_call 190; refine (Z45 _ _).mono ?_; rintro e w' ⟨rfl,rfl⟩))
      go_ret2
      refine ⟨?_,rfl⟩;rw[HF.out,hp,if_neg (by simp)];rfl}
     {by_cases hw:Utf.width x=k
      {have hd2: ((Utf.width x:Int)==(k:Int))=true:=by rw[beq_iff_eq]; omega
       have hd3: ((Utf.width x:Int) !=(k:Int))=false:=by rw[bne_eq_false_iff_eq]; omega
       have HW:=Y1 hw;clear hw
       go_wp2_with (first | (go_at_call 189; refine (Z4D _ _).mono ?_; rintro e w' ⟨rfl,rfl⟩) | (go_at_call 190; refine (Z45 _ _).mono ?_; rintro e w' ⟨rfl,rfl⟩))
       go_ret2
       refine ⟨?_,rfl⟩;rw[HF.out,if_pos ⟨hp,HW.out⟩];rfl}
      {have hd2: ((Utf.width x:Int)==(k:Int))=false:=by rw[beq_eq_false_iff_ne]; omega
       have hd3: ((Utf.width x:Int) !=(k:Int))=true:=by rw[bne_iff_ne]; omega
       go_wp2_with (first | (go_at_call 189; refine (Z4D _ _).mono ?_; rintro e w' ⟨rfl,rfl⟩) | (go_at_call 190; refine (Z45 _ _).mono ?_; rintro e w' ⟨rfl,rfl⟩))
       go_ret2
       refine ⟨?_,rfl⟩;rw[HF.out,if_neg (by rintro ⟨_,h⟩; exact hw h)];rfl}}}}}
end
end Go.Proofs.YtkncdbaoaeeoiaaGreatDoor
