/- What the proofs of ParseAround want, part 29. -/
import Derived.WalkSpells
import Derived.Test.YtkncdbaoaeeoiaaGreatDoorL0n28
set_option linter.unusedVariables false
set_option linter.unusedSimpArgs false
set_option linter.unusedSectionVars false
set_option maxRecDepth 100000
set_option maxHeartbeats 16000000
namespace Go.Proofs.YtkncdbaoaeeoiaaGreatDoor
section
open Go.RowKit Tms
open Shp (Sh)
theorem TmAt.uph {w w':World} {B a:Nat} {q:TP} {t:Tm} (h:TmAt w B q t) (b:UpH a w w') (c:B<=a):TmAt w' B q t:=
 h.of (Nat.le_refl _) (fun g k hg=>b.cell (by omega))
theorem ZgX (g o:Nat) (w:World):Calls Tryz.prog 25 #[.pointer (some ⟨g,o,none⟩)] w fun e w'=>e= .returned (.pointer (some ⟨g,o+7,none⟩))/\w=w':=by
 go_enter Tryz.func25,Tryz.ntmps25;go_wp2;go_ret;exact ⟨rfl,rfl⟩
theorem ZhX (t:Tm): ∀(q:TP) (g o B a p b:Nat) (w:World),Tm9 w g o t q->g≠a->TmAt w B q t->B<=a->CntH w a p (.func (.func 25) #[] #[])->p+size t<=1000000->b+deep t<=60000->
 Calls Tryz.prog 40 #[.pointer (some ⟨a,0,none⟩),.pointer (some ⟨g,o,none⟩),.int .i64 (b:Int)] w
  fun e w'=>e= .returned (.bool true)/\UpH a w w'/\CntH w' a (p+size t) (.func (.func 25) #[] #[]):=by
 induction t using Tm.ind with
 | h t ih=>
 intro q g o B a p b w X A O s u D C;have HP:=Y1 O.part;have HM:=Y1 O.small.m;have HD:Hid (deep t=deeps t.parts+1):=Y1 (deep_eq t);have S:Hid (size t=1+sizes t.parts):=Y1 (size_eq t);have J:Hid (p+size t<=1000000):=Y1 D;have I:Hid (b+deep t<=60000):=Y1 C;have N: (p:Int)<=1000000:=by omega
 have y: ¬(16777216:Int) < (p:Int)+1:=by omega
 have z: ¬(65536:Int) < (b:Int):=by omega
 have T: (b:Int)<=60000:=by omega
 have e1:decide ((16777216:Int) < (p:Int)+1)=false:=decide_eq_false y;have e2:decide ((65536:Int) < (b:Int))=false:=decide_eq_false z;have HS:=Y1 X;have HC:=Y1 u;obtain ⟨_,_,_,_,_,_,_,Y,_⟩:=X;obtain ⟨_,c0,c1,f1⟩:=u;have U:a≠g:=Ne.symm A;have L1:=fun (W:World)=>ZgX g o W;clear D C O;go_enter Tryz.func40,Tryz.ntmps40
 go_wp2_with fail
 obtain ⟨W0,d⟩: ∃W0,W0=w.setCell ⟨a,1,none⟩ (.int .i64 ((p:Int)+1)):=⟨_,rfl⟩;have r:Hid (UpH a w W0):=Y1 (by rw[d]; exact (UpH.refl a w).set _);have G:Hid (CntH W0 a (p+1) (.func (.func 25) #[] #[])):=Y1 (by rw[d]; exact HC.out.set (p+1));have P:W0.cell? ⟨g,o+7,none⟩=some (.slice q.P t.parts.length q.d):=(r.out.cell A).trans Y;rw[<-d];clear d Y c0 c1 f1 N y z e1 e2;refine (L1 W0).mono ?_;rintro e w1 ⟨rfl,rfl⟩
 go_wp2_with fail
 clear P
 go_loopw [35] (fun ii wr=> ∃i:Nat,ii= .int .i64 i/\i<=t.parts.length/\Hid (UpH a w wr)/\Hid (CntH wr a (p+1+sizes (t.parts.take i)) (.func (.func 25) #[] #[]))) (fun i _=>t.parts.length - (intOf i).toNat)
 case atStart=>exact ⟨0,rfl,Nat.zero_le _,r,by rw[List.take_zero]; exact G⟩
 case round=>
  obtain ⟨i,rfl,hi,c,n⟩:=hrel;have b2:=HM.out;by_cases f:i < t.parts.length
  {rcases HP.out with h0 | ⟨g',off,qs,E,b1,u,V⟩
   {omega}
   {obtain ⟨x,F⟩: ∃x,x=t.parts[i]:=⟨_,rfl⟩;have l:=u i f;have j:=V i f;have m:=ih t.parts[i] (List.getElem_mem _) (qs i) g' (off+i * 9) B a (p+1+sizes (t.parts.take i)) (b+1) wr;rw[<-F] at m l j;have Q:Hid (sizes (t.parts.take (i+1))=sizes (t.parts.take i)+size x):=Y1 (by rw[F]; exact sizes_next f);have L:deep x<=deeps t.parts:=by rw[F]; exact deeps_mem (List.getElem_mem _)
    have K:=m (l.of (fun k=>c.out.cell (by omega))) (by omega) (j.uph c.out s) s n.out (by
     have:=sizes_take t.parts (i+1);have:=Q.out;have:=J.out;have:=S.out;omega) (by have:=HD.out; have:=I.out; omega)
    have M: (i:Int) < (t.parts.length:Int):=by omega
    rw[show (((b+1:Nat)):Int)=(b:Int)+1 from by omega] at K;clear l j m u V F L ih;rw[E];clear E
    go_wp2_with fail
    refine K.mono ?_;rintro e Z ⟨rfl,hu2,v⟩;have HU2:Hid (UpH a w Z):=Y1 (c.out.trans hu2);have H:Hid (CntH Z a (p+1+sizes (t.parts.take (i+1))) (.func (.func 25) #[] #[])):=Y1 (by rw[Q.out, <-Nat.add_assoc]; exact v);clear hu2 v K;go_wp2
    go_roundw
    case rel=>exact ⟨i+1,by go_num,by omega,HU2,H⟩
    case measure=>simp[intOf]; omega}}
  {have HG:Hid (p+size t=p+1+sizes (t.parts.take i)):=Y1 (by rw[S.out,show i=t.parts.length from by omega,List.take_length]; omega);have M: ¬(i:Int) < (t.parts.length:Int):=by omega
   go_wp2;go_ret;exact ⟨rfl,c.out,by rw[HG.out]; exact n.out⟩}
end
section
open Go.RowKit Shp
theorem ZiJ: (Tryz.prog.info? 9).map (fun i=>(i.zero,i.size,i.bytes))=some (some (.string ByteArray.empty),1,16):=by kernel_rfl
theorem Zh5: (Tryz.prog.info? 43).map (fun i=>(i.zero,i.size,i.bytes))=some (some (.agg #[.int .i64 0,.string ByteArray.empty,.string ByteArray.empty,.slice none 0 0,.slice none 0 0]),5,88):=by kernel_rfl
def Zh1 (t:Sh) (q:Ptr):Nat->Value
 | 0=> .int .i64 t.kind
 | 1=> .string ⟨t.of_.toArray⟩
 | 2=> .string ⟨t.name.toArray⟩
 | 3=> .slice q.A t.names.length q.c
 | _=> .slice q.P t.parts.length q.d
def Zip:Sh:=⟨0,[],[],[],[]⟩
def ZgM (ps:List Sh) (qs:Nat->Ptr):List Value:=(List.range (ps.length * 5)).map fun j=>Zh1 (ps.getD (j / 5) Zip) (qs (j / 5)) (j % 5)
section
variable (ps : List Sh) (qs : Nat -> Ptr)
include ps qs
theorem Zhd: (ZgM ps qs).length=ps.length * 5:=by simp[ZgM]
theorem Zhp {i c:Nat} (a:i < ps.length) (f:c < 5): (ZgM ps qs)[i * 5+c]? =some (Zh1 (ps[i]'a) (qs i) c):=by
 have b:i * 5+c < ps.length * 5:=by omega
 have d: (i * 5+c) / 5=i:=by omega
 have e: (i * 5+c) % 5=c:=by omega
 simp[ZgM,b,d,e,List.getD,List.getElem?_eq_getElem a]
theorem Ziq: ∀u∈ZgM ps qs,u.oneCell'=true:=by
 intro u a;obtain ⟨j,_,rfl⟩:=List.mem_map.1 a;generalize j % 5=c
 match c with
 | 0=>rfl
 | 1=>rfl
 | 2=>rfl
 | 3=>rfl
 | _+4=>rfl
end
section
variable {W : World}
include W
theorem Zhq {g o:Nat} {t:Sh} {q:Ptr} (h:Sh5 W g o t q) {c:Nat} (i:c < 5):W.cell? ⟨g,o+c,none⟩=some (Zh1 t q c):=by
 obtain ⟨a,b,d,e,f⟩:=h
 match c,i with
 | 0,_=>exact a
 | 1,_=>exact b
 | 2,_=>exact d
 | 3,_=>exact e
 | 4,_=>exact f
theorem Zhr {g o:Nat} {t:Sh} {q:Ptr} (h: ∀c,c < 5->W.cell? ⟨g,o+c,none⟩=some (Zh1 t q c)):Sh5 W g o t q:=
 ⟨h 0 (by omega),h 1 (by omega),h 2 (by omega),h 3 (by omega),h 4 (by omega)⟩
theorem Zjr {B b n cap:Nat} {ps:List Sh} {qs:Nat->Ptr} (h:W.ownsRow B 43 5 (.slice (some ⟨b,0,none⟩) n cap) n (ZgM ps qs)) (a:n=ps.length):PaR W b ps qs:=by
 subst a;refine ⟨(h.lt b rfl).2,fun i hi=>Zhr (fun c hc=> ?_),fun k=>h.frozenAt k⟩;rw[h.cellAt _ (by omega),Zhp ps qs hi hc]
theorem Zjs {B b n cap:Nat} {l:List (List UInt8)} (h:W.ownsRow B 9 1 (.slice (some ⟨b,0,none⟩) n cap) n ((strs l).map Value.string)) (a:n=l.length):TxR W b l:=by
 subst a;refine ⟨(h.lt b rfl).2,fun i hi=> ?_,fun k=>h.frozenAt k⟩;rw[h.cellAt _ (by omega)];simp[strs,hi]
end
theorem Zh9 (b o k:Nat): (⟨b,o,none⟩:Addr).add k=⟨b,o+k,none⟩:=Z0r b o k
theorem ZgP (A:Option Addr) (c:Nat) (l:List (List UInt8)) (w:World) (E:Strs w w.heap.size A (strs l)) (W:l.length<=1000000000) (O:l.length<=c) (i:A=none->c=0):
 Calls Tryz.prog 28 #[.slice A l.length c] w fun e w'=>(∃A' c',e= .returned (.slice A' l.length c')/\l.length<=c'/\(A'=none->c'=0)/\(l.length=0\/ ∃b,A'=some ⟨b,0,none⟩/\w.heap.size<=b/\TxR w' b l))/\Below w.heap.size w w':=by
 obtain ⟨S,N,B,C,D⟩:=info_parts (P:=Tryz.prog) (e:=9) (z:= .string ByteArray.empty) (size:=1) (bytes:=16) ZiJ;have T: ∀(w:World) (a:Option Addr) (n c n' c':Nat),(binOp .eql 22 (.slice a n c) (.slice none n' c')).run Tryz.prog w= .ok (.bool a.isNone) w:=fun w a n c n' c'=>Lib.run_eql_slice_nil w _ _ a n c n' c' Tryz.underlying22;cases A with
 | none=>
  obtain rfl:=i rfl;have v:l= []:=List.eq_nil_of_length_eq_zero (by omega);subst v;go_enter Tryz.func28,Tryz.ntmps28;go_wp2;go_ret;exact ⟨⟨none,0,by simp⟩,Below.refl _ _⟩
 | some ad=>
  have G:=Y1 E.cell7;clear E i;go_enter Tryz.func28,Tryz.ntmps28
  go_wp2_with (at_builtin; refine Zgs _ rfl _ _ 22 rfl w.heap.size 9 S (.string ByteArray.empty) 1 16 Tryz.underlying22 N B C D rfl (by decide) _ 0 [] rfl (World.ownsRow_made w #[] 0 (Nat.le_refl _) (Nat.zero_le _) rfl) (some ad) l.length c ((strs l).map Value.string) rfl nofun ?qc1 ?qc2 ?qc3 ?qc4 ?qc5 ?qc6 ?_)
  case qc1=>simp[strs]
  case qc2=>
   intro J r j u t;cases r;have k:j < l.length:=by
    have:=(List.getElem?_eq_some_iff.1 t).1;simpa[strs] using this
   rcases G.out with o | ⟨g,off,s,M,L⟩
   {omega}
   {cases s;rw[Zh9];refine ((Z01 w _).cell (p:=⟨g,off+j,none⟩) M).trans ((L j k).trans ?_);simp[strs,k] at t;rw[<-t]}
  case qc3=>intro u Q; obtain ⟨x,_,rfl⟩:=List.mem_map.1 Q; rfl
  case qc4=>unfold maxLen; omega
  case qc5=>omega
  case qc6=>simp
  intro U w' f F;have d:w'.ownsRow w.heap.size 9 1 U l.length ((strs l).map Value.string):=by simpa using f
  have I:=Y1 d;have H:Hid (Below w.heap.size w w'):=Y1 ((Z01 w (.cells #[] 9)).trans F);clear f d F;go_wp2;go_ret;refine ⟨?_,H.out⟩;have h:=I.out;rcases h.2 with ⟨m,o⟩ | ⟨g,cap,K,m,q,V,y,_⟩
  {exact ⟨none,0,by rw[m,o]; rfl,by omega,fun _=>rfl,Or.inl o⟩}
  {rw[m] at h;exact ⟨some ⟨g,0,none⟩,cap,by rw[m]; rfl,y,nofun,Or.inr ⟨g,rfl,q,Zjs h rfl⟩⟩}
theorem Zh6 (g off d:Nat) (ps:List Sh) (qs:Nat->Ptr) (w:World) (J:g < w.heap.size) (C: ∀i (h:i < ps.length),Sh5 w g (off+i * 5) (ps[i]'h) (qs i)) (T:ps.length<=1000000000) (D:0 < ps.length):
 Calls Tryz.prog 29 #[.slice (some ⟨g,off,none⟩) ps.length d] w fun e w'=>(∃b c',e= .returned (.slice (some ⟨b,0,none⟩) ps.length c')/\ps.length<=c'/\w.heap.size<=b/\PaR w' b ps qs)/\Below w.heap.size w w':=by
 obtain ⟨M,K,v,y,A⟩:=info_parts (P:=Tryz.prog) (e:=43) (z:= .agg #[.int .i64 0,.string ByteArray.empty,.string ByteArray.empty,.slice none 0 0,.slice none 0 0]) (size:=5) (bytes:=88) Zh5;have N: ∀(w:World) (a:Option Addr) (n c n' c':Nat),(binOp .eql 23 (.slice a n c) (.slice none n' c')).run Tryz.prog w= .ok (.bool a.isNone) w:=fun w a n c n' c'=>Lib.run_eql_slice_nil w _ _ a n c n' c' Tryz.underlying23;have F:=Y1 C;clear C;go_enter Tryz.func29,Tryz.ntmps29
 go_wp2_with (at_builtin; refine Zgs _ rfl _ _ 23 rfl w.heap.size 43 M (.agg #[.int .i64 0,.string ByteArray.empty,.string ByteArray.empty,.slice none 0 0,.slice none 0 0]) 5 88 Tryz.underlying23 K v y A rfl (by decide) _ 0 [] rfl (World.ownsRow_made w #[] 0 (Nat.le_refl _) (Nat.zero_le _) rfl) (some ⟨g,off,none⟩) ps.length d (ZgM ps qs) rfl nofun ?qc1 ?qc2 ?qc3 ?qc4 ?qc5 ?qc6 ?_)
 case qc1=>rw[Zhd]
 case qc2=>
  intro H q j u r;cases q;have L:j < ps.length * 5:=by
   have:=(List.getElem?_eq_some_iff.1 r).1
   rwa [Zhd] at this
  obtain ⟨i,c,rfl,l⟩: ∃i c,j=i * 5+c/\c < 5:=⟨j / 5,j % 5,by omega,by omega⟩;have m:i < ps.length:=by omega
  rw[Zhp ps qs m l] at r;rw[Zh9, <-Nat.add_assoc];refine ((Z01 w _).cell (p:=⟨g,off+i * 5+c,none⟩) J).trans ((Zhq (F.out i m) l).trans r)
 case qc3=>exact Ziq ps qs
 case qc4=>unfold maxLen; omega
 case qc5=>omega
 case qc6=>simp
 intro O w' k B;have f:w'.ownsRow w.heap.size 43 5 O ps.length (ZgM ps qs):=by simpa using k
 have G:=Y1 f;have E:Hid (Below w.heap.size w w'):=Y1 ((Z01 w (.cells #[] 43)).trans B);clear k f B;go_wp2;go_ret;refine ⟨?_,E.out⟩;have h:=G.out;rcases h.2 with ⟨t,Q⟩ | ⟨b,cap,I,t,o,S,s,_⟩
 {omega}
 {rw[t] at h;exact ⟨b,cap,by rw[t]; rfl,s,o,Zjr h rfl⟩}
theorem Zhe (A:Option Addr) (d:Nat) (w:World) (h:A=none->d=0):
 Calls Tryz.prog 29 #[.slice A 0 d] w fun e w'=>(∃A' d',e= .returned (.slice A' 0 d')/\(A'=none->d'=0))/\Below w.heap.size w w':=by
 obtain ⟨E,y,k,l,m⟩:=info_parts (P:=Tryz.prog) (e:=43) (z:= .agg #[.int .i64 0,.string ByteArray.empty,.string ByteArray.empty,.slice none 0 0,.slice none 0 0]) (size:=5) (bytes:=88) Zh5;have F: ∀(w:World) (a:Option Addr) (n c n' c':Nat),(binOp .eql 23 (.slice a n c) (.slice none n' c')).run Tryz.prog w= .ok (.bool a.isNone) w:=fun w a n c n' c'=>Lib.run_eql_slice_nil w _ _ a n c n' c' Tryz.underlying23;cases A with
 | none=>
  obtain rfl:=h rfl;go_enter Tryz.func29,Tryz.ntmps29;go_wp2;go_ret;exact ⟨⟨none,0,by simp⟩,Below.refl _ _⟩
 | some ad=>
  clear h;go_enter Tryz.func29,Tryz.ntmps29
  go_wp2_with (at_builtin; refine Zgs _ rfl _ _ 23 rfl w.heap.size 43 E (.agg #[.int .i64 0,.string ByteArray.empty,.string ByteArray.empty,.slice none 0 0,.slice none 0 0]) 5 88 Tryz.underlying23 y k l m rfl (by decide) _ 0 [] rfl (World.ownsRow_made w #[] 0 (Nat.le_refl _) (Nat.zero_le _) rfl) (some ad) 0 d [] rfl nofun ?qc1 ?qc2 ?qc3 ?qc4 ?qc5 ?qc6 ?_)
  case qc1=>rfl
  case qc2=>
   intro r v j u B;simp at B
  case qc3=>intro u D; cases D
  case qc4=>unfold maxLen; omega
  case qc5=>omega
  case qc6=>simp
  intro G w' f o;have b:w'.ownsRow w.heap.size 43 5 G 0 []:=by simpa using f
  have q:=Y1 b;have p:Hid (Below w.heap.size w w'):=Y1 ((Z01 w (.cells #[] 43)).trans o);clear f b o;go_wp2;go_ret;refine ⟨?_,p.out⟩;rcases q.out.2 with ⟨i,H⟩ | ⟨g,cap,s,i,t,I,C,_⟩
  {exact ⟨none,0,by rw[i]; rfl,fun _=>rfl⟩}
  {exact ⟨some ⟨g,0,none⟩,cap,by rw[i]; rfl,nofun⟩}
theorem Zgq (W:World) (a:Addr) (u:Value): (W.setCell a u).heap.size=W.heap.size:=by simp[World.setCell]
theorem ZiK: (Tryz.prog.info? 94).map (fun i=>(i.zero,i.size,i.bytes))=some (some (.pointer none),1,8):=by kernel_rfl
theorem ZjF (a:Option Addr) (n:Int) (W:World): (Instr.lookup 121 (.map none) (.agg #[.pointer a,.int .i64 n]) true).run Tryz.prog W= .ok (.tuple #[.slice none 0 0,.bool false]) W:=by kernel_rfl
def TxC (w W:World) (l:List (List UInt8)) (A':Option Addr) (c':Nat):Prop:=l.length<=c'/\(A'=none->c'=0)/\(l.length=0\/ ∃b,A'=some ⟨b,0,none⟩/\w.heap.size<=b/\TxR W b l)
theorem ZiL (g o:Nat) (A:Option Addr) (c:Nat) (l:List (List UInt8)) (w:World) (s:g < w.heap.size) (u:w.cell? ⟨g,o+3,none⟩=some (.slice A l.length c)) (k:w.frozen? ⟨g,o+3,none⟩=false) (r:Strs w w.heap.size A (strs l)) (t:l.length<=1000000000) (h:l.length<=c) (f:A=none->c=0):
 Calls Tryz.prog 44 #[.pointer (some ⟨g,o,none⟩)] w fun e w'=>e= .returned (.tuple #[])/\ ∃b d a,Below w.heap.size w a/\TxC w a l b d/\w'=a.setCell ⟨g,o+3,none⟩ (.slice b l.length d):=by
 have j:=Y1 (ZgP A c l w r t h f);clear r t h f;go_enter Tryz.func44,Tryz.ntmps44
 go_wp2_with fail
 refine j.out.mono ?_;rintro e a ⟨⟨b,d,rfl,m,n,q⟩,i⟩;have B:=(i.cell (p:=⟨g,o+3,none⟩) s).trans u;have C:=(i.frozen (p:=⟨g,o+3,none⟩) s).trans k;have y:=Y1 i;have z:Hid (TxC w a l b d):=Y1 ⟨m,n,q⟩;clear i m n q u k j;go_wp2;refine bodyPost_end (v:= .tuple #[]) (by simp[results,Tryz.results44,go_sem]) rfl ?_;exact ⟨rfl,b,d,a,y.out,z.out,rfl⟩
def PaC (w W:World) (ps:List Sh) (qs:Nat->Ptr) (P':Option Addr) (d':Nat):Prop:=ps.length<=d'/\(P'=none->d'=0)/\(ps.length=0\/ ∃b,P'=some ⟨b,0,none⟩/\w.heap.size<=b/\PaR W b ps qs)
theorem Zir (g o:Nat) (P:Option Addr) (d:Nat) (w:World) (j:g < w.heap.size) (k:w.cell? ⟨g,o,none⟩=some (.slice P 0 d)) (h:w.frozen? ⟨g,o,none⟩=false) (a:P=none->d=0):
 Calls Tryz.prog 76 #[.pointer (some ⟨g,o,none⟩),.map none] w fun e w'=>e= .returned (.bool false)/\ ∃P' d' b,Below w.heap.size w b/\(P'=none->d'=0)/\w'=b.setCell ⟨g,o,none⟩ (.slice P' 0 d'):=by
 have f:=Y1 (Zhe P d w a);clear a;go_enter Tryz.func76,Tryz.ntmps76
 go_wp2_with fail
 refine f.out.mono ?_;rintro e b ⟨⟨P',d',rfl,i⟩,c⟩;have n:=(c.cell (p:=⟨g,o,none⟩) j).trans k;have q:=(c.frozen (p:=⟨g,o,none⟩) j).trans h;have l:=Y1 c;have m:=Y1 i;clear c i k h f;go_wp2;go_ret;exact ⟨rfl,P',d',b,l.out,m.out,rfl⟩
theorem Zis (g o j off d:Nat) (ps:List Sh) (qs:Nat->Ptr) (w:World) (z:g < w.heap.size) (G:w.cell? ⟨g,o,none⟩=some (.slice (some ⟨j,off,none⟩) ps.length d)) (C:w.frozen? ⟨g,o,none⟩=false)
 (q:j < w.heap.size) (F: ∀i (h:i < ps.length),Sh5 w j (off+i * 5) (ps[i]'h) (qs i)) (A:ps.length<=1000000000) (s:0 < ps.length):
 Calls Tryz.prog 76 #[.pointer (some ⟨g,o,none⟩),.map none] w fun e w'=>e= .returned (.bool true)/\ ∃b d' m,Below w.heap.size w m/\ps.length<=d'/\w.heap.size<=b/\PaR m b ps qs/\w'=m.setCell ⟨g,o,none⟩ (.slice (some ⟨b,0,none⟩) ps.length d'):=by
 have B:=Y1 (fun (W:World) (hb:Below w.heap.size w W)=>Zh6 j off d ps qs W (Nat.lt_of_lt_of_le q hb.size) (fun i hi=>(F i hi).keep q hb) A s);have O: ((ps.length:Int)==0)=false:=by rw[beq_eq_false_iff_ne]; omega
 have N: (0:Int) < (ps.length:Int):=by omega
 have Q: ∀(w:World) (r:Option Nat),(binOp .neq 121 (.map r) (.map none)).run Tryz.prog w= .ok (.bool (!r.isNone)) w:=fun w r=>run_neq_map_nil w _ _ _ r Tryz.underlying121;have P:=ZjF (some ⟨j,off,none⟩) (ps.length:Int);clear F;go_enter Tryz.func76,Tryz.ntmps76
 go_wp2_with fail
 go_region
 obtain ⟨W1,a⟩: ∃W1,W1=(w.alloc (.cells #[.pointer (some ⟨j,off,none⟩),.int .i64 (ps.length:Int)] 150)).drew:=⟨_,rfl⟩;have c:Below w.heap.size w W1:=by rw[a]; exact (Z01 _ _).drew
 have p0:W1.cell? ⟨w.heap.size,0,none⟩=some (.pointer (some ⟨j,off,none⟩)):=by rw[a]; simp[go_sem]
 have p1:W1.cell? ⟨w.heap.size,1,none⟩=some (.int .i64 (ps.length:Int)):=by rw[a]; simp[go_sem]
 have H:=(c.cell (p:=⟨g,o,none⟩) z).trans G;have I:=(c.frozen (p:=⟨g,o,none⟩) z).trans C;have t:w.heap.size < W1.heap.size:=by rw[a]; simp
 have k:g < W1.heap.size:=Nat.lt_trans z t;have n:=B.out W1 c;rw[<-a];have u:=Y1 c;have l:=Y1 n;have J:=Y1 A;clear a c n G C B A
 go_wp2_with fail
 refine l.out.mono ?_;rintro e m ⟨⟨b,d',rfl,D,M,E⟩,f⟩;have S:=(f.cell (p:=⟨g,o,none⟩) k).trans H;have T:=(f.frozen (p:=⟨g,o,none⟩) k).trans I;have v:=Y1 (Z00 u.out f);have L:=Y1 E;have K:=Y1 D;have y:=Y1 (show w.heap.size<=b from by omega);clear f D M E H I p0 p1 l k t;go_wp2;go_ret;exact ⟨rfl,b,d',m,v.out,K.out,y.out,L.out,rfl⟩
end
section
open Go.RowKit Tms
open Shp (Sh)
theorem ZhD: (Tryz.prog.info? 26).map (fun i=>(i.zero,i.size,i.bytes))=some (some (.agg #[.int .i64 0,.string ByteArray.empty,.string ByteArray.empty,.int .i64 0,.slice none 0 0,.slice none 0 0,.slice none 0 0,.slice none 0 0,.int .i64 0]),9,152):=by kernel_rfl
def Zh2 (t:Tm) (q:TP):Nat->Value
 | 0=> .int .i64 t.kind
 | 1=> .string ⟨t.of_.toArray⟩
 | 2=> .string ⟨t.name.toArray⟩
 | 3=> .int .i64 t.n
 | 4=> .slice q.A t.names.length q.c
 | 5=> .slice q.V t.vars.length q.e
 | 6=> .slice q.S t.shapes.length q.s
 | 7=> .slice q.P t.parts.length q.d
 | _=> .int .i64 t.at_
def zeroT:Tm:=⟨0,[],[],0,[],[],[],[],0⟩
def ZgN (ps:List Tm) (qs:Nat->TP):List Value:=(List.range (ps.length * 9)).map fun j=>Zh2 (ps.getD (j / 9) zeroT) (qs (j / 9)) (j % 9)
section
variable (ps : List Tm) (qs : Nat -> TP)
include ps qs
theorem Zhf: (ZgN ps qs).length=ps.length * 9:=by simp[ZgN]
theorem Zhs {i c:Nat} (a:i < ps.length) (f:c < 9): (ZgN ps qs)[i * 9+c]? =some (Zh2 (ps[i]'a) (qs i) c):=by
 have b:i * 9+c < ps.length * 9:=by omega
 have d: (i * 9+c) / 9=i:=by omega
 have e: (i * 9+c) % 9=c:=by omega
 simp[ZgN,b,d,e,List.getD,List.getElem?_eq_getElem a]
theorem Zit: ∀u∈ZgN ps qs,u.oneCell'=true:=by
 intro u a;obtain ⟨j,_,rfl⟩:=List.mem_map.1 a;generalize j % 9=c
 match c with
 | 0=>rfl
 | 1=>rfl
 | 2=>rfl
 | 3=>rfl
 | 4=>rfl
 | 5=>rfl
 | 6=>rfl
 | 7=>rfl
 | _+8=>rfl
end
section
variable {W : World} {g o : Nat} {t : Tm} {q : TP}
include W g o t q
theorem Zht (h:Tm9 W g o t q) {c:Nat} (m:c < 9):W.cell? ⟨g,o+c,none⟩=some (Zh2 t q c):=by
 obtain ⟨a,b,d,e,f,i,j,k,l⟩:=h
 match c,m with
 | 0,_=>exact a
 | 1,_=>exact b
 | 2,_=>exact d
 | 3,_=>exact e
 | 4,_=>exact f
 | 5,_=>exact i
 | 6,_=>exact j
 | 7,_=>exact k
 | 8,_=>exact l
theorem Zhu (h: ∀c,c < 9->W.cell? ⟨g,o+c,none⟩=some (Zh2 t q c)):Tm9 W g o t q:=
 ⟨h 0 (by omega),h 1 (by omega),h 2 (by omega),h 3 (by omega),h 4 (by omega),h 5 (by omega),h 6 (by omega),h 7 (by omega),h 8 (by omega)⟩
end
structure PaT (W:World) (b:Nat) (ps:List Tm) (qs:Nat->TP):Prop where
 lt:b < W.heap.size
 at_: ∀i (h:i < ps.length),Tm9 W b (i * 9) (ps[i]'h) (qs i)
 fz: ∀k,W.frozen? ⟨b,k,none⟩=false
theorem PaT.of {W W':World} {b:Nat} {ps:List Tm} {qs:Nat->TP} (h:PaT W b ps qs) (a:Z7N W W' b) (c:W.heap.size<=W'.heap.size):PaT W' b ps qs:=
 ⟨Nat.lt_of_lt_of_le h.lt c,fun i hi=>(h.at_ i hi).of a.1,fun k=>(a.2 k).trans (h.fz k)⟩
theorem Zjt {W:World} {B b n cap:Nat} {ps:List Tm} {qs:Nat->TP} (h:W.ownsRow B 26 9 (.slice (some ⟨b,0,none⟩) n cap) n (ZgN ps qs)) (a:n=ps.length):PaT W b ps qs:=by
 subst a;refine ⟨(h.lt b rfl).2,fun i hi=>Zhu (fun c hc=> ?_),fun k=>h.frozenAt k⟩;rw[h.cellAt _ (by omega),Zhs ps qs hi hc]
theorem ZhE (g off d:Nat) (ps:List Tm) (qs:Nat->TP) (w:World) (J:g < w.heap.size) (C: ∀i (h:i < ps.length),Tm9 w g (off+i * 9) (ps[i]'h) (qs i)) (T:ps.length<=1000000) (D:0 < ps.length):
 Calls Tryz.prog 74 #[.slice (some ⟨g,off,none⟩) ps.length d] w fun e w'=>(∃b c',e= .returned (.slice (some ⟨b,0,none⟩) ps.length c')/\ps.length<=c'/\w.heap.size<=b/\PaT w' b ps qs)/\Below w.heap.size w w':=by
 obtain ⟨M,K,v,y,A⟩:=info_parts (P:=Tryz.prog) (e:=26) (z:= .agg #[.int .i64 0,.string ByteArray.empty,.string ByteArray.empty,.int .i64 0,.slice none 0 0,.slice none 0 0,.slice none 0 0,.slice none 0 0,.int .i64 0]) (size:=9) (bytes:=152) ZhD;have N: ∀(w:World) (a:Option Addr) (n c n' c':Nat),(binOp .eql 24 (.slice a n c) (.slice none n' c')).run Tryz.prog w= .ok (.bool a.isNone) w:=fun w a n c n' c'=>Lib.run_eql_slice_nil w _ _ a n c n' c' Tryz.underlying24;have F:=Y1 C;clear C;go_enter Tryz.func74,Tryz.ntmps74
 go_wp2_with (at_builtin; refine Zgs _ rfl _ _ 24 rfl w.heap.size 26 M (.agg #[.int .i64 0,.string ByteArray.empty,.string ByteArray.empty,.int .i64 0,.slice none 0 0,.slice none 0 0,.slice none 0 0,.slice none 0 0,.int .i64 0]) 9 152 Tryz.underlying24 K v y A rfl (by decide) _ 0 [] rfl (World.ownsRow_made w #[] 0 (Nat.le_refl _) (Nat.zero_le _) rfl) (some ⟨g,off,none⟩) ps.length d (ZgN ps qs) rfl nofun ?qc1 ?qc2 ?qc3 ?qc4 ?qc5 ?qc6 ?_)
 case qc1=>rw[Zhf]
 case qc2=>
  intro H q j u r;cases q;have L:j < ps.length * 9:=by
   have:=(List.getElem?_eq_some_iff.1 r).1
   rwa [Zhf] at this
  obtain ⟨i,c,rfl,l⟩: ∃i c,j=i * 9+c/\c < 9:=⟨j / 9,j % 9,by omega,by omega⟩;have m:i < ps.length:=by omega
  rw[Zhs ps qs m l] at r;rw[Zh9, <-Nat.add_assoc];refine ((Z01 w _).cell (p:=⟨g,off+i * 9+c,none⟩) J).trans ((Zht (F.out i m) l).trans r)
 case qc3=>exact Zit ps qs
 case qc4=>unfold maxLen; omega
 case qc5=>omega
 case qc6=>simp
 intro O w' k B;have f:w'.ownsRow w.heap.size 26 9 O ps.length (ZgN ps qs):=by simpa using k
 have G:=Y1 f;have E:Hid (Below w.heap.size w w'):=Y1 ((Z01 w (.cells #[] 26)).trans B);clear k f B;go_wp2;go_ret;refine ⟨?_,E.out⟩;have h:=G.out;rcases h.2 with ⟨t,Q⟩ | ⟨b,cap,I,t,o,S,s,_⟩
 {omega}
 {rw[t] at h;exact ⟨b,cap,by rw[t]; rfl,s,o,Zjt h rfl⟩}
theorem ZhY (A:Option Addr) (d:Nat) (w:World) (h:A=none->d=0):
 Calls Tryz.prog 74 #[.slice A 0 d] w fun e w'=>(∃A' d',e= .returned (.slice A' 0 d')/\(A'=none->d'=0))/\Below w.heap.size w w':=by
 obtain ⟨E,y,k,l,m⟩:=info_parts (P:=Tryz.prog) (e:=26) (z:= .agg #[.int .i64 0,.string ByteArray.empty,.string ByteArray.empty,.int .i64 0,.slice none 0 0,.slice none 0 0,.slice none 0 0,.slice none 0 0,.int .i64 0]) (size:=9) (bytes:=152) ZhD;have F: ∀(w:World) (a:Option Addr) (n c n' c':Nat),(binOp .eql 24 (.slice a n c) (.slice none n' c')).run Tryz.prog w= .ok (.bool a.isNone) w:=fun w a n c n' c'=>Lib.run_eql_slice_nil w _ _ a n c n' c' Tryz.underlying24;cases A with
 | none=>
  obtain rfl:=h rfl;go_enter Tryz.func74,Tryz.ntmps74;go_wp2;go_ret;exact ⟨⟨none,0,by simp⟩,Below.refl _ _⟩
 | some ad=>
  clear h;go_enter Tryz.func74,Tryz.ntmps74
  go_wp2_with (at_builtin; refine Zgs _ rfl _ _ 24 rfl w.heap.size 26 E (.agg #[.int .i64 0,.string ByteArray.empty,.string ByteArray.empty,.int .i64 0,.slice none 0 0,.slice none 0 0,.slice none 0 0,.slice none 0 0,.int .i64 0]) 9 152 Tryz.underlying24 y k l m rfl (by decide) _ 0 [] rfl (World.ownsRow_made w #[] 0 (Nat.le_refl _) (Nat.zero_le _) rfl) (some ad) 0 d [] rfl nofun ?qc1 ?qc2 ?qc3 ?qc4 ?qc5 ?qc6 ?_)
  case qc1=>rfl
  case qc2=>
   intro r v j u B;simp at B
  case qc3=>intro u D; cases D
  case qc4=>unfold maxLen; omega
  case qc5=>omega
  case qc6=>simp
  intro G w' f o;have b:w'.ownsRow w.heap.size 26 9 G 0 []:=by simpa using f
  have q:=Y1 b;have p:Hid (Below w.heap.size w w'):=Y1 ((Z01 w (.cells #[] 26)).trans o);clear f b o;go_wp2;go_ret;refine ⟨?_,p.out⟩;rcases q.out.2 with ⟨i,H⟩ | ⟨g,cap,s,i,t,I,C,_⟩
  {exact ⟨none,0,by rw[i]; rfl,fun _=>rfl⟩}
  {exact ⟨some ⟨g,0,none⟩,cap,by rw[i]; rfl,nofun⟩}
theorem ZjG (a:Option Addr) (n:Int) (W:World): (Instr.lookup 88 (.map none) (.agg #[.pointer a,.int .i64 n]) true).run Tryz.prog W= .ok (.tuple #[.slice none 0 0,.bool false]) W:=by kernel_rfl
theorem ZhZ (g o:Nat) (P:Option Addr) (d:Nat) (w:World) (j:g < w.heap.size) (k:w.cell? ⟨g,o,none⟩=some (.slice P 0 d)) (h:w.frozen? ⟨g,o,none⟩=false) (a:P=none->d=0):
 Calls Tryz.prog 41 #[.pointer (some ⟨g,o,none⟩),.map none] w fun e w'=>e= .returned (.bool false)/\ ∃P' d' b,Below w.heap.size w b/\(P'=none->d'=0)/\w'=b.setCell ⟨g,o,none⟩ (.slice P' 0 d'):=by
 have f:=Y1 (ZhY P d w a);clear a;go_enter Tryz.func41,Tryz.ntmps41
 go_wp2_with fail
 refine f.out.mono ?_;rintro e b ⟨⟨P',d',rfl,i⟩,c⟩;have n:=(c.cell (p:=⟨g,o,none⟩) j).trans k;have q:=(c.frozen (p:=⟨g,o,none⟩) j).trans h;have l:=Y1 c;have m:=Y1 i;clear c i k h f;go_wp2;go_ret;exact ⟨rfl,P',d',b,l.out,m.out,rfl⟩
theorem Zi0 (g o j off d:Nat) (ps:List Tm) (qs:Nat->TP) (w:World) (z:g < w.heap.size) (G:w.cell? ⟨g,o,none⟩=some (.slice (some ⟨j,off,none⟩) ps.length d)) (C:w.frozen? ⟨g,o,none⟩=false)
 (q:j < w.heap.size) (F: ∀i (h:i < ps.length),Tm9 w j (off+i * 9) (ps[i]'h) (qs i)) (A:ps.length<=1000000) (s:0 < ps.length):
 Calls Tryz.prog 41 #[.pointer (some ⟨g,o,none⟩),.map none] w fun e w'=>e= .returned (.bool true)/\ ∃b d' m,Below w.heap.size w m/\ps.length<=d'/\w.heap.size<=b/\PaT m b ps qs/\w'=m.setCell ⟨g,o,none⟩ (.slice (some ⟨b,0,none⟩) ps.length d'):=by
 have B:=Y1 (fun (W:World) (hb:Below w.heap.size w W)=>ZhE j off d ps qs W (Nat.lt_of_lt_of_le q hb.size) (fun i hi=>(F i hi).keep q hb) A s);have O: ((ps.length:Int)==0)=false:=by rw[beq_eq_false_iff_ne]; omega
 have N: (0:Int) < (ps.length:Int):=by omega
 have Q: ∀(w:World) (r:Option Nat),(binOp .neq 88 (.map r) (.map none)).run Tryz.prog w= .ok (.bool (!r.isNone)) w:=fun w r=>run_neq_map_nil w _ _ _ r Tryz.underlying88;have P:=ZjG (some ⟨j,off,none⟩) (ps.length:Int);clear F;go_enter Tryz.func41,Tryz.ntmps41
 go_wp2_with fail
 go_region
 obtain ⟨W1,a⟩: ∃W1,W1=(w.alloc (.cells #[.pointer (some ⟨j,off,none⟩),.int .i64 (ps.length:Int)] 119)).drew:=⟨_,rfl⟩;have c:Below w.heap.size w W1:=by rw[a]; exact (Z01 _ _).drew
 have p0:W1.cell? ⟨w.heap.size,0,none⟩=some (.pointer (some ⟨j,off,none⟩)):=by rw[a]; simp[go_sem]
 have p1:W1.cell? ⟨w.heap.size,1,none⟩=some (.int .i64 (ps.length:Int)):=by rw[a]; simp[go_sem]
 have H:=(c.cell (p:=⟨g,o,none⟩) z).trans G;have I:=(c.frozen (p:=⟨g,o,none⟩) z).trans C;have t:w.heap.size < W1.heap.size:=by rw[a]; simp
 have k:g < W1.heap.size:=Nat.lt_trans z t;have n:=B.out W1 c;rw[<-a];have u:=Y1 c;have l:=Y1 n;have J:=Y1 A;clear a c n G C B A
 go_wp2_with fail
 refine l.out.mono ?_;rintro e m ⟨⟨b,d',rfl,D,M,E⟩,f⟩;have S:=(f.cell (p:=⟨g,o,none⟩) k).trans H;have T:=(f.frozen (p:=⟨g,o,none⟩) k).trans I;have v:=Y1 (Z00 u.out f);have L:=Y1 E;have K:=Y1 D;have y:=Y1 (show w.heap.size<=b from by omega);clear f D M E H I p0 p1 l k t;go_wp2;go_ret;exact ⟨rfl,b,d',m,v.out,K.out,y.out,L.out,rfl⟩
end
section
open Go.RowKit Shp
def sumL (L:List Nd):Nat:=(L.map fun n=>size n.t).sum
theorem Zgt (L M:List Nd):sumL (L++M)=sumL L+sumL M:=by simp[sumL]
theorem Zhv (pb:Nat) (ps:List Sh) (qs:Nat->Ptr):sumL (kids pb ps qs)=sizes ps:=by
 unfold sumL kids;have: ∀(l:List Sh) (f:Nat->Sh->Nd),(∀i p,(f i p).t=p)->((l.mapIdx f).map fun n=>size n.t).sum=sizes l:=by
  intro l;induction l with
  | nil=>intro f _; rfl
  | cons p l ih=>
   intro f a;rw[List.mapIdx_cons];simp only[List.map_cons,List.sum_cons,a];rw[ih (fun i=>f (i+1)) (fun i p=>a (i+1) p)]; rfl
 exact this ps _ (fun _ _=>rfl)
theorem Zj9 (L:List Nd):L.length<=sumL L:=by
 induction L with
 | nil=>simp
 | cons n L ih=>have:=size_pos n.t; simp[sumL] at ih ⊢; omega
def ndP (n:Nd):Value:= .pointer (some ⟨n.g,n.i * 5,none⟩)
theorem ZhF {W:World} {B:Nat} {e:TypeId} {size:Nat} {v:Value} {n:Nat} {c:List Value} (h:W.ownsRow B e size v n c) {a:Addr} (b:v.ownBlock≠some a.block) (u:Value): (W.setCell a u).ownsRow B e size v n c:=
 h.kept (row:=some a.block) ⟨rfl,rfl,rfl,by simp[World.setCell],fun k hk hn=>Below.heap_setCell _ _ _ _ (fun e=>hn (by rw[e]))⟩ (Or.inr b)
theorem Zfr (W:World) (a:Addr) (u:Value) {b:Nat} (h:a.block≠b):Z7N W (W.setCell a u) b:=
 ⟨fun k=>World.cell?_setCell_other _ _ _ _ (fun e=>h (congrArg Addr.block e)),fun k=>World.frozen?_setCell ..⟩
theorem Z7N.trans {a b c:World} {x:Nat} (h:Z7N a b x) (k:Z7N b c x):Z7N a c x:=⟨fun j=>(k.1 j).trans (h.1 j),fun j=>(k.2 j).trans (h.2 j)⟩
theorem Z7N.below {a b:World} {x:Nat} (h:Below a.heap.size a b) (c:x < a.heap.size):Z7N a b x:=⟨fun k=>h.cell (p:=⟨x,k,none⟩) c,fun k=>h.frozen (p:=⟨x,k,none⟩) c⟩
structure UpL (v:Value) (w w':World):Prop where
 os:w'.os=w.os
 tape:w'.tape=w.tape
 output:w'.output=w.output
 size:w.heap.size<=w'.heap.size
 block: ∀k,k < w.heap.size->v.ownBlock≠some k->w'.heap[k]? =w.heap[k]?
theorem UpL.refl (v:Value) (w:World):UpL v w w:=⟨rfl,rfl,rfl,Nat.le_refl _,fun _ _ _=>rfl⟩
theorem UpL.same {v:Value} {w w':World} (h:UpL v w w') {b:Nat} (a:b < w.heap.size) (c:v.ownBlock≠some b):Z7N w w' b:=
 ⟨fun k=>World.cell?_of_block (w:=w) (h.block b a c),fun k=>World.frozen?_of_block (w:=w) (h.block b a c)⟩
def Opn (W:World) (v:Value) (L:List Nd):Prop:=W.ownsRow 0 94 1 v L.length (L.map ndP)
theorem Opn.below {W W':World} {v:Value} {L:List Nd} (h:Opn W v L) (a:Below W.heap.size W W'):Opn W' v L:=
 World.ownsRow.kept h (Z2e a (Nat.le_refl _) none) (by
  rcases e:v.ownBlock with _ | x
  {exact Or.inl rfl}
  · exact Or.inr (by simp))
section
variable {W : World}
include W
theorem Opn.set {v:Value} {L:List Nd} (h:Opn W v L) {a:Addr} (b:v.ownBlock≠some a.block) (u:Value):Opn (W.setCell a u) v L:=ZhF h b u
theorem Opn.pop {cap g:Nat} {L:List Nd} {a:Nd} (h:Opn W (.slice (some ⟨g,0,none⟩) (L.length+1) cap) (L++ [a])):Opn W (.slice (some ⟨g,0,none⟩) L.length cap) L:=by
 obtain ⟨j,d⟩:=h;refine ⟨by simp, ?_⟩;rcases d with ⟨d,_⟩ | ⟨e,b,cur,i,hB,hh,f,hc,hcs,c⟩
 {cases d}
 {right;obtain ⟨rfl,rfl⟩:g=e/\cap=b:=by
   injection i with h3 h4 h5;injection h3 with h3;injection h3 with h3;exact ⟨h3,h5⟩
  rw[List.length_append,List.length_singleton] at f c;refine ⟨g,cap,cur,rfl,hB,hh,by omega,hc,hcs, ?_⟩;have:=congrArg (List.take (L.length * 1)) c;rw[List.take_take,Nat.min_eq_left (by omega)] at this;rw[this,List.map_append,List.take_left' (by simp)]}
theorem Opn.last {v:Value} {L:List Nd} {a:Nd} (h:Opn W v (L++ [a])): ∃g cap,v= .slice (some ⟨g,0,none⟩) (L.length+1) cap/\L.length+1<=cap/\W.cell? ⟨g,L.length,none⟩=some (ndP a)/\g < W.heap.size:=by
 have b:W.ownsRow 0 94 1 v (L++ [a]).length ((L++ [a]).map ndP):=h;obtain ⟨l,d⟩:=h;rcases d with ⟨d,i⟩ | ⟨g,cap,f,c,m,o,e,n,j,k⟩
 {rw[List.length_append,List.length_singleton] at i; omega}
 {rw[List.length_append,List.length_singleton] at c e;rw[c,List.length_append,List.length_singleton] at b;refine ⟨g,cap,c,e, ?_,(b.lt g rfl).2⟩;rw[b.cellAt L.length (by omega)];simp}
theorem Opn.empty {v:Value} (h:Opn W v []): ∃A cp,v= .slice A 0 cp:=by
 rcases h.2 with ⟨rfl,_⟩ | ⟨g,cap,a,rfl,_⟩
 {exact ⟨none,0,rfl⟩}
 {exact ⟨some ⟨g,0,none⟩,cap,rfl⟩}
end
structure Rnd7 (w wr:World) (v vr:Value) (pb:Nat) (ps:List Sh) (qs:Nat->Ptr) (L:List Nd) (i:Nat):Prop where
 opn:Opn wr vr (L++(kids pb ps qs).take i)
 row: ∀x,vr.ownBlock=some x->v.ownBlock=some x\/w.heap.size<=x
 ne:vr.ownBlock≠some pb
 up:UpL v w wr
 par:PaR wr pb ps qs
theorem Rnd7.start {w:World} {v:Value} {pb:Nat} {ps:List Sh} {qs:Nat->Ptr} {L:List Nd} (b:Opn w v L) (a:v.ownBlock≠some pb) (c:PaR w pb ps qs):Rnd7 w w v v pb ps qs L 0:=
 ⟨by rw[List.take_zero,List.append_nil]; exact b,fun _ h=>Or.inl h,a,UpL.refl _ _,c⟩
theorem Rnd7.step {w c n:World} {v m:Value} {pb:Nat} {ps:List Sh} {qs:Nat->Ptr} {L:List Nd} {i b cap:Nat} {o:Obj} (h:Rnd7 w c v m pb ps qs L i) (y:i < ps.length) (A:pb < w.heap.size)
 (f: (c.alloc o).grownBy n m.ownBlock)
 (z:n.ownsRow 0 94 1 (.slice (some ⟨b,0,none⟩) (L.length+i+1) cap) (L.length+i+1) ((L++(kids pb ps qs).take i).map ndP++ [.pointer (some ⟨pb,i * 5,none⟩)]))
 (q:m.ownBlock=some b\/b=(c.alloc o).heap.size):Rnd7 w n v (.slice (some ⟨b,0,none⟩) (L.length+i+1) cap) pb ps qs L (i+1):=by
 have d: (c.alloc o).heap.size=c.heap.size+1:=by simp
 have B:=h.up.size;have g:b≠pb/\(v.ownBlock=some b\/w.heap.size<=b):=by
  rcases q with l | l
  {exact ⟨fun e=>h.ne (e▸l),h.row b l⟩}
  {have:=h.par.lt;rw[d] at l;exact ⟨by omega,Or.inr (by omega)⟩}
 have a: ∀k,k < c.heap.size->m.ownBlock≠some k->n.heap[k]? =c.heap[k]? :=fun k r hn=>(f.block k (by rw[d]; omega) (fun e=>hn e.symm)).trans (Below.heap_alloc _ _ _ r);have p:=f.size;rw[d] at p;have s: ((kids pb ps qs).take (i+1))=(kids pb ps qs).take i++ [⟨pb,i,ps[i]'y,qs i⟩]:=by
  rw[Z1v (by rw[Z5N]; exact y),ZaA]
 have j: (L++(kids pb ps qs).take (i+1)).length=L.length+i+1:=by rw[List.length_append,List.length_take,Z5N]; omega
 refine ⟨?_, ?_,fun e=>g.1 (Option.some.inj e),⟨f.os.trans h.up.os,f.tape.trans h.up.tape,f.output.trans h.up.output,by omega, ?_⟩, ?_⟩
 {unfold Opn;rw[j,s, <-List.append_assoc,List.map_append];exact z}
 {intro x C;obtain rfl:b=x:=Option.some.inj C;exact g.2}
 {intro k r t;rw[a k (by omega) (fun e=>by
   rcases h.row k e with u | u
   {exact t u}
   · omega)]
  exact h.up.block k r t}
 {exact h.par.of ⟨fun k=>World.cell?_of_block (w:=c) (a pb h.par.lt h.ne),fun k=>World.frozen?_of_block (w:=c) (a pb h.par.lt h.ne)⟩ (by omega)}
structure Cst (w W:World) (r r1:Nat) (T:Sh) (v:Value) (L:List Nd) (D:List Nat):Prop where
 opn:Opn W v L
 rdy:Ready r T L D W
 lo: ∀b∈D,w.heap.size<=b/\b < W.heap.size/\v.ownBlock≠some b
 nd: ∀n∈L,n.g∈D/\n.g≠r1/\Sh5 W n.g (n.i * 5) n.t n.q/\ShAt W w.heap.size n.q n.t/\ ∀k,W.frozen? ⟨n.g,k,none⟩=false
 ap:L.Pairwise fun n m=>n.g=m.g->n.i≠m.i
 bel:Below w.heap.size w W
 res:r1∉D/\(w.heap.size<=r1/\r1 < W.heap.size/\v.ownBlock≠some r1)/\(∀c,c < 5-> ∃u,W.cell? ⟨r1,c,none⟩=some u)/\ ∀k,W.frozen? ⟨r1,k,none⟩=false
 row: ∀g,v.ownBlock=some g->w.heap.size<=g
 rin:r∈D/\r≠r1
theorem ZiM (pb:Nat) (ps:List Sh) (qs:Nat->Ptr): (kids pb ps qs).Pairwise fun n m=>n.g=m.g->n.i≠m.i:=by
 refine List.pairwise_iff_getElem.2 (fun i j hi hj hij=> ?_);rw[ZaA,ZaA];intro _;show i≠j;omega
theorem Cst.step {w W o j z:World} {r U g cap:Nat} {T:Sh} {L:List Nd} {a:Nd} {D:List Nat} {N P':Option Addr} {Z d' pb:Nat} {qs:Nat->Ptr} {v5:Value}
 (h:Cst w W r U T (.slice (some ⟨g,0,none⟩) (L.length+1) cap) (L++ [a]) D)
 (Q:Below W.heap.size W o) (B:TxC W o a.t.names N Z)
 (K:Below (o.setCell ⟨a.g,a.i * 5+3,none⟩ (.slice N a.t.names.length Z)).heap.size (o.setCell ⟨a.g,a.i * 5+3,none⟩ (.slice N a.t.names.length Z)) j) (hd1:a.t.parts.length<=d') (e7:P'=none->d'=0)
 (hp:a.t.parts.length=0/\z=j.setCell ⟨a.g,a.i * 5+4,none⟩ (.slice P' a.t.parts.length d')/\v5= .slice (some ⟨g,0,none⟩) L.length cap\/
  P'=some ⟨pb,0,none⟩/\o.heap.size<=pb/\(∀i (hi:i < a.t.parts.length),ShAt W w.heap.size (qs i) (a.t.parts[i]'hi))/\Rnd7 (j.setCell ⟨a.g,a.i * 5+4,none⟩ (.slice P' a.t.parts.length d')) z (.slice (some ⟨g,0,none⟩) L.length cap) v5 pb a.t.parts qs L a.t.parts.length):
 ∃D5,Cst w z r U T v5 (L++kids pb a.t.parts qs) D5:=by
 obtain ⟨f1,d8,B⟩:=B;obtain ⟨a2,b9,f0,e9,g4⟩:=h.nd a (by simp);obtain ⟨a4,M,d0⟩:=h.lo a.g a2;have g6:g < W.heap.size:=(World.ownsRow.lt h.opn g rfl).2;have g7:w.heap.size<=g:=h.row g rfl;have P:a.g≠g:=fun e=>d0 (by rw[e]; rfl);obtain ⟨F,s⟩: ∃F,F=o.setCell ⟨a.g,a.i * 5+3,none⟩ (.slice N a.t.names.length Z):=⟨_,rfl⟩;obtain ⟨G,v⟩: ∃G,G=j.setCell ⟨a.g,a.i * 5+4,none⟩ (.slice P' a.t.parts.length d'):=⟨_,rfl⟩;have d9:Opn W (.slice (some ⟨g,0,none⟩) L.length cap) L:=h.opn.pop;rw[<-s] at K;rw[<-v] at hp;have z2:W.heap.size<=o.heap.size:=Q.size;have z3:F.heap.size=o.heap.size:=by rw[s,Zgq]
 have i8:F.heap.size<=j.heap.size:=K.size;have z4:G.heap.size=j.heap.size:=by rw[v,Zgq]
 have z5:G.heap.size<=z.heap.size:=by
  rcases hp with ⟨_,rfl,_⟩ | ⟨_,_,_,E⟩
  {exact Nat.le_refl _}
  {exact E.up.size}
 have e0:Opn G (.slice (some ⟨g,0,none⟩) L.length cap) L:=by
  have e3:Opn F (.slice (some ⟨g,0,none⟩) L.length cap) L:=by
   rw[s]; exact (d9.below Q).set (fun e=>P (Option.some.inj e).symm) _
  rw[v]; exact (e3.below K).set (fun e=>P (Option.some.inj e).symm) _
 -- blocks that nothing turns
 have Y: ∀b,b < G.heap.size->b≠g->Z7N G z b:=fun b d h3=>by
  rcases hp with ⟨_,rfl,_⟩ | ⟨_,_,_,E⟩
  {exact ⟨fun _=>rfl,fun _=>rfl⟩}
  {exact E.up.same d (fun e=>h3 (Option.some.inj e).symm)}
 have V: ∀b,b < W.heap.size->Z7N W o b:=fun b d=>Z7N.below Q d;have X: ∀b,b < F.heap.size->Z7N F j b:=fun b d=>Z7N.below K d;have f8: ∀b,b < o.heap.size->b≠g->b≠a.g->Z7N o z b:=fun b d h3 H=>by
  have e1:Z7N o F b:=by rw[s]; exact Zfr o _ _ (Ne.symm H)
  have e2:=X b (by omega);have e3:Z7N j G b:=by rw[v]; exact Zfr j _ _ (Ne.symm H)
  exact ((e1.trans e2).trans e3).trans (Y b (by omega) h3)
 have S: ∀b,b < W.heap.size->b≠g-> ∀k,¬(a.g=b/\(k=a.i * 5+3\/k=a.i * 5+4))->z.cell? ⟨b,k,none⟩=W.cell? ⟨b,k,none⟩:=fun b d h3 k hk=>by
  have e1:=(V b d).1 k;have e2:F.cell? ⟨b,k,none⟩=o.cell? ⟨b,k,none⟩:=by
   rw[s];exact World.cell?_setCell_other _ _ _ _ (fun e=>hk ⟨congrArg Addr.block e,Or.inl (congrArg Addr.off e).symm⟩)
  have e3:=(X b (by omega)).1 k;have e4:G.cell? ⟨b,k,none⟩=j.cell? ⟨b,k,none⟩:=by
   rw[v];exact World.cell?_setCell_other _ _ _ _ (fun e=>hk ⟨congrArg Addr.block e,Or.inr (congrArg Addr.off e).symm⟩)
  rw[(Y b (by omega) h3).1 k,e4,e3,e2,e1]
 have a7: ∀b,b < W.heap.size->b≠g-> ∀k,z.frozen? ⟨b,k,none⟩=W.frozen? ⟨b,k,none⟩:=fun b d h3 k=>by
  rw[(Y b (by omega) h3).2 k,v,World.frozen?_setCell,(X b (by omega)).2 k,s,World.frozen?_setCell,(V b d).2 k]
 have l: ∀b∈D,b < W.heap.size/\b≠g:=fun b f=>by
  obtain ⟨_,h2,H⟩:=h.lo b f;exact ⟨h2,fun e=>H (by rw[e]; rfl)⟩
 have a3:Below w.heap.size w z:=by
  have b2:Below w.heap.size w o:=h.bel.trans (Q.mono h.bel.size);have b3:Below w.heap.size w F:=by rw[s]; exact b2.setCell a4 _
  have d5:Below w.heap.size w j:=b3.trans (K.mono b3.size);have b4:Below w.heap.size w G:=by rw[v]; exact d5.setCell a4 _
  rcases hp with ⟨_,rfl,_⟩ | ⟨_,_,_,E⟩
  {exact b4}
  {exact b4.trans ⟨E.up.os,E.up.tape,E.up.output,E.up.size,fun k hk=>E.up.block k (by have:=b4.size; omega) (fun e=>by have:g=k:=Option.some.inj e; omega)⟩}
 have f3:ShAt W w.heap.size a.q a.t:=e9;obtain ⟨q0,f7,q2,q3,q4⟩:=f0
 -- the place's own cells
 have e8:Sh5 z a.g (a.i * 5) a.t ⟨N,Z,P',d'⟩:=by
  have C: ∀c,c < 3->z.cell? ⟨a.g,a.i * 5+c,none⟩=W.cell? ⟨a.g,a.i * 5+c,none⟩:=fun c hc=>S a.g M P _ (fun ⟨_,e⟩=>by omega);have e3:F.cell? ⟨a.g,a.i * 5+3,none⟩=some (.slice N a.t.names.length Z):=by
   rw[s];exact World.cell?_setCell_same _ _ _ (((V a.g M).1 _).trans q3)
  have b6:=X a.g (by omega);have b7:=Y a.g (by omega) P;have e5:G.cell? ⟨a.g,a.i * 5+3,none⟩=j.cell? ⟨a.g,a.i * 5+3,none⟩:=by
   rw[v]; exact World.cell?_setCell_other _ _ _ _ (fun e=>by have:=congrArg Addr.off e; simp at this)
  have e4:j.cell? ⟨a.g,a.i * 5+4,none⟩=some (.slice a.q.P a.t.parts.length a.q.d):=by
   refine (b6.1 _).trans ?_;rw[s];exact (World.cell?_setCell_other _ _ _ _ (fun e=>by have:=congrArg Addr.off e; simp at this)).trans (((V a.g M).1 _).trans q4)
  refine ⟨(C 0 (by omega)).trans q0,(C 1 (by omega)).trans f7,(C 2 (by omega)).trans q2,(b7.1 _).trans (e5.trans ((b6.1 _).trans e3)),(b7.1 _).trans ?_⟩;rw[v];exact World.cell?_setCell_same _ _ _ e4
 have f4:Small a.t ⟨N,Z,P',d'⟩:=by
  obtain ⟨i1,i2,i3,i4,i5,_,_,_,_⟩:=f3.small;exact ⟨i1,i2,i3,i4,i5,f1,hd1,d8,e7⟩
 obtain ⟨DN,b8⟩: ∃DN:List Nat,a.t.names.length=0/\DN= []\/ ∃b,N=some ⟨b,0,none⟩/\DN= [b]/\W.heap.size<=b/\b < o.heap.size/\TxR z b a.t.names:=by
  rcases B with h0 | ⟨b,d,h2,h3⟩
  {exact ⟨[],Or.inl ⟨h0,rfl⟩⟩}
  {exact ⟨[b],Or.inr ⟨b,d,rfl,h2,h3.lt,h3.of (f8 b h3.lt (by omega) (by omega)) (by omega)⟩⟩}
 have I: ∀b∈DN,W.heap.size<=b/\b < o.heap.size:=fun b f=>by
  rcases b8 with ⟨_,rfl⟩ | ⟨c,_,rfl,h3,H,_⟩
  {cases f}
  {rw[List.mem_singleton] at f; subst f; exact ⟨h3,H⟩}
 obtain ⟨DP,O⟩: ∃DP:List Nat,a.t.parts.length=0/\DP= []\/P'=some ⟨pb,0,none⟩/\DP= [pb]/\o.heap.size<=pb/\(∀i (hi:i < a.t.parts.length),ShAt W w.heap.size (qs i) (a.t.parts[i]'hi))/\PaR z pb a.t.parts qs:=by
  rcases hp with ⟨h0,_⟩ | ⟨d,h2,h3,H⟩
  {exact ⟨[],Or.inl ⟨h0,rfl⟩⟩}
  {exact ⟨[pb],Or.inr ⟨d,rfl,h2,h3,H.par⟩⟩}
 have J: ∀b∈DP,b=pb/\o.heap.size<=pb/\pb < z.heap.size:=fun b f=>by
  rcases O with ⟨_,rfl⟩ | ⟨_,rfl,h3,_,h5⟩
  {cases f}
  {rw[List.mem_singleton] at f; exact ⟨f,h3,h5.lt⟩}
 have a6:=List.pairwise_append.1 h.ap;have hR:=h.rdy.step (W1:=z) (DN:=DN) (DP:=DP) (q1:=⟨N,Z,P',d'⟩) (pb:=pb) (qs:=qs) (fun b f=>(l b f).1) a2 (fun n B=>(h.nd n (by simp[B])).1) (fun n B=>a6.2.2 n B a (by simp)) (by omega) e8 f4
  (fun b f k hk=>S b (l b f).1 (l b f).2 k hk) (fun b f k=>a7 b (l b f).1 (l b f).2 k)
  (by
   rcases b8 with d | ⟨b,d,h2,h3,_,h5⟩
   {exact Or.inl d}
   · exact Or.inr ⟨b,d,h2,h3,h5⟩)
  (by
   rcases O with d | ⟨d,h2,h3,_,h5⟩
   {exact Or.inl d}
   · exact Or.inr ⟨d,h2,by omega,fun A=>by have:=(I pb A).2; omega,h5⟩)
 -- the row of what is open
 obtain ⟨e6,d1⟩:Opn z v5 (L++kids pb a.t.parts qs)/\ ∀x,v5.ownBlock=some x->x=g\/G.heap.size<=x/\x∉DP:=by
  rcases hp with ⟨h0,rfl,rfl⟩ | ⟨_,h2,_,E⟩
  {have hk:kids pb a.t.parts qs= []:=List.eq_nil_of_length_eq_zero (by rw[Z5N]; exact h0);refine ⟨?_,fun x C=>Or.inl (Option.some.inj (show some g=some x from C)).symm⟩;rw[hk,List.append_nil];exact e0}
  {have ho:=E.opn;rw[List.take_of_length_le (by rw[Z5N]; exact Nat.le_refl _)] at ho;refine ⟨ho,fun x C=> ?_⟩;rcases E.row x C with h3 | h3
   {exact Or.inl (Option.some.inj h3).symm}
   {refine Or.inr ⟨h3,fun A=>E.ne ?_⟩;rw[C,(J x A).1]}}
 have y: ∀b,b≠g->b < F.heap.size\/b∈DP->v5.ownBlock≠some b:=fun b d h2 e=>by
  rcases d1 b e with h3 | ⟨h3,H⟩
  {exact d h3}
  {rcases h2 with h2 | h2
   {omega}
   {exact H h2}}
 refine ⟨D++DN++DP,e6,hR, ?_, ?_, ?_,a3, ?_, ?_, ?_⟩
 {intro b f;have f5:=h.bel.size;rcases List.mem_append.1 f with f | f
  {rcases List.mem_append.1 f with f | f
   {obtain ⟨d,h3⟩:=l b f;exact ⟨(h.lo b f).1,by omega,y b h3 (Or.inl (by omega))⟩}
   {have d:=I b f;exact ⟨by omega,by omega,y b (by omega) (Or.inl (by omega))⟩}}
  {obtain ⟨rfl,h2,h3⟩:=J b f;exact ⟨by omega,h3,y b (by omega) (Or.inr f)⟩}}
 {intro n B;have c0: ∀ {q:Ptr} {t:Sh},ShAt W w.heap.size q t->ShAt z w.heap.size q t:=fun C=>C.of (Nat.le_refl _) (fun x k C=>(a3.cell (p:=⟨x,k,none⟩) C).trans (h.bel.cell (p:=⟨x,k,none⟩) C).symm);rcases List.mem_append.1 B with B | B
  {obtain ⟨i1,i2,i3,i4,i5⟩:=h.nd n (by simp[B]);obtain ⟨j1,j3⟩:=l n.g i1;have f2:=a6.2.2 n B a (by simp);have e: ∀c,c < 5->z.cell? ⟨n.g,n.i * 5+c,none⟩=W.cell? ⟨n.g,n.i * 5+c,none⟩:=fun c hc=>S n.g j1 j3 _ (fun ⟨e1,e2⟩=>by
    have:=f2 e1.symm;omega)
   obtain ⟨t0,t1,t2,t3,t4⟩:=i3;exact ⟨by simp[i1],i2,⟨(e 0 (by omega)).trans t0,(e 1 (by omega)).trans t1,(e 2 (by omega)).trans t2,(e 3 (by omega)).trans t3,(e 4 (by omega)).trans t4⟩,c0 i4,fun k=>(a7 n.g j1 j3 k).trans (i5 k)⟩}
  {obtain ⟨i,hi,rfl⟩:=List.getElem_of_mem B;have c9:i < a.t.parts.length:=by rwa [Z5N] at hi
   rw[ZaA];rcases O with ⟨h0,_⟩ | ⟨_,hd,h3,H,h5⟩
   {omega}
   {refine ⟨by simp[hd], ?_,h5.at_ i c9,c0 (H i c9),h5.fz⟩;have:=h.res.2.1.2.1;show pb≠U;omega}}}
 {refine List.pairwise_append.2 ⟨a6.1,ZiM _ _ _,fun n B m A e=> ?_⟩;have d:=(l n.g (h.nd n (by simp[B])).1).1;have h2:=Zeo A;rcases O with ⟨h0,_⟩ | ⟨_,_,h3,_⟩
  {have:kids pb a.t.parts qs= []:=List.eq_nil_of_length_eq_zero (by rw[Z5N]; exact h0);rw[this] at A; cases A}
  {omega}}
 {obtain ⟨d,⟨j0,j1,j4⟩,h2,h3⟩:=h.res;have j3:U≠g:=fun e=>j4 (by rw[e]; rfl);refine ⟨fun A=> ?_,⟨j0,by omega,y U j3 (Or.inl (by omega))⟩,fun c hc=> ?_,fun k=>(a7 U j1 j3 k).trans (h3 k)⟩
  {rcases List.mem_append.1 A with A | A
   {rcases List.mem_append.1 A with A | A
    {exact d A}
    {have:=I U A; omega}}
   {have:=(J U A); omega}}
  obtain ⟨u,hu⟩:=h2 c hc;exact ⟨u,(S U j1 j3 c (fun ⟨e,_⟩=>b9 e)).trans hu⟩}
 {intro x C;have f5:=h.bel.size;rcases d1 x C with h3 | ⟨h3,_⟩
  {omega}
  {omega}}
 {exact ⟨by simp[h.rin.1],h.rin.2⟩}
end
end Go.Proofs.YtkncdbaoaeeoiaaGreatDoor
