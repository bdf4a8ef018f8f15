/- What the proofs of ExpandDeclares want, part 3. -/
import Derived.WalkSpells
import Derived.Deep.RegionLaw
import Derived.Deep.LoopGhost
import Derived.Laws.EntriesVeiled
import Derived.Test.YtmeiijjpomcgcaaDoorK0n2
set_option linter.unusedVariables false
set_option linter.unusedSimpArgs false
set_option linter.unusedSectionVars false
set_option maxRecDepth 100000
set_option maxHeartbeats 16000000
namespace Go.Proofs.YtmeiijjpomcgcaaDoor
section
open Go.RowKit Shp
theorem Z40: (Tryd.prog.info? 9).map (fun i=>(i.zero,i.size,i.bytes))=some (some (.string ByteArray.empty),1,16):=by kernel_rfl
theorem Z26: (Tryd.prog.info? 25).map (fun i=>(i.zero,i.size,i.bytes))=some (some (.agg #[.int .i64 0,.string ByteArray.empty,.string ByteArray.empty,.slice none 0 0,.slice none 0 0]),5,88):=by kernel_rfl
def Z4e (t:Sh) (q:Ptr):Nat->Value
 | 0=> .int .i64 t.kind
 | 1=> .string ⟨t.of_.toArray⟩
 | 2=> .string ⟨t.name.toArray⟩
 | 3=> .slice q.A t.names.length q.c
 | _=> .slice q.P t.parts.length q.d
def Z67:Sh:=⟨0,[],[],[],[]⟩
def cells7 (ps:List Sh) (qs:Nat->Ptr):List Value:=(List.range (ps.length * 5)).map fun j=>Z4e (ps.getD (j / 5) Z67) (qs (j / 5)) (j % 5)
section
variable (ps : List Sh) (qs : Nat -> Ptr)
include ps qs
theorem Z51: (cells7 ps qs).length=ps.length * 5:=by simp[cells7]
theorem Z5C {i c:Nat} (hi:i < ps.length) (hc:c < 5): (cells7 ps qs)[i * 5+c]? =some (Z4e (ps[i]'hi) (qs i) c):=by
 have h1:i * 5+c < ps.length * 5:=by omega
 have h2: (i * 5+c) / 5=i:=by omega
 have h3: (i * 5+c) % 5=c:=by omega
 simp[cells7,h1,h2,h3,List.getD,List.getElem?_eq_getElem hi]
theorem Z8W: ∀u∈cells7 ps qs,u.oneCell'=true:=by
 intro u hu;obtain ⟨j,_,rfl⟩:=List.mem_map.1 hu;generalize j % 5=c
 match c with
 | 0=>rfl
 | 1=>rfl
 | 2=>rfl
 | 3=>rfl
 | _+4=>rfl
end
section
variable {W : World}
include W
theorem Zae {g o:Nat} {t:Sh} {q:Ptr} (h:Sh5 W g o t q) {c:Nat} (hc:c < 5):W.cell? ⟨g,o+c,none⟩=some (Z4e t q c):=by
 obtain ⟨h0,h1,h2,h3,h4⟩:=h
 match c,hc with
 | 0,_=>exact h0
 | 1,_=>exact h1
 | 2,_=>exact h2
 | 3,_=>exact h3
 | 4,_=>exact h4
theorem Zaf {g o:Nat} {t:Sh} {q:Ptr} (h: ∀c,c < 5->W.cell? ⟨g,o+c,none⟩=some (Z4e t q c)):Sh5 W g o t q:=
 ⟨h 0 (by omega),h 1 (by omega),h 2 (by omega),h 3 (by omega),h 4 (by omega)⟩
theorem Zc0 {B b n cap:Nat} {ps:List Sh} {qs:Nat->Ptr} (h:W.ownsRow B 25 5 (.slice (some ⟨b,0,none⟩) n cap) n (cells7 ps qs)) (hn:n=ps.length):PaR W b ps qs:=by
 subst hn;refine ⟨(h.lt b rfl).2,fun i hi=>Zaf (fun c hc=> ?_),fun k=>h.frozenAt k⟩;rw[h.cellAt _ (by omega),Z5C ps qs hi hc]
theorem Z8p {B b n cap:Nat} {l:List (List UInt8)} (h:W.ownsRow B 9 1 (.slice (some ⟨b,0,none⟩) n cap) n ((strs l).map Value.string)) (hn:n=l.length):TxR W b l:=by
 subst hn;refine ⟨(h.lt b rfl).2,fun i hi=> ?_,fun k=>h.frozenAt k⟩;rw[h.cellAt _ (by omega)];simp[strs,hi]
end
theorem Z2v (b o k:Nat): (⟨b,o,none⟩:Addr).add k=⟨b,o+k,none⟩:=Z0d b o k
theorem Z7J (A:Option Addr) (c:Nat) (l:List (List UInt8)) (w:World) (hA:Strs w w.heap.size A (strs l)) (hl:l.length<=1000000000) (hlc:l.length<=c) (hA0:A=none->c=0):
 Calls Tryd.prog 44 #[.slice A l.length c] w fun e w'=>(∃A' c',e= .returned (.slice A' l.length c')/\l.length<=c'/\(A'=none->c'=0)/\(l.length=0\/ ∃b,A'=some ⟨b,0,none⟩/\w.heap.size<=b/\TxR w' b l))/\Below w.heap.size w w':=by
 obtain ⟨i0,hi,hz0,hz1,hz2⟩:=info_parts (P:=Tryd.prog) (e:=9) (z:= .string ByteArray.empty) (size:=1) (bytes:=16) Z40;have q22: ∀(w:World) (a:Option Addr) (n c n' c':Nat),(binOp .eql 22 (.slice a n c) (.slice none n' c')).run Tryd.prog w= .ok (.bool a.isNone) w:=fun w a n c n' c'=>Lib.run_eql_slice_nil w _ _ a n c n' c' Tryd.underlying22;cases A with
 | none=>
  obtain rfl:=hA0 rfl;have hl0:l= []:=List.eq_nil_of_length_eq_zero (by omega);subst hl0;go_enter Tryd.func44,Tryd.ntmps44;go_wp2;go_ret;exact ⟨⟨none,0,by simp⟩,Below.refl _ _⟩
 | some ad=>
  have HA:=Y1 hA.cell7;clear hA hA0;go_enter Tryd.func44,Tryd.ntmps44
  go_wp2_with (at_builtin; refine Z0I _ rfl _ _ 22 rfl w.heap.size 9 i0 (.string ByteArray.empty) 1 16 Tryd.underlying22 hi hz0 hz1 hz2 rfl (by decide) _ 0 [] rfl (World.ownsRow_made w #[] 0 (Nat.le_refl _) (Nat.zero_le _) rfl) (some ad) l.length c ((strs l).map Value.string) rfl nofun ?qc1 ?qc2 ?qc3 ?qc4 ?qc5 ?qc6 ?_)
  case qc1=>simp[strs]
  case qc2=>
   intro ad' had j u hj;cases had;have hjl:j < l.length:=by
    have:=(List.getElem?_eq_some_iff.1 hj).1;simpa[strs] using this
   rcases HA.out with h0 | ⟨g,off,hgo,hg,hc⟩
   {omega}
   {cases hgo;rw[Z2v];refine ((Z01 w _).cell (p:=⟨g,off+j,none⟩) hg).trans ((hc j hjl).trans ?_);simp[strs,hjl] at hj;rw[<-hj]}
  case qc3=>intro u hu; obtain ⟨x,_,rfl⟩:=List.mem_map.1 hu; rfl
  case qc4=>unfold maxLen; omega
  case qc5=>omega
  case qc6=>simp
  intro v' w' hown hb;have hown2:w'.ownsRow w.heap.size 9 1 v' l.length ((strs l).map Value.string):=by simpa using hown
  have HO:=Y1 hown2;have HB:Hid (Below w.heap.size w w'):=Y1 ((Z01 w (.cells #[] 9)).trans hb);clear hown hown2 hb;go_wp2;go_ret;refine ⟨?_,HB.out⟩;have h:=HO.out;rcases h.2 with ⟨hv,h0⟩ | ⟨g,cap,cur,hv,hBg,hh,hnc,_⟩
  {exact ⟨none,0,by rw[hv,h0]; rfl,by omega,fun _=>rfl,Or.inl h0⟩}
  {rw[hv] at h;exact ⟨some ⟨g,0,none⟩,cap,by rw[hv]; rfl,hnc,nofun,Or.inr ⟨g,rfl,hBg,Z8p h rfl⟩⟩}
theorem Z7K (g off d:Nat) (ps:List Sh) (qs:Nat->Ptr) (w:World) (hg:g < w.heap.size) (hc: ∀i (h:i < ps.length),Sh5 w g (off+i * 5) (ps[i]'h) (qs i)) (hl:ps.length<=1000000000) (hpos:0 < ps.length):
 Calls Tryd.prog 67 #[.slice (some ⟨g,off,none⟩) ps.length d] w fun e w'=>(∃b c',e= .returned (.slice (some ⟨b,0,none⟩) ps.length c')/\ps.length<=c'/\w.heap.size<=b/\PaR w' b ps qs)/\Below w.heap.size w w':=by
 obtain ⟨i0,hi,hz0,hz1,hz2⟩:=info_parts (P:=Tryd.prog) (e:=25) (z:= .agg #[.int .i64 0,.string ByteArray.empty,.string ByteArray.empty,.slice none 0 0,.slice none 0 0]) (size:=5) (bytes:=88) Z26;have q23: ∀(w:World) (a:Option Addr) (n c n' c':Nat),(binOp .eql 23 (.slice a n c) (.slice none n' c')).run Tryd.prog w= .ok (.bool a.isNone) w:=fun w a n c n' c'=>Lib.run_eql_slice_nil w _ _ a n c n' c' Tryd.underlying23;have HC:=Y1 hc;clear hc;go_enter Tryd.func67,Tryd.ntmps67
 go_wp2_with (at_builtin; refine Z0I _ rfl _ _ 23 rfl w.heap.size 25 i0 (.agg #[.int .i64 0,.string ByteArray.empty,.string ByteArray.empty,.slice none 0 0,.slice none 0 0]) 5 88 Tryd.underlying23 hi hz0 hz1 hz2 rfl (by decide) _ 0 [] rfl (World.ownsRow_made w #[] 0 (Nat.le_refl _) (Nat.zero_le _) rfl) (some ⟨g,off,none⟩) ps.length d (cells7 ps qs) rfl nofun ?qc1 ?qc2 ?qc3 ?qc4 ?qc5 ?qc6 ?_)
 case qc1=>rw[Z51]
 case qc2=>
  intro ad' had j u hj;cases had;have hjl:j < ps.length * 5:=by
   have:=(List.getElem?_eq_some_iff.1 hj).1
   rwa [Z51] at this
  obtain ⟨i,c,rfl,hci⟩: ∃i c,j=i * 5+c/\c < 5:=⟨j / 5,j % 5,by omega,by omega⟩;have hil:i < ps.length:=by omega
  rw[Z5C ps qs hil hci] at hj;rw[Z2v, <-Nat.add_assoc];refine ((Z01 w _).cell (p:=⟨g,off+i * 5+c,none⟩) hg).trans ((Zae (HC.out i hil) hci).trans hj)
 case qc3=>exact Z8W ps qs
 case qc4=>unfold maxLen; omega
 case qc5=>omega
 case qc6=>simp
 intro v' w' hown hb;have hown2:w'.ownsRow w.heap.size 25 5 v' ps.length (cells7 ps qs):=by simpa using hown
 have HO:=Y1 hown2;have HB:Hid (Below w.heap.size w w'):=Y1 ((Z01 w (.cells #[] 25)).trans hb);clear hown hown2 hb;go_wp2;go_ret;refine ⟨?_,HB.out⟩;have h:=HO.out;rcases h.2 with ⟨hv,h0⟩ | ⟨b,cap,cur,hv,hBg,hh,hnc,_⟩
 {omega}
 {rw[hv] at h;exact ⟨b,cap,by rw[hv]; rfl,hnc,hBg,Zc0 h rfl⟩}
theorem Z8X (A:Option Addr) (d:Nat) (w:World) (hA0:A=none->d=0):
 Calls Tryd.prog 67 #[.slice A 0 d] w fun e w'=>(∃A' d',e= .returned (.slice A' 0 d')/\(A'=none->d'=0))/\Below w.heap.size w w':=by
 obtain ⟨i0,hi,hz0,hz1,hz2⟩:=info_parts (P:=Tryd.prog) (e:=25) (z:= .agg #[.int .i64 0,.string ByteArray.empty,.string ByteArray.empty,.slice none 0 0,.slice none 0 0]) (size:=5) (bytes:=88) Z26;have q23: ∀(w:World) (a:Option Addr) (n c n' c':Nat),(binOp .eql 23 (.slice a n c) (.slice none n' c')).run Tryd.prog w= .ok (.bool a.isNone) w:=fun w a n c n' c'=>Lib.run_eql_slice_nil w _ _ a n c n' c' Tryd.underlying23;cases A with
 | none=>
  obtain rfl:=hA0 rfl;go_enter Tryd.func67,Tryd.ntmps67;go_wp2;go_ret;exact ⟨⟨none,0,by simp⟩,Below.refl _ _⟩
 | some ad=>
  clear hA0;go_enter Tryd.func67,Tryd.ntmps67
  go_wp2_with (at_builtin; refine Z0I _ rfl _ _ 23 rfl w.heap.size 25 i0 (.agg #[.int .i64 0,.string ByteArray.empty,.string ByteArray.empty,.slice none 0 0,.slice none 0 0]) 5 88 Tryd.underlying23 hi hz0 hz1 hz2 rfl (by decide) _ 0 [] rfl (World.ownsRow_made w #[] 0 (Nat.le_refl _) (Nat.zero_le _) rfl) (some ad) 0 d [] rfl nofun ?qc1 ?qc2 ?qc3 ?qc4 ?qc5 ?qc6 ?_)
  case qc1=>rfl
  case qc2=>
   intro ad' had j u hj;simp at hj
  case qc3=>intro u hu; cases hu
  case qc4=>unfold maxLen; omega
  case qc5=>omega
  case qc6=>simp
  intro v' w' hown hb;have hown2:w'.ownsRow w.heap.size 25 5 v' 0 []:=by simpa using hown
  have HO:=Y1 hown2;have HB:Hid (Below w.heap.size w w'):=Y1 ((Z01 w (.cells #[] 25)).trans hb);clear hown hown2 hb;go_wp2;go_ret;refine ⟨?_,HB.out⟩;rcases HO.out.2 with ⟨hv,h0⟩ | ⟨g,cap,cur,hv,hBg,hh,hnc,_⟩
  {exact ⟨none,0,by rw[hv]; rfl,fun _=>rfl⟩}
  {exact ⟨some ⟨g,0,none⟩,cap,by rw[hv]; rfl,nofun⟩}
structure UpH (cb:Nat) (w w':World):Prop where
 os:w'.os=w.os
 tape:w'.tape=w.tape
 output:w'.output=w.output
 size:w'.heap.size=w.heap.size
 block: ∀k,k≠cb->w'.heap[k]? =w.heap[k]?
theorem UpH.refl (cb:Nat) (w:World):UpH cb w w:=⟨rfl,rfl,rfl,rfl,fun _ _=>rfl⟩
theorem UpH.trans {cb:Nat} {a b c:World} (h:UpH cb a b) (k:UpH cb b c):UpH cb a c:=
 ⟨k.os.trans h.os,k.tape.trans h.tape,k.output.trans h.output,k.size.trans h.size,fun i hn=>(k.block i hn).trans (h.block i hn)⟩
theorem UpH.set {cb:Nat} {a w:World} (h:UpH cb a w) (v:Value):UpH cb a (w.setCell ⟨cb,1,none⟩ v):=
 h.trans ⟨rfl,rfl,rfl,by simp[World.setCell],fun k hn=>Below.heap_setCell _ _ _ _ hn⟩
theorem UpH.cell {cb:Nat} {w w':World} (h:UpH cb w w') {g k:Nat} (hn:g≠cb):w'.cell? ⟨g,k,none⟩=w.cell? ⟨g,k,none⟩:=World.cell?_of_block (w:=w) (h.block g hn)
theorem UpH.frozen {cb:Nat} {w w':World} (h:UpH cb w w') {g k:Nat} (hn:g≠cb):w'.frozen? ⟨g,k,none⟩=w.frozen? ⟨g,k,none⟩:=World.frozen?_of_block (w:=w) (h.block g hn)
theorem UpH.toBelow {cb B:Nat} {w w':World} (h:UpH cb w w') (hB:B<=cb):Below B w w':=⟨h.os,h.tape,h.output,Nat.le_of_eq h.size.symm,fun k hk=>h.block k (by omega)⟩
structure CntH (w:World) (cb p:Nat) (f:Value):Prop where
 lt:cb < w.heap.size
 c0:w.cell? ⟨cb,0,none⟩=some f
 c1:w.cell? ⟨cb,1,none⟩=some (.int .i64 (p:Int))
 f1:w.frozen? ⟨cb,1,none⟩=false
theorem CntH.set {w:World} {cb p:Nat} {f:Value} (h:CntH w cb p f) (n:Nat):CntH (w.setCell ⟨cb,1,none⟩ (.int .i64 (n:Int))) cb n f:=
 ⟨by simpa[World.setCell] using h.lt,by simp[go_sem,h.c0],by simp[go_sem,h.c1],by simp[go_sem,h.f1]⟩
theorem ShAt.uph {w w':World} {B cb:Nat} {q:Ptr} {t:Sh} (h:ShAt w B q t) (hu:UpH cb w w') (h1:B<=cb):ShAt w' B q t:=
 h.of (Nat.le_refl _) (fun g k hg=>hu.cell (by omega))
theorem Z3w (g o:Nat) (w:World):Calls Tryd.prog 41 #[.pointer (some ⟨g,o,none⟩)] w fun e w'=>e= .returned (.pointer (some ⟨g,o+4,none⟩))/\w=w':=by
 go_enter Tryd.func41,Tryd.ntmps41;go_wp2;go_ret;exact ⟨rfl,rfl⟩
theorem Z52 (t:Sh): ∀(q:Ptr) (g o B cb p lv:Nat) (w:World),Sh5 w g o t q->g≠cb->ShAt w B q t->B<=cb->CntH w cb p (.func (.func 41) #[] #[])->p+size t<=1000000->lv+deep t<=60000->
 Calls Tryd.prog 54 #[.pointer (some ⟨cb,0,none⟩),.pointer (some ⟨g,o,none⟩),.int .i64 (lv:Int)] w
  fun e w'=>e= .returned (.bool true)/\UpH cb w w'/\CntH w' cb (p+size t) (.func (.func 41) #[] #[]):=by
 induction t using Sh.ind with
 | h t ih=>
 intro q g o B cb p lv w hs hgc hq hBc hc hpm hlv;have HP:=Y1 hq.part;have HM:=Y1 hq.small.m;have HD:Hid (deep t=deeps t.parts+1):=Y1 (Z0l t);have HZ:Hid (size t=1+sizes t.parts):=Y1 (size_eq t);have HPM:Hid (p+size t<=1000000):=Y1 hpm;have HLV:Hid (lv+deep t<=60000):=Y1 hlv;have hp1: (p:Int)<=1000000:=by omega
 have hg1: ¬(16777216:Int) < (p:Int)+1:=by omega
 have hg2: ¬(65536:Int) < (lv:Int):=by omega
 have hlvi: (lv:Int)<=60000:=by omega
 have e1:decide ((16777216:Int) < (p:Int)+1)=false:=decide_eq_false hg1;have e2:decide ((65536:Int) < (lv:Int))=false:=decide_eq_false hg2;have HS:=Y1 hs;have HC:=Y1 hc;obtain ⟨_,_,_,_,k4⟩:=hs;obtain ⟨_,c0,c1,f1⟩:=hc;have hne2:cb≠g:=Ne.symm hgc;have L1:=fun (W:World)=>Z3w g o W;clear hpm hlv hq;go_enter Tryd.func54,Tryd.ntmps54
 go_wp2_with fail
 obtain ⟨W0,hW0⟩: ∃W0,W0=w.setCell ⟨cb,1,none⟩ (.int .i64 ((p:Int)+1)):=⟨_,rfl⟩;have HU0:Hid (UpH cb w W0):=Y1 (by rw[hW0]; exact (UpH.refl cb w).set _);have HC0:Hid (CntH W0 cb (p+1) (.func (.func 41) #[] #[])):=Y1 (by rw[hW0]; exact HC.out.set (p+1));have k4':W0.cell? ⟨g,o+4,none⟩=some (.slice q.P t.parts.length q.d):=(HU0.out.cell hgc).trans k4;rw[<-hW0];clear hW0 k4 c0 c1 f1 hp1 hg1 hg2 e1 e2;refine (L1 W0).mono ?_;rintro e w1 ⟨rfl,rfl⟩
 go_wp2_with fail
 clear k4'
 go_loopw [35] (fun ii wr=> ∃i:Nat,ii= .int .i64 i/\i<=t.parts.length/\Hid (UpH cb w wr)/\Hid (CntH wr cb (p+1+sizes (t.parts.take i)) (.func (.func 41) #[] #[]))) (fun i _=>t.parts.length - (intOf i).toNat)
 case atStart=>exact ⟨0,rfl,Nat.zero_le _,HU0,by rw[List.take_zero]; exact HC0⟩
 case round=>
  obtain ⟨i,rfl,hi,HUR,HCR⟩:=hrel;have hmm:=HM.out;by_cases hlt:i < t.parts.length
  {rcases HP.out with h0 | ⟨g',off,qs,hqP,hg',hc,hr⟩
   {omega}
   {obtain ⟨x,hx⟩: ∃x,x=t.parts[i]:=⟨_,rfl⟩;have hxs:=hc i hlt;have hxa:=hr i hlt;have ihx:=ih t.parts[i] (List.getElem_mem _) (qs i) g' (off+i * 5) B cb (p+1+sizes (t.parts.take i)) (lv+1) wr;rw[<-hx] at ihx hxs hxa;have HN:Hid (sizes (t.parts.take (i+1))=sizes (t.parts.take i)+size x):=Y1 (by rw[hx]; exact Z1L hlt);have hdx:deep x<=deeps t.parts:=by rw[hx]; exact Z0z (List.getElem_mem _)
    have IH:=ihx (hxs.of (fun k=>HUR.out.cell (by omega))) (by omega) (hxa.uph HUR.out hBc) hBc HCR.out (by
     have:=Z3l t.parts (i+1);have:=HN.out;have:=HPM.out;have:=HZ.out;omega) (by have:=HD.out; have:=HLV.out; omega)
    have hi1: (i:Int) < (t.parts.length:Int):=by omega
    rw[show (((lv+1:Nat)):Int)=(lv:Int)+1 from by omega] at IH;clear hxs hxa ihx hc hr hx hdx ih;rw[hqP];clear hqP
    go_wp2_with fail
    refine IH.mono ?_;rintro e w2 ⟨rfl,hu2,hc2⟩;have HU2:Hid (UpH cb w w2):=Y1 (HUR.out.trans hu2);have HC2:Hid (CntH w2 cb (p+1+sizes (t.parts.take (i+1))) (.func (.func 41) #[] #[])):=Y1 (by rw[HN.out, <-Nat.add_assoc]; exact hc2);clear hu2 hc2 IH;go_wp2
    go_roundw
    case rel=>exact ⟨i+1,by go_num,by omega,HU2,HC2⟩
    case measure=>simp[intOf]; omega}}
  {have HG:Hid (p+size t=p+1+sizes (t.parts.take i)):=Y1 (by rw[HZ.out,show i=t.parts.length from by omega,List.take_length]; omega);have hi1: ¬(i:Int) < (t.parts.length:Int):=by omega
   go_wp2;go_ret;exact ⟨rfl,HUR.out,by rw[HG.out]; exact HCR.out⟩}
theorem Z1G (W:World) (a:Addr) (u:Value): (W.setCell a u).heap.size=W.heap.size:=by simp[World.setCell]
theorem Z5D: (Tryd.prog.info? 71).map (fun i=>(i.zero,i.size,i.bytes))=some (some (.pointer none),1,8):=by kernel_rfl
theorem ZcB (a:Option Addr) (n:Int) (W:World): (Instr.lookup 93 (.map none) (.agg #[.pointer a,.int .i64 n]) true).run Tryd.prog W= .ok (.tuple #[.slice none 0 0,.bool false]) W:=by kernel_rfl
def TxC (w W:World) (l:List (List UInt8)) (A':Option Addr) (c':Nat):Prop:=l.length<=c'/\(A'=none->c'=0)/\(l.length=0\/ ∃b,A'=some ⟨b,0,none⟩/\w.heap.size<=b/\TxR W b l)
theorem Zag (g o:Nat) (A:Option Addr) (c:Nat) (l:List (List UInt8)) (w:World) (hg:g < w.heap.size) (k3:w.cell? ⟨g,o+3,none⟩=some (.slice A l.length c)) (f3:w.frozen? ⟨g,o+3,none⟩=false) (hA:Strs w w.heap.size A (strs l)) (hl:l.length<=1000000000) (hlc:l.length<=c) (hA0:A=none->c=0):
 Calls Tryd.prog 43 #[.pointer (some ⟨g,o,none⟩)] w fun e w'=>e= .returned (.tuple #[])/\ ∃A' c' W2,Below w.heap.size w W2/\TxC w W2 l A' c'/\w'=W2.setCell ⟨g,o+3,none⟩ (.slice A' l.length c'):=by
 have HC:=Y1 (Z7J A c l w hA hl hlc hA0);clear hA hl hlc hA0;go_enter Tryd.func43,Tryd.ntmps43
 go_wp2_with fail
 refine HC.out.mono ?_;rintro e W2 ⟨⟨A',c',rfl,h1,h2,h3⟩,hb⟩;have x3:=(hb.cell (p:=⟨g,o+3,none⟩) hg).trans k3;have y3:=(hb.frozen (p:=⟨g,o+3,none⟩) hg).trans f3;have HB:=Y1 hb;have HT:Hid (TxC w W2 l A' c'):=Y1 ⟨h1,h2,h3⟩;clear hb h1 h2 h3 k3 f3 HC;go_wp2;refine bodyPost_end (v:= .tuple #[]) (by simp[results,Tryd.results43,go_sem]) rfl ?_;exact ⟨rfl,A',c',W2,HB.out,HT.out,rfl⟩
theorem Z53 (g o:Nat) (P:Option Addr) (d:Nat) (w:World) (hg:g < w.heap.size) (k4:w.cell? ⟨g,o,none⟩=some (.slice P 0 d)) (f4:w.frozen? ⟨g,o,none⟩=false) (hP0:P=none->d=0):
 Calls Tryd.prog 55 #[.pointer (some ⟨g,o,none⟩),.map none] w fun e w'=>e= .returned (.bool false)/\ ∃P' d' W2,Below w.heap.size w W2/\(P'=none->d'=0)/\w'=W2.setCell ⟨g,o,none⟩ (.slice P' 0 d'):=by
 have HC:=Y1 (Z8X P d w hP0);clear hP0;go_enter Tryd.func55,Tryd.ntmps55
 go_wp2_with fail
 refine HC.out.mono ?_;rintro e W2 ⟨⟨P',d',rfl,h2⟩,hb⟩;have x4:=(hb.cell (p:=⟨g,o,none⟩) hg).trans k4;have y4:=(hb.frozen (p:=⟨g,o,none⟩) hg).trans f4;have HB:=Y1 hb;have HT:=Y1 h2;clear hb h2 k4 f4 HC;go_wp2;go_ret;exact ⟨rfl,P',d',W2,HB.out,HT.out,rfl⟩
theorem Z54 (g o g' off d:Nat) (ps:List Sh) (qs:Nat->Ptr) (w:World) (hg:g < w.heap.size) (k4:w.cell? ⟨g,o,none⟩=some (.slice (some ⟨g',off,none⟩) ps.length d)) (f4:w.frozen? ⟨g,o,none⟩=false)
 (hg':g' < w.heap.size) (hc: ∀i (h:i < ps.length),Sh5 w g' (off+i * 5) (ps[i]'h) (qs i)) (hl:ps.length<=1000000000) (hpos:0 < ps.length):
 Calls Tryd.prog 55 #[.pointer (some ⟨g,o,none⟩),.map none] w fun e w'=>e= .returned (.bool true)/\ ∃b d' W2,Below w.heap.size w W2/\ps.length<=d'/\w.heap.size<=b/\PaR W2 b ps qs/\w'=W2.setCell ⟨g,o,none⟩ (.slice (some ⟨b,0,none⟩) ps.length d'):=by
 have HC:=Y1 (fun (W:World) (hb:Below w.heap.size w W)=>Z7K g' off d ps qs W (Nat.lt_of_lt_of_le hg' hb.size) (fun i hi=>(hc i hi).keep hg' hb) hl hpos);have hl0: ((ps.length:Int)==0)=false:=by rw[beq_eq_false_iff_ne]; omega
 have hi0: (0:Int) < (ps.length:Int):=by omega
 have q48: ∀(w:World) (r:Option Nat),(binOp .neq 93 (.map r) (.map none)).run Tryd.prog w= .ok (.bool (!r.isNone)) w:=fun w r=>run_neq_map_nil w _ _ _ r Tryd.underlying93;have hlk:=ZcB (some ⟨g',off,none⟩) (ps.length:Int);clear hc;go_enter Tryd.func55,Tryd.ntmps55
 go_wp2_with fail
 go_region
 obtain ⟨W1,hW1⟩: ∃W1,W1=(w.alloc (.cells #[.pointer (some ⟨g',off,none⟩),.int .i64 (ps.length:Int)] 112)).drew:=⟨_,rfl⟩;have hb1:Below w.heap.size w W1:=by rw[hW1]; exact (Z01 _ _).drew
 have p0:W1.cell? ⟨w.heap.size,0,none⟩=some (.pointer (some ⟨g',off,none⟩)):=by rw[hW1]; simp[go_sem]
 have p1:W1.cell? ⟨w.heap.size,1,none⟩=some (.int .i64 (ps.length:Int)):=by rw[hW1]; simp[go_sem]
 have x4:=(hb1.cell (p:=⟨g,o,none⟩) hg).trans k4;have y4:=(hb1.frozen (p:=⟨g,o,none⟩) hg).trans f4;have hz1:w.heap.size < W1.heap.size:=by rw[hW1]; simp
 have hgz:g < W1.heap.size:=Nat.lt_trans hg hz1;have hcl:=HC.out W1 hb1;rw[<-hW1];have HB1:=Y1 hb1;have HCL:=Y1 hcl;have HHL:=Y1 hl;clear hW1 hb1 hcl k4 f4 HC hl
 go_wp2_with fail
 refine HCL.out.mono ?_;rintro e W2 ⟨⟨b,d',rfl,h1,h2,h3⟩,hb2⟩;have x5:=(hb2.cell (p:=⟨g,o,none⟩) hgz).trans x4;have y5:=(hb2.frozen (p:=⟨g,o,none⟩) hgz).trans y4;have HB2:=Y1 (Z03 HB1.out hb2);have HT:=Y1 h3;have HL:=Y1 h1;have HBB:=Y1 (show w.heap.size<=b from by omega);clear hb2 h1 h2 h3 x4 y4 p0 p1 HCL hgz hz1;go_wp2;go_ret;exact ⟨rfl,b,d',W2,HB2.out,HL.out,HBB.out,HT.out,rfl⟩
def sumL (L:List Nd):Nat:=(L.map fun n=>size n.t).sum
theorem Z0m (L M:List Nd):sumL (L++M)=sumL L+sumL M:=by simp[sumL]
theorem Z2F (pb:Nat) (ps:List Sh) (qs:Nat->Ptr):sumL (kids pb ps qs)=sizes ps:=by
 unfold sumL kids;have: ∀(l:List Sh) (f:Nat->Sh->Nd),(∀i p,(f i p).t=p)->((l.mapIdx f).map fun n=>size n.t).sum=sizes l:=by
  intro l;induction l with
  | nil=>intro f _; rfl
  | cons p l ih=>
   intro f hf;rw[List.mapIdx_cons];simp only[List.map_cons,List.sum_cons,hf];rw[ih (fun i=>f (i+1)) (fun i p=>hf (i+1) p)]; rfl
 exact this ps _ (fun _ _=>rfl)
theorem Z6C (L:List Nd):L.length<=sumL L:=by
 induction L with
 | nil=>simp
 | cons n L ih=>have:=Z1V n.t; simp[sumL] at ih ⊢; omega
def ndP (n:Nd):Value:= .pointer (some ⟨n.g,n.i * 5,none⟩)
theorem Z20 {W:World} {B:Nat} {e:TypeId} {size:Nat} {v:Value} {n:Nat} {xs:List Value} (h:W.ownsRow B e size v n xs) {a:Addr} (hne:v.ownBlock≠some a.block) (u:Value): (W.setCell a u).ownsRow B e size v n xs:=
 h.kept (row:=some a.block) ⟨rfl,rfl,rfl,by simp[World.setCell],fun k hk hn=>Below.heap_setCell _ _ _ _ (fun e=>hn (by rw[e]))⟩ (Or.inr hne)
theorem Z0i (W:World) (a:Addr) (u:Value) {b:Nat} (h:a.block≠b):Z0y W (W.setCell a u) b:=
 ⟨fun k=>World.cell?_setCell_other _ _ _ _ (fun e=>h (congrArg Addr.block e)),fun k=>World.frozen?_setCell ..⟩
theorem Z0y.trans {a b c:World} {x:Nat} (h:Z0y a b x) (k:Z0y b c x):Z0y a c x:=⟨fun j=>(k.1 j).trans (h.1 j),fun j=>(k.2 j).trans (h.2 j)⟩
theorem Z0y.below {a b:World} {x:Nat} (h:Below a.heap.size a b) (hx:x < a.heap.size):Z0y a b x:=⟨fun k=>h.cell (p:=⟨x,k,none⟩) hx,fun k=>h.frozen (p:=⟨x,k,none⟩) hx⟩
structure UpL (v:Value) (w w':World):Prop where
 os:w'.os=w.os
 tape:w'.tape=w.tape
 output:w'.output=w.output
 size:w.heap.size<=w'.heap.size
 block: ∀k,k < w.heap.size->v.ownBlock≠some k->w'.heap[k]? =w.heap[k]?
theorem UpL.refl (v:Value) (w:World):UpL v w w:=⟨rfl,rfl,rfl,Nat.le_refl _,fun _ _ _=>rfl⟩
theorem UpL.same {v:Value} {w w':World} (h:UpL v w w') {b:Nat} (h1:b < w.heap.size) (h3:v.ownBlock≠some b):Z0y w w' b:=
 ⟨fun k=>World.cell?_of_block (w:=w) (h.block b h1 h3),fun k=>World.frozen?_of_block (w:=w) (h.block b h1 h3)⟩
def Opn (W:World) (v:Value) (L:List Nd):Prop:=W.ownsRow 0 71 1 v L.length (L.map ndP)
theorem Opn.below {W W':World} {v:Value} {L:List Nd} (h:Opn W v L) (hb:Below W.heap.size W W'):Opn W' v L:=
 World.ownsRow.kept h (Z36 hb (Nat.le_refl _) none) (by
  rcases e:v.ownBlock with _ | x
  {exact Or.inl rfl}
  · exact Or.inr (by simp))
section
variable {W : World}
include W
theorem Opn.set {v:Value} {L:List Nd} (h:Opn W v L) {a:Addr} (h2:v.ownBlock≠some a.block) (u:Value):Opn (W.setCell a u) v L:=Z20 h h2 u
theorem Opn.pop {cap g:Nat} {L:List Nd} {a:Nd} (h:Opn W (.slice (some ⟨g,0,none⟩) (L.length+1) cap) (L++ [a])):Opn W (.slice (some ⟨g,0,none⟩) L.length cap) L:=by
 obtain ⟨h1,h2⟩:=h;refine ⟨by simp, ?_⟩;rcases h2 with ⟨h2,_⟩ | ⟨g',cap',cur,hv,hB,hh,hn,hc,hcs,htk⟩
 {cases h2}
 {right;obtain ⟨rfl,rfl⟩:g=g'/\cap=cap':=by
   injection hv with h3 h4 h5;injection h3 with h3;injection h3 with h3;exact ⟨h3,h5⟩
  rw[List.length_append,List.length_singleton] at hn htk;refine ⟨g,cap,cur,rfl,hB,hh,by omega,hc,hcs, ?_⟩;have:=congrArg (List.take (L.length * 1)) htk;rw[List.take_take,Nat.min_eq_left (by omega)] at this;rw[this,List.map_append,List.take_left' (by simp)]}
theorem Opn.last {v:Value} {L:List Nd} {a:Nd} (h:Opn W v (L++ [a])): ∃g cap,v= .slice (some ⟨g,0,none⟩) (L.length+1) cap/\L.length+1<=cap/\W.cell? ⟨g,L.length,none⟩=some (ndP a)/\g < W.heap.size:=by
 have ho:W.ownsRow 0 71 1 v (L++ [a]).length ((L++ [a]).map ndP):=h;obtain ⟨h1,h2⟩:=h;rcases h2 with ⟨h2,h3⟩ | ⟨g,cap,cur,hv,hB,hh,hn,hc,hcs,htk⟩
 {rw[List.length_append,List.length_singleton] at h3; omega}
 {rw[List.length_append,List.length_singleton] at hv hn;rw[hv,List.length_append,List.length_singleton] at ho;refine ⟨g,cap,hv,hn, ?_,(ho.lt g rfl).2⟩;rw[ho.cellAt L.length (by omega)];simp}
theorem Opn.empty {v:Value} (h:Opn W v []): ∃A cp,v= .slice A 0 cp:=by
 rcases h.2 with ⟨rfl,_⟩ | ⟨g,cap,cur,rfl,_⟩
 {exact ⟨none,0,rfl⟩}
 {exact ⟨some ⟨g,0,none⟩,cap,rfl⟩}
end
structure Rnd7 (w wr:World) (v vr:Value) (pb:Nat) (ps:List Sh) (qs:Nat->Ptr) (L:List Nd) (i:Nat):Prop where
 opn:Opn wr vr (L++(kids pb ps qs).take i)
 row: ∀x,vr.ownBlock=some x->v.ownBlock=some x\/w.heap.size<=x
 ne:vr.ownBlock≠some pb
 up:UpL v w wr
 par:PaR wr pb ps qs
theorem Rnd7.start {w:World} {v:Value} {pb:Nat} {ps:List Sh} {qs:Nat->Ptr} {L:List Nd} (ho:Opn w v L) (hne:v.ownBlock≠some pb) (hp:PaR w pb ps qs):Rnd7 w w v v pb ps qs L 0:=
 ⟨by rw[List.take_zero,List.append_nil]; exact ho,fun _ h=>Or.inl h,hne,UpL.refl _ _,hp⟩
theorem Rnd7.step {w wr w2:World} {v vr:Value} {pb:Nat} {ps:List Sh} {qs:Nat->Ptr} {L:List Nd} {i g1 cap:Nat} {o:Obj} (h:Rnd7 w wr v vr pb ps qs L i) (hi:i < ps.length) (hpw:pb < w.heap.size)
 (hG: (wr.alloc o).grownBy w2 vr.ownBlock)
 (hW:w2.ownsRow 0 71 1 (.slice (some ⟨g1,0,none⟩) (L.length+i+1) cap) (L.length+i+1) ((L++(kids pb ps qs).take i).map ndP++ [.pointer (some ⟨pb,i * 5,none⟩)]))
 (hat:vr.ownBlock=some g1\/g1=(wr.alloc o).heap.size):Rnd7 w w2 v (.slice (some ⟨g1,0,none⟩) (L.length+i+1) cap) pb ps qs L (i+1):=by
 have hsz: (wr.alloc o).heap.size=wr.heap.size+1:=by simp
 have hws:=h.up.size;have hg1:g1≠pb/\(v.ownBlock=some g1\/w.heap.size<=g1):=by
  rcases hat with h1 | h1
  {exact ⟨fun e=>h.ne (e▸h1),h.row g1 h1⟩}
  {have:=h.par.lt;rw[hsz] at h1;exact ⟨by omega,Or.inr (by omega)⟩}
 have hblk: ∀k,k < wr.heap.size->vr.ownBlock≠some k->w2.heap[k]? =wr.heap[k]? :=fun k hk hn=>(hG.block k (by rw[hsz]; omega) (fun e=>hn e.symm)).trans (Below.heap_alloc _ _ _ hk);have h2s:=hG.size;rw[hsz] at h2s;have hk1: ((kids pb ps qs).take (i+1))=(kids pb ps qs).take i++ [⟨pb,i,ps[i]'hi,qs i⟩]:=by
  rw[Z1C (by rw[Z0M]; exact hi),Z1F]
 have hlen: (L++(kids pb ps qs).take (i+1)).length=L.length+i+1:=by rw[List.length_append,List.length_take,Z0M]; omega
 refine ⟨?_, ?_,fun e=>hg1.1 (Option.some.inj e),⟨hG.os.trans h.up.os,hG.tape.trans h.up.tape,hG.output.trans h.up.output,by omega, ?_⟩, ?_⟩
 {unfold Opn;rw[hlen,hk1, <-List.append_assoc,List.map_append];exact hW}
 {intro x hx;obtain rfl:g1=x:=Option.some.inj hx;exact hg1.2}
 {intro k hk h2;rw[hblk k (by omega) (fun e=>by
   rcases h.row k e with h3 | h3
   {exact h2 h3}
   · omega)]
  exact h.up.block k hk h2}
 {exact h.par.of ⟨fun k=>World.cell?_of_block (w:=wr) (hblk pb h.par.lt h.ne),fun k=>World.frozen?_of_block (w:=wr) (hblk pb h.par.lt h.ne)⟩ (by omega)}
structure Cst (w W:World) (r r1:Nat) (T:Sh) (v:Value) (L:List Nd) (D:List Nat):Prop where
 opn:Opn W v L
 rdy:Ready r T L D W
 lo: ∀b∈D,w.heap.size<=b/\b < W.heap.size/\v.ownBlock≠some b
 nd: ∀n∈L,n.g∈D/\n.g≠r1/\Sh5 W n.g (n.i * 5) n.t n.q/\ShAt W w.heap.size n.q n.t/\ ∀k,W.frozen? ⟨n.g,k,none⟩=false
 ap:L.Pairwise fun n m=>n.g=m.g->n.i≠m.i
 bel:Below w.heap.size w W
 res:r1∉D/\(w.heap.size<=r1/\r1 < W.heap.size/\v.ownBlock≠some r1)/\(∀c,c < 5-> ∃u,W.cell? ⟨r1,c,none⟩=some u)/\ ∀k,W.frozen? ⟨r1,k,none⟩=false
 row: ∀g,v.ownBlock=some g->w.heap.size<=g
 rin:r∈D/\r≠r1
theorem Zah (pb:Nat) (ps:List Sh) (qs:Nat->Ptr): (kids pb ps qs).Pairwise fun n m=>n.g=m.g->n.i≠m.i:=by
 refine List.pairwise_iff_getElem.2 (fun i j hi hj hij=> ?_);rw[Z1F,Z1F];intro _;show i≠j;omega
theorem Cst.step {w W W2 W3' W5:World} {r r1 g cap:Nat} {T:Sh} {L:List Nd} {a:Nd} {D:List Nat} {A' P':Option Addr} {c' d' pb:Nat} {qs:Nat->Ptr} {v5:Value}
 (h:Cst w W r r1 T (.slice (some ⟨g,0,none⟩) (L.length+1) cap) (L++ [a]) D)
 (hb2:Below W.heap.size W W2) (hn:TxC W W2 a.t.names A' c')
 (hb3:Below (W2.setCell ⟨a.g,a.i * 5+3,none⟩ (.slice A' a.t.names.length c')).heap.size (W2.setCell ⟨a.g,a.i * 5+3,none⟩ (.slice A' a.t.names.length c')) W3') (hd1:a.t.parts.length<=d') (hP0:P'=none->d'=0)
 (hp:a.t.parts.length=0/\W5=W3'.setCell ⟨a.g,a.i * 5+4,none⟩ (.slice P' a.t.parts.length d')/\v5= .slice (some ⟨g,0,none⟩) L.length cap\/
  P'=some ⟨pb,0,none⟩/\W2.heap.size<=pb/\(∀i (hi:i < a.t.parts.length),ShAt W w.heap.size (qs i) (a.t.parts[i]'hi))/\Rnd7 (W3'.setCell ⟨a.g,a.i * 5+4,none⟩ (.slice P' a.t.parts.length d')) W5 (.slice (some ⟨g,0,none⟩) L.length cap) v5 pb a.t.parts qs L a.t.parts.length):
 ∃D5,Cst w W5 r r1 T v5 (L++kids pb a.t.parts qs) D5:=by
 obtain ⟨hc1,hA0,hn⟩:=hn;obtain ⟨hagD,har1,haS,haA,haF⟩:=h.nd a (by simp);obtain ⟨hlo1,hlo2,hlo4⟩:=h.lo a.g hagD;have hgW:g < W.heap.size:=(World.ownsRow.lt h.opn g rfl).2;have hgw:w.heap.size<=g:=h.row g rfl;have hag:a.g≠g:=fun e=>hlo4 (by rw[e]; rfl);obtain ⟨W3,hW3⟩: ∃W3,W3=W2.setCell ⟨a.g,a.i * 5+3,none⟩ (.slice A' a.t.names.length c'):=⟨_,rfl⟩;obtain ⟨W4,hW4⟩: ∃W4,W4=W3'.setCell ⟨a.g,a.i * 5+4,none⟩ (.slice P' a.t.parts.length d'):=⟨_,rfl⟩;have hO1:Opn W (.slice (some ⟨g,0,none⟩) L.length cap) L:=h.opn.pop;rw[<-hW3] at hb3;rw[<-hW4] at hp;have z2:W.heap.size<=W2.heap.size:=hb2.size;have z3:W3.heap.size=W2.heap.size:=by rw[hW3,Z1G]
 have z3':W3.heap.size<=W3'.heap.size:=hb3.size;have z4:W4.heap.size=W3'.heap.size:=by rw[hW4,Z1G]
 have z5:W4.heap.size<=W5.heap.size:=by
  rcases hp with ⟨_,rfl,_⟩ | ⟨_,_,_,hr⟩
  {exact Nat.le_refl _}
  {exact hr.up.size}
 have hO4:Opn W4 (.slice (some ⟨g,0,none⟩) L.length cap) L:=by
  have e3:Opn W3 (.slice (some ⟨g,0,none⟩) L.length cap) L:=by
   rw[hW3]; exact (hO1.below hb2).set (fun e=>hag (Option.some.inj e).symm) _
  rw[hW4]; exact (e3.below hb3).set (fun e=>hag (Option.some.inj e).symm) _
 -- blocks that nothing turns
 have s45: ∀b,b < W4.heap.size->b≠g->Z0y W4 W5 b:=fun b h1 h3=>by
  rcases hp with ⟨_,rfl,_⟩ | ⟨_,_,_,hr⟩
  {exact ⟨fun _=>rfl,fun _=>rfl⟩}
  {exact hr.up.same h1 (fun e=>h3 (Option.some.inj e).symm)}
 have s12: ∀b,b < W.heap.size->Z0y W W2 b:=fun b h1=>Z0y.below hb2 h1;have s33: ∀b,b < W3.heap.size->Z0y W3 W3' b:=fun b h1=>Z0y.below hb3 h1;have s25: ∀b,b < W2.heap.size->b≠g->b≠a.g->Z0y W2 W5 b:=fun b h1 h3 h4=>by
  have e1:Z0y W2 W3 b:=by rw[hW3]; exact Z0i W2 _ _ (Ne.symm h4)
  have e2:=s33 b (by omega);have e3:Z0y W3' W4 b:=by rw[hW4]; exact Z0i W3' _ _ (Ne.symm h4)
  exact ((e1.trans e2).trans e3).trans (s45 b (by omega) h3)
 have hcl: ∀b,b < W.heap.size->b≠g-> ∀k,¬(a.g=b/\(k=a.i * 5+3\/k=a.i * 5+4))->W5.cell? ⟨b,k,none⟩=W.cell? ⟨b,k,none⟩:=fun b h1 h3 k hk=>by
  have e1:=(s12 b h1).1 k;have e2:W3.cell? ⟨b,k,none⟩=W2.cell? ⟨b,k,none⟩:=by
   rw[hW3];exact World.cell?_setCell_other _ _ _ _ (fun e=>hk ⟨congrArg Addr.block e,Or.inl (congrArg Addr.off e).symm⟩)
  have e3:=(s33 b (by omega)).1 k;have e4:W4.cell? ⟨b,k,none⟩=W3'.cell? ⟨b,k,none⟩:=by
   rw[hW4];exact World.cell?_setCell_other _ _ _ _ (fun e=>hk ⟨congrArg Addr.block e,Or.inr (congrArg Addr.off e).symm⟩)
  rw[(s45 b (by omega) h3).1 k,e4,e3,e2,e1]
 have hfz: ∀b,b < W.heap.size->b≠g-> ∀k,W5.frozen? ⟨b,k,none⟩=W.frozen? ⟨b,k,none⟩:=fun b h1 h3 k=>by
  rw[(s45 b (by omega) h3).2 k,hW4,World.frozen?_setCell,(s33 b (by omega)).2 k,hW3,World.frozen?_setCell,(s12 b h1).2 k]
 have hDlo: ∀b∈D,b < W.heap.size/\b≠g:=fun b hb=>by
  obtain ⟨_,h2,h4⟩:=h.lo b hb;exact ⟨h2,fun e=>h4 (by rw[e]; rfl)⟩
 have hbel:Below w.heap.size w W5:=by
  have b2:Below w.heap.size w W2:=h.bel.trans (hb2.mono h.bel.size);have b3:Below w.heap.size w W3:=by rw[hW3]; exact b2.setCell hlo1 _
  have b3':Below w.heap.size w W3':=b3.trans (hb3.mono b3.size);have b4:Below w.heap.size w W4:=by rw[hW4]; exact b3'.setCell hlo1 _
  rcases hp with ⟨_,rfl,_⟩ | ⟨_,_,_,hr⟩
  {exact b4}
  {exact b4.trans ⟨hr.up.os,hr.up.tape,hr.up.output,hr.up.size,fun k hk=>hr.up.block k (by have:=b4.size; omega) (fun e=>by have:g=k:=Option.some.inj e; omega)⟩}
 have hqs:ShAt W w.heap.size a.q a.t:=haA;obtain ⟨q0,q1',q2,q3,q4⟩:=haS
 -- the place's own cells
 have hSa:Sh5 W5 a.g (a.i * 5) a.t ⟨A',c',P',d'⟩:=by
  have hx: ∀c,c < 3->W5.cell? ⟨a.g,a.i * 5+c,none⟩=W.cell? ⟨a.g,a.i * 5+c,none⟩:=fun c hc=>hcl a.g hlo2 hag _ (fun ⟨_,e⟩=>by omega);have e3:W3.cell? ⟨a.g,a.i * 5+3,none⟩=some (.slice A' a.t.names.length c'):=by
   rw[hW3];exact World.cell?_setCell_same _ _ _ (((s12 a.g hlo2).1 _).trans q3)
  have e33:=s33 a.g (by omega);have e45:=s45 a.g (by omega) hag;have e5:W4.cell? ⟨a.g,a.i * 5+3,none⟩=W3'.cell? ⟨a.g,a.i * 5+3,none⟩:=by
   rw[hW4]; exact World.cell?_setCell_other _ _ _ _ (fun e=>by have:=congrArg Addr.off e; simp at this)
  have e4:W3'.cell? ⟨a.g,a.i * 5+4,none⟩=some (.slice a.q.P a.t.parts.length a.q.d):=by
   refine (e33.1 _).trans ?_;rw[hW3];exact (World.cell?_setCell_other _ _ _ _ (fun e=>by have:=congrArg Addr.off e; simp at this)).trans (((s12 a.g hlo2).1 _).trans q4)
  refine ⟨(hx 0 (by omega)).trans q0,(hx 1 (by omega)).trans q1',(hx 2 (by omega)).trans q2,(e45.1 _).trans (e5.trans ((e33.1 _).trans e3)),(e45.1 _).trans ?_⟩;rw[hW4];exact World.cell?_setCell_same _ _ _ e4
 have hsm:Small a.t ⟨A',c',P',d'⟩:=by
  obtain ⟨i1,i2,i3,i4,i5,_,_,_,_⟩:=hqs.small;exact ⟨i1,i2,i3,i4,i5,hc1,hd1,hA0,hP0⟩
 obtain ⟨DN,hDN⟩: ∃DN:List Nat,a.t.names.length=0/\DN= []\/ ∃b,A'=some ⟨b,0,none⟩/\DN= [b]/\W.heap.size<=b/\b < W2.heap.size/\TxR W5 b a.t.names:=by
  rcases hn with h0 | ⟨b,h1,h2,h3⟩
  {exact ⟨[],Or.inl ⟨h0,rfl⟩⟩}
  {exact ⟨[b],Or.inr ⟨b,h1,rfl,h2,h3.lt,h3.of (s25 b h3.lt (by omega) (by omega)) (by omega)⟩⟩}
 have hDNb: ∀b∈DN,W.heap.size<=b/\b < W2.heap.size:=fun b hb=>by
  rcases hDN with ⟨_,rfl⟩ | ⟨c,_,rfl,h3,h4,_⟩
  {cases hb}
  {rw[List.mem_singleton] at hb; subst hb; exact ⟨h3,h4⟩}
 obtain ⟨DP,hDP⟩: ∃DP:List Nat,a.t.parts.length=0/\DP= []\/P'=some ⟨pb,0,none⟩/\DP= [pb]/\W2.heap.size<=pb/\(∀i (hi:i < a.t.parts.length),ShAt W w.heap.size (qs i) (a.t.parts[i]'hi))/\PaR W5 pb a.t.parts qs:=by
  rcases hp with ⟨h0,_⟩ | ⟨h1,h2,h3,h4⟩
  {exact ⟨[],Or.inl ⟨h0,rfl⟩⟩}
  {exact ⟨[pb],Or.inr ⟨h1,rfl,h2,h3,h4.par⟩⟩}
 have hDPb: ∀b∈DP,b=pb/\W2.heap.size<=pb/\pb < W5.heap.size:=fun b hb=>by
  rcases hDP with ⟨_,rfl⟩ | ⟨_,rfl,h3,_,h5⟩
  {cases hb}
  {rw[List.mem_singleton] at hb; exact ⟨hb,h3,h5.lt⟩}
 have hap:=List.pairwise_append.1 h.ap;have hR:=h.rdy.step (W1:=W5) (DN:=DN) (DP:=DP) (q1:=⟨A',c',P',d'⟩) (pb:=pb) (qs:=qs) (fun b hb=>(hDlo b hb).1) hagD (fun n hn=>(h.nd n (by simp[hn])).1) (fun n hn=>hap.2.2 n hn a (by simp)) (by omega) hSa hsm
  (fun b hb k hk=>hcl b (hDlo b hb).1 (hDlo b hb).2 k hk) (fun b hb k=>hfz b (hDlo b hb).1 (hDlo b hb).2 k)
  (by
   rcases hDN with h1 | ⟨b,h1,h2,h3,_,h5⟩
   {exact Or.inl h1}
   · exact Or.inr ⟨b,h1,h2,h3,h5⟩)
  (by
   rcases hDP with h1 | ⟨h1,h2,h3,_,h5⟩
   {exact Or.inl h1}
   · exact Or.inr ⟨h1,h2,by omega,fun hm=>by have:=(hDNb pb hm).2; omega,h5⟩)
 -- the row of what is open
 obtain ⟨hO5,hv5⟩:Opn W5 v5 (L++kids pb a.t.parts qs)/\ ∀x,v5.ownBlock=some x->x=g\/W4.heap.size<=x/\x∉DP:=by
  rcases hp with ⟨h0,rfl,rfl⟩ | ⟨_,h2,_,hr⟩
  {have hk:kids pb a.t.parts qs= []:=List.eq_nil_of_length_eq_zero (by rw[Z0M]; exact h0);refine ⟨?_,fun x hx=>Or.inl (Option.some.inj (show some g=some x from hx)).symm⟩;rw[hk,List.append_nil];exact hO4}
  {have ho:=hr.opn;rw[List.take_of_length_le (by rw[Z0M]; exact Nat.le_refl _)] at ho;refine ⟨ho,fun x hx=> ?_⟩;rcases hr.row x hx with h3 | h3
   {exact Or.inl (Option.some.inj h3).symm}
   {refine Or.inr ⟨h3,fun hm=>hr.ne ?_⟩;rw[hx,(hDPb x hm).1]}}
 have hown5: ∀b,b≠g->b < W3.heap.size\/b∈DP->v5.ownBlock≠some b:=fun b h1 h2 e=>by
  rcases hv5 b e with h3 | ⟨h3,h4⟩
  {exact h1 h3}
  {rcases h2 with h2 | h2
   {omega}
   {exact h4 h2}}
 refine ⟨D++DN++DP,hO5,hR, ?_, ?_, ?_,hbel, ?_, ?_, ?_⟩
 {intro b hb;have hwW:=h.bel.size;rcases List.mem_append.1 hb with hb | hb
  {rcases List.mem_append.1 hb with hb | hb
   {obtain ⟨h1,h3⟩:=hDlo b hb;exact ⟨(h.lo b hb).1,by omega,hown5 b h3 (Or.inl (by omega))⟩}
   {have h1:=hDNb b hb;exact ⟨by omega,by omega,hown5 b (by omega) (Or.inl (by omega))⟩}}
  {obtain ⟨rfl,h2,h3⟩:=hDPb b hb;exact ⟨by omega,h3,hown5 b (by omega) (Or.inr hb)⟩}}
 {intro n hn;have hat: ∀ {q:Ptr} {t:Sh},ShAt W w.heap.size q t->ShAt W5 w.heap.size q t:=fun hx=>hx.of (Nat.le_refl _) (fun x k hx=>(hbel.cell (p:=⟨x,k,none⟩) hx).trans (h.bel.cell (p:=⟨x,k,none⟩) hx).symm);rcases List.mem_append.1 hn with hn | hn
  {obtain ⟨i1,i2,i3,i4,i5⟩:=h.nd n (by simp[hn]);obtain ⟨j1,j3⟩:=hDlo n.g i1;have hne:=hap.2.2 n hn a (by simp);have e: ∀c,c < 5->W5.cell? ⟨n.g,n.i * 5+c,none⟩=W.cell? ⟨n.g,n.i * 5+c,none⟩:=fun c hc=>hcl n.g j1 j3 _ (fun ⟨e1,e2⟩=>by
    have:=hne e1.symm;omega)
   obtain ⟨t0,t1,t2,t3,t4⟩:=i3;exact ⟨by simp[i1],i2,⟨(e 0 (by omega)).trans t0,(e 1 (by omega)).trans t1,(e 2 (by omega)).trans t2,(e 3 (by omega)).trans t3,(e 4 (by omega)).trans t4⟩,hat i4,fun k=>(hfz n.g j1 j3 k).trans (i5 k)⟩}
  {obtain ⟨i,hi,rfl⟩:=List.getElem_of_mem hn;have hil:i < a.t.parts.length:=by rwa [Z0M] at hi
   rw[Z1F];rcases hDP with ⟨h0,_⟩ | ⟨_,hd,h3,h4,h5⟩
   {omega}
   {refine ⟨by simp[hd], ?_,h5.at_ i hil,hat (h4 i hil),h5.fz⟩;have:=h.res.2.1.2.1;show pb≠r1;omega}}}
 {refine List.pairwise_append.2 ⟨hap.1,Zah _ _ _,fun n hn m hm e=> ?_⟩;have h1:=(hDlo n.g (h.nd n (by simp[hn])).1).1;have h2:=Z6B hm;rcases hDP with ⟨h0,_⟩ | ⟨_,_,h3,_⟩
  {have:kids pb a.t.parts qs= []:=List.eq_nil_of_length_eq_zero (by rw[Z0M]; exact h0);rw[this] at hm; cases hm}
  {omega}}
 {obtain ⟨h1,⟨j0,j1,j4⟩,h2,h3⟩:=h.res;have j3:r1≠g:=fun e=>j4 (by rw[e]; rfl);refine ⟨fun hm=> ?_,⟨j0,by omega,hown5 r1 j3 (Or.inl (by omega))⟩,fun c hc=> ?_,fun k=>(hfz r1 j1 j3 k).trans (h3 k)⟩
  {rcases List.mem_append.1 hm with hm | hm
   {rcases List.mem_append.1 hm with hm | hm
    {exact h1 hm}
    {have:=hDNb r1 hm; omega}}
   {have:=(hDPb r1 hm); omega}}
  obtain ⟨u,hu⟩:=h2 c hc;exact ⟨u,(hcl r1 j1 j3 c (fun ⟨e,_⟩=>har1 e)).trans hu⟩}
 {intro x hx;have hwW:=h.bel.size;rcases hv5 x hx with h3 | ⟨h3,_⟩
  {omega}
  {omega}}
 {exact ⟨by simp[h.rin.1],h.rin.2⟩}
theorem Z7L {t:Sh} (h:right t=true) (hz:size t<=400):t.names.length<=400:=by
 have hp:=Z0F t.parts;rw[size_eq] at hz;rcases Z3s (Z0b h) with ⟨_,_,h,_⟩ | ⟨_,h,_⟩ | ⟨_,h,_⟩ | ⟨_,h,_⟩ | ⟨_,h,_⟩
 {rw[h]; simp}
 {rw[h]; simp}
 {omega}
 {rw[h]; simp}
 {rw[h]; simp}
def cW (w:World) (t:Sh) (q:Ptr):World:=
 ((w.alloc (.cells (Y8 t q) 25)).alloc (.cells Yb 25)).alloc (.cells #[.func (.func 41) #[] #[],.int .i64 0] 95)
section
variable (w : World) (t : Sh) (q : Ptr)
include w t q
theorem Z4F:Below w.heap.size w (cW w t q):=Z0h (Z0h (Z01 _ _) _) _
theorem Zai:CntH (cW w t q) (w.heap.size+1+1) 0 (.func (.func 41) #[] #[]):=by
 unfold cW;exact ⟨by simp,by simp[go_sem],by simp[go_sem],by simp[go_sem]⟩
theorem Z55:Sh5 (cW w t q) w.heap.size 0 t q/\ ∀k,(cW w t q).frozen? ⟨w.heap.size,k,none⟩=false:=by
 unfold cW;refine ⟨⟨?_, ?_, ?_, ?_, ?_⟩,fun k=> ?_⟩ <;> simp[go_sem]
theorem Zaj: (∀c,c < 5-> ∃u,(cW w t q).cell? ⟨w.heap.size+1,c,none⟩=some u)/\ ∀k,(cW w t q).frozen? ⟨w.heap.size+1,k,none⟩=false:=by
 unfold cW;refine ⟨fun c hc=> ?_,fun k=>by simp[go_sem]⟩
 match c,hc with
 | 0,_=>exact ⟨_,by simp[go_sem]; rfl⟩
 | 1,_=>exact ⟨_,by simp[go_sem]; rfl⟩
 | 2,_=>exact ⟨_,by simp[go_sem]; rfl⟩
 | 3,_=>exact ⟨_,by simp[go_sem]; rfl⟩
 | 4,_=>exact ⟨_,by simp[go_sem]; rfl⟩
end
theorem ZbQ (w W1:World) (t:Sh) (q:Ptr) (hq:ShAt w w.heap.size q t) (hu:UpH (w.heap.size+1+1) (cW w t q) W1):
 Cst w (W1.alloc (.cells #[.pointer (some ⟨w.heap.size,0,none⟩)] 71)) w.heap.size (w.heap.size+1) t (.slice (some ⟨W1.heap.size,0,none⟩) 1 1) [⟨w.heap.size,0,t,q⟩] [w.heap.size]:=by
 have hsz: (cW w t q).heap.size=w.heap.size+3:=by simp[cW]
 have hs1:W1.heap.size=w.heap.size+3:=hu.size.trans hsz;have hb0:=Z01 W1 (.cells #[.pointer (some ⟨w.heap.size,0,none⟩)] 71);have hb:Below w.heap.size w W1:=(Z4F w t q).trans (hu.toBelow (by omega));have hb2:Below w.heap.size w (W1.alloc (.cells #[.pointer (some ⟨w.heap.size,0,none⟩)] 71)):=Z03 hb hb0;have hz2: (W1.alloc (.cells #[.pointer (some ⟨w.heap.size,0,none⟩)] 71)).heap.size=w.heap.size+4:=by simp; omega
 have hcell: ∀g k,g < w.heap.size+2->(W1.alloc (.cells #[.pointer (some ⟨w.heap.size,0,none⟩)] 71)).cell? ⟨g,k,none⟩=(cW w t q).cell? ⟨g,k,none⟩:=fun g k hg=>(hb0.cell (p:=⟨g,k,none⟩) (by show g < W1.heap.size; omega)).trans (hu.cell (by omega));have hfz: ∀g k,g < w.heap.size+2->(W1.alloc (.cells #[.pointer (some ⟨w.heap.size,0,none⟩)] 71)).frozen? ⟨g,k,none⟩=(cW w t q).frozen? ⟨g,k,none⟩:=fun g k hg=>(hb0.frozen (p:=⟨g,k,none⟩) (by show g < W1.heap.size; omega)).trans (hu.frozen (by omega));refine ⟨?_,Z7I _ _ _ _ _, ?_, ?_,by simp,hb2,⟨by simp,⟨by omega,by omega,fun e=> ?_⟩, ?_, ?_⟩, ?_,⟨by simp,by omega⟩⟩
 {refine ⟨by simp,Or.inr ⟨W1.heap.size,1, #[.pointer (some ⟨w.heap.size,0,none⟩)],rfl,Nat.zero_le _,heap_alloc_new _ _,Nat.le_refl _,by decide,rfl,rfl⟩⟩}
 {intro b hb';simp only[List.mem_cons,List.not_mem_nil,or_false] at hb';subst hb';exact ⟨by omega,by omega,fun e=>by have:W1.heap.size=w.heap.size:=Option.some.inj e; omega⟩}
 {intro n hn;simp only[List.mem_cons,List.not_mem_nil,or_false] at hn;subst hn;refine ⟨by simp,by show w.heap.size≠w.heap.size+1; omega, ?_,hq.keep hb2 (Nat.le_refl _),fun k=>(hfz _ k (by simp)).trans ((Z55 w t q).2 k)⟩;have h5:=(Z55 w t q).1;simp only[Nat.zero_mul];exact h5.of (fun k=>hcell _ k (by omega))}
 {have:W1.heap.size=w.heap.size+1:=Option.some.inj e;omega}
 {intro c hc;obtain ⟨u,hu'⟩:=(Zaj w t q).1 c hc;exact ⟨u,(hcell _ c (by omega)).trans hu'⟩}
 {exact fun k=>(hfz _ k (by omega)).trans ((Zaj w t q).2 k)}
 {intro g e;have:W1.heap.size=g:=Option.some.inj e;omega}
theorem Z7M (t:Sh) (q:Ptr) (w:World) (hq:ShAt w w.heap.size q t) (hz:size t<=400) (hr:right t=true):
 Calls Tryd.prog 42 #[.agg (Y8 t q),.func (.func 41) #[] #[],.func (.func 43) #[] #[]] w fun e w'=> ∃q' F,e= .returned (.agg (Y8 t q'))/\Own w' q' t F/\F.Nodup/\(∀b∈F,w.heap.size<=b)/\Below w.heap.size w w':=by
 have hde:=Z1i t;have hcb:=Z55 w t q;have hm:=Z52 t q w.heap.size 0 w.heap.size (w.heap.size+1+1) 0 1 (cW w t q) hcb.1 (by omega) (hq.keep (Z4F w t q) (Nat.le_refl _)) (by omega) (Zai w t q) (by omega) (by omega);rw[show (((1:Nat)):Int)=(1:Int) from rfl] at hm;have HM:=Y1 hm;have HST:=Y1 (fun W1 (hu:UpH (w.heap.size+1+1) (cW w t q) W1)=>ZbQ w W1 t q hq hu);have L1:=fun (g o:Nat) (W:World)=>Z3w g o W;clear hq hm hcb hde;go_enter Tryd.func42,Tryd.ntmps42
 go_wp2_with fail
 change Calls _ _ _ (cW w t q) _;refine HM.out.mono ?_;rintro e W1 ⟨rfl,hu1,_⟩;have HS1:=Y1 (HST.out W1 hu1);clear HM HST hu1
 go_wp2_with fail
 go_loopg [9] (size t) (fun k s9 wr=> ∃L D,sumL L<=k/\sumL L<=400/\(∀n∈L,right n.t=true)/\Hid (Cst w wr w.heap.size (w.heap.size+1) t s9 L D))
 case atStart=>exact ⟨_,_,by simp[sumL],by simp[sumL]; omega,fun n hn=>by simp only[List.mem_cons,List.not_mem_nil,or_false] at hn; subst hn; exact hr,HS1⟩
 case round=>
  obtain ⟨L,D,hk,h400,hri,HC⟩:=hrel;clear HS1;rcases List.eq_nil_or_concat L with rfl | ⟨L',a,rfl⟩
  {obtain ⟨F,⟨q',hS,hO⟩,hnd,hFD⟩:=Z50 HC.out.rdy;obtain ⟨A,cp,rfl⟩:=HC.out.opn.empty;obtain ⟨p0,p1,p2,p3,p4⟩:=hS;simp only[Nat.zero_mul,Nat.zero_add] at p0 p1 p2 p3 p4;obtain ⟨r1D,⟨_,_,_⟩,rcs,rfz⟩:=HC.out.res;obtain ⟨e0,r0⟩:=rcs 0 (by omega);obtain ⟨e1,r1⟩:=rcs 1 (by omega);obtain ⟨e2,r2⟩:=rcs 2 (by omega);obtain ⟨e3,r3⟩:=rcs 3 (by omega);obtain ⟨e4,r4⟩:=rcs 4 (by omega);have z0:=rfz 0;have z1:=rfz 1;have z2:=rfz 2;have z3:=rfz 3;have z4:=rfz 4;have HO:=Y1 hO;have HND:=Y1 hnd;have HFD:=Y1 (fun b hb=>(HC.out.lo b (hFD b hb)).1);have HNE:=Y1 (fun b hb (e:w.heap.size+1=b)=>r1D (by rw[e]; exact hFD b hb));have HBL:=Y1 HC.out.bel;clear hO hnd hFD rcs rfz r1D hri;go_wp2;refine bodyPost_ret (v:= .agg (Y8 t q')) (by simp[results,Tryd.results42,go_sem,r0,r1,r2,r3,r4]) rfl ?_;refine ⟨q',F,rfl,HO.out.of (fun b hb=> ?_) (by simp[World.setCell]),HND.out,HFD.out, ?_⟩
   {have hne:=HNE.out b hb;exact ((((Z0i _ ⟨w.heap.size+1,0,none⟩ _ hne).trans (Z0i _ ⟨w.heap.size+1,1,none⟩ _ hne)).trans (Z0i _ ⟨w.heap.size+1,2,none⟩ _ hne)).trans (Z0i _ ⟨w.heap.size+1,3,none⟩ _ hne)).trans (Z0i _ ⟨w.heap.size+1,4,none⟩ _ hne)}
   {exact ((((HBL.out.setCell (p:=⟨w.heap.size+1,0,none⟩) (Nat.le_succ _) _).setCell (p:=⟨w.heap.size+1,1,none⟩) (Nat.le_succ _) _).setCell (p:=⟨w.heap.size+1,2,none⟩) (Nat.le_succ _) _).setCell (p:=⟨w.heap.size+1,3,none⟩) (Nat.le_succ _) _).setCell (p:=⟨w.heap.size+1,4,none⟩) (Nat.le_succ _) _}}
  {rw[List.concat_eq_append] at hk h400 HC hri;obtain ⟨g,cap,rfl,hcap,hcl,hgW⟩:=HC.out.opn.last;obtain ⟨hagD,har1,hS5,hat,hfr⟩:=HC.out.nd a (by simp);obtain ⟨hlo1,hlo2,hlo4⟩:=HC.out.lo a.g hagD;obtain ⟨W,hW⟩: ∃W,W=wr:=⟨wr,rfl⟩;subst hW;have hi1: (0:Int) < ((L'.length+1:Nat):Int):=by omega
   have hL4:L'.length<=400:=by
    have:=Z6C L';rw[Z0m] at h400;omega
   have hag:a.g≠g:=fun e=>hlo4 (by rw[e]; rfl);unfold ndP at hcl;obtain ⟨p0,p1,p2,p3,p4⟩:=hS5;have hsm:=hat.small;have ha4:size a.t<=400:=by rw[Z0m] at h400; simp[sumL] at h400; omega
   have har:=hri a (by simp);have hnm:a.t.names.length<=1000000000:=by have:=Z7L har ha4; omega
   have hsz:=HC.out.bel.size;have HOWN:=Y1 (Zag a.g (a.i * 5) a.q.A a.q.c a.t.names W hlo2 p3 (hfr _) (hat.strs.more hsz) hnm hsm.c hsm.A0);have HRI:=Y1 hri;have HAT:=Y1 hat;have HSM:=Y1 hsm;have LA:=fun (W:World)=>L1 a.g (a.i * 5) W;clear hri hat hsm p0 p1 p2 p3
   go_wp2_with fail
   refine HOWN.out.mono ?_;rintro e w3 ⟨rfl,A',c',W2,hb2,htx,rfl⟩;have x4: (W2.setCell ⟨a.g,a.i * 5+3,none⟩ (.slice A' a.t.names.length c')).cell? ⟨a.g,a.i * 5+4,none⟩=some (.slice a.q.P a.t.parts.length a.q.d):=
    (World.cell?_setCell_other _ _ _ _ (fun e=>by have:=congrArg Addr.off e; simp at this)).trans ((hb2.cell (p:=⟨a.g,a.i * 5+4,none⟩) hlo2).trans p4)
   have f4: (W2.setCell ⟨a.g,a.i * 5+3,none⟩ (.slice A' a.t.names.length c')).frozen? ⟨a.g,a.i * 5+4,none⟩=false:=by
    rw[World.frozen?_setCell]; exact (hb2.frozen (p:=⟨a.g,a.i * 5+4,none⟩) hlo2).trans (hfr _)
   have hz2:W.heap.size<=W2.heap.size:=hb2.size;have hz3: (W2.setCell ⟨a.g,a.i * 5+3,none⟩ (.slice A' a.t.names.length c')).heap.size=W2.heap.size:=Z1G _ _ _;have hag3:a.g < (W2.setCell ⟨a.g,a.i * 5+3,none⟩ (.slice A' a.t.names.length c')).heap.size:=by omega
   have hbw3:Below w.heap.size w (W2.setCell ⟨a.g,a.i * 5+3,none⟩ (.slice A' a.t.names.length c')):=(HC.out.bel.trans (hb2.mono hsz)).setCell hlo1 _;have HB2:=Y1 hb2;have HTX:=Y1 htx;clear hb2 htx p4 HOWN hcl;by_cases hpz:a.t.parts.length=0
   {have hrn:=Z53 a.g (a.i * 5+4) a.q.P a.q.d (W2.setCell ⟨a.g,a.i * 5+3,none⟩ (.slice A' a.t.names.length c')) hag3 (by rw[x4,hpz]) f4 HSM.out.P0;have HRN:=Y1 hrn;clear hrn x4 f4 hbw3 hag3 hz3
    go_wp2_with fail
    refine (LA _).mono ?_;rintro e w4 ⟨rfl,rfl⟩
    go_wp2_with fail
    refine HRN.out.mono ?_;rintro e w5 ⟨rfl,P',d',W3',hb3,hP0,rfl⟩;have HST:=Y1 (HC.out.step (P':=P') (d':=d') (pb:=0) (qs:=fun _=>a.q) HB2.out HTX.out hb3 (by omega) hP0 (Or.inl ⟨hpz,by rw[hpz],rfl⟩));have hk0:kids 0 a.t.parts (fun _=>a.q)= []:=List.eq_nil_of_length_eq_zero (by rw[Z0M]; exact hpz);rw[hk0,List.append_nil] at HST;clear hk0 hb3 hP0 HRN;go_wp2
    go_roundg (sumL L')
    case measure=>rw[Z0m] at hk; have:=Z1V a.t; simp[sumL] at hk ⊢; omega
    case rel=>
     obtain ⟨D5,h5⟩:=HST.out;exact ⟨L',D5,Nat.le_refl _,by rw[Z0m] at h400; omega,fun n hn=>HRI.out n (by simp[hn]),Y1 h5⟩}
   {have hpos:0 < a.t.parts.length:=by omega
    rcases HAT.out.part with h0 | ⟨g',off,qs,hqP,hg',hcc,hrr⟩
    {omega}
    {have hpl:a.t.parts.length<=1000000000:=by have:=Z0F a.t.parts; rw[size_eq] at ha4; omega
     have hrn:=Z54 a.g (a.i * 5+4) g' off a.q.d a.t.parts qs (W2.setCell ⟨a.g,a.i * 5+3,none⟩ (.slice A' a.t.names.length c')) hag3 (by rw[x4,hqP]) f4 (by omega) (fun i hi=>(hcc i hi).of (fun k=>(hbw3.cell (p:=⟨g',k,none⟩) hg').trans (HC.out.bel.cell (p:=⟨g',k,none⟩) hg').symm)) hpl hpos;have HRN:=Y1 hrn;have HRR:=Y1 hrr;clear hrn hcc hrr hqP x4 f4 hbw3
     go_wp2_with fail
     refine (LA _).mono ?_;rintro e w4 ⟨rfl,rfl⟩
     go_wp2_with fail
     refine HRN.out.mono ?_;rintro e w5 ⟨rfl,pb,d',W3',hb3,hd1,hpb,hpar,rfl⟩;have hz4:=hb3.size;have hagz:a.g < W3'.heap.size:=by omega
     have hoc: ∃u,W3'.cell? ⟨a.g,a.i * 5+4,none⟩=some u:=⟨_,(hb3.cell (p:=⟨a.g,a.i * 5+4,none⟩) hag3).trans ((World.cell?_setCell_other _ _ _ _ (fun e=>by have:=congrArg Addr.off e; simp at this)).trans ((HB2.out.cell (p:=⟨a.g,a.i * 5+4,none⟩) hlo2).trans (HC.out.nd a (by simp)).2.2.1.2.2.2.2))⟩;obtain ⟨u0,hu0⟩:=hoc;have c4: (W3'.setCell ⟨a.g,a.i * 5+4,none⟩ (.slice (some ⟨pb,0,none⟩) a.t.parts.length d')).cell? ⟨a.g,a.i * 5+4,none⟩=some (.slice (some ⟨pb,0,none⟩) a.t.parts.length d'):=World.cell?_setCell_same _ _ _ hu0;have hz5: (W3'.setCell ⟨a.g,a.i * 5+4,none⟩ (.slice (some ⟨pb,0,none⟩) a.t.parts.length d')).heap.size=W3'.heap.size:=Z1G _ _ _;have hO4:Opn (W3'.setCell ⟨a.g,a.i * 5+4,none⟩ (.slice (some ⟨pb,0,none⟩) a.t.parts.length d')) (.slice (some ⟨g,0,none⟩) L'.length cap) L':=
      (((HC.out.opn.pop.below HB2.out).set (fun e=>hag (Option.some.inj e).symm) _).below hb3).set (fun e=>hag (Option.some.inj e).symm) _
     have hpbl:=hpar.lt;have hpag:pb≠a.g:=by omega
     have hR0:=Rnd7.start hO4 (fun e=>by have:g=pb:=Option.some.inj e; omega) (hpar.of (Z0i W3' ⟨a.g,a.i * 5+4,none⟩ (.slice (some ⟨pb,0,none⟩) a.t.parts.length d') (Ne.symm hpag)) (by omega));have HR0:=Y1 hR0;have HSTEP:=Y1 (fun (W5:World) (v5:Value) (hr:Rnd7 (W3'.setCell ⟨a.g,a.i * 5+4,none⟩ (.slice (some ⟨pb,0,none⟩) a.t.parts.length d')) W5 (.slice (some ⟨g,0,none⟩) L'.length cap) v5 pb a.t.parts qs L' a.t.parts.length)=>HC.out.step (P':=some ⟨pb,0,none⟩) (d':=d') (pb:=pb) (qs:=qs) HB2.out HTX.out hb3 hd1 nofun (Or.inr ⟨rfl,by omega,HRR.out,hr⟩));obtain ⟨W4,hW4⟩: ∃W4,W4=W3'.setCell ⟨a.g,a.i * 5+4,none⟩ (.slice (some ⟨pb,0,none⟩) a.t.parts.length d'):=⟨_,rfl⟩;rw[<-hW4] at c4 hz5 HR0 HSTEP ⊢;have hpw:pb < W4.heap.size:=by omega
     have hag4:a.g < W4.heap.size:=by omega
     clear hW4 hb3 hpb hpar hR0 hO4 hu0 hpbl HRN hz3 hag3 hz4 hagz
     go_wp2_with fail
     go_loopw [9,47] (fun s9 ii wr=> ∃i:Nat,ii= .int .i64 i/\i<=a.t.parts.length/\Hid (Rnd7 W4 wr (.slice (some ⟨g,0,none⟩) L'.length cap) s9 pb a.t.parts qs L' i)) (fun _ i _=>a.t.parts.length - (intOf i).toNat)
     case atStart=>exact ⟨0,rfl,Nat.zero_le _,HR0⟩
     case round=>
      obtain ⟨i,rfl,hi,HR⟩:=hrel;by_cases hlt:i < a.t.parts.length
      {have hi1: (i:Int) < (a.t.parts.length:Int):=by omega
       have k4:=(HR.out.up.same hag4 (fun e=>hag (Option.some.inj e).symm)).1 (a.i * 5+4);rw[c4] at k4;obtain ⟨i0,hi2,hz0,hz1,hz2⟩:=info_parts (P:=Tryd.prog) (e:=71) (z:= .pointer none) (size:=1) (bytes:=8) Z5D;have hlen: (L'++(kids pb a.t.parts qs).take i).length=L'.length+i:=by rw[List.length_append,List.length_take,Z0M]; omega
       have hown:=HR.out.opn;unfold Opn at hown;rw[hlen] at hown;have HOW:=Y1 hown;clear hown hlen
       go_wp2_with (at_builtin; refine wpList_append_lies _ rfl _ _ 90 rfl 0 71 i0 (.pointer none) 1 8 Tryd.underlying90 hi2 hz0 hz1 hz2 rfl (by decide) _ _ _ rfl (HOW.out.alloc _) ⟨wr.heap.size,0,none⟩ 1 1 [.pointer (some ⟨pb,i * 5,none⟩)] rfl rfl (World.news_of_block (cs:=#[.pointer (some ⟨pb,i * 5,none⟩)]) (t:=71) (fr:=(0,0)) (heap_alloc_new _ _)) (by simp[Value.oneCell']) (by decide) (by unfold maxLen; omega) (by omega) (by simp) _ rfl ?_)
       intro g1 cap1 w5 hown1 hgrow hat1 hlt1;have HN:=Y1 (HR.out.step hlt hpw hgrow (by simpa[List.map_append,List.append_assoc,List.map_take] using hown1) (by simpa using hat1));clear hown1 hgrow hat1 k4
       go_wp2_with fail
       exact ⟨⟨i+1,by go_num,by omega,HN⟩,by simp[intOf]; omega⟩}
      {have hie:i=a.t.parts.length:=by omega
       have HN:=Y1 (HSTEP.out wr _ (by have:=HR.out; rwa [hie] at this));have hi1: ¬(i:Int) < (a.t.parts.length:Int):=by omega
       clear hie HR HSTEP HR0;go_wp2
       go_roundg (sumL (L'++kids pb a.t.parts qs))
       case measure=>
        rw[Z0m,Z2F];rw[Z0m] at hk;have:=size_eq a.t;simp[sumL] at hk ⊢;omega
       case rel=>
        obtain ⟨D5,h5⟩:=HN.out;refine ⟨L'++kids pb a.t.parts qs,D5,Nat.le_refl _, ?_,fun n hn=> ?_,Y1 h5⟩
        {rw[Z0m,Z2F];rw[Z0m] at h400;have:=size_eq a.t;simp[sumL] at h400 ⊢;omega}
        {rcases List.mem_append.1 hn with hn | hn
         {exact HRI.out n (by simp[hn])}
         {obtain ⟨i,hi,rfl⟩:=List.getElem_of_mem hn;rw[Z1F];exact Z05 har (List.getElem_mem _)}}}}}}
end
end Go.Proofs.YtmeiijjpomcgcaaDoor
