/- SubtypeBelows: below is the document's; for all values that the row lets in, with the program's variable laid as its text lays it. -/
import Derived.Lib.SmallJoins
import Derived.Test.YthajhofgjhfjeaaDoorTie
import Derived.Test.YthajhofgjhfjeaaDoorCards
import Derived.LaidMore
import Derived.Lay
import Derived.Test.YthajhofgjhfjeaaDoorK0n2
set_option linter.unusedVariables false
set_option linter.unusedSimpArgs false
set_option linter.unusedSectionVars false
set_option maxRecDepth 100000
set_option maxHeartbeats 16000000
namespace Go.Proofs.YthajhofgjhfjeaaDoor
open Go.RowKit Shp Sub
namespace SubM
theorem Z3W {t:Sh} (h:Rec t) {i:Nat} (h1:i < t.names.length) (h2:i < t.parts.length) {n:List UInt8} (hn:t.names[i]'h1=n):get t n=some (t.parts[i]'h2):=by
 rw[<-hn]; exact ZcQ h.nodup h1 h2
theorem Z4m {t:Sh} (h:Rec t) {n:List UInt8} (hn: ∀i (h1:i < t.names.length),t.names[i]'h1≠n):get t n=none:=by
 rw[h.get_none];intro hm;obtain ⟨i,hi,e⟩:=List.mem_iff_getElem.1 hm;exact hn i hi e
theorem Z55 (W:World) (B:Nat):ShAt W B noneQ12 Za7:=
 .mk _ _ 0 0 (fun _=>noneQ12) ⟨by simp[Za7],by simp[Za7],by simp[Za7],by simp[Za7],by simp[Za7],by simp[Za7],by simp[Za7],fun _=>rfl,fun _=>rfl⟩ (Or.inl rfl) (Or.inl rfl) (fun i hi=>by simp[Za7] at hi) (fun i hi=>by simp[Za7] at hi)
def PartIs (n0:Nat) (w:World) (r:Option Sh) (e:Ending) (w':World):Prop:=
 ∃q:Ptr,e= .returned (.tuple #[.agg (Y8 ((r.getD Za7)) q),.bool r.isSome])/\ShAt w n0 q (r.getD Za7)/\Below w.heap.size w w'
theorem Z3x (t:Sh) (q:Ptr) (nm:List UInt8) (n0:Nat) (w:World) (hn:n0<=w.heap.size) (hq0:ShAt w n0 q t) (hR:Rec t):
 Calls Tryd.prog 41 #[.agg (Y8 t q),.string ⟨nm.toArray⟩] w (PartIs n0 w (get t nm)):=by
 have hq:=hq0.more hn;have hb1:=Z01 w (.cells (Y8 t q) 25);obtain ⟨u1,hu1⟩: ∃u1,w.alloc (.cells (Y8 t q) 25)=u1:=⟨_,rfl⟩;have hs1:u1.heap.size=w.heap.size+1:=by rw[<-hu1]; simp
 have hx:=Z03 w t q;rw[hu1] at hb1 hx;have hb2:=Z01 u1 (.cells Yb 25);obtain ⟨W1,hW1⟩: ∃W,u1.alloc (.cells Yb 25)=W:=⟨_,rfl⟩;have hz: (W1.cell? ⟨w.heap.size+1,0,none⟩=some (.int .i64 0)/\W1.cell? ⟨w.heap.size+1,1,none⟩=some (.string ⟨#[]⟩)/\W1.cell? ⟨w.heap.size+1,2,none⟩=some (.string ⟨#[]⟩)/\W1.cell? ⟨w.heap.size+1,3,none⟩=some (.slice none 0 0)/\W1.cell? ⟨w.heap.size+1,4,none⟩=some (.slice none 0 0))/\ ∀k,W1.frozen? ⟨w.heap.size+1,k,none⟩=false:=by
  rw[<-hW1, <-hs1];refine ⟨⟨by simp[go_sem],by simp[go_sem],by simp[go_sem],by simp[go_sem],by simp[go_sem]⟩,fun k=> ?_⟩;rw[frozen?_alloc_cells];simp[World.frozen?]
 rw[hW1] at hb2;have HX:=Y1 (hx.next hb2);have HB1:=Y1 (Z00 hb1 hb2);have HQ:=Y1 (hq.next (Z00 hb1 hb2));have HS:=Y1 hq.strs;have HP:=Y1 hq0.part;have HN0:=Y1 hn;have HL:=Y1 hq.small.l;have HM:=Y1 hq.small.m;have HR:=Y1 hR;have HZ:=Y1 hz;clear hb1 hb2 hx hq hq0 hn hz hR;go_enter Tryd.func41,Tryd.ntmps41
 go_wp2_with fail
 clear hs1 hu1;clear hW1
 go_loopw [6] (fun i wr=>wr=W1/\ ∃k:Nat,k<=t.names.length/\i= .int .i64 (k:Int)/\Hid (∀j (h:j < t.names.length),j < k->t.names[j]'h≠nm)) (fun i _=>t.names.length - (intOf i).toNat)
 case atStart=>exact ⟨rfl,0,Nat.zero_le _,rfl,Y1 (fun j _ hj=>absurd hj (by omega))⟩
 case round=>
  obtain ⟨rfl,k,hk,rfl,hN⟩:=hrel;have hl:=HL.out;have hm:=HM.out;obtain ⟨⟨r0,r1,r2,r3,r4⟩,rf⟩:=HZ.out;have y0:=rf 0;have y1:=rf 1;have y2:=rf 2;have y3:=rf 3;have y4:=rf 4;clear rf;obtain ⟨_,⟨c0,c1,c2,c3,c4⟩,_⟩:=HX.out;simp only[Nat.zero_add] at c0 c1 c2 c3 c4;by_cases hlt:k < t.names.length
  {have hi1: (k:Int) < (t.names.length:Int):=by omega
   have hlp:t.names.length=t.parts.length:=HR.out.l;have hkp:k < t.parts.length:=by omega
   have hi2: (k:Int) < (t.parts.length:Int):=by omega
   rcases (HS.out.next HB1.out).cell7 with h0 | ⟨g,off,hqA,hg,hc⟩
   {omega}
   rcases HP.out with h0 | ⟨g',off',qs,hqP,hg',hc',hra⟩
   {omega}
   have p:=hc k hlt;obtain ⟨x,hx⟩: ∃x,x=t.names[k]'hlt:=⟨_,rfl⟩;rw[<-hx] at p;have HXN:=Y1 hx;rw[hqA] at c3;rw[hqP] at c4;have hg':g' < w.heap.size:=by have:=HN0.out; omega
   obtain ⟨z0,z1,z2,z3,z4⟩:=(hc' k hkp).keep hg' HB1.out;have hat:=hra k hkp;obtain ⟨y,hy⟩: ∃y,y=t.parts[k]'hkp:=⟨_,rfl⟩;rw[<-hy] at z0 z1 z2 z3 z4 hat;have HY:=Y1 hy;have HAT:=Y1 hat;have HNE:Hid (g' < w.heap.size):=Y1 hg';have hne:g'≠w.heap.size+1:=by omega
   clear hc hc' hra hx hy hat hqA hqP hg;cases hxy: (x==nm) with
   | false=>
    have HE:Hid (t.names[k]'hlt≠nm):=Y1 (fun h=>by rw[HXN.out,h] at hxy; simp at hxy);go_wp2
    go_roundw
    case rel=>exact ⟨trivial,k+1,by omega,by go_num,Y1 (fun j hj hji=>by
     rcases Nat.lt_succ_iff_lt_or_eq.1 hji with h | rfl
     {exact hN.out j hj h}
     · exact HE.out)⟩
    case measure=>simp[intOf]; omega
   | true=>
    have HF:=Y1 (Z3W HR.out hlt hkp (n:=nm) (by rw[<-HXN.out]; simpa using hxy));rw[<-HY.out] at HF;go_wp2;refine bodyPost_ret (v:= .tuple #[.agg (Y8 y ((qs k))),.bool true]) (by simp[results,Tryd.results41,go_sem,r0,r1,r2,r3,r4]) rfl ?_;rw[HF.out];exact ⟨qs k,rfl,HAT.out,Z0I HB1.out (by omega) _ _ _ _ _⟩}
  {have hi1: ¬(k:Int) < (t.names.length:Int):=by omega
   have HF:=Y1 (Z4m HR.out (n:=nm) (fun i hi=>hN.out i hi (by omega)));go_wp2;refine bodyPost_ret (v:= .tuple #[.agg #[.int .i64 0,.string ⟨#[]⟩,.string ⟨#[]⟩,.slice none 0 0,.slice none 0 0],.bool false]) (by simp[results,Tryd.results41,go_sem,r0,r1,r2,r3,r4]) rfl ?_;rw[HF.out];exact ⟨noneQ12,rfl,Z55 w n0,Z0I HB1.out (by omega) _ _ _ _ _⟩}
end SubM
end Go.Proofs.YthajhofgjhfjeaaDoor
namespace Go.Proofs.YthajhofgjhfjeaaDoor
open Go.RowKit
section
variable {P : Program} {ops : Array Oper} {Q : Exit -> Act -> World -> Prop}
theorem Z2V {d:Nat->Bool} {i j:Nat} (h:j≠i):also d i j=d j:=by
 unfold also;have:Nat.beq j i=false:=by cases hb:Nat.beq j i <;> first | rfl | exact absurd (Nat.eq_of_beq_eq_true hb) h
 rw[this]; rfl
theorem Z3f {d:Nat->Bool} {i:Nat}:also d i i=true:=by
 unfold also;simp
end
end Go.Proofs.YthajhofgjhfjeaaDoor
namespace Go.Proofs.YthajhofgjhfjeaaDoor
open Go.RowKit Shp Sub
namespace SubM
structure TakeI (W0:World) (tk:Nat->Value->Prop) (p:Sh) (d:Nat->Bool) (u:Nat->Value) (W:World):Prop where
 up:Below W0.heap.size W0 W
 vals: ∀j,d j=true->tk j (u j)
 al:d 10=true->d 11=false-> ∃b,u 10= .pointer (some ⟨b,0,none⟩)/\W0.heap.size<=b/\Rc b W
 st:d 11=true->d 10=true/\ ∃(b:Nat) (q:Ptr),u 10= .pointer (some ⟨b,0,none⟩)/\W0.heap.size<=b/\ShAt W0 W0.heap.size q p/\Box5 W b p q
variable {W0 W W' : World} {tk : Nat -> Value -> Prop} {p : Sh} {d : Nat -> Bool} {u : Nat -> Value}
theorem TakeI.vals' (h:TakeI W0 tk p d u W) {i:Nat} {v:Value} (hv:tk i v): ∀j,also d i j=true->tk j (upd u i v j):=fun j hj=>by
 by_cases e:j=i
 {subst e; rw[Z2p]; exact hv}
 {rw[Z15 u v e]; rw[Z2V e] at hj; exact h.vals j hj}
theorem TakeI.start:TakeI W0 tk p (fun _=>false) u W0.drew:=⟨Y2.drew,nofun,nofun,nofun⟩
theorem TakeI.step (h:TakeI W0 tk p d u W) {i:Nat} {v:Value} (hi:i≠10) (hj:i≠11) (hv:tk i v) (hb:Below W.heap.size W W'):TakeI W0 tk p (also d i) (upd u i v) W':=by
 refine ⟨Z00 h.up hb,h.vals' hv, ?_, ?_⟩
 {rw[Z2V (Ne.symm hi),Z2V (Ne.symm hj),Z15 u v (Ne.symm hi)];intro h1 h2;obtain ⟨b,e,hb1,hr⟩:=h.al h1 h2;exact ⟨b,e,hb1,hr.upd (T:=fun _=>False) (Upd.new hb) (fun h=>h)⟩}
 {rw[Z2V (Ne.symm hi),Z2V (Ne.symm hj),Z15 u v (Ne.symm hi)];intro h1;obtain ⟨h2,b,q,e,hb1,hs,hx⟩:=h.st h1;exact ⟨h2,b,q,e,hb1,hs,hx.next hb⟩}
theorem TakeI.alloc (h:TakeI W0 tk p d u W) (hd:d 10=false) (ht: ∀v,tk 10 v):
 TakeI W0 tk p (also d 10) (upd u 10 (.pointer (some ⟨W.heap.size,0,none⟩))) (W.alloc (.cells Yb 25)):=by
 refine ⟨Z00 h.up (Z01 _ _),h.vals' (ht _),fun _ _=>⟨W.heap.size,Z2p _ _ _,h.up.size,Zax rfl⟩,fun h1=> ?_⟩;rw[Z2V (by decide)] at h1;rw[(h.st h1).1] at hd; cases hd
theorem TakeI.store (h:TakeI W0 tk p d u W) (h10:d 10=true) (h11:d 11=false) (ht: ∀v,tk 11 v) {b:Nat} {q:Ptr} (hb:u 10= .pointer (some ⟨b,0,none⟩)) (hs:ShAt W0 W0.heap.size q p):
 TakeI W0 tk p (also d 11) (upd u 11 undef) (RX.lay W b p q):=by
 obtain ⟨b',e,hb1,hr⟩:=h.al h10 h11;obtain rfl:b'=b:=by rw[hb] at e; simp at e; exact e.symm
 have hu:=RX.lay_upd W b' p q;refine ⟨h.up.trans (hu.below h.up.size (fun x hx=>by omega)),h.vals' (ht _),fun _ h2=> ?_,fun _=>⟨by rw[Z2V (by decide)]; exact h10,b',q,by rw[Z15 u undef (by decide)]; exact hb,hb1,hs, ?_⟩⟩
 {rw[Z3f] at h2; cases h2}
 {have hf:=fun j=>(RX.lay_fz W b' p q j).trans (hr.fz j);exact ⟨by rw[RX.lay_size]; exact hr.lt,RX.lay_at p q hr.ex,hf 0,hf 1,hf 2,hf 3,hf 4⟩}
end SubM
end Go.Proofs.YthajhofgjhfjeaaDoor
namespace Sub
open Shp Go.Proofs.YthajhofgjhfjeaaDoor
theorem Z3h {t:Sh} (h:Rec t) {n:List UInt8} {p:Sh} (hp:get t n=some p): ∃i,∃h1:i < t.names.length,∃h2:i < t.parts.length,t.names[i]'h1=n/\t.parts[i]'h2=p:=by
 obtain ⟨i,hi,e⟩:=List.mem_iff_getElem.1 (h.get_iff.1 hp);rw[List.length_zip] at hi;rw[List.getElem_zip] at e;injection e with e1 e2;exact ⟨i,by omega,by omega,e1,e2⟩
theorem Z3g {t:Sh} (h:Rec t) {i:Nat} (h1:i < t.names.length) (h2:i < t.parts.length):get t (t.names[i]'h1)=some (t.parts[i]'h2):=ZcQ h.nodup h1 h2
section
variable {f : Nat} {a b : Sh}
theorem Z3u (hk:a.kind≠b.kind):bw (f+1) a b=false:=by unfold bw; rw[if_pos hk]
theorem Z37 {t:Sh} (h:right t=true) (hk:t.kind=6\/t.kind=7):Rec t:=Za4 (Z1c h) hk
section
variable (ra : right a = true) (rb : right b = true)
include ra rb
theorem Z3X (h:a.of_≠b.of_\/a.name≠b.name):bw (f+1) a b=false:=by
 by_cases hk:a.kind=b.kind
 {by_cases h6:a.kind=6\/a.kind=7
  {have h1:=(Z37 ra h6).b;have h2:=(Z37 rb (by rw[<-hk]; exact h6)).b;unfold bare at h1 h2;simp only[Bool.and_eq_true,decide_eq_true_eq] at h1 h2;rcases h with h | h
   {exact absurd (by simp_all) h}
   {exact absurd (by simp_all) h}}
  {unfold bw;rw[if_neg (by simpa using hk),if_neg (fun e=>h6 (Or.inl e)),if_neg (fun e=>h6 (Or.inr e)),decide_eq_false (fun e=>by rcases h with h | h; exact h e.1; exact h e.2)];rfl}}
 {exact Z3u hk}
theorem Z38 (h: ¬V f true a b):bw f a b=false:=by
 cases e:bw f a b with
 | false=>rfl
 | true=>exact absurd ((ZcW ra rb).1 e) h
theorem Z4B (hk:a.kind=b.kind) (h6:a.kind=6)
 (h: ∀j (h1:j < b.names.length) (h2:j < b.parts.length),∃p,get a (b.names[j]'h1)=some p/\bw f p (b.parts[j]'h2)=true):bw (f+1) a b=true:=by
 have hB:=Z37 rb (by rw[<-hk]; exact Or.inl h6);refine (ZcW ra rb).2 ⟨hk,fun _ n q hq=> ?_,fun hw=>absurd hw (by rw[h6]; decide),fun e=>absurd (Or.inl h6) e⟩;obtain ⟨i,h1,h2,e1,e2⟩:=Z3h hB hq;obtain ⟨p,hp,hv⟩:=h i h1 h2;rw[e1] at hp;rw[e2] at hv;exact ⟨p,hp,(ZcW (Z05 ra (Z9Z hp)) (Z05 rb (Z9Z hq))).1 hv⟩
theorem Z45 (hk:a.kind=b.kind) (h6:a.kind=6) {j:Nat} (h1:j < b.names.length) (h:get a (b.names[j]'h1)=none):bw (f+1) a b=false:=by
 have hB:=Z37 rb (by rw[<-hk]; exact Or.inl h6);refine Z38 ra rb (fun hv=> ?_);obtain ⟨p,hp,_⟩:=hv.2.1 (by rw[h6]; decide) _ _ (Z3g hB h1 (by rw[<-hB.l]; exact h1));rw[h] at hp; cases hp
theorem Z56 (hk:a.kind=b.kind) (h6:a.kind=6) {j:Nat} (h1:j < b.names.length) (h2:j < b.parts.length) {p:Sh} (hp:get a (b.names[j]'h1)=some p) (h:bw f p (b.parts[j]'h2)=false):bw (f+1) a b=false:=by
 have hB:=Z37 rb (by rw[<-hk]; exact Or.inl h6);refine Z38 ra rb (fun hv=> ?_);have hq:=Z3g hB h1 h2;obtain ⟨p',hp',hv'⟩:=hv.2.1 (by rw[h6]; decide) _ _ hq;rw[hp] at hp'; cases hp';rw[(ZcW (Z05 ra (Z9Z hp)) (Z05 rb (Z9Z hq))).2 hv'] at h; cases h
theorem Z4C (hk:a.kind=b.kind) (h6:a.kind=7)
 (h: ∀j (h1:j < a.names.length) (h2:j < a.parts.length),∃p,get b (a.names[j]'h1)=some p/\bw f (a.parts[j]'h2) p=true):bw (f+1) a b=true:=by
 have hA:=Z37 ra (Or.inr h6);refine (ZcW ra rb).2 ⟨hk,fun hw=>absurd hw (by rw[h6]; decide),fun _ n q hq=> ?_,fun e=>absurd (Or.inr h6) e⟩;obtain ⟨i,h1,h2,e1,e2⟩:=Z3h hA hq;obtain ⟨p,hp,hv⟩:=h i h1 h2;rw[e1] at hp;rw[e2] at hv;exact ⟨p,hp,(ZcW (Z05 ra (Z9Z hq)) (Z05 rb (Z9Z hp))).1 hv⟩
theorem Z4b (hk:a.kind=b.kind) (h6:a.kind=7) {j:Nat} (h1:j < a.names.length) (h:get b (a.names[j]'h1)=none):bw (f+1) a b=false:=by
 have hA:=Z37 ra (Or.inr h6);refine Z38 ra rb (fun hv=> ?_);obtain ⟨p,hp,_⟩:=hv.2.2.1 (by rw[h6]; decide) _ _ (Z3g hA h1 (by rw[<-hA.l]; exact h1));rw[h] at hp; cases hp
theorem Z57 (hk:a.kind=b.kind) (h6:a.kind=7) {j:Nat} (h1:j < a.names.length) (h2:j < a.parts.length) {p:Sh} (hp:get b (a.names[j]'h1)=some p) (h:bw f (a.parts[j]'h2) p=false):bw (f+1) a b=false:=by
 have hA:=Z37 ra (Or.inr h6);refine Z38 ra rb (fun hv=> ?_);have hq:=Z3g hA h1 h2;obtain ⟨p',hp',hv'⟩:=hv.2.2.1 (by rw[h6]; decide) _ _ hq;rw[hp] at hp'; cases hp';rw[(ZcW (Z05 ra (Z9Z hq)) (Z05 rb (Z9Z hp))).2 hv'] at h; cases h
theorem Z58 (h6: ¬(a.kind=6\/a.kind=7)) (h:a.parts.length≠b.parts.length):bw (f+1) a b=false:=
 Z38 ra rb (fun hv=>h (hv.2.2.2 h6).2.2.1)
theorem Z59 (hk:a.kind=b.kind) (ho:a.of_=b.of_) (hn:a.name=b.name) (h6: ¬(a.kind=6\/a.kind=7)) (hl:a.parts.length=b.parts.length)
 (h: ∀j (h1:j < a.parts.length) (h2:j < b.parts.length),(if j+1=a.parts.length then bw f (a.parts[j]'h1) (b.parts[j]'h2) else bw f (b.parts[j]'h2) (a.parts[j]'h1))=true):bw (f+1) a b=true:=by
 refine (ZcW ra rb).2 ⟨hk,fun hw=>absurd (Zaa hw) h6,fun hw=>absurd (Zae hw) h6,fun _=>⟨ho,hn,hl,fun i p q hp hq=> ?_⟩⟩;obtain ⟨h1,rfl⟩:=List.getElem?_eq_some_iff.1 hp;obtain ⟨h2,rfl⟩:=List.getElem?_eq_some_iff.1 hq;have r1:=Z05 ra (List.getElem_mem h1);have r2:=Z05 rb (List.getElem_mem h2);have:=h i h1 h2;by_cases e:i+1=a.parts.length
 {rw[if_pos e] at this ⊢; exact (ZcW r1 r2).1 this}
 {rw[if_neg e] at this ⊢; exact V.flip_iff.2 (by rw[Bool.not_not]; exact (ZcW r2 r1).1 this)}
theorem Z4D (h6: ¬(a.kind=6\/a.kind=7)) {j:Nat} (h1:j < a.parts.length) (h2:j < b.parts.length) (e:j+1=a.parts.length) (h:bw f (a.parts[j]'h1) (b.parts[j]'h2)=false):bw (f+1) a b=false:=by
 refine Z38 ra rb (fun hv=> ?_);have:=(hv.2.2.2 h6).2.2.2 j _ _ (List.getElem?_eq_getElem h1) (List.getElem?_eq_getElem h2);rw[if_pos e] at this;rw[(ZcW (Z05 ra (List.getElem_mem h1)) (Z05 rb (List.getElem_mem h2))).2 this] at h; cases h
theorem Z54 (h6: ¬(a.kind=6\/a.kind=7)) {j:Nat} (h1:j < a.parts.length) (h2:j < b.parts.length) (e:j+1≠a.parts.length) (h:bw f (b.parts[j]'h2) (a.parts[j]'h1)=false):bw (f+1) a b=false:=by
 refine Z38 ra rb (fun hv=> ?_);have:=(hv.2.2.2 h6).2.2.2 j _ _ (List.getElem?_eq_getElem h1) (List.getElem?_eq_getElem h2);rw[if_neg e] at this;have:=V.flip_iff.1 this;rw[Bool.not_not] at this;rw[(ZcW (Z05 rb (List.getElem_mem h2)) (Z05 ra (List.getElem_mem h1))).2 this] at h; cases h
end
end
end Sub
namespace Go.Proofs.YthajhofgjhfjeaaDoor
open Go.RowKit Shp Sub
namespace SubM
def UnderOk (f:Nat):Prop:=
 ∀(a b:Sh) (pa pb:Ptr) (w:World),Two f a b->ShAt w w.heap.size pa a->ShAt w w.heap.size pb b->
  Y9 21 #[.agg (Y8 a pa),.agg (Y8 b pb)] w (.bool (bw f a b))
def takeT (v0 v1 v2 v3 v4 v5:Value) (W0:World) (p:Sh) (ok:Bool):Nat->Value->Prop
 | 0,v=>v=v0
 | 1,v=>v=v1
 | 2,v=>v=v2
 | 3,v=>v=v3
 | 4,v=>v=v4
 | 5,v=>v=v5
 | 6,v=> ∃q:Ptr,v= .tuple #[.agg (Y8 p q),.bool ok]/\ShAt W0 W0.heap.size q p
 | 7,v=> ∃q:Ptr,v= .tuple #[.agg (Y8 p q),.bool ok]/\ShAt W0 W0.heap.size q p
 | 8,v=> ∃q:Ptr,v= .agg (Y8 p q)/\ShAt W0 W0.heap.size q p
 | 9,v=>v= .bool ok
 | 12,v=>v= .bool ok
 | _,_=>True
theorem Z3y {a:Sh} {pa:Ptr} {x:List UInt8} {W0 W:World} (ha:ShAt W0 W0.heap.size pa a) (hR:Rec a) {p:Sh} {ok:Bool} (hp: (get a x).getD Za7=p) (hok: (get a x).isSome=ok) (hJ:Below W0.heap.size W0 W):
 Calls Tryd.prog 41 #[.agg (Y8 a pa),.string ⟨x.toArray⟩] W fun e w'=> ∃q:Ptr,e= .returned (.tuple #[.agg (Y8 p q),.bool ok])/\ShAt W0 W0.heap.size q p/\Below W.heap.size W w':=by
 refine (Z3x a pa x W0.heap.size W hJ.size (ha.keep hJ (Nat.le_refl _)) hR).mono ?_;rintro e w' ⟨q,he,hs,hb⟩;rw[hp,hok] at he;rw[hp] at hs;exact ⟨q,he,hs.of (Nat.le_refl _) (fun g c hg=>(hJ.cell (p:=⟨g,c,none⟩) hg).symm),hb⟩
theorem Z3T {f:Nat} (hI:UnderOk f) (a b:Sh) (pa pb:Ptr) (w:World) (h2:Two (f+1) a b) (ha:ShAt w w.heap.size pa a) (hb:ShAt w w.heap.size pb b) (hk:a.kind=b.kind) (ho:a.of_=b.of_) (hn:a.name=b.name) (h6:a.kind=6):
 Y9 21 #[.agg (Y8 a pa),.agg (Y8 b pb)] w (.bool (bw (f+1) a b)):=by
 have hx1:=Z01 w (.cells (Y8 a pa) 25);obtain ⟨u1,hu1⟩: ∃u1,w.alloc (.cells (Y8 a pa) 25)=u1:=⟨_,rfl⟩;have hs1:u1.heap.size=w.heap.size+1:=by rw[<-hu1]; simp
 have hy1:=Z03 w a pa;rw[hu1] at hx1 hy1;have hx2:=Z01 u1 (.cells (Y8 b pb) 25);obtain ⟨W1,hu2⟩: ∃u2,u1.alloc (.cells (Y8 b pb) 25)=u2:=⟨_,rfl⟩;have hy2:=Z03 u1 b pb;rw[hu2] at hx2 hy2;rw[hs1] at hy2;have hb12:=Z00 hx1 hx2;have hxa:=hy1.next hx2;have HXa:=Y1 hxa;have HXb:=Y1 hy2;have HAa:=Y1 (ha.next hb12);have HAb:=Y1 (hb.next hb12);have HB1:=Y1 hb12;have H2:=Y1 h2;have HI:=Y1 hI;have HRt:=Y1 (Z37 h2.ra (by left; exact h6));have HRo:=Y1 (Z37 h2.rb (by rw[<-hk]; left; exact h6));have HL:=Y1 (hb.small.l);have HM:=Y1 (hb.small.m);have HL':=Y1 (ha.small.l);have HM':=Y1 (ha.small.m);have HK:=Y1 (And.intro hk h6);obtain ⟨_,⟨a0,a1,a2,a3,a4⟩,_⟩:=hxa;obtain ⟨_,⟨b0,b1,b2,b3,b4⟩,_⟩:=hy2;simp only[Nat.zero_add] at a0 a1 a2 a3 a4 b0 b1 b2 b3 b4;have n1: (a.kind !=b.kind)=false:=by rw[hk]; simp
 have n2: (a.of_ !=b.of_)=false:=by rw[ho]; simp
 have n3: (a.name !=b.name)=false:=by rw[hn]; simp
 have e1: (a.kind==b.kind)=true:=by rw[hk]; simp
 have e2: (a.of_==b.of_)=true:=by rw[ho]; simp
 have e3: (a.name==b.name)=true:=by rw[hn]; simp
 have n6:=Y4 6 h6 rfl;clear hx1 hx2 hy1 hb12 ha hb h2 hI;go_enter Tryd.func21,Tryd.ntmps21;clear hk ho hn h6
 go_wp2_with fail
 clear hs1 hu1 hu2 a0 a1 a2 a3 a4 b0 b1 b2 b3 b4 n1 n2 n3 e1 e2 e3 n6
 go_loopw [5] (fun ii wr=> ∃i:Nat,ii= .int .i64 i/\i<=b.names.length/\Hid (∀j (h1:j < b.names.length) (h2:j < b.parts.length),j < i-> ∃p,get a (b.names[j]'h1)=some p/\bw f p (b.parts[j]'h2)=true)/\Below W1.heap.size W1 wr) (fun i _=>b.names.length - (intOf i).toNat)
 case atStart=>exact ⟨0,rfl,Nat.zero_le _,Y1 (fun j _ _ hj=>absurd hj (by omega)),Below.refl _ _⟩
 case round=>
  obtain ⟨i,rfl,hi,HN,hb⟩:=hrel;have hl:=HL.out;have hm:=HM.out;have hl':=HL'.out;have hm':=HM'.out;have HB:=Y1 hb;obtain ⟨_,⟨a0,a1,a2,a3,a4⟩,_⟩:=HXa.out.next hb;obtain ⟨_,⟨b0,b1,b2,b3,b4⟩,_⟩:=HXb.out.next hb;simp only[Nat.zero_add] at a0 a1 a2 a3 a4 b0 b1 b2 b3 b4;by_cases hlt:i < b.names.length
  {have hi1: (i:Int) < (b.names.length:Int):=by omega
   have hip:i < b.parts.length:=by have:=HRo.out.l; omega
   have hi2: (i:Int) < (b.parts.length:Int):=by omega
   rcases (HAb.out.strs.next hb).cell7 with h0 | ⟨g,off,hqA,hg,hc⟩
   {omega}
   have hcx:=hc i hlt;obtain ⟨x,hx⟩: ∃x,x=b.names[i]'hlt:=⟨_,rfl⟩;rw[<-hx] at hcx;have HX:=Y1 hx;rcases HAb.out.part with h0 | ⟨g',off',qs,hqP,hg',hc',hra⟩
   {omega}
   obtain ⟨y,hy⟩: ∃y,y=b.parts[i]'hip:=⟨_,rfl⟩;have hY5:=(hc' i hip).keep hg' hb;have hYA:=(hra i hip).next hb;have hpe:b.parts[i]'hip=y:=hy.symm;rw[hpe] at hY5 hYA;have HY:=Y1 hy;have HY5:=Y1 hY5;have HYA:=Y1 hYA;have HG':=Y1 hg';rw[hqA] at b3;rw[hqP] at b4;have HCX:=Y1 hcx;have HQA:=Y1 hqA;have HQP:=Y1 hqP;have HAt:=Y1 (HAa.out.next hb);have HGX:=Y1 hg;obtain ⟨p,hp⟩: ∃p,(get a x).getD Za7=p:=⟨_,rfl⟩;obtain ⟨ok,hok⟩: ∃ok,(get a x).isSome=ok:=⟨_,rfl⟩;have HP:=Y1 (And.intro hp hok);clear hp hok hpe hY5 hYA hy hra hc' hc hx hg hg' hcx hb hqA hqP
   go_wp2_with fail
   refine Z9O (rs:= [0,1,2,3,4,5,6,7,8,9,10,11,12])
    (fun u'=> { tmps:=#[.agg (Y8 a pa),.agg (Y8 b pb),.pointer (some { block:=w.heap.size,off:=0 }),.pointer (some { block:=w.heap.size+1,off:=0 }),u4,.int .i64 ↑i,u' 10,u' 12,undef,undef,undef,undef,.pointer (some { block:=w.heap.size,off:=0 }),.int .i64 a.kind,.pointer (some { block:=w.heap.size+1,off:=0 }),.int .i64 b.kind,.bool false,.bool false,.pointer (some { block:=w.heap.size,off:=1 }),.string { data:=a.of_.toArray },.pointer (some { block:=w.heap.size+1,off:=1 }),.string { data:=b.of_.toArray },.bool false,.bool false,.bool false,.pointer (some { block:=w.heap.size,off:=2 }),.string { data:=a.name.toArray },.pointer (some { block:=w.heap.size+1,off:=2 }),.string { data:=b.name.toArray },.bool false,.bool false,.pointer (some { block:=w.heap.size,off:=0 }),.int .i64 a.kind,.bool true,.int .i64 ↑i,.pointer (some { block:=w.heap.size+1,off:=3 }),.slice (some { block:=g,off:=off }) b.names.length pb.c,.int .i64 ↑b.names.length,.bool true,u39,u40,u' 7,u' 0,u' 1,u' 2,u' 3,u' 4,u' 5,u' 6,u' 8,u' 9,u51,u52,u53,u54,u55,u56,u57,u58,u59,u60,u61,u62,undef,undef,undef,undef,undef,undef,undef,undef,undef,undef,undef,undef,undef,undef,undef,undef,undef,undef,undef,undef,undef,undef,undef,undef,undef,undef,undef,undef,undef,undef,undef,undef,undef,undef,undef,undef,undef,undef,undef,undef,undef,undef,undef,undef,undef,undef,undef,undef,undef,undef,undef,undef,undef,undef,undef,undef,undef,undef,undef,undef,undef,undef,undef,undef,undef,undef,undef,undef,undef,undef,undef,undef,undef,undef,undef,undef,undef,undef,undef,undef,undef,undef,undef,undef,undef,undef],defers:= [] })
    (fun j=>([u42,u43,u44,u45,u46,u47,u48,u41,u49,u50,u6,undef,u7]:List Value).getD j undef) (TakeI wr (takeT (.agg (Y8 a pa)) (.pointer (some ⟨w.heap.size+1,3,none⟩)) (.slice (some ⟨g,off,none⟩) b.names.length pb.c) (.int .i64 (i:Int)) (.pointer (some ⟨g,off+i,none⟩)) (.string ⟨x.toArray⟩) wr p ok) p) (by kernel_rfl) (by kernel_rfl) (by kernel_rfl) TakeI.start ?_ ?_
   refine StepsInv.cons _ rfl (fun d u' W K' hI hd hw hK=> ?_) ?_
   {obtain ⟨_,⟨y0,y1,y2,y3,y4⟩,_⟩:=HXa.out.next (Z00 HB.out hI.up);simp only[Nat.zero_add] at y0 y1 y2 y3 y4;refine Z02 (v:=(.agg (Y8 a pa))) (W':=W) rfl ?_ (hK.out _ _ (hI.step (by decide) (by decide) rfl Y2))
    try dsimp only
    go_simp}
   refine StepsInv.cons _ rfl (fun d u' W K' hI hd hw hK=> ?_) ?_
   {refine Z02 (v:=(.pointer (some ⟨w.heap.size+1,3,none⟩))) (W':=W) rfl ?_ (hK.out _ _ (hI.step (by decide) (by decide) rfl Y2))
    try dsimp only
    go_simp}
   refine StepsInv.cons _ rfl (fun d u' W K' hI hd hw hK=> ?_) ?_
   {have d1:u' 1=(.pointer (some ⟨w.heap.size+1,3,none⟩)):=hI.vals 1 (hw 1 (by kernel_rfl));obtain ⟨_,⟨y0,y1,y2,y3,y4⟩,_⟩:=HXb.out.next (Z00 HB.out hI.up);simp only[Nat.zero_add] at y0 y1 y2 y3 y4;rw[HQA.out] at y3;refine Z02 (v:=(.slice (some ⟨g,off,none⟩) b.names.length pb.c)) (W':=W) rfl ?_ (hK.out _ _ (hI.step (by decide) (by decide) rfl Y2))
    try dsimp only
    go_simp}
   refine StepsInv.cons _ rfl (fun d u' W K' hI hd hw hK=> ?_) ?_
   {refine Z02 (v:=(.int .i64 (i:Int))) (W':=W) rfl ?_ (hK.out _ _ (hI.step (by decide) (by decide) rfl Y2))
    try dsimp only
    go_simp}
   refine StepsInv.cons _ rfl (fun d u' W K' hI hd hw hK=> ?_) ?_
   {have d2:u' 2=(.slice (some ⟨g,off,none⟩) b.names.length pb.c):=hI.vals 2 (hw 2 (by kernel_rfl));have d3:u' 3=(.int .i64 (i:Int)):=hI.vals 3 (hw 3 (by kernel_rfl));refine Z02 (v:=(.pointer (some ⟨g,off+i,none⟩))) (W':=W) rfl ?_ (hK.out _ _ (hI.step (by decide) (by decide) rfl Y2))
    try dsimp only
    go_simp}
   refine StepsInv.cons _ rfl (fun d u' W K' hI hd hw hK=> ?_) ?_
   {have d4:u' 4=(.pointer (some ⟨g,off+i,none⟩)):=hI.vals 4 (hw 4 (by kernel_rfl));have hcx:=(hI.up.cell (p:=⟨g,off+i,none⟩) HGX.out).trans HCX.out;refine Z02 (v:=(.string ⟨x.toArray⟩)) (W':=W) rfl ?_ (hK.out _ _ (hI.step (by decide) (by decide) rfl Y2))
    try dsimp only
    go_simp}
   refine StepsInv.cons _ rfl (fun d u' W K' hI hd hw hK=> ?_) ?_
   {have d0:u' 0=(.agg (Y8 a pa)):=hI.vals 0 (hw 0 (by kernel_rfl));have d5:u' 5=(.string ⟨x.toArray⟩):=hI.vals 5 (hw 5 (by kernel_rfl));refine Z0q (f:=41) (args:=#[(.agg (Y8 a pa)),(.string ⟨x.toArray⟩)]) (W':=W) rfl ?_ ((Z3y HAt.out HRt.out HP.out.1 HP.out.2 hI.up).mono fun e w' ⟨q,he,hs,hb⟩=>⟨_,he,hK.out _ _ (hI.step (by decide) (by decide) ⟨q,rfl,hs⟩ hb)⟩)
    try dsimp only
    go_simp}
   refine StepsInv.cons _ rfl (fun d u' W K' hI hd hw hK=> ?_) ?_
   {obtain ⟨q,d6,hs⟩:=hI.vals 6 (hw 6 (by kernel_rfl));refine Z02 (v:= .tuple #[.agg (Y8 p q),.bool ok]) (W':=W) rfl ?_ (hK.out _ _ (hI.step (by decide) (by decide) ⟨q,rfl,hs⟩ Y2))
    try dsimp only
    go_simp}
   refine StepsInv.cons _ rfl (fun d u' W K' hI hd hw hK=> ?_) ?_
   {obtain ⟨q,d7,hs⟩:=hI.vals 7 (hw 7 (by kernel_rfl));refine Z02 (v:= .agg (Y8 p q)) (W':=W) rfl ?_ (hK.out _ _ (hI.step (by decide) (by decide) ⟨q,rfl,hs⟩ Y2))
    try dsimp only
    go_simp}
   refine StepsInv.cons _ rfl (fun d u' W K' hI hd hw hK=> ?_) ?_
   {obtain ⟨q,d7,hs⟩:=hI.vals 7 (hw 7 (by kernel_rfl));refine Z02 (v:= .bool ok) (W':=W) rfl ?_ (hK.out _ _ (hI.step (by decide) (by decide) rfl Y2))
    try dsimp only
    go_simp}
   refine StepsInv.cons _ rfl (fun d u' W K' hI hd hw hK=> ?_) ?_
   {refine Z02 (v:= .pointer (some ⟨W.heap.size,0,none⟩)) (W':=W.alloc (.cells Yb 25)) rfl ?_ (hK.out _ _ (hI.alloc hd (fun _=>trivial)))
    try dsimp only
    go_simp}
   refine StepsInv.cons _ rfl (fun d u' W K' hI hd hw hK=> ?_) ?_
   {obtain ⟨q,d8,hs⟩:=hI.vals 8 (hw 8 (by kernel_rfl));obtain ⟨b',d10,hb1,hr⟩:=hI.al (hw 10 (by kernel_rfl)) hd;obtain ⟨v0,y0⟩:=hr.ex 0 (by omega);obtain ⟨v1,y1⟩:=hr.ex 1 (by omega);obtain ⟨v2,y2⟩:=hr.ex 2 (by omega);obtain ⟨v3,y3⟩:=hr.ex 3 (by omega);obtain ⟨v4,y4⟩:=hr.ex 4 (by omega);have z0:=hr.fz 0;have z1:=hr.fz 1;have z2:=hr.fz 2;have z3:=hr.fz 3;have z4:=hr.fz 4;refine Z8i (W':=RX.lay W b' p q) rfl ?_ (hK.out _ _ (hI.store (hw 10 (by kernel_rfl)) hd (fun _=>trivial) d10 hs));unfold RX.lay
    try dsimp only
    go_simp}
   refine StepsInv.cons _ rfl (fun d u' W K' hI hd hw hK=> ?_) StepsInv.nil
   {have d9:u' 9= .bool ok:=hI.vals 9 (hw 9 (by kernel_rfl));refine Z02 (v:= .bool ok) (W':=W) rfl ?_ (hK.out _ _ (hI.step (by decide) (by decide) rfl Y2))
    try dsimp only
    go_simp}
   intro dd z' W2 hI hdn
   try dsimp only
   obtain ⟨h10,b',q,z10,hb1,hs,hbx⟩:=hI.st (hdn 11 (by decide));rw[z10,show z' 12= .bool ok from hI.vals 12 (hdn 12 (by decide))];have hb3:=hI.up;clear hI hdn h10 z10 hb1;have HB2:=Y1 hb3;have HBX:=Y1 hbx;have HSP:=Y1 (hs.next hb3);have HY5:=Y1 (HY5.out.keep (Nat.lt_of_lt_of_le HG'.out (by have:=HB.out.size; omega)) hb3);have HYA:=Y1 (HYA.out.next hb3);have HBB:=Y1 (Z00 HB.out hb3);clear hb3 hbx hs a0 a1 a2 a3 a4 b0 b1 b2 b3 b4;obtain ⟨_,⟨b0,b1,b2,b3,b4⟩,_⟩:=HXb.out.next HBB.out;simp only[Nat.zero_add] at b0 b1 b2 b3 b4;rw[HQP.out] at b4;cases ok with
   | false=>
    have HF:Hid (bw (f+1) a b=false):=Y1 (Z45 H2.out.ra H2.out.rb HK.out.1 HK.out.2 hlt (by
     rw[<-HX.out];cases hq:get a x with
     | none=>rfl
     | some v=>have:=HP.out.2; rw[hq] at this; cases this))
    go_wp2_with fail
    go_quiet (fail)
    go_wp2;go_ret;exact ⟨by rw[HF.out]; rfl,Z0K (Z00 HB1.out HBB.out) _⟩
   | true=>
    have HG:Hid (get a x=some p):=Y1 (by
     cases hq:get a x with
     | none=>have:=HP.out.2; rw[hq] at this; cases this
     | some v=>have:=HP.out.1; rw[hq] at this; rw[<-this]; rfl)
    have hdr:Below W2.heap.size W2 W2.drew:=Y2.drew;have HD:=Y1 hdr;have HT:Hid (Two f p y):=Y1 (H2.out.part (Z9Z HG.out) (by rw[HY.out]; exact List.getElem_mem hip));have HC:=Y1 (HI.out p y q (qs i) W2.drew HT.out (HSP.out.next hdr) (HYA.out.next hdr));obtain ⟨_,⟨x0,x1,x2,x3,x4⟩,_⟩:=HBX.out;obtain ⟨s0,s1,s2,s3,s4⟩:=HY5.out;simp only[Nat.zero_add] at x0 x1 x2 x3 x4;clear hdr
    go_wp2_with fail
    go_still_tail 9,(by kernel_rfl)
    change wpList _ _ _ _ _ W2.drew
    go_wp2_with fail
    refine HC.out.mono ?_;rintro e W3 ⟨rfl,hb4⟩;have HB3:=Y1 (Z00 HBB.out (Z00 HD.out hb4));clear hb4 HC x0 x1 x2 x3 x4 s0 s1 s2 s3 s4;cases hbw:bw f p y with
    | false=>
     have HF:Hid (bw (f+1) a b=false):=Y1 (Z56 H2.out.ra H2.out.rb HK.out.1 HK.out.2 hlt hip (p:=p) (by rw[<-HX.out]; exact HG.out) (by rw[<-HY.out]; exact hbw));go_wp2;go_ret;exact ⟨by rw[HF.out]; rfl,Z00 HB1.out HB3.out⟩
    | true=>
     have HE:Hid (∃p,get a (b.names[i]'hlt)=some p/\bw f p (b.parts[i]'hip)=true):=Y1 ⟨p,by rw[<-HX.out]; exact HG.out,by rw[<-HY.out]; exact hbw⟩;go_wp2
     go_roundw
     case rel=>exact ⟨i+1,by go_num,by omega,Y1 (fun j h1 h2 hji=>by
      rcases Nat.lt_succ_iff_lt_or_eq.1 hji with h | rfl
      {exact HN.out j h1 h2 h}
      · exact HE.out),HB3.out⟩
     case measure=>simp[intOf]; omega}
  {have hi1: ¬(i:Int) < (b.names.length:Int):=by omega
   have HF:Hid (bw (f+1) a b=true):=Y1 (Z4B H2.out.ra H2.out.rb HK.out.1 HK.out.2 (fun j h1 h2=>HN.out j h1 h2 (by omega)));clear hb;go_wp2;go_ret;exact ⟨by rw[HF.out]; rfl,Z00 HB1.out HB.out⟩}
end SubM
end Go.Proofs.YthajhofgjhfjeaaDoor
namespace Go.Proofs.YthajhofgjhfjeaaDoor
open Go.RowKit Shp Sub
namespace SubM
theorem Z3V {f:Nat} (hI:UnderOk f) (a b:Sh) (pa pb:Ptr) (w:World) (h2:Two (f+1) a b) (ha:ShAt w w.heap.size pa a) (hb:ShAt w w.heap.size pb b) (hk:a.kind=b.kind) (ho:a.of_=b.of_) (hn:a.name=b.name) (h6:a.kind=7):
 Y9 21 #[.agg (Y8 a pa),.agg (Y8 b pb)] w (.bool (bw (f+1) a b)):=by
 have hx1:=Z01 w (.cells (Y8 a pa) 25);obtain ⟨u1,hu1⟩: ∃u1,w.alloc (.cells (Y8 a pa) 25)=u1:=⟨_,rfl⟩;have hs1:u1.heap.size=w.heap.size+1:=by rw[<-hu1]; simp
 have hy1:=Z03 w a pa;rw[hu1] at hx1 hy1;have hx2:=Z01 u1 (.cells (Y8 b pb) 25);obtain ⟨W1,hu2⟩: ∃u2,u1.alloc (.cells (Y8 b pb) 25)=u2:=⟨_,rfl⟩;have hy2:=Z03 u1 b pb;rw[hu2] at hx2 hy2;rw[hs1] at hy2;have hb12:=Z00 hx1 hx2;have hxa:=hy1.next hx2;have HXa:=Y1 hxa;have HXb:=Y1 hy2;have HAa:=Y1 (ha.next hb12);have HAb:=Y1 (hb.next hb12);have HB1:=Y1 hb12;have H2:=Y1 h2;have HI:=Y1 hI;have HRt:=Y1 (Z37 h2.rb (by rw[<-hk]; right; exact h6));have HRo:=Y1 (Z37 h2.ra (by right; exact h6));have HL:=Y1 (hb.small.l);have HM:=Y1 (hb.small.m);have HL':=Y1 (ha.small.l);have HM':=Y1 (ha.small.m);have HK:=Y1 (And.intro hk h6);obtain ⟨_,⟨a0,a1,a2,a3,a4⟩,_⟩:=hxa;obtain ⟨_,⟨b0,b1,b2,b3,b4⟩,_⟩:=hy2;simp only[Nat.zero_add] at a0 a1 a2 a3 a4 b0 b1 b2 b3 b4;have n1: (a.kind !=b.kind)=false:=by rw[hk]; simp
 have n2: (a.of_ !=b.of_)=false:=by rw[ho]; simp
 have n3: (a.name !=b.name)=false:=by rw[hn]; simp
 have e1: (a.kind==b.kind)=true:=by rw[hk]; simp
 have e2: (a.of_==b.of_)=true:=by rw[ho]; simp
 have e3: (a.name==b.name)=true:=by rw[hn]; simp
 have n6:=Y3 6 h6 rfl;have n7:=Y4 7 h6 rfl;clear hx1 hx2 hy1 hb12 ha hb h2 hI;go_enter Tryd.func21,Tryd.ntmps21;clear hk ho hn h6
 go_wp2_with fail
 clear hs1 hu1 hu2 a0 a1 a2 a3 a4 b0 b1 b2 b3 b4 n1 n2 n3 e1 e2 e3 n6 n7
 go_loopw [8] (fun ii wr=> ∃i:Nat,ii= .int .i64 i/\i<=a.names.length/\Hid (∀j (h1:j < a.names.length) (h2:j < a.parts.length),j < i-> ∃p,get b (a.names[j]'h1)=some p/\bw f (a.parts[j]'h2) p=true)/\Below W1.heap.size W1 wr) (fun i _=>a.names.length - (intOf i).toNat)
 case atStart=>exact ⟨0,rfl,Nat.zero_le _,Y1 (fun j _ _ hj=>absurd hj (by omega)),Below.refl _ _⟩
 case round=>
  obtain ⟨i,rfl,hi,HN,hb⟩:=hrel;have hl:=HL.out;have hm:=HM.out;have hl':=HL'.out;have hm':=HM'.out;have HB:=Y1 hb;obtain ⟨_,⟨a0,a1,a2,a3,a4⟩,_⟩:=HXa.out.next hb;obtain ⟨_,⟨b0,b1,b2,b3,b4⟩,_⟩:=HXb.out.next hb;simp only[Nat.zero_add] at a0 a1 a2 a3 a4 b0 b1 b2 b3 b4;by_cases hlt:i < a.names.length
  {have hi1: (i:Int) < (a.names.length:Int):=by omega
   have hip:i < a.parts.length:=by have:=HRo.out.l; omega
   have hi2: (i:Int) < (a.parts.length:Int):=by omega
   rcases (HAa.out.strs.next hb).cell7 with h0 | ⟨g,off,hqA,hg,hc⟩
   {omega}
   have hcx:=hc i hlt;obtain ⟨x,hx⟩: ∃x,x=a.names[i]'hlt:=⟨_,rfl⟩;rw[<-hx] at hcx;have HX:=Y1 hx;rcases HAa.out.part with h0 | ⟨g',off',qs,hqP,hg',hc',hra⟩
   {omega}
   obtain ⟨y,hy⟩: ∃y,y=a.parts[i]'hip:=⟨_,rfl⟩;have hY5:=(hc' i hip).keep hg' hb;have hYA:=(hra i hip).next hb;have hpe:a.parts[i]'hip=y:=hy.symm;rw[hpe] at hY5 hYA;have HY:=Y1 hy;have HY5:=Y1 hY5;have HYA:=Y1 hYA;have HG':=Y1 hg';rw[hqA] at a3;rw[hqP] at a4;have HCX:=Y1 hcx;have HQA:=Y1 hqA;have HQP:=Y1 hqP;have HAt:=Y1 (HAb.out.next hb);have HGX:=Y1 hg;obtain ⟨p,hp⟩: ∃p,(get b x).getD Za7=p:=⟨_,rfl⟩;obtain ⟨ok,hok⟩: ∃ok,(get b x).isSome=ok:=⟨_,rfl⟩;have HP:=Y1 (And.intro hp hok);clear hp hok hpe hY5 hYA hy hra hc' hc hx hg hg' hcx hb hqA hqP
   go_wp2_with fail
   refine Z9O (rs:= [0,1,2,3,4,5,6,7,8,9,10,11,12])
    (fun u'=> { tmps:=#[.agg (Y8 a pa),.agg (Y8 b pb),.pointer (some { block:=w.heap.size,off:=0 }),.pointer (some { block:=w.heap.size+1,off:=0 }),u4,undef,undef,undef,.int .i64 ↑i,u' 10,u' 12,undef,.pointer (some { block:=w.heap.size,off:=0 }),.int .i64 a.kind,.pointer (some { block:=w.heap.size+1,off:=0 }),.int .i64 b.kind,.bool false,.bool false,.pointer (some { block:=w.heap.size,off:=1 }),.string { data:=a.of_.toArray },.pointer (some { block:=w.heap.size+1,off:=1 }),.string { data:=b.of_.toArray },.bool false,.bool false,.bool false,.pointer (some { block:=w.heap.size,off:=2 }),.string { data:=a.name.toArray },.pointer (some { block:=w.heap.size+1,off:=2 }),.string { data:=b.name.toArray },.bool false,.bool false,.pointer (some { block:=w.heap.size,off:=0 }),.int .i64 a.kind,.bool false,undef,undef,undef,undef,undef,undef,undef,undef,undef,undef,undef,undef,undef,undef,undef,undef,undef,undef,undef,undef,undef,undef,undef,undef,undef,undef,undef,undef,undef,.pointer (some { block:=w.heap.size,off:=0 }),.int .i64 a.kind,.bool true,.int .i64 ↑i,.pointer (some { block:=w.heap.size,off:=3 }),.slice (some { block:=g,off:=off }) a.names.length pa.c,.int .i64 ↑a.names.length,.bool true,u71,u72,u' 7,u' 0,u' 1,u' 2,u' 3,u' 4,u' 5,u' 6,u' 8,u' 9,u83,u84,u85,u86,u87,u88,u89,u90,u91,u92,u93,u94,undef,undef,undef,undef,undef,undef,undef,undef,undef,undef,undef,undef,undef,undef,undef,undef,undef,undef,undef,undef,undef,undef,undef,undef,undef,undef,undef,undef,undef,undef,undef,undef,undef,undef,undef,undef,undef,undef,undef,undef,undef,undef,undef,undef,undef,undef,undef,undef,undef,undef,undef,undef,undef,undef],defers:= [] })
    (fun j=>([u74,u75,u76,u77,u78,u79,u80,u73,u81,u82,u9,undef,u10]:List Value).getD j undef) (TakeI wr (takeT (.agg (Y8 b pb)) (.pointer (some ⟨w.heap.size,3,none⟩)) (.slice (some ⟨g,off,none⟩) a.names.length pa.c) (.int .i64 (i:Int)) (.pointer (some ⟨g,off+i,none⟩)) (.string ⟨x.toArray⟩) wr p ok) p) (by kernel_rfl) (by kernel_rfl) (by kernel_rfl) TakeI.start ?_ ?_
   refine StepsInv.cons _ rfl (fun d u' W K' hI hd hw hK=> ?_) ?_
   {obtain ⟨_,⟨y0,y1,y2,y3,y4⟩,_⟩:=HXb.out.next (Z00 HB.out hI.up);simp only[Nat.zero_add] at y0 y1 y2 y3 y4;refine Z02 (v:=(.agg (Y8 b pb))) (W':=W) rfl ?_ (hK.out _ _ (hI.step (by decide) (by decide) rfl Y2))
    try dsimp only
    go_simp}
   refine StepsInv.cons _ rfl (fun d u' W K' hI hd hw hK=> ?_) ?_
   {refine Z02 (v:=(.pointer (some ⟨w.heap.size,3,none⟩))) (W':=W) rfl ?_ (hK.out _ _ (hI.step (by decide) (by decide) rfl Y2))
    try dsimp only
    go_simp}
   refine StepsInv.cons _ rfl (fun d u' W K' hI hd hw hK=> ?_) ?_
   {have d1:u' 1=(.pointer (some ⟨w.heap.size,3,none⟩)):=hI.vals 1 (hw 1 (by kernel_rfl));obtain ⟨_,⟨y0,y1,y2,y3,y4⟩,_⟩:=HXa.out.next (Z00 HB.out hI.up);simp only[Nat.zero_add] at y0 y1 y2 y3 y4;rw[HQA.out] at y3;refine Z02 (v:=(.slice (some ⟨g,off,none⟩) a.names.length pa.c)) (W':=W) rfl ?_ (hK.out _ _ (hI.step (by decide) (by decide) rfl Y2))
    try dsimp only
    go_simp}
   refine StepsInv.cons _ rfl (fun d u' W K' hI hd hw hK=> ?_) ?_
   {refine Z02 (v:=(.int .i64 (i:Int))) (W':=W) rfl ?_ (hK.out _ _ (hI.step (by decide) (by decide) rfl Y2))
    try dsimp only
    go_simp}
   refine StepsInv.cons _ rfl (fun d u' W K' hI hd hw hK=> ?_) ?_
   {have d2:u' 2=(.slice (some ⟨g,off,none⟩) a.names.length pa.c):=hI.vals 2 (hw 2 (by kernel_rfl));have d3:u' 3=(.int .i64 (i:Int)):=hI.vals 3 (hw 3 (by kernel_rfl));refine Z02 (v:=(.pointer (some ⟨g,off+i,none⟩))) (W':=W) rfl ?_ (hK.out _ _ (hI.step (by decide) (by decide) rfl Y2))
    try dsimp only
    go_simp}
   refine StepsInv.cons _ rfl (fun d u' W K' hI hd hw hK=> ?_) ?_
   {have d4:u' 4=(.pointer (some ⟨g,off+i,none⟩)):=hI.vals 4 (hw 4 (by kernel_rfl));have hcx:=(hI.up.cell (p:=⟨g,off+i,none⟩) HGX.out).trans HCX.out;refine Z02 (v:=(.string ⟨x.toArray⟩)) (W':=W) rfl ?_ (hK.out _ _ (hI.step (by decide) (by decide) rfl Y2))
    try dsimp only
    go_simp}
   refine StepsInv.cons _ rfl (fun d u' W K' hI hd hw hK=> ?_) ?_
   {have d0:u' 0=(.agg (Y8 b pb)):=hI.vals 0 (hw 0 (by kernel_rfl));have d5:u' 5=(.string ⟨x.toArray⟩):=hI.vals 5 (hw 5 (by kernel_rfl));refine Z0q (f:=41) (args:=#[(.agg (Y8 b pb)),(.string ⟨x.toArray⟩)]) (W':=W) rfl ?_ ((Z3y HAt.out HRt.out HP.out.1 HP.out.2 hI.up).mono fun e w' ⟨q,he,hs,hb⟩=>⟨_,he,hK.out _ _ (hI.step (by decide) (by decide) ⟨q,rfl,hs⟩ hb)⟩)
    try dsimp only
    go_simp}
   refine StepsInv.cons _ rfl (fun d u' W K' hI hd hw hK=> ?_) ?_
   {obtain ⟨q,d6,hs⟩:=hI.vals 6 (hw 6 (by kernel_rfl));refine Z02 (v:= .tuple #[.agg (Y8 p q),.bool ok]) (W':=W) rfl ?_ (hK.out _ _ (hI.step (by decide) (by decide) ⟨q,rfl,hs⟩ Y2))
    try dsimp only
    go_simp}
   refine StepsInv.cons _ rfl (fun d u' W K' hI hd hw hK=> ?_) ?_
   {obtain ⟨q,d7,hs⟩:=hI.vals 7 (hw 7 (by kernel_rfl));refine Z02 (v:= .agg (Y8 p q)) (W':=W) rfl ?_ (hK.out _ _ (hI.step (by decide) (by decide) ⟨q,rfl,hs⟩ Y2))
    try dsimp only
    go_simp}
   refine StepsInv.cons _ rfl (fun d u' W K' hI hd hw hK=> ?_) ?_
   {obtain ⟨q,d7,hs⟩:=hI.vals 7 (hw 7 (by kernel_rfl));refine Z02 (v:= .bool ok) (W':=W) rfl ?_ (hK.out _ _ (hI.step (by decide) (by decide) rfl Y2))
    try dsimp only
    go_simp}
   refine StepsInv.cons _ rfl (fun d u' W K' hI hd hw hK=> ?_) ?_
   {refine Z02 (v:= .pointer (some ⟨W.heap.size,0,none⟩)) (W':=W.alloc (.cells Yb 25)) rfl ?_ (hK.out _ _ (hI.alloc hd (fun _=>trivial)))
    try dsimp only
    go_simp}
   refine StepsInv.cons _ rfl (fun d u' W K' hI hd hw hK=> ?_) ?_
   {obtain ⟨q,d8,hs⟩:=hI.vals 8 (hw 8 (by kernel_rfl));obtain ⟨b',d10,hb1,hr⟩:=hI.al (hw 10 (by kernel_rfl)) hd;obtain ⟨v0,y0⟩:=hr.ex 0 (by omega);obtain ⟨v1,y1⟩:=hr.ex 1 (by omega);obtain ⟨v2,y2⟩:=hr.ex 2 (by omega);obtain ⟨v3,y3⟩:=hr.ex 3 (by omega);obtain ⟨v4,y4⟩:=hr.ex 4 (by omega);have z0:=hr.fz 0;have z1:=hr.fz 1;have z2:=hr.fz 2;have z3:=hr.fz 3;have z4:=hr.fz 4;refine Z8i (W':=RX.lay W b' p q) rfl ?_ (hK.out _ _ (hI.store (hw 10 (by kernel_rfl)) hd (fun _=>trivial) d10 hs));unfold RX.lay
    try dsimp only
    go_simp}
   refine StepsInv.cons _ rfl (fun d u' W K' hI hd hw hK=> ?_) StepsInv.nil
   {have d9:u' 9= .bool ok:=hI.vals 9 (hw 9 (by kernel_rfl));refine Z02 (v:= .bool ok) (W':=W) rfl ?_ (hK.out _ _ (hI.step (by decide) (by decide) rfl Y2))
    try dsimp only
    go_simp}
   intro dd z' W2 hI hdn
   try dsimp only
   obtain ⟨h10,b',q,z10,hb1,hs,hbx⟩:=hI.st (hdn 11 (by decide));rw[z10,show z' 12= .bool ok from hI.vals 12 (hdn 12 (by decide))];have hb3:=hI.up;clear hI hdn h10 z10 hb1;have HB2:=Y1 hb3;have HBX:=Y1 hbx;have HSP:=Y1 (hs.next hb3);have HY5:=Y1 (HY5.out.keep (Nat.lt_of_lt_of_le HG'.out (by have:=HB.out.size; omega)) hb3);have HYA:=Y1 (HYA.out.next hb3);have HBB:=Y1 (Z00 HB.out hb3);clear hb3 hbx hs a0 a1 a2 a3 a4 b0 b1 b2 b3 b4;obtain ⟨_,⟨a0,a1,a2,a3,a4⟩,_⟩:=HXa.out.next HBB.out;simp only[Nat.zero_add] at a0 a1 a2 a3 a4;rw[HQP.out] at a4;cases ok with
   | false=>
    have HF:Hid (bw (f+1) a b=false):=Y1 (Z4b H2.out.ra H2.out.rb HK.out.1 HK.out.2 hlt (by
     rw[<-HX.out];cases hq:get b x with
     | none=>rfl
     | some v=>have:=HP.out.2; rw[hq] at this; cases this))
    go_wp2_with fail
    go_quiet (fail)
    go_wp2;go_ret;exact ⟨by rw[HF.out]; rfl,Z0K (Z00 HB1.out HBB.out) _⟩
   | true=>
    have HG:Hid (get b x=some p):=Y1 (by
     cases hq:get b x with
     | none=>have:=HP.out.2; rw[hq] at this; cases this
     | some v=>have:=HP.out.1; rw[hq] at this; rw[<-this]; rfl)
    have hdr:Below W2.heap.size W2 W2.drew:=Y2.drew;have HD:=Y1 hdr;have HT:Hid (Two f y p):=Y1 (H2.out.part (by rw[HY.out]; exact List.getElem_mem hip) (Z9Z HG.out));have HC:=Y1 (HI.out y p (qs i) q W2.drew HT.out (HYA.out.next hdr) (HSP.out.next hdr));obtain ⟨_,⟨x0,x1,x2,x3,x4⟩,_⟩:=HBX.out;obtain ⟨s0,s1,s2,s3,s4⟩:=HY5.out;simp only[Nat.zero_add] at x0 x1 x2 x3 x4;clear hdr
    go_wp2_with fail
    go_still_tail 9,(by kernel_rfl)
    change wpList _ _ _ _ _ W2.drew
    go_wp2_with fail
    refine HC.out.mono ?_;rintro e W3 ⟨rfl,hb4⟩;have HB3:=Y1 (Z00 HBB.out (Z00 HD.out hb4));clear hb4 HC x0 x1 x2 x3 x4 s0 s1 s2 s3 s4;cases hbw:bw f y p with
    | false=>
     have HF:Hid (bw (f+1) a b=false):=Y1 (Z57 H2.out.ra H2.out.rb HK.out.1 HK.out.2 hlt hip (p:=p) (by rw[<-HX.out]; exact HG.out) (by rw[<-HY.out]; exact hbw));go_wp2;go_ret;exact ⟨by rw[HF.out]; rfl,Z00 HB1.out HB3.out⟩
    | true=>
     have HE:Hid (∃p,get b (a.names[i]'hlt)=some p/\bw f (a.parts[i]'hip) p=true):=Y1 ⟨p,by rw[<-HX.out]; exact HG.out,by rw[<-HY.out]; exact hbw⟩;go_wp2
     go_roundw
     case rel=>exact ⟨i+1,by go_num,by omega,Y1 (fun j h1 h2 hji=>by
      rcases Nat.lt_succ_iff_lt_or_eq.1 hji with h | rfl
      {exact HN.out j h1 h2 h}
      · exact HE.out),HB3.out⟩
     case measure=>simp[intOf]; omega}
  {have hi1: ¬(i:Int) < (a.names.length:Int):=by omega
   have HF:Hid (bw (f+1) a b=true):=Y1 (Z4C H2.out.ra H2.out.rb HK.out.1 HK.out.2 (fun j h1 h2=>HN.out j h1 h2 (by omega)));clear hb;go_wp2;go_ret;exact ⟨by rw[HF.out]; rfl,Z00 HB1.out HB.out⟩}
end SubM
end Go.Proofs.YthajhofgjhfjeaaDoor
namespace Go.Proofs.YthajhofgjhfjeaaDoor
open Go.RowKit Shp Sub
namespace SubM
theorem Z3Q {f:Nat} (a b:Sh) (pa pb:Ptr) (w:World) (h2:Two (f+1) a b) (ha:ShAt w w.heap.size pa a) (hb:ShAt w w.heap.size pb b) (hd: ¬(a.kind=b.kind/\a.of_=b.of_/\a.name=b.name)):
 Y9 21 #[.agg (Y8 a pa),.agg (Y8 b pb)] w (.bool (bw (f+1) a b)):=by
 have hF:bw (f+1) a b=false:=by
  by_cases h1:a.kind=b.kind
  {refine Z3X h2.ra h2.rb ?_;by_cases h3:a.of_=b.of_
   {exact Or.inr (fun h4=>hd ⟨h1,h3,h4⟩)}
   {exact Or.inl h3}}
  {exact Z3u h1}
 rw[hF];have hx1:=Z01 w (.cells (Y8 a pa) 25);obtain ⟨u1,hu1⟩: ∃u1,w.alloc (.cells (Y8 a pa) 25)=u1:=⟨_,rfl⟩;have hs1:u1.heap.size=w.heap.size+1:=by rw[<-hu1]; simp
 have hy1:=Z03 w a pa;rw[hu1] at hx1 hy1;have hx2:=Z01 u1 (.cells (Y8 b pb) 25);obtain ⟨W1,hu2⟩: ∃u2,u1.alloc (.cells (Y8 b pb) 25)=u2:=⟨_,rfl⟩;have hy2:=Z03 u1 b pb;rw[hu2] at hx2 hy2;rw[hs1] at hy2;have hb12:=Z00 hx1 hx2;have hxa:=hy1.next hx2;have HXa:=Y1 hxa;have HXb:=Y1 hy2;have HAa:=Y1 (ha.next hb12);have HAb:=Y1 (hb.next hb12);have HB1:=Y1 hb12;have H2:=Y1 h2;have HL:=Y1 (hb.small.l);have HM:=Y1 (hb.small.m);have HL':=Y1 (ha.small.l);have HM':=Y1 (ha.small.m);have hm1:=hb.small.m;have hm2:=ha.small.m;obtain ⟨_,⟨a0,a1,a2,a3,a4⟩,_⟩:=hxa;obtain ⟨_,⟨b0,b1,b2,b3,b4⟩,_⟩:=hy2;simp only[Nat.zero_add] at a0 a1 a2 a3 a4 b0 b1 b2 b3 b4;by_cases h1:a.kind=b.kind
 {have n1: (a.kind !=b.kind)=false:=by rw[h1]; simp
  have e1: (a.kind==b.kind)=true:=by rw[h1]; simp
  by_cases h3:a.of_=b.of_
  {have n2: (a.of_ !=b.of_)=false:=by rw[h3]; simp
   have e2: (a.of_==b.of_)=true:=by rw[h3]; simp
   have h4:a.name≠b.name:=fun h4=>hd ⟨h1,h3,h4⟩;have e3: (a.name==b.name)=false:=by simpa using h4
   have n3: (a.name !=b.name)=true:=by unfold bne; rw[e3]; rfl
   clear hx1 hx2 hy1 hb12 ha hb h2 hF hd h1 h3 h4;go_enter Tryd.func21,Tryd.ntmps21;go_wp2;go_ret;exact ⟨rfl,HB1.out⟩}
  {have e2: (a.of_==b.of_)=false:=by simpa using h3
   have n2: (a.of_ !=b.of_)=true:=by unfold bne; rw[e2]; rfl
   clear hx1 hx2 hy1 hb12 ha hb h2 hF hd h1 h3;go_enter Tryd.func21,Tryd.ntmps21;go_wp2;go_ret;exact ⟨rfl,HB1.out⟩}}
 {have e1: (a.kind==b.kind)=false:=by simpa using h1
  have n1: (a.kind !=b.kind)=true:=by unfold bne; rw[e1]; rfl
  clear hx1 hx2 hy1 hb12 ha hb h2 hF hd h1;go_enter Tryd.func21,Tryd.ntmps21;go_wp2;go_ret;exact ⟨rfl,HB1.out⟩}
theorem Z4l {f:Nat} (hI:UnderOk f) (a b:Sh) (pa pb:Ptr) (w:World) (h2:Two (f+1) a b) (ha:ShAt w w.heap.size pa a) (hb:ShAt w w.heap.size pb b) (hk:a.kind=b.kind) (ho:a.of_=b.of_) (hn:a.name=b.name) (h6: ¬(a.kind=6\/a.kind=7)):
 Y9 21 #[.agg (Y8 a pa),.agg (Y8 b pb)] w (.bool (bw (f+1) a b)):=by
 have hx1:=Z01 w (.cells (Y8 a pa) 25);obtain ⟨u1,hu1⟩: ∃u1,w.alloc (.cells (Y8 a pa) 25)=u1:=⟨_,rfl⟩;have hs1:u1.heap.size=w.heap.size+1:=by rw[<-hu1]; simp
 have hy1:=Z03 w a pa;rw[hu1] at hx1 hy1;have hx2:=Z01 u1 (.cells (Y8 b pb) 25);obtain ⟨W1,hu2⟩: ∃u2,u1.alloc (.cells (Y8 b pb) 25)=u2:=⟨_,rfl⟩;have hy2:=Z03 u1 b pb;rw[hu2] at hx2 hy2;rw[hs1] at hy2;have hb12:=Z00 hx1 hx2;have hxa:=hy1.next hx2;have HXa:=Y1 hxa;have HXb:=Y1 hy2;have HAa:=Y1 (ha.next hb12);have HAb:=Y1 (hb.next hb12);have HB1:=Y1 hb12;have H2:=Y1 h2;have HL:=Y1 (hb.small.l);have HM:=Y1 (hb.small.m);have HL':=Y1 (ha.small.l);have HM':=Y1 (ha.small.m);have hm1:=hb.small.m;have hm2:=ha.small.m;obtain ⟨_,⟨a0,a1,a2,a3,a4⟩,_⟩:=hxa;obtain ⟨_,⟨b0,b1,b2,b3,b4⟩,_⟩:=hy2;simp only[Nat.zero_add] at a0 a1 a2 a3 a4 b0 b1 b2 b3 b4;have HI:=Y1 hI;have HK:=Y1 (And.intro hk (And.intro ho (And.intro hn h6)));have n1: (a.kind !=b.kind)=false:=by rw[hk]; simp
 have n2: (a.of_ !=b.of_)=false:=by rw[ho]; simp
 have n3: (a.name !=b.name)=false:=by rw[hn]; simp
 have e1: (a.kind==b.kind)=true:=by rw[hk]; simp
 have e2: (a.of_==b.of_)=true:=by rw[ho]; simp
 have e3: (a.name==b.name)=true:=by rw[hn]; simp
 have n6: (a.kind==6)=false:=by simp; exact fun h=>h6 (Or.inl h)
 have n7: (a.kind==7)=false:=by simp; exact fun h=>h6 (Or.inr h)
 clear hx1 hx2 hy1 hb12 ha hb h2 hI;go_enter Tryd.func21,Tryd.ntmps21;clear hk ho hn h6;by_cases hpl:a.parts.length=b.parts.length
 {have n5: ((a.parts.length:Int) !=(b.parts.length:Int))=false:=by rw[hpl]; simp
  have e5: ((a.parts.length:Int)==(b.parts.length:Int))=true:=by rw[hpl]; simp
  have HPL:=Y1 hpl;clear hpl
  go_wp2_with fail
  clear hs1 hu1 hu2 a0 a1 a2 a3 a4 b0 b1 b2 b3 b4 n1 n2 n3 e1 e2 e3 n6 n7 n5 e5
  go_loopw [11] (fun ii wr=> ∃i:Nat,ii= .int .i64 i/\i<=a.parts.length/\Hid (∀j (h1:j < a.parts.length) (h2:j < b.parts.length),j < i->(if j+1=a.parts.length then bw f (a.parts[j]'h1) (b.parts[j]'h2) else bw f (b.parts[j]'h2) (a.parts[j]'h1))=true)/\Below W1.heap.size W1 wr) (fun i _=>a.parts.length - (intOf i).toNat)
  case atStart=>exact ⟨0,rfl,Nat.zero_le _,Y1 (fun j _ _ hj=>absurd hj (by omega)),Below.refl _ _⟩
  case round=>
   obtain ⟨i,rfl,hi,HN,hb⟩:=hrel;have hl:=HL.out;have hm:=HM.out;have hl':=HL'.out;have hm':=HM'.out;have HB:=Y1 hb;obtain ⟨_,⟨a0,a1,a2,a3,a4⟩,_⟩:=HXa.out.next hb;obtain ⟨_,⟨b0,b1,b2,b3,b4⟩,_⟩:=HXb.out.next hb;simp only[Nat.zero_add] at a0 a1 a2 a3 a4 b0 b1 b2 b3 b4;by_cases hlt:i < a.parts.length
   {have hi1: (i:Int) < (a.parts.length:Int):=by omega
    have hib:i < b.parts.length:=by have:=HPL.out; omega
    have hi2: (i:Int) < (b.parts.length:Int):=by omega
    rcases HAa.out.part with h0 | ⟨g,off,qs,hqP,hg,hc,hra⟩
    {omega}
    rcases HAb.out.part with h0 | ⟨g',off',qs',hqP',hg',hc',hra'⟩
    {omega}
    obtain ⟨x,hx⟩: ∃x,x=a.parts[i]'hlt:=⟨_,rfl⟩;obtain ⟨y,hy⟩: ∃y,y=b.parts[i]'hib:=⟨_,rfl⟩;have hX5:=(hc i hlt).keep hg hb;have hXA:=(hra i hlt).next hb;have hY5:=(hc' i hib).keep hg' hb;have hYA:=(hra' i hib).next hb;have hxe:a.parts[i]'hlt=x:=hx.symm;have hye:b.parts[i]'hib=y:=hy.symm;rw[hxe] at hX5 hXA;rw[hye] at hY5 hYA;have HX:=Y1 hx;have HY:=Y1 hy;have HXX:=Y1 hXA;have HYY:=Y1 hYA;have HX5:=Y1 hX5;have HY5:=Y1 hY5;have HGA:=Y1 (And.intro hg hg');have HQA:=Y1 hqP;have HQB:=Y1 hqP';obtain ⟨x0,x1,x2,x3,x4⟩:=hX5;obtain ⟨y0,y1,y2,y3,y4⟩:=hY5;rw[hqP] at a4;rw[hqP'] at b4;have HT:Hid (Two f x y):=Y1 (H2.out.part (by rw[hx]; exact List.getElem_mem hlt) (by rw[hy]; exact List.getElem_mem hib));clear hxe hye hXA hYA hra hra' hc hc' hx hy hg hg' hb hqP hqP';have kw:IntKind.i64.wrap ((a.parts.length:Int) - 1)=(a.parts.length:Int) - 1:=IntWalk.i64_in _ (by omega);by_cases hE:i+1=a.parts.length
    {have HE:=Y1 hE;have k1: ((i:Int)==(a.parts.length:Int) - 1)=true:=by simp; omega
     have hdr:Below wr.heap.size wr wr.drew:=Y2.drew;have HD:=Y1 hdr;have HC:=Y1 (HI.out x y (qs i) (qs' i) wr.drew HT.out (HXX.out.next hdr) (HYY.out.next hdr));clear hdr hE
     go_wp2_with fail
     go_still_tail 17,(by kernel_rfl)
     change wpList _ _ _ _ _ wr.drew
     go_wp2_with fail
     refine HC.out.mono ?_;rintro e W3 ⟨rfl,hb4⟩;have HB3:=Y1 (Z00 HB.out (Z00 HD.out hb4));clear hb4 HC x0 x1 x2 x3 x4 y0 y1 y2 y3 y4 a0 a1 a2 a3 a4 b0 b1 b2 b3 b4;cases hbw:bw f x y with
     | false=>
      have HF:Hid (bw (f+1) a b=false):=Y1 (Z4D H2.out.ra H2.out.rb HK.out.2.2.2 hlt hib HE.out (by rw[<-HX.out, <-HY.out]; exact hbw));go_wp2;go_ret;exact ⟨by rw[HF.out]; rfl,Z00 HB1.out HB3.out⟩
     | true=>
      have HEE:Hid ((if i+1=a.parts.length then bw f (a.parts[i]'hlt) (b.parts[i]'hib) else bw f (b.parts[i]'hib) (a.parts[i]'hlt))=true):=Y1 (by rw[if_pos HE.out, <-HX.out, <-HY.out]; exact hbw);obtain ⟨_,⟨a0,a1,a2,a3,a4⟩,_⟩:=HXa.out.next HB3.out;obtain ⟨_,⟨b0,b1,b2,b3,b4⟩,_⟩:=HXb.out.next HB3.out;simp only[Nat.zero_add] at a0 a1 a2 a3 a4 b0 b1 b2 b3 b4;have k3:decide ((i:Int) < (a.parts.length:Int) - 1)=false:=decide_eq_false (by have:=HE.out; omega)
      go_wp2_with fail
      go_quiet (fail)
      go_wp2
      go_roundw
      case rel=>exact ⟨i+1,by go_num,by omega,Y1 (fun j h1 h2 hji=>by
       rcases Nat.lt_succ_iff_lt_or_eq.1 hji with h | rfl
       {exact HN.out j h1 h2 h}
       · exact HEE.out),Z0K HB3.out _⟩
      case measure=>simp[intOf]; omega}
    {have HE:=Y1 hE;have k1: ((i:Int)==(a.parts.length:Int) - 1)=false:=by simp; omega
     clear hE x0 x1 x2 x3 x4 y0 y1 y2 y3 y4
     go_wp2_with fail
     go_quiet (fail)
     have hbq:Below wr.heap.size wr (wr.drewN nq):=Z0K Y2 nq;generalize wr.drewN nq=Wq at hbq ⊢;have hdr:=Z00 hbq (Below.refl Wq.heap.size Wq).drew;have HD:=Y1 hdr;have HC:=Y1 (HI.out y x (qs' i) (qs i) Wq.drew HT.out.swap (HYY.out.next hdr) (HXX.out.next hdr));obtain ⟨x0,x1,x2,x3,x4⟩:=HX5.out.keep (Nat.lt_of_lt_of_le HGA.out.1 HB.out.size) hbq;obtain ⟨y0,y1,y2,y3,y4⟩:=HY5.out.keep (Nat.lt_of_lt_of_le HGA.out.2 HB.out.size) hbq;clear a0 a1 a2 a3 a4 b0 b1 b2 b3 b4;obtain ⟨_,⟨a0,a1,a2,a3,a4⟩,_⟩:=HXa.out.next (Z00 HB.out hbq);obtain ⟨_,⟨b0,b1,b2,b3,b4⟩,_⟩:=HXb.out.next (Z00 HB.out hbq);simp only[Nat.zero_add] at a0 a1 a2 a3 a4 b0 b1 b2 b3 b4;rw[HQA.out] at a4;rw[HQB.out] at b4;have k3: (i:Int) < (a.parts.length:Int) - 1:=by have:=HE.out; omega
     clear hbq hdr
     go_wp2_with fail
     go_still_tail 17,(by kernel_rfl)
     change wpList _ _ _ _ _ Wq.drew
     go_wp2_with fail
     refine HC.out.mono ?_;rintro e W3 ⟨rfl,hb4⟩;have HB3:=Y1 (Z00 HB.out (Z00 HD.out hb4));clear hb4 HC x0 x1 x2 x3 x4 y0 y1 y2 y3 y4 a0 a1 a2 a3 a4 b0 b1 b2 b3 b4;cases hbw:bw f y x with
     | false=>
      have HF:Hid (bw (f+1) a b=false):=Y1 (Z54 H2.out.ra H2.out.rb HK.out.2.2.2 hlt hib HE.out (by rw[<-HX.out, <-HY.out]; exact hbw));go_wp2;go_ret;exact ⟨by rw[HF.out]; rfl,Z00 HB1.out HB3.out⟩
     | true=>
      have HEE:Hid ((if i+1=a.parts.length then bw f (a.parts[i]'hlt) (b.parts[i]'hib) else bw f (b.parts[i]'hib) (a.parts[i]'hlt))=true):=Y1 (by rw[if_neg HE.out, <-HX.out, <-HY.out]; exact hbw);go_wp2
      go_roundw
      case rel=>exact ⟨i+1,by go_num,by omega,Y1 (fun j h1 h2 hji=>by
       rcases Nat.lt_succ_iff_lt_or_eq.1 hji with h | rfl
       {exact HN.out j h1 h2 h}
       · exact HEE.out),HB3.out⟩
      case measure=>simp[intOf]; omega}}
   {have hi1: ¬(i:Int) < (a.parts.length:Int):=by omega
    have HF:Hid (bw (f+1) a b=true):=Y1 (Z59 H2.out.ra H2.out.rb HK.out.1 HK.out.2.1 HK.out.2.2.1 HK.out.2.2.2 HPL.out (fun j h1 h2=>HN.out j h1 h2 (by omega)));clear hb;go_wp2;go_ret;exact ⟨by rw[HF.out]; rfl,Z00 HB1.out HB.out⟩}}
 {have e5: ((a.parts.length:Int)==(b.parts.length:Int))=false:=by simp; omega
  have n5: ((a.parts.length:Int) !=(b.parts.length:Int))=true:=by unfold bne; rw[e5]; rfl
  have HF:Hid (bw (f+1) a b=false):=Y1 (Z58 H2.out.ra H2.out.rb HK.out.2.2.2 hpl);go_wp2;go_ret;exact ⟨by rw[HF.out]; rfl,HB1.out⟩}
theorem Z3S: ∀f,UnderOk f:=by
 intro f;induction f with
 | zero=>intro a b pa pb w h2 _ _; exact absurd h2.da (by rw[Z0T]; omega)
 | succ f ih=>
  intro a b pa pb w h2 ha hb;by_cases hd:a.kind=b.kind/\a.of_=b.of_/\a.name=b.name
  {obtain ⟨hk,ho,hn⟩:=hd;by_cases h6:a.kind=6
   {exact Z3T ih a b pa pb w h2 ha hb hk ho hn h6}
   {by_cases h7:a.kind=7
    {exact Z3V ih a b pa pb w h2 ha hb hk ho hn h7}
    {exact Z4l ih a b pa pb w h2 ha hb hk ho hn (fun h=>h.elim h6 h7)}}}
  {exact Z3Q a b pa pb w h2 ha hb hd}
end SubM
end Go.Proofs.YthajhofgjhfjeaaDoor
namespace Go.Proofs.YthajhofgjhfjeaaDoor
open Go.RowKit Shp Sub
namespace SubM
def intT:Sh:=⟨1,[],[],[],[]⟩
def recT (l:List (List UInt8)):Sh:=⟨6,[],[],l,l.map (fun _=>intT)⟩
theorem ZcM (S:Nat->Prop) (W:World):Kept S W (intT,noneQ12):=fun W' _ _=>
 .mk _ _ 0 0 (fun _=>noneQ12) ⟨by simp[intT],by simp[intT],by simp[intT],by simp[intT],by simp[intT],by simp[intT],by simp[intT],fun _=>rfl,fun _=>rfl⟩ (Or.inl rfl) (Or.inl rfl) (fun i hi=>by simp[intT] at hi) (fun i hi=>by simp[intT] at hi)
theorem ZcF {g gm hi b:Nat} (hg:hi<=g) (hh:gm < hi) (hb:rowB (some ⟨g,0,none⟩)=some b) (e:b=gm):False:=by
 have e2:g=b:=by simpa[rowB] using hb
 omega
section
variable {w0 W W1 : World} {gm hi : Nat} {k : Int} {o nm : List UInt8} {nl : List (List UInt8)} {l : List El} {AN AP : Option Addr} {cN cP : Nat}
theorem Mk.ups (h:Mk w0 gm hi k o nm nl l AN cN AP cP W) {b:Nat} (hb:b=gm\/rowB AN=some b\/rowB AP=some b):w0.heap.size<=b:=by
 rcases hb with rfl | hb | hb
 {exact h.lo}
 {have:=(Za0 h.rN b hb).1; have:=h.lo; have:=h.gh; omega}
 {have:=(Za0 h.rP b hb).1; have:=h.lo; have:=h.gh; omega}
theorem soc3 {W:World} {b x y:Nat} {v:Value} (h:x≠y): (W.setCell ⟨b,x,none⟩ v).cell? ⟨b,y,none⟩=W.cell? ⟨b,y,none⟩:=RX.soc h
section
variable (h : Mk w0 gm hi k o nm nl l AN cN AP cP W) {g c : Nat}
include h g c
theorem Mk.putN {n:List UInt8} (hg:W.grownBy W1 (rowB AN)) (hrow:W1.ownsRow hi 9 1 (.slice (some ⟨g,0,none⟩) (nl.length+1) c) (nl.length+1) (namesE nl++ [.string ⟨n.toArray⟩]))
 (hat:rowB AN=some g\/g=W.heap.size):Mk w0 gm hi k o nm (nl++ [n]) l (some ⟨g,0,none⟩) c AP cP (W1.setCell ⟨gm,3,none⟩ (.slice (some ⟨g,0,none⟩) (nl.length+1) c)):=by
 have hgm:gm < W.heap.size:=Nat.lt_of_lt_of_le h.gh h.hw;have hu:Upd (fun b=>rowB AN=some b) W W1:=(Upd.refl _ W).grown hg (fun k h _=>h);have hn: ¬rowB AN=some gm:=fun e=>by have:=(Za0 h.rN _ e).1; have:=h.gh; omega
 have hu2:Upd (fun b=>b=gm) W1 (W1.setCell ⟨gm,3,none⟩ (.slice (some ⟨g,0,none⟩) (nl.length+1) c)):=Upd.set (Upd.refl (fun b=>b=gm) W1) ⟨gm,3,none⟩ (fun _=>rfl) _;have hgh:=h.gh;have hgg:=(Za0 hrow g rfl).1;refine ⟨h.up.trans (((hu.mono (T:=fun b=>b=gm\/rowB AN=some b\/rowB AP=some b) (fun b _ hb=>Or.inr (Or.inl hb))).trans (hu2.mono (fun b _ hb=>Or.inl hb))).below h.up.size (fun b hb=>h.ups hb)),h.lo,h.gh,Nat.le_trans h.hw (Nat.le_trans hu.size hu2.size),
  (soc3 (by omega)).trans ((hu.cell hgm hn).trans h.c0),(soc3 (by omega)).trans ((hu.cell hgm hn).trans h.c1),(soc3 (by omega)).trans ((hu.cell hgm hn).trans h.c2), ?_,(soc3 (by omega)).trans ((hu.cell hgm hn).trans h.c4),fun j=>(World.frozen?_setCell ..).trans ((hu.frozen hgm hn).trans (h.fz j)), ?_, ?_,Or.inr ?_⟩
 {rw[List.length_append]; exact World.cell?_setCell_same _ _ _ ((hu.cell hgm hn).trans h.c3)}
 {rw[List.length_append,ZaX]; exact Za6 hrow hu2 (fun b hb e=>ZcF hgg hgh hb e)}
 {refine Za6 (Za6 h.rP hu (fun b hb e=> ?_)) hu2 (fun b hb e=> ?_)
  {rcases h.ne with hne | hne
   {rw[hne] at e; cases e}
   {exact hne (e.trans hb.symm)}}
  {have:=(Za0 h.rP b hb).1;have e3:b=gm:=e;omega}}
 {intro e;have e2:rowB AP=some g:=by rw[<-e]; rfl
  rcases hat with h1 | h1
  {rcases h.ne with hne | hne
   {rw[hne] at h1; cases h1}
   {exact hne (h1.trans e2.symm)}}
  {have:=(Za0 h.rP g e2).2; omega}}
theorem Mk.putP {x:El} (hg:W.grownBy W1 (rowB AP)) (hrow:W1.ownsRow hi 25 5 (.slice (some ⟨g,0,none⟩) (l.length+1) c) (l.length+1) (cellsE l++Za9 x))
 (hat:rowB AP=some g\/g=W.heap.size):Mk w0 gm hi k o nm nl (l++ [x]) AN cN (some ⟨g,0,none⟩) c (W1.setCell ⟨gm,4,none⟩ (.slice (some ⟨g,0,none⟩) (l.length+1) c)):=by
 have hgm:gm < W.heap.size:=Nat.lt_of_lt_of_le h.gh h.hw;have hu:Upd (fun b=>rowB AP=some b) W W1:=(Upd.refl _ W).grown hg (fun k h _=>h);have hn: ¬rowB AP=some gm:=fun e=>by have:=(Za0 h.rP _ e).1; have:=h.gh; omega
 have hu2:Upd (fun b=>b=gm) W1 (W1.setCell ⟨gm,4,none⟩ (.slice (some ⟨g,0,none⟩) (l.length+1) c)):=Upd.set (Upd.refl (fun b=>b=gm) W1) ⟨gm,4,none⟩ (fun _=>rfl) _;have hgh:=h.gh;have hgg:=(Za0 hrow g rfl).1;refine ⟨h.up.trans (((hu.mono (T:=fun b=>b=gm\/rowB AN=some b\/rowB AP=some b) (fun b _ hb=>Or.inr (Or.inr hb))).trans (hu2.mono (fun b _ hb=>Or.inl hb))).below h.up.size (fun b hb=>h.ups hb)),h.lo,h.gh,Nat.le_trans h.hw (Nat.le_trans hu.size hu2.size),
  (soc3 (by omega)).trans ((hu.cell hgm hn).trans h.c0),(soc3 (by omega)).trans ((hu.cell hgm hn).trans h.c1),(soc3 (by omega)).trans ((hu.cell hgm hn).trans h.c2),(soc3 (by omega)).trans ((hu.cell hgm hn).trans h.c3), ?_,fun j=>(World.frozen?_setCell ..).trans ((hu.frozen hgm hn).trans (h.fz j)), ?_, ?_, ?_⟩
 {rw[List.length_append]; exact World.cell?_setCell_same _ _ _ ((hu.cell hgm hn).trans h.c4)}
 {refine Za6 (Za6 h.rN hu (fun b hb e=> ?_)) hu2 (fun b hb e=> ?_)
  {rcases h.ne with hne | hne
   {rw[hne] at hb; cases hb}
   {exact hne (hb.trans e.symm)}}
  {have:=(Za0 h.rN b hb).1;have e3:b=gm:=e;omega}}
 {rw[List.length_append,Zaf,Zan]; exact Za6 hrow hu2 (fun b hb e=>ZcF hgg hgh hb e)}
 {rcases h.ne with hne | hne
  {exact Or.inl hne}
  {refine Or.inr (fun e=> ?_);have e2:rowB AN=some g:=by rw[e]; rfl
   rcases hat with h1 | h1
   {exact hne (e2.trans h1.symm)}
   {have:=(Za0 h.rN g e2).2; omega}}}
end
end
def KR (w:World) (l:List (List UInt8)) (k:Nat) (W:World):Prop:=Rc w.heap.size W/\ ∃AN cN AP cP,Mk w (w.heap.size+1) (w.heap.size+2) 6 [] [] (l.take k) (List.replicate k (intT,noneQ12)) AN cN AP cP W
theorem Zc3 (l:List (List UInt8)) (A:Option Addr) (c:Nat) (w:World) (hA:Strs w w.heap.size A (strs l)) (hl:l.length<=1000) (hx: ∀x∈l,x.length<=1000):
 Calls Tryd.prog 22 #[.slice A l.length c] w fun e w'=> ∃q,e= .returned (sv (recT l) q)/\Kept (fun b=>w.heap.size<=b) w' (recT l,q)/\Below w.heap.size w w':=by
 obtain ⟨i0,hif0,hz0,hs0,hb0⟩:=ZaP Zbl;obtain ⟨i1,hif1,hz1,hs1,hb1⟩:=ZaP Zc8;have hba:=Z01 w (.cells Yb 25);obtain ⟨w1,hw1⟩: ∃w1,w1=w.alloc (.cells Yb 25):=⟨_,rfl⟩;have hrc:=Zax hw1;have hs:w1.heap.size=w.heap.size+1:=by rw[hw1]; simp
 have hbb:=Z01 w1 (.cells #[.int .i64 6,.string ⟨#[]⟩,.string ⟨#[]⟩,.slice none 0 0,.slice none 0 0] 25);obtain ⟨w2,hw2⟩: ∃w2,w2=w1.alloc (.cells #[.int .i64 6,.string ⟨#[]⟩,.string ⟨#[]⟩,.slice none 0 0,.slice none 0 0] 25):=⟨_,rfl⟩;have hs2:w2.heap.size=w.heap.size+2:=by rw[hw2]; simp[hs]
 rw[<-hw1] at hba;rw[<-hw2] at hbb;have h0:KR w l 0 w2:=by
  refine ⟨hrc.upd (T:=fun _=>False) (Upd.new hbb) (fun h=>h),none,0,none,0,Z00 hba hbb,by omega,by omega,by omega, ?_, ?_, ?_, ?_, ?_,fun j=> ?_,World.ownsRow_nil _ _ _ _,World.ownsRow_nil _ _ _ _,Or.inl rfl⟩ <;> (rw[hw2, <-hs]; simp[go_sem])
 have HK0:=Y1 h0;have HA:=Y1 hA;have HL:=Y1 hl;have HX:=Y1 hx;have HW:Hid ((w.alloc (.cells Yb 25)).alloc (.cells #[.int .i64 6,.string ⟨#[]⟩,.string ⟨#[]⟩,.slice none 0 0,.slice none 0 0] 25)=w2):=Y1 (by rw[hw2,hw1]);clear hba hbb hrc h0 hA hl hx hs hs2 hw2 hw1;go_enter Tryd.func22,Tryd.ntmps22
 go_wp2_with fail
 rw[HW.out]
 go_loopw [4] (fun ii wr=> ∃k:Nat,k<=l.length/\ii= .int .i64 (k:Int)/\Hid (KR w l k wr)) (fun i _=>l.length - (intOf i).toNat)
 case atStart=>exact ⟨0,Nat.zero_le _,rfl,HK0⟩
 case round=>
  obtain ⟨k,hk,rfl,HK⟩:=hrel;have hll:=HL.out;by_cases hlt:k < l.length
  {have hi1: (k:Int) < (l.length:Int):=by omega
   obtain ⟨hR,AN,cN,AP,cP,hM⟩:=HK.out;rcases (HA.out.next hM.up).cell7 with h | ⟨g,off,rfl,hg,hc⟩
   {omega}
   obtain ⟨n,hn⟩: ∃n,n=l[k]'hlt:=⟨_,rfl⟩;have hcell:=hc k hlt;rw[<-hn] at hcell;have HN:=Y1 hn;have hrep: (List.replicate k ((intT,noneQ12):El)).length=k:=by simp
   have htk: (l.take k).length=k:=by rw[List.length_take]; omega
   have c3:=hM.c3;have c4:=hM.c4;have f3:=hM.fz 3;have f4:=hM.fz 4;have hgw:w.heap.size+1 < wr.heap.size:=by have:=hM.hw; omega
   rw[htk] at c3;rw[hrep] at c4;have HM:=Y1 hM;have HRR:=Y1 hR;clear hc hM hR hn hg;have mixed:Tryd.prog.follows .mixedOrders=true:=by kernel_rfl
   have hown0: (wr.alloc (.cells #[.string ⟨n.toArray⟩] 9)).ownsRow (w.heap.size+2) 9 1 (.slice AN k cN) k (namesE (l.take k)):=by
    have h:=Za6 (S:=fun _=>False) HM.out.rN (Upd.new (Z01 wr (.cells #[.string ⟨n.toArray⟩] 9))) (fun _ _ h=>h);rw[htk] at h;exact h
   have HO:=Y1 hown0;have HS2:Hid (w.heap.size+2<=wr.heap.size):=Y1 HM.out.hw;have HF:Hid (∀(g1 cap:Nat) (w1:World),w1.ownsRow (w.heap.size+2) 9 1 (.slice (some ⟨g1,0,none⟩) (k+1) cap) (k+1) (namesE (l.take k)++ [.string ⟨n.toArray⟩])->(wr.alloc (.cells #[.string ⟨n.toArray⟩] 9)).drew.grownBy w1 (rowB AN)->(rowB AN=some g1\/g1=(wr.alloc (.cells #[.string ⟨n.toArray⟩] 9)).heap.size)->
    w1.cell? ⟨w.heap.size+1,3,none⟩=some (.slice AN k cN)/\w1.frozen? ⟨w.heap.size+1,3,none⟩=false/\w.heap.size+1 < w1.heap.size/\Rc w.heap.size (w1.setCell ⟨w.heap.size+1,3,none⟩ (.slice (some ⟨g1,0,none⟩) (k+1) cap))/\
    Mk w (w.heap.size+1) (w.heap.size+2) 6 [] [] (l.take k++ [n]) (List.replicate k (intT,noneQ12)) (some ⟨g1,0,none⟩) cap AP cP (w1.setCell ⟨w.heap.size+1,3,none⟩ (.slice (some ⟨g1,0,none⟩) (k+1) cap))):=Y1 (fun g1 cap w1 hown hg hat=>by
    have hb:=(Z01 wr (.cells #[.string ⟨n.toArray⟩] 9)).drew;have hu:Upd (fun b=>rowB AN=some b) wr w1:=(Upd.new (S:=fun b=>rowB AN=some b) hb).grown hg (fun k h _=>h);have hn: ¬rowB AN=some (w.heap.size+1):=fun e=>by have:=(Za0 HM.out.rN _ e).1; omega
    have hm:=(HM.out.new hb).putN (g:=g1) (c:=cap) (n:=n) hg (by rw[htk]; exact hown) hat;rw[htk] at hm;refine ⟨(hu.cell hgw hn).trans c3,(hu.frozen hgw hn).trans f3,Nat.lt_of_lt_of_le hgw hu.size, ?_,hm⟩;have hu2:Upd (fun b=>b=w.heap.size+1) w1 (w1.setCell ⟨w.heap.size+1,3,none⟩ (.slice (some ⟨g1,0,none⟩) (k+1) cap)):=Upd.set (Upd.refl (fun b=>b=w.heap.size+1) w1) ⟨w.heap.size+1,3,none⟩ (fun _=>rfl) _;exact (HRR.out.upd hu (fun e=>by have:=(Za0 HM.out.rN _ e).1; omega)).upd hu2 (by omega))
   clear hown0
   go_wp2_with fail
   go_region_law ((refine step_append_lies _ rfl _ _ 22 rfl (w.heap.size+2) 9 i1 (.string ByteArray.empty) 1 16 Tryd.underlying22 hif1 hz1 hs1 hb1 rfl (by decide) (.slice AN k cN) _ _ (by simp[Act.eval]) HO.out ⟨wr.heap.size,0,none⟩ 1 1 [.string ⟨n.toArray⟩] (by simp[Act.eval]) rfl (by intro j v hv; rcases j with _ | j; (rw[Z1z]; simp at hv; subst hv; simp[go_sem]); (simp at hv)) (by intro v hv; simp at hv; subst hv; rfl) (by decide) (by unfold maxLen; omega) (by omega) (by have:=HS2.out; simp; omega) _ rfl ?_); intro g1 cap w1 hown1 hgrow hat hlt1; rw[Zau] at hgrow hat; obtain ⟨d3,e3,e4,hrc1,hm1⟩:=HF.out g1 cap w1 hown1 hgrow hat; have HM1:=Y1 hm1; have HR1:=Y1 hrc1; clear hown1 hgrow hat hlt1 hrc1 hm1)
   all_goals
    clear hcell c3 c4 f3 f4 d3 e3 e4;obtain ⟨W2,hW2⟩: ∃W2,w1.setCell ⟨w.heap.size+1,3,none⟩ (.slice (some ⟨g1,0,none⟩) (k+1) cap)=W2:=⟨_,rfl⟩;rw[hW2] at HM1 HR1 ⊢;clear hW2;have d4:=HM1.out.c4;rw[hrep] at d4;have f4:=HM1.out.fz 4;have hgw2:w.heap.size+1 < W2.heap.size:=by have:=HM1.out.hw; omega
    have HP:=Y1 (Za6 (S:=fun _=>False) HM1.out.rP (Upd.new (Z01 W2 (.cells #[.int .i64 1,.string ⟨#[]⟩,.string ⟨#[]⟩,.slice none 0 0,.slice none 0 0] 25))) (fun _ _ h=>h));rw[hrep] at HP;have HS3:Hid (w.heap.size+2<=W2.heap.size):=Y1 HM1.out.hw
    go_wp2_with (at_builtin; refine wpList_append_lies _ rfl _ _ 23 rfl (w.heap.size+2) 25 i0 (.agg #[.int .i64 0,.string ByteArray.empty,.string ByteArray.empty,.slice none 0 0,.slice none 0 0]) 5 88 Tryd.underlying23 hif0 hz0 hs0 hb0 rfl (by decide) _ _ _ rfl HP.out ⟨W2.heap.size,0,none⟩ 1 1 (Za9 (intT,noneQ12)) rfl rfl (by intro j v hv; rw[Z1z,Nat.zero_add]; rcases j with _ | _ | _ | _ | _ | j <;> (simp[Za9,intT] at hv; try (subst hv; simp[go_sem]))) (Zbh _) (by decide) (by unfold maxLen; omega) (by omega) (by have:=HS3.out; simp; omega) _ rfl ?_)
    intro g2 cap2 w3 hown2 hgrow2 hat2 hlt2;rw[Zau] at hgrow2 hat2;have hb2:=Z01 W2 (.cells #[.int .i64 1,.string ⟨#[]⟩,.string ⟨#[]⟩,.slice none 0 0,.slice none 0 0] 25);have hsz2: (W2.alloc (.cells #[.int .i64 1,.string ⟨#[]⟩,.string ⟨#[]⟩,.slice none 0 0,.slice none 0 0] 25)).heap.size=W2.heap.size+1:=by simp
    have hm2:=(HM1.out.new hb2).putP (g:=g2) (c:=cap2) (x:=(intT,noneQ12)) hgrow2 (by rw[hrep]; exact hown2) (by rw[hsz2]; exact hat2);rw[hrep] at hm2;have hu3:Upd (fun b=>rowB AP=some b) W2 w3:=(Upd.new (S:=fun b=>rowB AP=some b) hb2).grown hgrow2 (fun k h _=>h);have hn3: ¬rowB AP=some (w.heap.size+1):=fun e=>by have:=(Za0 HM1.out.rP _ e).1; omega
    have d5:=(hu3.cell hgw2 hn3).trans d4;have f5:=(hu3.frozen hgw2 hn3).trans f4;have hgw3:w.heap.size+1 < w3.heap.size:=Nat.lt_of_lt_of_le hgw2 hu3.size;have hu4:Upd (fun b=>b=w.heap.size+1) w3 (w3.setCell ⟨w.heap.size+1,4,none⟩ (.slice (some ⟨g2,0,none⟩) (k+1) cap2)):=Upd.set (Upd.refl (fun b=>b=w.heap.size+1) w3) ⟨w.heap.size+1,4,none⟩ (fun _=>rfl) _;have HEND:Hid (KR w l (k+1) (w3.setCell ⟨w.heap.size+1,4,none⟩ (.slice (some ⟨g2,0,none⟩) (k+1) cap2))):=Y1 (by
     refine ⟨(HR1.out.upd hu3 (fun e=>by have:=(Za0 HM1.out.rP _ e).1; omega)).upd hu4 (by omega),some ⟨g1,0,none⟩,cap,some ⟨g2,0,none⟩,cap2, ?_⟩;rw[List.take_succ_eq_append_getElem hlt, <-HN.out,List.replicate_succ'];exact hm2)
    clear hown2 hgrow2 hat2 hlt2 hb2 hsz2 hm2 hu3 hn3 hu4 d4 f4 HP;go_wp2
    go_roundw
    case rel=>exact ⟨k+1,by omega,by go_num,HEND⟩
    case measure=>simp[intOf]; omega}
  {obtain rfl:k=l.length:=by omega
   have hi1: ¬(l.length:Int) < (l.length:Int):=by omega
   obtain ⟨hR,AN,cN,AP,cP,hM⟩:=HK.out;rw[List.take_length] at hM;have hkp:=hM.at_ (n0:=0) (fun x hx=>by rw[List.eq_of_mem_replicate hx]; exact ZcM _ _) (by simp) (by simp) (fun x hx=>by have:=HX.out x hx; omega) (by omega) (by simp; omega);have hre: ((List.replicate l.length ((intT,noneQ12):El)).map Prod.fst)=l.map (fun _=>intT):=by rw[List.map_replicate,List.map_const']
   rw[hre] at hkp;obtain ⟨c0,c1,c2,c3,c4⟩:Sh5 wr (w.heap.size+1) 0 (recT l) ⟨AN,cN,AP,cP⟩:=⟨hM.c0,hM.c1,hM.c2,hM.c3,by have:=hM.c4; simpa[recT] using this⟩;simp only[Nat.zero_add] at c0 c1 c2 c3 c4;have HF:=Y1 (Kept.move (x:=(recT l,⟨AN,cN,AP,cP⟩)) (S':=fun b=>w.heap.size<=b) hkp (RX.lay_upd wr w.heap.size (recT l) ⟨AN,cN,AP,cP⟩) (fun b _ hf=>⟨fun e=>by have e:b=w.heap.size:=e; rcases hf with hf | hf <;> omega,by rcases hf with hf | hf <;> omega⟩));have HBF:=Y1 (hM.up.trans ((RX.lay_upd wr w.heap.size (recT l) ⟨AN,cN,AP,cP⟩).below hM.up.size (fun x hx=>by omega)));have HLY:=Y1 (RX.lay_at (recT l) ⟨AN,cN,AP,cP⟩ (W:=wr) (g:=w.heap.size) hR.ex);obtain ⟨v0,y0⟩:=hR.ex 0 (by omega);obtain ⟨v1,y1⟩:=hR.ex 1 (by omega);obtain ⟨v2,y2⟩:=hR.ex 2 (by omega);obtain ⟨v3,y3⟩:=hR.ex 3 (by omega);obtain ⟨v4,y4⟩:=hR.ex 4 (by omega);have z0:=hR.fz 0;have z1:=hR.fz 1;have z2:=hR.fz 2;have z3:=hR.fz 3;have z4:=hR.fz 4;clear hkp hM hR hre HK;obtain ⟨T,hT⟩: ∃T,T=recT l:=⟨_,rfl⟩;rw[<-hT] at c0 c1 c2 c3 c4 HF HBF HLY;have HT:=Y1 hT;clear hT;go_wp2;obtain ⟨u0,u1,u2,u3,u4⟩:=HLY.out;unfold RX.lay at u0 u1 u2 u3 u4;simp only[Nat.zero_add] at u0 u1 u2 u3 u4;refine bodyPost_ret (v:=sv T ⟨AN,cN,AP,cP⟩) (by simp[results,Tryd.results22,go_sem,u0,u1,u2,u3,u4]) rfl ?_;rw[<-HT.out];exact ⟨_,rfl,HF.out,HBF.out⟩}
end SubM
end Go.Proofs.YthajhofgjhfjeaaDoor
namespace Go.Proofs.YthajhofgjhfjeaaDoor
open Go.RowKit Shp Sub
namespace SubM
theorem ZcN:J true (recT [[97],[98]]) (recT [[98],[99]])=some (recT [[98]]):=by kernel_rfl
theorem ZcO:J false (recT [[98],[99]]) (recT [[97],[98]])=some (recT [[97],[98],[99]]):=by kernel_rfl
theorem ZcP:J true ⟨1,[],[],[],[]⟩ ⟨3,[],[],[],[]⟩=none:=by kernel_rfl
theorem Zd1:Sub.below (recT [[97],[98]]) (recT [[97]])=true:=by kernel_rfl
theorem ZcU:Sub.below (recT [[97]]) (recT [[97],[98]])=false:=by kernel_rfl
theorem Zbc (w:World) (x:List UInt8):Strs (w.alloc (.cells #[.string ⟨x.toArray⟩] 9)) (w.alloc (.cells #[.string ⟨x.toArray⟩] 9)).heap.size (some ⟨w.heap.size,0,none⟩) (strs [x]):=by
 refine Or.inr ⟨w.heap.size,0,rfl,by simp,fun i hi=> ?_⟩;have h2:i < 1:=hi
 match i,h2 with
 | 0,_=>simp[go_sem,strs]
theorem ZbK (w:World) (x y:List UInt8):Strs (w.alloc (.cells #[.string ⟨x.toArray⟩,.string ⟨y.toArray⟩] 9)) (w.alloc (.cells #[.string ⟨x.toArray⟩,.string ⟨y.toArray⟩] 9)).heap.size (some ⟨w.heap.size,0,none⟩) (strs [x,y]):=by
 refine Or.inr ⟨w.heap.size,0,rfl,by simp,fun i hi=> ?_⟩;have h2:i < 2:=hi
 match i,h2 with
 | 0,_=>simp[go_sem,strs]
 | 1,_=>simp[go_sem,strs]
theorem Zco (w:World) (x y z:List UInt8):Strs (w.alloc (.cells #[.string ⟨x.toArray⟩,.string ⟨y.toArray⟩,.string ⟨z.toArray⟩] 9)) (w.alloc (.cells #[.string ⟨x.toArray⟩,.string ⟨y.toArray⟩,.string ⟨z.toArray⟩] 9)).heap.size (some ⟨w.heap.size,0,none⟩) (strs [x,y,z]):=by
 refine Or.inr ⟨w.heap.size,0,rfl,by simp,fun i hi=> ?_⟩;have h2:i < 3:=hi
 match i,h2 with
 | 0,_=>simp[go_sem,strs]
 | 1,_=>simp[go_sem,strs]
 | 2,_=>simp[go_sem,strs]
theorem Zav (l:List (List UInt8)) (t:Sh) (ht:t=recT l) (A:Option Addr) (c:Nat) (w:World) (hA:Strs w w.heap.size A (strs l)) (hl:l.length<=1000) (hx: ∀x∈l,x.length<=1000):
 Calls Tryd.prog 22 #[.slice A l.length c] w fun e w'=> ∃q:Ptr,e= .returned (.agg (Y8 t q))/\ShAt w' w'.heap.size q t/\Below w.heap.size w w':=by
 subst ht;exact (Zc3 l A c w hA hl hx).mono fun e w' ⟨q,he,hk,hb⟩=>⟨q,he,hk.here,hb⟩
theorem Zbr (W:World) (B:Nat) (t:Sh) (h1:t.names= []) (h2:t.parts= []) (h3:t.of_.length<=9223372036854775807) (h4:t.name.length<=9223372036854775807):ShAt W B noneQ12 t:=
 .mk _ _ 0 0 (fun _=>noneQ12) ⟨h3,h4,by rw[h1]; nofun,by rw[h1]; simp,by rw[h2]; simp,by rw[h1]; exact Nat.le_refl _,by rw[h2]; exact Nat.le_refl _,fun _=>rfl,fun _=>rfl⟩ (Or.inl (by rw[h1]; rfl)) (Or.inl (by rw[h2]; rfl)) (fun i h=>absurd h (by rw[h2]; simp)) (fun i h=>absurd h (by rw[h2]; simp))
theorem Zbd {up:Bool} {a b j:Sh} {w:World} {e:Ending} {w':World} (h:JIs up a b w e w') (hj:J up a b=some j):
 ∃q:Ptr,e= .returned (.tuple #[.agg (Y8 j q),.bool true])/\ShAt w' w'.heap.size q j/\Below w.heap.size w w':=by
 obtain ⟨q,he,hk,hb⟩:=h;rw[hj] at he hk;exact ⟨q,he,hk.here,hb⟩
def wantStrs (l:List (List UInt8)):Want:=⟨fun v W=> ∃A,v= .slice A l.length l.length/\Strs W W.heap.size A (strs l),fun v w w' hb ⟨A,hv,h⟩=>⟨A,hv,h.next hb⟩⟩
def Zd2 (a:Sh) (qa:Ptr) (j:Sh) (qj:Ptr) (m:Sh) (qm:Ptr) (k1:Sh):Nat->Want
 | 0=> .val (.agg (Y8 a qa))
 | 1=>wantStrs [[97]]
 | 2=>wantSh k1
 | 3=> .val (.bool true)
 | 4=> .val (.bool true)
 | 5=>wantStrs [[97]]
 | 6=>wantSh k1
 | 7=> .val (.agg (Y8 a qa))
 | 8=> .val (.bool false)
 | 9=> .val (.bool true)
 | 10=> .val (.bool true)
 | 11=> .val (.bool true)
 | 12=> .val (.bool true)
 | 13=> .val (.bool true)
 | 14=> .val (.bool true)
 | 15=> .val (.bool true)
 | 16=> .val (.bool true)
 | 17=> .val (.bool true)
 | 18=> .val (.bool false)
 | 19=> .val (.bool true)
 | 20=> .val (.bool true)
 | 21=> .val (.bool true)
 | 22=> .val (.agg (Y8 j qj))
 | 23=>wantStrs [[98]]
 | 24=>wantSh j
 | 25=> .val (.bool true)
 | 26=> .val (.bool true)
 | 27=> .val (.bool true)
 | 28=> .val (.agg (Y8 m qm))
 | 29=>wantStrs [[97],[98],[99]]
 | 30=>wantSh m
 | 31=> .val (.bool true)
 | 32=> .val (.bool true)
 | 33=> .val (.bool true)
 | _=> .any
theorem Zah (w:World) (hg:WGlobs w):Y9 10 #[] w (.bool true):=by
 obtain ⟨a,ha⟩: ∃a,a=recT [[97],[98]]:=⟨_,rfl⟩;obtain ⟨b,hb⟩: ∃b,b=recT [[98],[99]]:=⟨_,rfl⟩;have HRA:=Y1 (Zav [[97],[98]] a ha (some ⟨w.heap.size,0,none⟩) 2 _ (ZbK w [97] [98]) (by decide) (by decide));have HAE:=Y1 ha;have HBE:=Y1 hb;have hb1:=Z01 w (.cells #[.string ⟨#[97]⟩,.string ⟨#[98]⟩] 9);have HB1:=Y1 hb1;have HG:=Y1 hg;clear hg ha hb hb1;go_enter Tryd.func10,Tryd.ntmps10
 go_wp2_with fail
 refine HRA.out.mono ?_;rintro e w1 ⟨qa,rfl,hat,hb2⟩;have HBA:=Y1 (Z00 HB1.out hb2);have HAT:=Y1 hat;have HRB:=Y1 (Zav [[98],[99]] b HBE.out (some ⟨w1.heap.size,0,none⟩) 2 _ (ZbK w1 [98] [99]) (by decide) (by decide));have HB2:=Y1 (Z01 w1 (.cells #[.string ⟨#[98]⟩,.string ⟨#[99]⟩] 9));clear hat hb2 HRA HB1
 go_wp2_with fail
 refine HRB.out.mono ?_;rintro e w2 ⟨qb,rfl,hat,hb2⟩;have hbw:=Z00 HB2.out hb2;have HBB:=Y1 (Z00 HBA.out hbw);have HAT2:=Y1 (HAT.out.next hbw);have HBT:=Y1 hat;clear hat hb2 hbw HRB HB2 HBA HAT
 go_wp2_with fail
 have hx1:=Z01 w2 (.cells (Y8 a qa) 25);have hx2:=Z01 (w2.alloc (.cells (Y8 a qa) 25)) (.cells (Y8 b qb) 25);have hxs: (w2.alloc (.cells (Y8 a qa) 25)).heap.size=w2.heap.size+1:=by simp
 have hxz: ((w2.alloc (.cells (Y8 a qa) 25)).alloc (.cells (Y8 b qb) 25)).heap.size=w2.heap.size+2:=by simp
 have HXA:=Y1 ((Z03 w2 a qa).next hx2);have hxb:=Z03 (w2.alloc (.cells (Y8 a qa) 25)) b qb;rw[hxs] at hxb;have HXB:=Y1 hxb;have HB3:=Y1 (Z00 HBB.out (Z00 hx1 hx2));have HA3:=Y1 (HAT2.out.next (Z00 hx1 hx2));have HT3:=Y1 (HBT.out.next (Z00 hx1 hx2));clear hx1 hx2 hxs hxb HBB HAT2 HBT;obtain ⟨W3,hW3⟩: ∃W3,(w2.alloc (.cells (Y8 a qa) 25)).alloc (.cells (Y8 b qb) 25)=W3:=⟨_,rfl⟩;rw[hW3] at HXA HXB HB3 HA3 HT3 hxz;have HZ3:=Y1 hxz;have HJ:=Y1 (ZaV a b qa qb W3 HA3.out HT3.out (HG.out.next HB3.out));unfold sv at HJ;rw[hW3];clear hW3 hxz;refine HJ.out.mono ?_;rintro e w4 hj;obtain ⟨j,hjj⟩: ∃j,j=recT [[98]]:=⟨_,rfl⟩;obtain ⟨qj,rfl,hat,hb4⟩:=Zbd hj (j:=j) (by rw[HAE.out,HBE.out,hjj]; exact ZcN);have HJE:=Y1 hjj;have hb5:=Z01 w4 (.cells (Y8 j qj) 25);have HB4:=Y1 (Z00 HB3.out (Z00 hb4 hb5));have HAJ:=Y1 (hat.next hb5);have HA4:=Y1 (HA3.out.next (Z00 hb4 hb5));have HT4:=Y1 (HT3.out.next (Z00 hb4 hb5));have HXJ:=Y1 (Z03 w4 j qj);have HXA4:=Y1 (HXA.out.next (Z00 hb4 hb5));have HXB4:=Y1 (HXB.out.next (Z00 hb4 hb5));clear hat hj hb4 hb5 hjj HJ HXA HXB HA3 HT3 HB3;obtain ⟨W4,hW4⟩: ∃W4,w4.alloc (.cells (Y8 j qj) 25)=W4:=⟨_,rfl⟩;rw[hW4] at HB4 HAJ HA4 HT4 HXJ HXA4 HXB4;obtain ⟨_,⟨a0,a1,a2,a3,a4⟩,_⟩:=HXA4.out;obtain ⟨_,⟨b0,b1,b2,b3,b4⟩,_⟩:=HXB4.out;simp only[Nat.zero_add] at a0 a1 a2 a3 a4 b0 b1 b2 b3 b4;have HM:=Y1 (Zcn b a qb qa W4 HT4.out HA4.out (HG.out.next HB4.out));unfold sv at HM
 go_wp2_with fail
 refine HM.out.mono ?_;rintro e w5 hj;obtain ⟨m,hmm⟩: ∃m,m=recT [[97],[98],[99]]:=⟨_,rfl⟩;obtain ⟨qm,rfl,hat,hb4⟩:=Zbd hj (j:=m) (by rw[HAE.out,HBE.out,hmm]; exact ZcO);have HME:=Y1 hmm;have hb5:=Z01 w5 (.cells (Y8 m qm) 25);have HB5:=Y1 (Z00 HB4.out (Z00 hb4 hb5));have HAM:=Y1 (hat.next hb5);have HA5:=Y1 (HA4.out.next (Z00 hb4 hb5));have HJ5:=Y1 (HAJ.out.next (Z00 hb4 hb5));have HXM:=Y1 (Z03 w5 m qm);have HXA5:=Y1 (HXA4.out.next (Z00 hb4 hb5));have HXJ5:=Y1 (HXJ.out.next (Z00 hb4 hb5));clear hat hj hb4 hb5 hmm HM HXA4 HXB4 HXJ HA4 HT4 HB4 HAJ a0 a1 a2 a3 a4 b0 b1 b2 b3 b4 hW4;obtain ⟨W5,hW5⟩: ∃W5,w5.alloc (.cells (Y8 m qm) 25)=W5:=⟨_,rfl⟩;rw[hW5] at HB5 HAM HA5 HJ5 HXM HXA5 HXJ5;have HN:=Y1 (ZaV ⟨1,[],[],[],[]⟩ ⟨3,[],[],[],[]⟩ noneQ12 noneQ12 W5 (Zbr W5 _ _ rfl rfl (by decide) (by decide)) (Zbr W5 _ _ rfl rfl (by decide) (by decide)) (HG.out.next HB5.out));unfold sv at HN
 go_wp2_with fail
 refine HN.out.mono ?_;rintro e w6 hj;obtain ⟨qn,he,hb4⟩: ∃q:Ptr,e= .returned (.tuple #[.agg #[.int .i64 0,.string ⟨#[]⟩,.string ⟨#[]⟩,.slice q.A 0 q.c,.slice q.P 0 q.d],.bool false])/\Below W5.heap.size W5 w6:=by
  obtain ⟨q,h1, -,h2⟩:=hj;rw[ZcP] at h1;exact ⟨q,h1,h2⟩
 subst he;have hb5:=Z01 w6 (.cells #[.int .i64 0,.string ⟨#[]⟩,.string ⟨#[]⟩,.slice qn.A 0 qn.c,.slice qn.P 0 qn.d] 25);have HB6:=Y1 (Z00 HB5.out (Z00 hb4 hb5));have HA6:=Y1 (HA5.out.next (Z00 hb4 hb5));have HJ6:=Y1 (HJ5.out.next (Z00 hb4 hb5));have HM6:=Y1 (HAM.out.next (Z00 hb4 hb5));have HXA6:=Y1 (HXA5.out.next (Z00 hb4 hb5));have HXJ6:=Y1 (HXJ5.out.next (Z00 hb4 hb5));have HXM6:=Y1 (HXM.out.next (Z00 hb4 hb5));clear hj hb4 hb5 HN HA5 HJ5 HAM HXA5 HXJ5 HXM HB5 hW5;obtain ⟨W6,hW6⟩: ∃W6,w6.alloc (.cells #[.int .i64 0,.string ⟨#[]⟩,.string ⟨#[]⟩,.slice qn.A 0 qn.c,.slice qn.P 0 qn.d] 25)=W6:=⟨_,rfl⟩;rw[hW6] at HB6 HA6 HJ6 HM6 HXA6 HXJ6 HXM6
 go_wp2_with fail
 obtain ⟨k1,hk1⟩: ∃t,t=recT [[97]]:=⟨_,rfl⟩;have HK1:=Y1 hk1;clear hk1 hW6;refine Z2Q (rs:= [0,1,2,3,4,5,6,7,8,9,10,11,12,13,14,15,16,17,18,19,20,21,22,23,24,25,26,27,28,29,30,31,32,33])
  (fun u'=> { tmps:=#[u' 33,.pointer (some { block:=w2.heap.size,off:=0 }),.pointer (some { block:=w2.heap.size+1,off:=0 }),.pointer (some { block:=w4.heap.size,off:=0 }),.bool true,.pointer (some { block:=w5.heap.size,off:=0 }),.bool true,.pointer (some { block:=w6.heap.size,off:=0 }),.bool false,.slice (some { block:=w.heap.size,off:=0 }) 2 2,.agg (Y8 a qa),.slice (some { block:=w1.heap.size,off:=0 }) 2 2,.agg (Y8 b qb),.tuple #[.agg (Y8 j qj),.bool true],.agg (Y8 a qa),.agg (Y8 b qb),.tuple #[.agg (Y8 j qj),.bool true],.agg (Y8 j qj),.bool true,.tuple #[.agg (Y8 m qm),.bool true],.agg (Y8 b qb),.agg (Y8 a qa),.tuple #[.agg (Y8 m qm),.bool true],.agg (Y8 m qm),.bool true,.tuple #[.agg #[.int .i64 0,.string { data:=#[] },.string { data:=#[] },.slice qn.A 0 qn.c,.slice qn.P 0 qn.d],.bool false],.agg #[.int .i64 1,.string { data:=#[] },.string { data:=#[] },.slice none 0 0,.slice none 0 0],.agg #[.int .i64 3,.string { data:=#[] },.string { data:=#[] },.slice none 0 0,.slice none 0 0],.tuple #[.agg #[.int .i64 0,.string { data:=#[] },.string { data:=#[] },.slice qn.A 0 qn.c,.slice qn.P 0 qn.d],.bool false],.agg #[.int .i64 0,.string { data:=#[] },.string { data:=#[] },.slice qn.A 0 qn.c,.slice qn.P 0 qn.d],.bool false,u' 0,u' 1,u' 2,u' 3,u' 4,u' 5,u' 6,u' 7,u' 8,u' 9,u' 10,u' 11,u' 12,u' 13,u' 14,u' 15,u' 16,u' 17,u' 18,u' 19,u' 20,u' 21,u' 22,u' 23,u' 24,u' 25,u' 26,u' 27,u' 28,u' 29,u' 30,u' 31,u' 32],defers:= [] })
  (fun j=>([undef,undef,undef,undef,undef,undef,undef,undef,undef,undef,undef,undef,undef,undef,undef,undef,undef,undef,undef,undef,undef,undef,undef,undef,undef,undef,undef,undef,undef,undef,undef,undef,undef,.bool false]:List Value).getD j undef) (Zd2 a qa j qj m qm k1) (fun W=>Below W6.heap.size W6 W) (by kernel_rfl) (by kernel_rfl) (by kernel_rfl) Y2.drew ?_ ?_
 refine StepsAt.cons _ rfl (fun u' W K' hJ hd hK=> ?_) ?_
 {obtain ⟨_,⟨y0,y1,y2,y3,y4⟩,_⟩:=HXA6.out.next hJ;simp only[Nat.zero_add] at y0 y1 y2 y3 y4;refine Y0 hK hJ rfl rfl rfl ?_
  try dsimp only
  go_simp}
 refine StepsAt.cons _ rfl (fun u' W K' hJ hd hK=> ?_) ?_
 {refine Z02 (v:= .slice (some ⟨W.heap.size,0,none⟩) 1 1) (W':=W.alloc (.cells #[.string ⟨#[97]⟩] 9)) rfl ?_ (hK.out _ _ ⟨_,rfl,Zbc W [97]⟩ (Z00 hJ (Z01 W (.cells #[.string ⟨#[97]⟩] 9))) (Z01 W (.cells #[.string ⟨#[97]⟩] 9)))
  try dsimp only
  go_simp}
 refine StepsAt.cons _ rfl (fun u' W K' hJ hd hK=> ?_) ?_
 {obtain ⟨A1,d1,s1⟩:=hd 1 (by kernel_rfl);refine Z0q (f:=22) (args:=#[.slice A1 1 1]) (W':=W) rfl ?_ ((Zav [[97]] k1 HK1.out A1 1 W s1 (by decide) (by decide)).mono fun e w' ⟨q',he,ha,hb⟩=>⟨_,he,hK.out _ _ ⟨q',rfl,ha⟩ (Z00 hJ hb) hb⟩)
  try dsimp only
  go_simp}
 refine StepsAt.cons _ rfl (fun u' W K' hJ hd hK=> ?_) ?_
 {have d0:_=_:=hd 0 (by kernel_rfl);obtain ⟨q2,d2,a2⟩:=hd 2 (by kernel_rfl);refine Z0q (f:=8) (args:=#[.agg (Y8 a qa),.agg (Y8 k1 q2)]) (W':=W) rfl ?_ ((Zad a k1 qa q2 W (HA6.out.next hJ) a2 (HG.out.next (Z00 HB6.out hJ))).mono fun e w' h=>⟨_,h.1,hK.out _ _ (by rw[HAE.out,HK1.out,Zd1]; rfl) (Z00 hJ h.2) h.2⟩)
  try dsimp only
  go_simp}
 refine StepsAt.cons _ rfl (fun u' W K' hJ hd hK=> ?_) ?_
 {have d3:_=_:=hd 3 (by kernel_rfl);refine Y0 hK hJ rfl rfl rfl ?_
  try dsimp only
  go_simp}
 refine StepsAt.cons _ rfl (fun u' W K' hJ hd hK=> ?_) ?_
 {have dg:_=_:=hd 4 (by kernel_rfl);refine Z02 (v:= .slice (some ⟨W.heap.size,0,none⟩) 1 1) (W':=W.alloc (.cells #[.string ⟨#[97]⟩] 9)) ?_ ?_ (hK.out _ _ ⟨_,rfl,Zbc W [97]⟩ (Z00 hJ (Z01 W (.cells #[.string ⟨#[97]⟩] 9))) (Z01 W (.cells #[.string ⟨#[97]⟩] 9)))
  {simp[Region.wanted,yielded,dg]}
  {try dsimp only
   go_simp}}
 refine StepsAt.cons _ rfl (fun u' W K' hJ hd hK=> ?_) ?_
 {have dg:_=_:=hd 4 (by kernel_rfl);obtain ⟨A5,d5,s5⟩:=hd 5 (by kernel_rfl);refine Z0q (f:=22) (args:=#[.slice A5 1 1]) (W':=W) ?_ ?_ ((Zav [[97]] k1 HK1.out A5 1 W s5 (by decide) (by decide)).mono fun e w' ⟨q',he,ha,hb⟩=>⟨_,he,hK.out _ _ ⟨q',rfl,ha⟩ (Z00 hJ hb) hb⟩)
  {simp[Region.wanted,yielded,dg]}
  {try dsimp only
   go_simp}}
 refine StepsAt.cons _ rfl (fun u' W K' hJ hd hK=> ?_) ?_
 {have dg:_=_:=hd 4 (by kernel_rfl);obtain ⟨_,⟨y0,y1,y2,y3,y4⟩,_⟩:=HXA6.out.next hJ;simp only[Nat.zero_add] at y0 y1 y2 y3 y4;refine Y0 hK hJ rfl rfl ?_ ?_
  {simp[Region.wanted,yielded,dg]}
  {try dsimp only
   go_simp}}
 refine StepsAt.cons _ rfl (fun u' W K' hJ hd hK=> ?_) ?_
 {have dg:_=_:=hd 4 (by kernel_rfl);obtain ⟨q6,d6,a6⟩:=hd 6 (by kernel_rfl);have d7:_=_:=hd 7 (by kernel_rfl);refine Z0q (f:=8) (args:=#[.agg (Y8 k1 q6),.agg (Y8 a qa)]) (W':=W) ?_ ?_ ((Zad k1 a q6 qa W a6 (HA6.out.next hJ) (HG.out.next (Z00 HB6.out hJ))).mono fun e w' h=>⟨_,h.1,hK.out _ _ (by rw[HAE.out,HK1.out,ZcU]; rfl) (Z00 hJ h.2) h.2⟩)
  {simp[Region.wanted,yielded,dg]}
  {try dsimp only
   go_simp}}
 refine StepsAt.cons _ rfl (fun u' W K' hJ hd hK=> ?_) ?_
 {have dg:_=_:=hd 4 (by kernel_rfl);have d8:_=_:=hd 8 (by kernel_rfl);refine Y0 hK hJ rfl rfl ?_ ?_
  {simp[Region.wanted,yielded,dg]}
  {try dsimp only
   go_simp}}
 refine StepsAt.cons _ rfl (fun u' W K' hJ hd hK=> ?_) ?_
 {have d4:_=_:=hd 4 (by kernel_rfl);have d9:_=_:=hd 9 (by kernel_rfl);refine Y0 hK hJ rfl rfl rfl ?_
  try dsimp only
  go_simp}
 refine StepsAt.cons _ rfl (fun u' W K' hJ hd hK=> ?_) ?_
 {have d10:_=_:=hd 10 (by kernel_rfl);refine Y0 hK hJ rfl rfl rfl ?_
  try dsimp only
  go_simp}
 refine StepsAt.cons _ rfl (fun u' W K' hJ hd hK=> ?_) ?_
 {have dg:_=_:=hd 11 (by kernel_rfl);refine Y0 hK hJ rfl rfl ?_ ?_
  {simp[Region.wanted,yielded,dg]}
  {try dsimp only
   go_simp}}
 refine StepsAt.cons _ rfl (fun u' W K' hJ hd hK=> ?_) ?_
 {have d11:_=_:=hd 11 (by kernel_rfl);have d12:_=_:=hd 12 (by kernel_rfl);refine Y0 hK hJ rfl rfl rfl ?_
  try dsimp only
  go_simp}
 refine StepsAt.cons _ rfl (fun u' W K' hJ hd hK=> ?_) ?_
 {have d13:_=_:=hd 13 (by kernel_rfl);refine Y0 hK hJ rfl rfl rfl ?_
  try dsimp only
  go_simp}
 refine StepsAt.cons _ rfl (fun u' W K' hJ hd hK=> ?_) ?_
 {have dg:_=_:=hd 14 (by kernel_rfl);refine Y0 hK hJ rfl rfl ?_ ?_
  {simp[Region.wanted,yielded,dg]}
  {try dsimp only
   go_simp}}
 refine StepsAt.cons _ rfl (fun u' W K' hJ hd hK=> ?_) ?_
 {have d14:_=_:=hd 14 (by kernel_rfl);have d15:_=_:=hd 15 (by kernel_rfl);refine Y0 hK hJ rfl rfl rfl ?_
  try dsimp only
  go_simp}
 refine StepsAt.cons _ rfl (fun u' W K' hJ hd hK=> ?_) ?_
 {have d16:_=_:=hd 16 (by kernel_rfl);refine Y0 hK hJ rfl rfl rfl ?_
  try dsimp only
  go_simp}
 refine StepsAt.cons _ rfl (fun u' W K' hJ hd hK=> ?_) ?_
 {have dg:_=_:=hd 17 (by kernel_rfl);refine Y0 hK hJ rfl rfl ?_ ?_
  {simp[Region.wanted,yielded,dg]}
  {try dsimp only
   go_simp}}
 refine StepsAt.cons _ rfl (fun u' W K' hJ hd hK=> ?_) ?_
 {have dg:_=_:=hd 17 (by kernel_rfl);have d18:_=_:=hd 18 (by kernel_rfl);refine Y0 hK hJ rfl rfl ?_ ?_
  {simp[Region.wanted,yielded,dg]}
  {try dsimp only
   go_simp}}
 refine StepsAt.cons _ rfl (fun u' W K' hJ hd hK=> ?_) ?_
 {have d17:_=_:=hd 17 (by kernel_rfl);have d19:_=_:=hd 19 (by kernel_rfl);refine Y0 hK hJ rfl rfl rfl ?_
  try dsimp only
  go_simp}
 refine StepsAt.cons _ rfl (fun u' W K' hJ hd hK=> ?_) ?_
 {have d20:_=_:=hd 20 (by kernel_rfl);refine Y0 hK hJ rfl rfl rfl ?_
  try dsimp only
  go_simp}
 refine StepsAt.cons _ rfl (fun u' W K' hJ hd hK=> ?_) ?_
 {have dg:_=_:=hd 21 (by kernel_rfl);obtain ⟨_,⟨y0,y1,y2,y3,y4⟩,_⟩:=HXJ6.out.next hJ;simp only[Nat.zero_add] at y0 y1 y2 y3 y4;refine Y0 hK hJ rfl rfl ?_ ?_
  {simp[Region.wanted,yielded,dg]}
  {try dsimp only
   go_simp}}
 refine StepsAt.cons _ rfl (fun u' W K' hJ hd hK=> ?_) ?_
 {have dg:_=_:=hd 21 (by kernel_rfl);refine Z02 (v:= .slice (some ⟨W.heap.size,0,none⟩) 1 1) (W':=W.alloc (.cells #[.string ⟨#[98]⟩] 9)) ?_ ?_ (hK.out _ _ ⟨_,rfl,Zbc W [98]⟩ (Z00 hJ (Z01 W (.cells #[.string ⟨#[98]⟩] 9))) (Z01 W (.cells #[.string ⟨#[98]⟩] 9)))
  {simp[Region.wanted,yielded,dg]}
  {try dsimp only
   go_simp}}
 refine StepsAt.cons _ rfl (fun u' W K' hJ hd hK=> ?_) ?_
 {have dg:_=_:=hd 21 (by kernel_rfl);obtain ⟨A23,d23,s23⟩:=hd 23 (by kernel_rfl);refine Z0q (f:=22) (args:=#[.slice A23 1 1]) (W':=W) ?_ ?_ ((Zav [[98]] j HJE.out A23 1 W s23 (by decide) (by decide)).mono fun e w' ⟨q',he,ha,hb⟩=>⟨_,he,hK.out _ _ ⟨q',rfl,ha⟩ (Z00 hJ hb) hb⟩)
  {simp[Region.wanted,yielded,dg]}
  {try dsimp only
   go_simp}}
 refine StepsAt.cons _ rfl (fun u' W K' hJ hd hK=> ?_) ?_
 {have dg:_=_:=hd 21 (by kernel_rfl);have d22:_=_:=hd 22 (by kernel_rfl);obtain ⟨q24,d24,a24⟩:=hd 24 (by kernel_rfl);refine Z0q (f:=17) (args:=#[.agg (Y8 j qj),.agg (Y8 j q24)]) (W':=W) ?_ ?_ ((Z0N j j qj q24 W (HJ6.out.next hJ) a24).mono fun e w' h=>⟨_,h.1,hK.out _ _ (by rw[Z0Q]; rfl) (Z00 hJ h.2) h.2⟩)
  {simp[Region.wanted,yielded,dg]}
  {try dsimp only
   go_simp}}
 refine StepsAt.cons _ rfl (fun u' W K' hJ hd hK=> ?_) ?_
 {have d21:_=_:=hd 21 (by kernel_rfl);have d25:_=_:=hd 25 (by kernel_rfl);refine Y0 hK hJ rfl rfl rfl ?_
  try dsimp only
  go_simp}
 refine StepsAt.cons _ rfl (fun u' W K' hJ hd hK=> ?_) ?_
 {have d26:_=_:=hd 26 (by kernel_rfl);refine Y0 hK hJ rfl rfl rfl ?_
  try dsimp only
  go_simp}
 refine StepsAt.cons _ rfl (fun u' W K' hJ hd hK=> ?_) ?_
 {have dg:_=_:=hd 27 (by kernel_rfl);obtain ⟨_,⟨y0,y1,y2,y3,y4⟩,_⟩:=HXM6.out.next hJ;simp only[Nat.zero_add] at y0 y1 y2 y3 y4;refine Y0 hK hJ rfl rfl ?_ ?_
  {simp[Region.wanted,yielded,dg]}
  {try dsimp only
   go_simp}}
 refine StepsAt.cons _ rfl (fun u' W K' hJ hd hK=> ?_) ?_
 {have dg:_=_:=hd 27 (by kernel_rfl);refine Z02 (v:= .slice (some ⟨W.heap.size,0,none⟩) 3 3) (W':=W.alloc (.cells #[.string ⟨#[97]⟩,.string ⟨#[98]⟩,.string ⟨#[99]⟩] 9)) ?_ ?_ (hK.out _ _ ⟨_,rfl,Zco W [97] [98] [99]⟩ (Z00 hJ (Z01 W (.cells #[.string ⟨#[97]⟩,.string ⟨#[98]⟩,.string ⟨#[99]⟩] 9))) (Z01 W (.cells #[.string ⟨#[97]⟩,.string ⟨#[98]⟩,.string ⟨#[99]⟩] 9)))
  {simp[Region.wanted,yielded,dg]}
  {try dsimp only
   go_simp}}
 refine StepsAt.cons _ rfl (fun u' W K' hJ hd hK=> ?_) ?_
 {have dg:_=_:=hd 27 (by kernel_rfl);obtain ⟨A29,d29,s29⟩:=hd 29 (by kernel_rfl);refine Z0q (f:=22) (args:=#[.slice A29 3 3]) (W':=W) ?_ ?_ ((Zav [[97],[98],[99]] m HME.out A29 3 W s29 (by decide) (by decide)).mono fun e w' ⟨q',he,ha,hb⟩=>⟨_,he,hK.out _ _ ⟨q',rfl,ha⟩ (Z00 hJ hb) hb⟩)
  {simp[Region.wanted,yielded,dg]}
  {try dsimp only
   go_simp}}
 refine StepsAt.cons _ rfl (fun u' W K' hJ hd hK=> ?_) ?_
 {have dg:_=_:=hd 27 (by kernel_rfl);have d28:_=_:=hd 28 (by kernel_rfl);obtain ⟨q30,d30,a30⟩:=hd 30 (by kernel_rfl);refine Z0q (f:=17) (args:=#[.agg (Y8 m qm),.agg (Y8 m q30)]) (W':=W) ?_ ?_ ((Z0N m m qm q30 W (HM6.out.next hJ) a30).mono fun e w' h=>⟨_,h.1,hK.out _ _ (by rw[Z0Q]; rfl) (Z00 hJ h.2) h.2⟩)
  {simp[Region.wanted,yielded,dg]}
  {try dsimp only
   go_simp}}
 refine StepsAt.cons _ rfl (fun u' W K' hJ hd hK=> ?_) ?_
 {have d27:_=_:=hd 27 (by kernel_rfl);have d31:_=_:=hd 31 (by kernel_rfl);refine Y0 hK hJ rfl rfl rfl ?_
  try dsimp only
  go_simp}
 refine StepsAt.cons _ rfl (fun u' W K' hJ hd hK=> ?_) StepsAt.nil
 {have d32:_=_:=hd 32 (by kernel_rfl);refine Y0 hK hJ rfl rfl rfl ?_
  try dsimp only
  go_simp}
 intro u' W' hJ' hok
 try dsimp only
 rw[show u' 33= .bool true from hok 33 (by decide)];clear hok;go_wp2;go_ret;exact ⟨rfl,Z00 HB6.out hJ'⟩
end SubM
end Go.Proofs.YthajhofgjhfjeaaDoor
namespace Go.Proofs.YthajhofgjhfjeaaDoor
open Go.RowKit Shp Sub
namespace SubM
theorem Z3d (a b:Sh) (pa pb:Ptr) (w:World) (ha:ShAt w w.heap.size pa a) (hb:ShAt w w.heap.size pb b) (hg:WGlobs w):
 Y9 9 #[.agg (Y8 a pa),.agg (Y8 b pb)] w (.bool (Sub.below a b)):=by
 have hx1:=Z01 w (.cells (Y8 a pa) 25);obtain ⟨u1,hu1⟩: ∃u1,w.alloc (.cells (Y8 a pa) 25)=u1:=⟨_,rfl⟩;have hs1:u1.heap.size=w.heap.size+1:=by rw[<-hu1]; simp
 have hy1:=Z03 w a pa;rw[hu1] at hx1 hy1;have hx2:=Z01 u1 (.cells (Y8 b pb) 25);obtain ⟨W0,hu2⟩: ∃u2,u1.alloc (.cells (Y8 b pb) 25)=u2:=⟨_,rfl⟩;have hy2:=Z03 u1 b pb;rw[hu2] at hx2 hy2;rw[hs1] at hy2;have hb12:=Z00 hx1 hx2;have HXA:=Y1 (hy1.next hx2);have HXB:=Y1 hy2;have HAA:=Y1 (ha.next hb12);have HAB:=Y1 (hb.next hb12);have HG:=Y1 (hg.next hb12);have HB:=Y1 hb12;clear hx1 hx2 hy1 hy2 hb12 ha hb hg;go_enter Tryd.func9,Tryd.ntmps9;obtain ⟨_,⟨a0,a1,a2,a3,a4⟩,_⟩:=HXA.out;simp only[Nat.zero_add] at a0 a1 a2 a3 a4
 go_wp2_with fail
 refine (Z3e a pa W0 HAA.out).mono ?_;rintro e w1 ⟨rfl,hb1⟩;have HB1:=Y1 hb1;clear hb1 a0 a1 a2 a3 a4 hu1 hu2 hs1;by_cases ca:check a=0
 {have HCA:=Y1 ca;rw[ca];clear ca;obtain ⟨_,⟨b0,b1,b2,b3,b4⟩,_⟩:=HXB.out.next HB1.out;simp only[Nat.zero_add] at b0 b1 b2 b3 b4
  go_wp2_with fail
  refine (Z3e b pb w1 (HAB.out.next HB1.out)).mono ?_;rintro e w2 ⟨rfl,hb2⟩;have HB2:=Y1 (Z00 HB1.out hb2);clear hb2 b0 b1 b2 b3 b4;by_cases cb:check b=0
  {have HCB:=Y1 cb;rw[cb];clear cb;have hta:Two 40 a b:=⟨(Z0C HCA.out).2.2,(Z0C HCB.out).2.2,(Z0C HCA.out).2.1,(Z0C HCB.out).2.1,(Z0C HCA.out).1,(Z0C HCB.out).1⟩;have HU:=Y1 (Z3S 40 a b pa pb w2 hta (HAA.out.next HB2.out) (HAB.out.next HB2.out));obtain ⟨_,⟨a0,a1,a2,a3,a4⟩,_⟩:=HXA.out.next HB2.out;obtain ⟨_,⟨b0,b1,b2,b3,b4⟩,_⟩:=HXB.out.next HB2.out;simp only[Nat.zero_add] at a0 a1 a2 a3 a4 b0 b1 b2 b3 b4;clear hta
   go_wp2_with fail
   refine HU.out.mono ?_;rintro e w3 ⟨rfl,hb3⟩;have HB3:=Y1 (Z00 HB.out (Z00 HB2.out hb3));clear hb3 HU a0 a1 a2 a3 a4 b0 b1 b2 b3 b4;go_wp2;go_ret;exact ⟨by unfold Sub.below; rw[decide_eq_true HCA.out,decide_eq_true HCB.out]; rfl,HB3.out⟩}
  {have hcb: (check b==0)=false:=by simpa using cb
   have HCB:=Y1 cb;go_wp2;go_ret;exact ⟨by rw[Zb3 (fun h=>HCB.out h.2)]; rfl,Z00 HB.out HB2.out⟩}}
 {have hca: (check a==0)=false:=by simpa using ca
  have HCA:=Y1 ca;go_wp2;go_ret;exact ⟨by rw[Zb3 (fun h=>HCA.out h.1)]; rfl,Z00 HB.out HB1.out⟩}
def belowsT (a:Sh) (pa:Ptr) (b:Sh) (pb:Ptr) (v1 v2:Bool):Nat->Want
 | 0=> .val (.agg (Y8 a pa))
 | 1=> .val (.agg (Y8 b pb))
 | 2=> .val (.bool v1)
 | 3=> .val (.agg (Y8 a pa))
 | 4=> .val (.agg (Y8 b pb))
 | 5=> .val (.bool v1)
 | 6=> .val (.bool true)
 | 7=> .val (.bool true)
 | 8=> .val (.agg (Y8 b pb))
 | 9=> .val (.agg (Y8 a pa))
 | 10=> .val (.bool v2)
 | 11=> .val (.agg (Y8 b pb))
 | 12=> .val (.agg (Y8 a pa))
 | 13=> .val (.bool v2)
 | 14=> .val (.bool true)
 | 15=> .val (.bool true)
 | 16=> .val (.bool true)
 | 17=> .val (.bool true)
 | 18=> .val (.bool true)
 | 19=> .val (.bool true)
 | _=> .any
theorem subBelows_walk (a:Sh) (pa:Ptr) (b:Sh) (pb:Ptr) (w:World) (ha:ShAt w w.heap.size pa a) (hb:ShAt w w.heap.size pb b) (hg:WGlobs w):
 Y9 3 #[.agg (Y8 a pa),.agg (Y8 b pb)] w (.bool true):=by
 have hx1:=Z01 w (.cells (Y8 a pa) 25);obtain ⟨u1,hu1⟩: ∃u1,w.alloc (.cells (Y8 a pa) 25)=u1:=⟨_,rfl⟩;have hs1:u1.heap.size=w.heap.size+1:=by rw[<-hu1]; simp
 have hy1:=Z03 w a pa;rw[hu1] at hx1 hy1;have hx2:=Z01 u1 (.cells (Y8 b pb) 25);obtain ⟨W0,hu2⟩: ∃u2,u1.alloc (.cells (Y8 b pb) 25)=u2:=⟨_,rfl⟩;have hy2:=Z03 u1 b pb;rw[hu2] at hx2 hy2;rw[hs1] at hy2;have hb12:=Z00 hx1 hx2;have HXA:=Y1 (hy1.next hx2);have HXB:=Y1 hy2;have HAA:=Y1 (ha.next hb12);have HAB:=Y1 (hb.next hb12);have HG:=Y1 (hg.next hb12);have HB:=Y1 hb12;clear hx1 hx2 hy1 hy2 hb12 ha hb hg;obtain ⟨v1,hv1⟩: ∃v,Sub.below a b=v:=⟨_,rfl⟩;obtain ⟨v2,hv2⟩: ∃v,Sub.below b a=v:=⟨_,rfl⟩;have HV1:=Y1 hv1;have HV2:=Y1 hv2;clear hv1 hv2;go_enter Tryd.func3,Tryd.ntmps3
 go_wp2_with fail
 clear hu1 hu2 hs1;refine Z2Q (rs:= [0,1,2,3,4,5,6,7,8,9,10,11,12,13,14,15,16,17,18,19])
  (fun u'=> { tmps:=#[.agg (Y8 a pa),.agg (Y8 b pb),.pointer (some { block:=w.heap.size,off:=0 }),.pointer (some { block:=w.heap.size+1,off:=0 }),u' 19,u' 0,u' 1,u' 2,u' 3,u' 4,u' 5,u' 6,u' 7,u' 8,u' 9,u' 10,u' 11,u' 12,u' 13,u' 14,u' 15,u' 16,u' 17,u' 18],defers:= [] })
  (fun j=>([undef,undef,undef,undef,undef,undef,undef,undef,undef,undef,undef,undef,undef,undef,undef,undef,undef,undef,undef,.bool false]:List Value).getD j undef) (belowsT a pa b pb v1 v2) (fun W=>Below W0.heap.size W0 W) (by kernel_rfl) (by kernel_rfl) (by kernel_rfl) Y2.drew ?_ ?_
 refine StepsAt.cons _ rfl (fun u' W K' hJ hd hK=> ?_) ?_
 {obtain ⟨_,⟨y0,y1,y2,y3,y4⟩,_⟩:=HXA.out.next hJ;simp only[Nat.zero_add] at y0 y1 y2 y3 y4;refine Y0 hK hJ rfl rfl rfl ?_
  try dsimp only
  go_simp}
 refine StepsAt.cons _ rfl (fun u' W K' hJ hd hK=> ?_) ?_
 {obtain ⟨_,⟨y0,y1,y2,y3,y4⟩,_⟩:=HXB.out.next hJ;simp only[Nat.zero_add] at y0 y1 y2 y3 y4;refine Y0 hK hJ rfl rfl rfl ?_
  try dsimp only
  go_simp}
 refine StepsAt.cons _ rfl (fun u' W K' hJ hd hK=> ?_) ?_
 {have d0:_=_:=hd 0 (by kernel_rfl);have d1:_=_:=hd 1 (by kernel_rfl);refine Z0q (f:=8) (args:=#[.agg (Y8 a pa),.agg (Y8 b pb)]) (W':=W) rfl ?_ ((Zad a b pa pb W (HAA.out.next hJ) (HAB.out.next hJ) (HG.out.next hJ)).mono fun e w' h=>⟨_,h.1,hK.out _ _ (congrArg Value.bool HV1.out) (Z00 hJ h.2) h.2⟩)
  try dsimp only
  go_simp}
 refine StepsAt.cons _ rfl (fun u' W K' hJ hd hK=> ?_) ?_
 {obtain ⟨_,⟨y0,y1,y2,y3,y4⟩,_⟩:=HXA.out.next hJ;simp only[Nat.zero_add] at y0 y1 y2 y3 y4;refine Y0 hK hJ rfl rfl rfl ?_
  try dsimp only
  go_simp}
 refine StepsAt.cons _ rfl (fun u' W K' hJ hd hK=> ?_) ?_
 {obtain ⟨_,⟨y0,y1,y2,y3,y4⟩,_⟩:=HXB.out.next hJ;simp only[Nat.zero_add] at y0 y1 y2 y3 y4;refine Y0 hK hJ rfl rfl rfl ?_
  try dsimp only
  go_simp}
 refine StepsAt.cons _ rfl (fun u' W K' hJ hd hK=> ?_) ?_
 {have d3:_=_:=hd 3 (by kernel_rfl);have d4:_=_:=hd 4 (by kernel_rfl);refine Z0q (f:=9) (args:=#[.agg (Y8 a pa),.agg (Y8 b pb)]) (W':=W) rfl ?_ ((Z3d a b pa pb W (HAA.out.next hJ) (HAB.out.next hJ) (HG.out.next hJ)).mono fun e w' h=>⟨_,h.1,hK.out _ _ (congrArg Value.bool HV1.out) (Z00 hJ h.2) h.2⟩)
  try dsimp only
  go_simp}
 refine StepsAt.cons _ rfl (fun u' W K' hJ hd hK=> ?_) ?_
 {have d2:_=_:=hd 2 (by kernel_rfl);have d5:_=_:=hd 5 (by kernel_rfl);refine Y0 hK hJ rfl rfl rfl ?_
  try dsimp only
  go_simp}
 refine StepsAt.cons _ rfl (fun u' W K' hJ hd hK=> ?_) ?_
 {have d6:_=_:=hd 6 (by kernel_rfl);refine Y0 hK hJ rfl rfl rfl ?_
  try dsimp only
  go_simp}
 refine StepsAt.cons _ rfl (fun u' W K' hJ hd hK=> ?_) ?_
 {have dg:_=_:=hd 7 (by kernel_rfl);obtain ⟨_,⟨y0,y1,y2,y3,y4⟩,_⟩:=HXB.out.next hJ;simp only[Nat.zero_add] at y0 y1 y2 y3 y4;refine Y0 hK hJ rfl rfl ?_ ?_
  {simp[Region.wanted,yielded,dg]}
  {try dsimp only
   go_simp}}
 refine StepsAt.cons _ rfl (fun u' W K' hJ hd hK=> ?_) ?_
 {have dg:_=_:=hd 7 (by kernel_rfl);obtain ⟨_,⟨y0,y1,y2,y3,y4⟩,_⟩:=HXA.out.next hJ;simp only[Nat.zero_add] at y0 y1 y2 y3 y4;refine Y0 hK hJ rfl rfl ?_ ?_
  {simp[Region.wanted,yielded,dg]}
  {try dsimp only
   go_simp}}
 refine StepsAt.cons _ rfl (fun u' W K' hJ hd hK=> ?_) ?_
 {have dg:_=_:=hd 7 (by kernel_rfl);have d8:_=_:=hd 8 (by kernel_rfl);have d9:_=_:=hd 9 (by kernel_rfl);refine Z0q (f:=8) (args:=#[.agg (Y8 b pb),.agg (Y8 a pa)]) (W':=W) ?_ ?_ ((Zad b a pb pa W (HAB.out.next hJ) (HAA.out.next hJ) (HG.out.next hJ)).mono fun e w' h=>⟨_,h.1,hK.out _ _ (congrArg Value.bool HV2.out) (Z00 hJ h.2) h.2⟩)
  {simp[Region.wanted,yielded,dg]}
  {try dsimp only
   go_simp}}
 refine StepsAt.cons _ rfl (fun u' W K' hJ hd hK=> ?_) ?_
 {have dg:_=_:=hd 7 (by kernel_rfl);obtain ⟨_,⟨y0,y1,y2,y3,y4⟩,_⟩:=HXB.out.next hJ;simp only[Nat.zero_add] at y0 y1 y2 y3 y4;refine Y0 hK hJ rfl rfl ?_ ?_
  {simp[Region.wanted,yielded,dg]}
  {try dsimp only
   go_simp}}
 refine StepsAt.cons _ rfl (fun u' W K' hJ hd hK=> ?_) ?_
 {have dg:_=_:=hd 7 (by kernel_rfl);obtain ⟨_,⟨y0,y1,y2,y3,y4⟩,_⟩:=HXA.out.next hJ;simp only[Nat.zero_add] at y0 y1 y2 y3 y4;refine Y0 hK hJ rfl rfl ?_ ?_
  {simp[Region.wanted,yielded,dg]}
  {try dsimp only
   go_simp}}
 refine StepsAt.cons _ rfl (fun u' W K' hJ hd hK=> ?_) ?_
 {have dg:_=_:=hd 7 (by kernel_rfl);have d11:_=_:=hd 11 (by kernel_rfl);have d12:_=_:=hd 12 (by kernel_rfl);refine Z0q (f:=9) (args:=#[.agg (Y8 b pb),.agg (Y8 a pa)]) (W':=W) ?_ ?_ ((Z3d b a pb pa W (HAB.out.next hJ) (HAA.out.next hJ) (HG.out.next hJ)).mono fun e w' h=>⟨_,h.1,hK.out _ _ (congrArg Value.bool HV2.out) (Z00 hJ h.2) h.2⟩)
  {simp[Region.wanted,yielded,dg]}
  {try dsimp only
   go_simp}}
 refine StepsAt.cons _ rfl (fun u' W K' hJ hd hK=> ?_) ?_
 {have dg:_=_:=hd 7 (by kernel_rfl);have d10:_=_:=hd 10 (by kernel_rfl);have d13:_=_:=hd 13 (by kernel_rfl);refine Y0 hK hJ rfl rfl ?_ ?_
  {simp[Region.wanted,yielded,dg]}
  {try dsimp only
   go_simp}}
 refine StepsAt.cons _ rfl (fun u' W K' hJ hd hK=> ?_) ?_
 {have d7:_=_:=hd 7 (by kernel_rfl);have d14:_=_:=hd 14 (by kernel_rfl);refine Y0 hK hJ rfl rfl rfl ?_
  try dsimp only
  go_simp}
 refine StepsAt.cons _ rfl (fun u' W K' hJ hd hK=> ?_) ?_
 {have d15:_=_:=hd 15 (by kernel_rfl);refine Y0 hK hJ rfl rfl rfl ?_
  try dsimp only
  go_simp}
 refine StepsAt.cons _ rfl (fun u' W K' hJ hd hK=> ?_) ?_
 {have dg:_=_:=hd 16 (by kernel_rfl);refine Z0q (f:=10) (args:=#[]) (W':=W) ?_ ?_ ((Zah W (HG.out.next hJ)).mono fun e w' h=>⟨_,h.1,hK.out _ _ rfl (Z00 hJ h.2) h.2⟩)
  {simp[Region.wanted,yielded,dg]}
  {try dsimp only
   go_simp}}
 refine StepsAt.cons _ rfl (fun u' W K' hJ hd hK=> ?_) ?_
 {have d16:_=_:=hd 16 (by kernel_rfl);have d17:_=_:=hd 17 (by kernel_rfl);refine Y0 hK hJ rfl rfl rfl ?_
  try dsimp only
  go_simp}
 refine StepsAt.cons _ rfl (fun u' W K' hJ hd hK=> ?_) StepsAt.nil
 {have d18:_=_:=hd 18 (by kernel_rfl);refine Y0 hK hJ rfl rfl rfl ?_
  try dsimp only
  go_simp}
 intro u' W' hJ' hok
 try dsimp only
 rw[show u' 19= .bool true from hok 19 (by decide)];clear hok;go_wp2;go_ret;exact ⟨rfl,Z00 HB.out hJ'⟩
end SubM
end Go.Proofs.YthajhofgjhfjeaaDoor
namespace Go.Proofs.YthajhofgjhfjeaaDoor
section
open Go.RowKit Shp
theorem Z3R {H:Type} {enc:TypeId×Value->H} {W:World} {base b0:Nat} {held:Bool} {v:Value} {d:DataW H} {p:List MemPlace}
 (hv:Value.okWide Tryd.prog W .any b0 25 v) (h:DataW.Trod enc Tryd.prog W base (fun _=>true) held 25 v d p):
 ∃(t:Sh) (q:Ptr),v= .agg (Y8 t q)/\ShAt W W.heap.size q t:=by
 obtain ⟨cs,rfl,hsz⟩:=Go.WideShapes.okWide_struct Tryd.underlying25 hv;obtain ⟨n,hn⟩:=h;obtain ⟨t,q,hcs,hat⟩:=Z2o n hn;refine ⟨t,q, ?_,hat⟩;congr 1;apply Array.ext';exact hcs
end
end Go.Proofs.YthajhofgjhfjeaaDoor
namespace Go.Proofs.YthajhofgjhfjeaaDoor.subtypeBelows
section
open Go.ChangeShapes Go.WideShapes Go.ChangeAt Go.RowKit
open Go.ChangeMaps (open_string shut_string)
theorem walk (w:World) (u0:Shp.Sh) (p0:Ptr) (S0:ShAt w w.heap.size p0 u0) (u1:Shp.Sh) (p1:Ptr) (S1:ShAt w w.heap.size p1 u1) (hg:WGlobs w):Y9 3 #[.agg (Y8 u0 p0),.agg (Y8 u1 p1)] w (.bool true):=SubM.subBelows_walk u0 p0 u1 p1 w S0 S1 hg
theorem own:ownKnob Tryd.prog.godebug=none:=by kernel_rfl
theorem laidOut:laidOutB Tryd.prog=true:=by kernel_rfl
theorem contract (H:Type) (enc:TypeId×Value->H) (W:World) (base:Nat) (args:Array Value) (ds gs:List (DataW H)) (before:List MemPlace)
 (hval0: ∀(j:Nat) t v,Tryd.f3.params[j]? =some t->args[j]? =some v->Value.okWide Tryd.prog W .any base t v)
 (hW:DataW.Whole enc Tryd.prog Tryd.f3.params.toList Rows.subtypeBelowsSpec.vars false W args.toList ds gs before) (hL:laidMetH Tryd.prog Rows.subtypeBelowsRow.laid W) (hsz0: (DataW.weightsEach Tryd.prog (Tryd.f3.params.toList++Rows.subtypeBelowsSpec.plain.varTypes Tryd.prog) (ds++gs)).all (· <=reachBytes)=true):
 Calls Tryd.prog 3 args W fun e W'=> ∃v,e= .returned v/\Rows.subtypeBelowsSpec.post enc Tryd.prog Tryd.f3 false true false false W args v W':=by
 have hval: ∀(j:Nat) t v,Tryd.f3.params[j]? =some t->args[j]? =some v->Value.okWide Tryd.prog W .any base t v:=hval0;have hsz: (DataW.weightsEach Tryd.prog (Tryd.f3.params.toList++Rows.subtypeBelowsSpec.plain.varTypes Tryd.prog) (ds++gs)).all (· <=reachBytes)=true:=hsz0
 have hW':=hW;obtain ⟨p,q,hA0,hV,rfl,hfz,hnd⟩:=hW;have hA:DataW.TrodAll enc Tryd.prog W 0 (fun _=>true) true Tryd.f3.params.toList args.toList ds p:=hA0;rw[Tryd.params3] at hA hval hsz;obtain ⟨v0,vs0,d0,ds0,p0,q0,hargs,rfl,rfl,h0,t0⟩:=trodAll_cons hA;obtain ⟨v1,vs1,d1,ds1,p1,q1,rfl,rfl,rfl,h1,t1⟩:=trodAll_cons t0;obtain ⟨rfl,rfl,rfl⟩:=trodAll_nil t1;obtain rfl:args=#[v0,v1]:=by cases args; simp_all
 obtain ⟨rfl,rfl⟩:=trodVars_none hV;have k0:=h0;have lt0: ∀x∈p0,x.block < W.heap.size:=by obtain ⟨m,hm⟩:=k0; exact DataW.trod_lt m _ _ _ hm
 obtain ⟨u0,y0,rfl,S0⟩:=Z3R (hval 0 25 v0 rfl rfl) h0;have k1:=h1;have lt1: ∀x∈p1,x.block < W.heap.size:=by obtain ⟨m,hm⟩:=k1; exact DataW.trod_lt m _ _ _ hm
 obtain ⟨u1,y1,rfl,S1⟩:=Z3R (hval 1 25 v1 rfl rfl) h1;clear hA0 hval0;rw[MakeChecks.laidMetH_plain _ _ _ (by kernel_rfl)] at hL;have hglob:WGlobs W:=Z4o hL (List.Mem.head _);refine (walk W u0 y0 S0 u1 y1 S1 hglob).mono fun e W' ⟨he,bel⟩=> ?_;subst he;exact ⟨_,rfl,_,_,_,[],_,[],hW',trodAll_mk1 (shut_bool Tryd.underlying4 _),(trodAll_cons_mk (Below.trod laidOut (by kernel_rfl) (of_decide_eq_true (by kernel_rfl)) k0 bel lt0) (trodAll_cons_mk (Below.trod laidOut (by kernel_rfl) (of_decide_eq_true (by kernel_rfl)) k1 bel lt1) trodAll_mk0)),rfl,bel.frame _,fun h=>by cases h⟩
theorem lifted (os:Os) (started:os.Started) (H:Type) (enc:TypeId×Value->H):
 ReturnsInHanded {} Tryd.checked os 3 .any (fun w args=>(Rows.subtypeBelowsSpec.pre enc Tryd.prog Tryd.f3 Rows.subtypeBelowsRow.domain false w args/\laidMetH Tryd.prog Rows.subtypeBelowsRow.laid w)/\sizedMet enc Tryd.prog Tryd.f3 (OpenSpec.ofChange Rows.subtypeBelowsSpec) false w args)
  (Rows.subtypeBelowsSpec.post enc Tryd.prog Tryd.f3 false true false false):=by
 refine returnsInHanded_of_change_and (C:=Tryd.checked) (X:=fun w _=>laidMetH Tryd.prog Rows.subtypeBelowsRow.laid w) (fun _ _ _ hh h=>h.of_heap hh) own started (by kernel_rfl) Tryd.func3
  (ChangeSpec.witness_shaped (enc:=enc) (C:=Tryd.checked) (os:=os) (X:=fun w _=>laidMetH Tryd.prog Rows.subtypeBelowsRow.laid w) false (World.laidAll Tryd.prog os Rows.subtypeBelowsRow.laid) #[(.agg #[.int .i64 0,.string ByteArray.empty,.string ByteArray.empty,.slice none 0 0,.slice none 0 0]),(.agg #[.int .i64 0,.string ByteArray.empty,.string ByteArray.empty,.slice none 0 0,.slice none 0 0])] 8 (World.laidAll_os _ _ _)
   (World.shaped_of_ZipB (by kernel_rfl) (by kernel_rfl)) (by kernel_rfl) (by kernel_rfl) (by kernel_rfl)
   (by rw[MakeChecks.laidMetH_plain _ _ _ (by kernel_rfl)]; exact laidMet_laidAll _ (by kernel_rfl) (by kernel_rfl))) ?_
 intro W base args ds gs before hval hW _ hsz hL _;exact contract H enc W base args ds gs before hval hW hL hsz
theorem proved:Rows.SubtypeBelowsSaid:=
 OpenClaim.holds_of_wide 3 Tryd.f3 rfl rfl rfl rfl rfl rfl rfl ⟨rfl,rfl,rfl,rfl,rfl⟩ rfl rfl rfl rfl rfl (by kernel_rfl) Tryd.func3 (by kernel_rfl)
  (of_decide_eq_true (by kernel_rfl)) (by unfold Func.isWrapper; first | (rw[if_pos (by decide+kernel)]; kernel_rfl) | (rw[if_neg (by decide+kernel)]; exact ⟨rfl,rfl⟩))
  (fun os started H enc _=>lifted os started H enc)
theorem card:Rows.SubtypeBelowsCardSaid:=
 Claim7.holds_tied_plain_at .later [] [.data] true _ false proved (fun _ h=>by cases h) (by kernel_rfl) (fun _ h=>by cases h) subtypeBelows_row_tie rfl ⟨rfl,rfl⟩ (by kernel_rfl) rfl
  (fun f fn hf hfn=>by
   obtain rfl:f=3:=Option.some.inj ((show Tryd.prog.funcNamed "pandect/pandectlaw12.SubtypeBelows" =some 3 by kernel_rfl).symm.trans hf) |>.symm;obtain rfl:fn=Tryd.f3:=(Option.some.inj (Tryd.func3.symm.trans hfn)).symm;exact ⟨by kernel_rfl,fun j t ht=>by
    rw[Tryd.params3] at ht;have hm:t∈ [25,25]:=by simpa using Array.mem_of_getElem? ht
    have hall: ([25,25].all fun u=> !Tryd.prog.wantsStandIn u)=true:=by kernel_rfl
    exact (show Tryd.prog.wantsStandIn t=false by simpa using List.all_eq_true.1 hall t hm)⟩)
  (by kernel_rfl)
end
end Go.Proofs.YthajhofgjhfjeaaDoor.subtypeBelows
