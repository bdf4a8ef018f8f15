/- What the proofs of ExpandResolves want, part 12. -/
import Derived.Test.YtchklpedlbkgaaaDoorK0n11
set_option linter.unusedVariables false
set_option linter.unusedSimpArgs false
set_option linter.unusedSectionVars false
set_option maxRecDepth 100000
set_option maxHeartbeats 16000000
namespace Go.Proofs.YtchklpedlbkgaaaDoor
section
open Go.RowKit Shp
open Expd (Bd fill keys find put Z0w)
def FndN (n0:Nat) (w:World) (r:Option Sh) (e:Ending) (w':World):Prop:=
 ∃(s:Sh) (q:Ptr),e= .returned (.tuple #[shV s q,.bool r.isSome])/\(∀x,r=some x->s=x)/\(r=none->s=Z0w)/\ShAt w' n0 q s/\Below w.heap.size w w'
theorem Z8V (n0:Nat) (L:List Bd) (A:Option Addr) (cap:Nat) (o n:List UInt8) (w:World) (hL:BdsAt w n0 A L) (hn0:n0<=w.heap.size) (hl:L.length<=1000):
 Calls Tryd.prog 39 #[.slice A L.length cap,.string ⟨o.toArray⟩,.string ⟨n.toArray⟩] w (FndN n0 w (find L o n)):=by
 have hb1:=Z00 w (.cells Yb 25);have HB1:=Y1 hb1;have HL:=Y1 (hL.keep hb1 hn0);have HZ:Hid (Res0 (w.alloc (.cells Yb 25)) w.heap.size):=by
  refine Y1 ⟨⟨by simp[go_sem],by simp[go_sem],by simp[go_sem],by simp[go_sem],by simp[go_sem]⟩,fun k=> ?_⟩;rw[frozen?_alloc_cells];simp[World.frozen?]
 have HN0:=Y1 hn0;clear hb1 hL hn0;go_enter Tryd.func39,Tryd.ntmps39
 go_wp2_with fail
 generalize w.alloc (.cells Yb 25)=W1 at HB1 HL HZ ⊢
 go_loopw [8] (fun i wr=>wr=W1/\ ∃k:Nat,k<=L.length/\i= .int .i64 ((k:Int) - 1)/\Hid (find (L.drop k) o n=none)) (fun i _=>(intOf i+1).toNat)
 case atStart=>exact ⟨rfl,L.length,Nat.le_refl _,rfl,Y1 (by rw[List.drop_length]; rfl)⟩
 case round=>
  obtain ⟨rfl,k,hk,rfl,hN⟩:=hrel;obtain ⟨⟨r0,r1,r2,r3,r4⟩,rf⟩:=HZ.out;have y0:=rf 0;have y1:=rf 1;have y2:=rf 2;have y3:=rf 3;have y4:=rf 4;clear rf;rcases k with _ | k
  {go_wp2;refine bodyPost_ret (v:= .tuple #[.agg #[.int .i64 0,.string ⟨#[]⟩,.string ⟨#[]⟩,.slice none 0 0,.slice none 0 0],.bool false]) (by simp[results,Tryd.results39,go_sem,r0,r1,r2,r3,r4]) rfl ?_;have hf:find L o n=none:=hN.out;rw[hf];exact ⟨Z0w,⟨none,0,none,0⟩,rfl,nofun,fun _=>rfl,Z1s _ _,Z0e HB1.out (Nat.le_refl _) _ _ _ _ _⟩}
  {have hkl:k < L.length:=hk;have e0: ((k+1:Nat):Int) - 1=(k:Int):=by omega
   rw[e0];have hk0: (0:Int)<=(k:Int):=by omega
   have hkl': (k:Int) < (L.length:Int):=by omega
   have hSTEP:Hid (¬((L[k]'hkl).of_=o/\(L[k]'hkl).name=n)->find (L.drop k) o n=none):=Y1 (Z5e hkl hN.out);have hHERE:Hid ((L[k]'hkl).of_=o/\(L[k]'hkl).name=n->find L o n=some (L[k]'hkl).sh):=Y1 (Z5f hkl hN.out);obtain ⟨g,off,qs,hA,hg,hc⟩:=HL.out.resolve_left (by omega);subst hA;obtain ⟨x0,x1,⟨z0,z1,z2,z3,z4⟩,hat,_⟩:=hc k hkl;change wr.cell? ⟨g,off+k * 7+3,none⟩=_ at z1;change wr.cell? ⟨g,off+k * 7+4,none⟩=_ at z2;change wr.cell? ⟨g,off+k * 7+5,none⟩=_ at z3;change wr.cell? ⟨g,off+k * 7+6,none⟩=_ at z4;obtain ⟨bk,hbk⟩: ∃bk,bk=L[k]'hkl:=⟨_,rfl⟩;rw[<-hbk] at x0 x1 z0 z1 z2 z3 z4 hat hSTEP hHERE;have HAT:=Y1 hat;have HNE:Hid (g < w.heap.size):=Y1 (Nat.lt_of_lt_of_le hg HN0.out);clear hc hbk hat hN hg e0;cases e1: (bk.of_==o) with
   | false=>
    have h1: ¬(bk.of_=o/\bk.name=n):=fun h=>by rw[h.1] at e1; simp at e1
    have HS:=Y1 (hSTEP.out h1);clear h1 hSTEP hHERE;go_wp2
    go_roundw
    case rel=>exact ⟨trivial,k,by omega,by go_num,HS⟩
    case measure=>simp[intOf]
   | true=>
    cases e2: (bk.name==n) with
    | false=>
     have h1: ¬(bk.of_=o/\bk.name=n):=fun h=>by rw[h.2] at e2; simp at e2
     have HS:=Y1 (hSTEP.out h1);clear h1 hSTEP hHERE;go_wp2
     go_roundw
     case rel=>exact ⟨trivial,k,by omega,by go_num,HS⟩
     case measure=>simp[intOf]
    | true=>
     have HF:=Y1 (hHERE.out ⟨by simpa using e1,by simpa using e2⟩);have hne:g≠w.heap.size:=by have:=HNE.out; omega
     clear hSTEP hHERE;go_wp2;refine bodyPost_ret (v:= .tuple #[.agg #[.int .i64 bk.sh.kind,.string ⟨bk.sh.of_.toArray⟩,.string ⟨bk.sh.name.toArray⟩,.slice (qs k).A bk.sh.names.length (qs k).c,.slice (qs k).P bk.sh.parts.length (qs k).d],.bool true]) (by simp[results,Tryd.results39,go_sem,r0,r1,r2,r3,r4]) rfl ?_;rw[HF.out];refine ⟨bk.sh,qs k,rfl,fun x h=>by cases h; rfl,nofun,HAT.out.of (Nat.le_refl _) (fun g c hg=> ?_),Z0e HB1.out (Nat.le_refl _) _ _ _ _ _⟩;have ne: ∀j,(⟨w.heap.size,j,none⟩:Addr)≠⟨g,c,none⟩:=fun j e=>by simp only[Addr.mk.injEq,and_true] at e; have:=HN0.out; omega
     rw[World.cell?_setCell_other _ _ _ _ (ne 4),World.cell?_setCell_other _ _ _ _ (ne 3),World.cell?_setCell_other _ _ _ _ (ne 2),World.cell?_setCell_other _ _ _ _ (ne 1),World.cell?_setCell_other _ _ _ _ (ne 0)]}
end
end Go.Proofs.YtchklpedlbkgaaaDoor
namespace Go.Proofs.YtchklpedlbkgaaaDoor
open Go.RowKit Shp Sub
open Expd (Bd fill keys find put puts)
namespace SubM
def PtOk (f:Nat):Prop:= ∀(t:Sh) (q:Ptr) (L:List Bd) (A:Option Addr) (cap n0:Nat) (w:World),deep t<=f->size t<=400->ShAt w n0 q t->BdsAt w n0 A L->L.length<=1000->n0<=w.heap.size->
 Calls Tryd.prog 24 #[.agg (Y8 t q),.slice A L.length cap] w (PIs n0 (put (find L) t) w)
theorem Zad (t:Sh) (q:Ptr) (L:List Bd) (A:Option Addr) (cap n0:Nat) (w:World) (hk:t.kind=9) (hq:ShAt w n0 q t) (hL:BdsAt w n0 A L) (hl:L.length<=1000) (hn:n0<=w.heap.size):
 Calls Tryd.prog 24 #[.agg (Y8 t q),.slice A L.length cap] w (PIs n0 (put (find L) t) w):=by
 have HO:Hid (put (find L) t=find L t.of_ t.name):=Y1 (by rw[Expd.put_eq,if_pos hk]);have hb1:=Z00 w (.cells (Y8 t q) 25);obtain ⟨w1,hw1⟩: ∃w1,w1=w.alloc (.cells (Y8 t q) 25):=⟨_,rfl⟩;have hs1:w1.heap.size=w.heap.size+1:=by rw[hw1]; simp
 have hb2:=Z00 w1 (.cells Yb 25);obtain ⟨w2,hw2⟩: ∃w2,w2=w1.alloc (.cells Yb 25):=⟨_,rfl⟩;have hs2:w2.heap.size=w.heap.size+2:=by rw[hw2]; simp[hs1]
 rw[<-hw1] at hb1;rw[<-hw2] at hb2;have hbw:=Z02 hb1 hb2;have hB1:Box5 w1 w.heap.size t q:=by rw[hw1]; exact Z06 w t q
 have hR2:Rc (w.heap.size+1) w2:=by have h:=Zac hw2; rwa [hs1] at h
 obtain ⟨_,⟨a0,a1,a2,a3,a4⟩,_⟩:=hB1.next hb2;simp only[Nat.zero_add] at a0 a1 a2 a3 a4;have HC:=Y1 (Z8V n0 L A cap t.of_ t.name w2 (hL.keep hbw hn) (Nat.le_trans hn hbw.size) hl);have HR:=Y1 hR2;have HB:=Y1 hbw;have HN:=Y1 hn;have k9:=Y4 9 hk rfl;have hW: (w.alloc (.cells (Y8 t q) 25)).alloc (.cells Yb 25)=w2:=by rw[hw2,hw1]
 clear hb1 hb2 hbw hB1 hR2 hw1 hw2 hq hL hl hn hk;go_enter Tryd.func24,Tryd.ntmps24
 go_wp2_with fail
 refine HC.out.mono ?_;rintro e w4 ⟨s,q4,rfl,hs4,hn4,hat,hb4⟩;have hR4:=HR.out.upd (T:=fun _=>False) (Upd.new hb4) (fun h=>h);obtain ⟨v0,r0⟩:=hR4.ex 0 (by omega);have z0:=hR4.fz 0;obtain ⟨v1,r1⟩:=hR4.ex 1 (by omega);have z1:=hR4.fz 1;obtain ⟨v2,r2⟩:=hR4.ex 2 (by omega);have z2:=hR4.fz 2;obtain ⟨v3,r3⟩:=hR4.ex 3 (by omega);have z3:=hR4.fz 3;obtain ⟨v4,r4⟩:=hR4.ex 4 (by omega);have z4:=hR4.fz 4;obtain ⟨c0,c1,c2,c3,c4⟩:=RX.lay_at s q4 (W:=w4) (g:=w.heap.size+1) hR4.ex;simp only[Nat.zero_add] at c0 c1 c2 c3 c4;have HU:=Y1 (And.intro c0 (And.intro c1 (And.intro c2 (And.intro c3 c4))));have HAT:=Y1 hat;have HS4:=Y1 hs4;have HB4:=Y1 hb4;obtain ⟨is,his⟩: ∃is,(find L t.of_ t.name).isSome=is:=⟨_,rfl⟩;rw[his];have HIS:=Y1 his;clear c0 c1 c2 c3 c4 hR4 hat hb4 hs4 hn4 his a0 a1 a2 a3 a4 k9 hW;go_wp2;obtain ⟨c0,c1,c2,c3,c4⟩:=HU.out;unfold RX.lay at c0 c1 c2 c3 c4;refine bodyPost_ret (v:= .tuple #[sv s q4,.bool is]) (by simp[results,Tryd.results24,go_sem,c0,c1,c2,c3,c4]) rfl ?_;have hu:=RX.lay_upd w4 (w.heap.size+1) s q4;refine ⟨s,q4,by rw[HO.out,HIS.out],(Z02 HB.out HB4.out).trans (hu.below (Nat.le_trans HB.out.size HB4.out.size) (fun x hx=>by omega)),fun j hj=> ?_⟩;rw[HO.out] at hj;have e1:=HS4.out j hj;subst e1;have h1:=HB.out.size;have h2:=HB4.out.size;have h3:=HN.out;refine ⟨rfl,(Kept.old (S:=fun b=>b < n0) HAT.out (by omega) (fun b hb=>hb)).move hu (fun b _ hf=>⟨fun e=> ?_,Or.inl hf⟩)⟩;have e:b=w.heap.size+1:=e;have hf:b < n0:=hf;omega
theorem ZaX {f:Nat} (hI:PtOk f) (t:Sh) (q:Ptr) (L:List Bd) (A:Option Addr) (cap n0:Nat) (w:World) (hd:deep t<=f+1) (hz:size t<=400) (hk: ¬t.kind=9) (hq:ShAt w n0 q t) (hL:BdsAt w n0 A L) (hl:L.length<=1000) (hn:n0<=w.heap.size):
 Calls Tryd.prog 24 #[.agg (Y8 t q),.slice A L.length cap] w (PIs n0 (put (find L) t) w):=by
 obtain ⟨i0,hif0,hz0,hs0,hb0⟩:=Zbm Zbn;have HO:Hid (put (find L) t=match puts (find L) t.parts with | none=>none | some ps=>some ⟨t.kind,t.of_,t.name,t.names,ps⟩):=Y1 (by rw[Expd.put_eq,if_neg hk]; rfl);have hb1:=Z00 w (.cells (Y8 t q) 25);obtain ⟨w1,hw1⟩: ∃w1,w1=w.alloc (.cells (Y8 t q) 25):=⟨_,rfl⟩;have hs1:w1.heap.size=w.heap.size+1:=by rw[hw1]; simp
 have hb2:=Z00 w1 (.cells Yb 25);obtain ⟨w2,hw2⟩: ∃w2,w2=w1.alloc (.cells Yb 25):=⟨_,rfl⟩;have hs2:w2.heap.size=w.heap.size+2:=by rw[hw2]; simp[hs1]
 have hb3:=Z00 w2 (.cells #[.int .i64 t.kind,.string ⟨t.of_.toArray⟩,.string ⟨t.name.toArray⟩,.slice q.A t.names.length q.c,.slice none 0 0] 25);obtain ⟨w3,hw3⟩: ∃w3,w3=w2.alloc (.cells #[.int .i64 t.kind,.string ⟨t.of_.toArray⟩,.string ⟨t.name.toArray⟩,.slice q.A t.names.length q.c,.slice none 0 0] 25):=⟨_,rfl⟩;have hs3:w3.heap.size=w.heap.size+3:=by rw[hw3]; simp[hs2]
 rw[<-hw1] at hb1;rw[<-hw2] at hb2;rw[<-hw3] at hb3;have hbw:=Z02 hb1 (Z02 hb2 hb3);have hB1:Box5 w1 w.heap.size t q:=by rw[hw1]; exact Z06 w t q
 have hB12:=hB1.next hb2;have hB13:=hB12.next hb3;have hR2:Rc (w.heap.size+1) w2:=by have h:=Zac hw2; rwa [hs1] at h
 have hR3:Rc (w.heap.size+1) w3:=hR2.upd (T:=fun _=>False) (Upd.new hb3) (fun h=>h);have hu3:Upd (fun _=>False) w w3:=Upd.new hbw;have hc5:w3.cell? ⟨w.heap.size+2,0,none⟩=some (.int .i64 t.kind)/\w3.cell? ⟨w.heap.size+2,1,none⟩=some (.string ⟨t.of_.toArray⟩)/\w3.cell? ⟨w.heap.size+2,2,none⟩=some (.string ⟨t.name.toArray⟩)/\w3.cell? ⟨w.heap.size+2,3,none⟩=some (.slice q.A t.names.length q.c)/\w3.cell? ⟨w.heap.size+2,4,none⟩=some (.slice none 0 0):=by
  rw[<-hs2,hw3]; refine ⟨?_, ?_, ?_, ?_, ?_⟩ <;> simp[go_sem]
 have hfz: ∀j,w3.frozen? ⟨w.heap.size+2,j,none⟩=false:=fun j=>by rw[<-hs2,hw3]; simp[go_sem]
 have hK0:KPo w w3 n0 (w.heap.size+2) (w.heap.size+3) (w.heap.size+1) t q [] [] none 0 w3:=by
  obtain ⟨c0,c1,c2,c3,c4⟩:=hc5;exact ⟨hbw,by omega,by omega,by omega,c0,c1,c2,c3,c4,hfz,World.ownsRow_nil _ _ _ _,rfl,fun x hx=>absurd hx (by simp),hR3,Upd.refl _ _⟩
 have HX2:=Y1 hB13;have HT:=Y1 (Z4K hq hn hu3 (fun _ _ h=>h));have HL:=Y1 (hL.keep hbw hn);have HLN:=Y1 hl;have HK0:=Y1 hK0;have HN:=Y1 hn;have HZ3:=Y1 hs3;have HI:=Y1 hI;have HSZ:Hid (t.parts.length<=400/\ ∀p∈t.parts,deep p<=f/\size p<=400):=Y1 ⟨by have:=Z0F t.parts; rw[size_eq] at hz; omega,fun p hp=>by
  have h1:=Z0y hp;have h3:=Z15 hp;rw[Z0h] at hd;rw[size_eq] at hz;exact ⟨by omega,by omega⟩⟩
 obtain ⟨_,⟨a0,a1,a2,a3,a4⟩,_⟩:=hB12;simp only[Nat.zero_add] at a0 a1 a2 a3 a4;have k9: (t.kind==9)=false:=by simpa using hk
 have hW2: (w.alloc (.cells (Y8 t q) 25)).alloc (.cells Yb 25)=w2:=by rw[hw2,hw1]
 have HW:Hid (w2.alloc (.cells #[.int .i64 t.kind,.string ⟨t.of_.toArray⟩,.string ⟨t.name.toArray⟩,.slice q.A t.names.length q.c,.slice none 0 0] 25)=w3):=Y1 hw3.symm;clear hK0 hbw hR2 hR3 hu3 hc5 hfz hq hn hL hl hI hb1 hb2 hb3 hs1 hs3 hB1 hB13 hk hd hz;clear hw3 hw2 hw1;go_enter Tryd.func24,Tryd.ntmps24
 go_wp2_with fail
 rw[HW.out];clear HW k9 a0 a1 a2 a3 a4 hW2 hs2
 go_loopw [7] (fun ii wr=> ∃i:Nat,ii= .int .i64 i/\i<=t.parts.length/\Hid (∃(l:List El) (AP:Option Addr) (cP:Nat),(∀p∈t.parts.take i,put (find L) p=some (fill (find L) p))/\KPo w w3 n0 (w.heap.size+2) (w.heap.size+3) (w.heap.size+1) t q ((t.parts.take i).map (fill (find L))) l AP cP wr)) (fun i _=>t.parts.length - (intOf i).toNat)
 case atStart=>exact ⟨0,rfl,Nat.zero_le _,Y1 ⟨[],none,0,fun p hp=>by simp at hp,HK0.out⟩⟩
 case round=>
  obtain ⟨i,rfl,hi,HKB⟩:=hrel;obtain ⟨l,AP,cP,hINV,hKB⟩:=HKB.out;have HINV:=Y1 hINV;have hlt1:=HSZ.out.1;have hU:=hKB.up;have hz3:=HZ3.out;have hn:=HN.out;have hx2:=Z2g HX2.out hU (by omega);have hTw:=Z4K HT.out (by omega) hU (fun x hx hs=>by omega);have hLw:BdsAt wr n0 A L:=HL.out.of (Nat.le_refl _) (fun g k hg=>hU.cell (by omega) (by omega));obtain ⟨_,⟨a0,a1,a2,a3,a4⟩,_⟩:=hx2;simp only[Nat.zero_add] at a0 a1 a2 a3 a4;clear hINV;by_cases hlt:i < t.parts.length
  {have hi1: (i:Int) < (t.parts.length:Int):=by omega
   rcases hTw.part with h0 | ⟨g,off,qs,hqP,hg,hc,hra⟩
   {omega}
   have hX5:=hc i hlt;have hXA:=hra i hlt;obtain ⟨x,hx⟩: ∃x,x=t.parts[i]'hlt:=⟨_,rfl⟩;obtain ⟨qx,hqx⟩: ∃z,z=qs i:=⟨_,rfl⟩;rw[<-hx, <-hqx] at hX5 hXA;have hxm:x∈t.parts:=by rw[hx]; exact List.getElem_mem _
   have HLI:=Y1 (And.intro hlt hxm);have HXE:Hid (t.parts.take (i+1)=t.parts.take i++ [x]):=Y1 (by rw[List.take_succ_eq_append_getElem hlt,hx]);have hwr:w.heap.size+3<=wr.heap.size:=hKB.hw;have hn0w:n0<=wr.heap.size:=by omega
   have HC:Hid (Calls Tryd.prog 24 #[.agg (Y8 x qx),.slice A L.length cap] wr (PIs n0 (put (find L) x) wr)):=Y1 (HI.out x qx L A cap n0 wr (HSZ.out.2 x hxm).1 (HSZ.out.2 x hxm).2 hXA hLw HLN.out hn0w);have HKW:=Y1 hKB;have HWR:=Y1 (And.intro hwr hn0w);obtain ⟨x0,x1,x2,x3,x4⟩:=hX5;rw[hqP] at a4;clear hx hqx hc hra hqP hXA hKB hU hTw hLw hz3 hn hwr hn0w hg hxm
   go_wp2_with fail
   refine HC.out.mono ?_;rintro e W3 ⟨u,qu,rfl,hb4,hj⟩;unfold sv;have hb7:=Z00 W3 (.cells (Y8 u qu) 25);have hx7:=Z06 W3 u qu;obtain ⟨W7,hW7⟩: ∃W7,W3.alloc (.cells (Y8 u qu) 25)=W7:=⟨_,rfl⟩;rw[hW7] at hb7 hx7;have HBP:Hid (Below wr.heap.size wr W7):=Y1 (Z02 hb4 hb7);obtain ⟨_,⟨q0,q1,q2,q3,q4⟩,_⟩:=hx7;simp only[Nat.zero_add] at q0 q1 q2 q3 q4;have HJ:Hid (∀j,put (find L) x=some j->u=j/\Kept (fun b=>b < n0\/(wr.heap.size<=b/\b < W7.heap.size)) W7 (j,qu)):=Y1 (fun j h=>by
    obtain ⟨e1,e2⟩:=hj j h;exact ⟨e1,(e2.upd (T:=fun _=>False) (Upd.new hb7) (fun _ _ _ h=>h)).more (fun b hb hf=>hf.imp id (fun h=>⟨h,hb⟩))⟩)
   obtain ⟨is,his⟩: ∃is,(put (find L) x).isSome=is:=⟨_,rfl⟩;rw[his];clear hj hb4 hb7 HC x0 x1 x2 x3 x4 a0 a1 a2 a3 a4;cases is with
   | false=>
    have hbo:put (find L) x=none:=by
     cases e:put (find L) x with
     | none=>rfl
     | some y=>rw[e] at his; cases his
    have hbd:put (find L) t=none:=by rw[HO.out,Expd.puts_none HLI.out.2 hbo]
    have hfin:=ZaW (n0:=n0) (rc:=w.heap.size+1) hbd (by omega) (HKW.out.dn.trans (HBP.out.mono (by have:=HWR.out.1; omega)));have HF:=Y1 hfin;have hR9:=(HKW.out.rr.upd (T:=fun _=>False) (Upd.new HBP.out) (fun h=>h));obtain ⟨v0,r0⟩:=hR9.ex 0 (by omega);have z0:=hR9.fz 0;obtain ⟨v1,r1⟩:=hR9.ex 1 (by omega);have z1:=hR9.fz 1;obtain ⟨v2,r2⟩:=hR9.ex 2 (by omega);have z2:=hR9.fz 2;obtain ⟨v3,r3⟩:=hR9.ex 3 (by omega);have z3:=hR9.fz 3;obtain ⟨v4,r4⟩:=hR9.ex 4 (by omega);have z4:=hR9.fz 4;clear hbd hfin hR9 hbo his;go_wp2;refine bodyPost_ret (v:= .tuple #[.agg #[.int .i64 0,.string ⟨#[]⟩,.string ⟨#[]⟩,.slice none 0 0,.slice none 0 0],.bool false]) (by simp[results,Tryd.results24,go_sem,r0,r1,r2,r3,r4]) rfl ?_;exact HF.out
   | true=>
    obtain ⟨r,hbo⟩:=Option.isSome_iff_exists.1 his;obtain ⟨rfl,hky⟩:=HJ.out r hbo;have hfl:u=fill (find L) x:=(Expd.put_got hbo).2;have HEL:=Y1 hky;have HPL2:Hid ((∀p∈t.parts.take (i+1),put (find L) p=some (fill (find L) p))/\(t.parts.take (i+1)).map (fill (find L))=(t.parts.take i).map (fill (find L))++ [u]):=Y1 ⟨fun p hp=>by
     rw[HXE.out] at hp;rcases List.mem_append.1 hp with hp | hp
     {exact HINV.out p hp}
     · rw[List.mem_singleton.1 hp,hbo,hfl],by rw[HXE.out,List.map_append,List.map_singleton,hfl]⟩
    have HKP:=Y1 (HKW.out.new HBP.out);have d4:=HKP.out.c4;have f4:=HKP.out.fz 4;have hgw:w.heap.size+2 < W7.heap.size:=HKP.out.gw;have hll:=HKP.out.len;have hll2:l.length<=1000:=by rw[hll,List.length_map,List.length_take]; omega
    have HP5:=Y1 (Z0m (S:=fun _=>False) HKP.out.rP (Upd.new (Z00 W7 (.cells (Y8 u qu) 25))) (fun _ _ h=>h));have HS5:Hid (w.heap.size+3<=W7.heap.size):=Y1 HKP.out.hw;clear hll hky hbo his hfl
    go_wp2_with (at_builtin; refine wpList_append_lies _ rfl _ _ 23 rfl (w.heap.size+3) 25 i0 (.agg #[.int .i64 0,.string ByteArray.empty,.string ByteArray.empty,.slice none 0 0,.slice none 0 0]) 5 88 Tryd.underlying23 hif0 hz0 hs0 hb0 rfl (by decide) _ _ _ rfl HP5.out ⟨W7.heap.size,0,none⟩ 1 1 (cells5 (u,qu)) rfl rfl (by intro j v hv; rw[Z0o,Nat.zero_add]; rcases j with _ | _ | _ | _ | _ | j <;> (simp[cells5] at hv; try (subst hv; simp[go_sem]))) (cells5_one _) (by decide) (by unfold maxLen; omega) (by omega) (by have:=HS5.out; simp; omega) _ rfl ?_)
    intro g2 cap2 w8 hown2 hgrow2 hat2 hlt2;rw[rowB_own] at hgrow2 hat2;have hat3:rowB AP=some g2\/g2=(W7.alloc (.cells (Y8 u qu) 25)).heap.size:=by
     rcases hat2 with h | h
     {exact Or.inl h}
     {exact Or.inr (by rw[h]; simp)}
    have hb8:=Z00 W7 (.cells (Y8 u qu) 25);have hEND:=HKP.out.putP (pb:=wr.heap.size) (e:=W7.heap.size) (x:=(u,qu)) (by have:=HN.out; omega) (by omega) HEL.out (Nat.le_refl _) HWR.out.1 (fun b h=>Or.inl (Z0c HKW.out.rP b h).2) hb8 hgrow2 hown2 hat3;have hu8:Upd (fun b=>rowB AP=some b) W7 w8:=(Upd.new (S:=fun b=>rowB AP=some b) hb8).grown hgrow2 (fun k h _=>h);have hn8: ¬rowB AP=some (w.heap.size+2):=fun e=>by have:=(Z0c HKP.out.rP _ e).1; omega
    have d5:=(hu8.cell hgw hn8).trans d4;have f5:=(hu8.frozen hgw hn8).trans f4;have hgw8:w.heap.size+2 < w8.heap.size:=Nat.lt_of_lt_of_le hgw hu8.size;have HEND:Hid (∃(l':List El) (AP':Option Addr) (cP':Nat),(∀p∈t.parts.take (i+1),put (find L) p=some (fill (find L) p))/\KPo w w3 n0 (w.heap.size+2) (w.heap.size+3) (w.heap.size+1) t q ((t.parts.take (i+1)).map (fill (find L))) l' AP' cP' (w8.setCell ⟨w.heap.size+2,4,none⟩ (.slice (some ⟨g2,0,none⟩) (l.length+1) cap2))):=Y1 ⟨l++ [(u,qu)],_,_,HPL2.out.1,by rw[HPL2.out.2]; exact hEND⟩;clear hown2 hgrow2 hat2 hat3 hlt2 hb8 hEND hu8 hn8 d4 f4 HP5;go_wp2
    go_roundw
    case rel=>exact ⟨i+1,by go_num,by have:=HLI.out.1; omega,HEND⟩
    case measure=>have:=HLI.out.1; simp[intOf]; omega}
  {have hi1: ¬(i:Int) < (t.parts.length:Int):=by omega
   obtain rfl:i=t.parts.length:=by omega
   have hKF:=hKB;rw[List.take_length] at hKF;have hall:=HINV.out;rw[List.take_length] at hall;have hbd:put (find L) t=some ⟨t.kind,t.of_,t.name,t.names,t.parts.map (fill (find L))⟩:=by rw[HO.out,Expd.puts_some hall]
   obtain ⟨h5,hkp⟩:=hKF.fin hTw (by have:=hKF.hw; omega) (by rw[List.length_map]; omega);have hfin:=Zbo (rc:=w.heap.size+1) (hi:=w.heap.size+3) (n0:=n0) (w:=w) (W:=wr) hbd HN.out (by omega) (by omega) hKF.dn hkp;obtain ⟨r,hre⟩: ∃r:Sh,r=⟨t.kind,t.of_,t.name,t.names,t.parts.map (fill (find L))⟩:=⟨_,rfl⟩;rw[<-hre] at h5 hfin;have HF:=Y1 hfin;have hR:=hKF.rr;obtain ⟨x0,x1,x2,x3,x4⟩:=h5;simp only[Nat.zero_add] at x0 x1 x2 x3 x4;obtain ⟨v0,y0⟩:=hR.ex 0 (by omega);have z0:=hR.fz 0;obtain ⟨v1,y1⟩:=hR.ex 1 (by omega);have z1:=hR.fz 1;obtain ⟨v2,y2⟩:=hR.ex 2 (by omega);have z2:=hR.fz 2;obtain ⟨v3,y3⟩:=hR.ex 3 (by omega);have z3:=hR.fz 3;obtain ⟨v4,y4⟩:=hR.ex 4 (by omega);have z4:=hR.fz 4;obtain ⟨u0,u1,u2,u3,u4⟩:=RX.lay_at r ⟨q.A,q.c,AP,cP⟩ (W:=wr) (g:=w.heap.size+1) hR.ex;simp only[Nat.zero_add] at u0 u1 u2 u3 u4;have HU:=Y1 (And.intro u0 (And.intro u1 (And.intro u2 (And.intro u3 u4))));clear hfin hkp hKF hKB hR u0 u1 u2 u3 u4 hre hU hTw hLw hbd hall;go_wp2;obtain ⟨u0,u1,u2,u3,u4⟩:=HU.out;unfold RX.lay at u0 u1 u2 u3 u4;refine bodyPost_ret (v:= .tuple #[sv r ⟨q.A,q.c,AP,cP⟩,.bool true]) (by simp[results,Tryd.results24,go_sem,u0,u1,u2,u3,u4]) rfl ?_;exact HF.out}
theorem put_walk (f:Nat):PtOk f:=by
 induction f with
 | zero=>intro t q L A cap n0 w h; rw[Z0h] at h; omega
 | succ f hI=>
  intro t q L A cap n0 w hd hz hq hL hl hn;by_cases hk:t.kind=9
  {exact Zad t q L A cap n0 w hk hq hL hl hn}
  {exact ZaX hI t q L A cap n0 w hd hz hk hq hL hl hn}
end SubM
end Go.Proofs.YtchklpedlbkgaaaDoor
namespace Go.Proofs.YtchklpedlbkgaaaDoor
section
open Go.RowKit
theorem Z0G (d:Nat->Bool) (i:Nat):also d i i=true:=by
 have:Nat.beq i i=true:=Nat.beq_refl i;unfold also; rw[this]; rfl
theorem Z03 (d:Nat->Bool) {i j:Nat} (h:j≠i):also d i j=d j:=by
 have:Nat.beq j i=false:=by cases hb:Nat.beq j i <;> first | rfl | exact absurd (Nat.eq_of_beq_eq_true hb) h
 unfold also; rw[this]; rfl
theorem Z0O {P:Program} {ops:Array Oper} {o:Oper} {a:Act} {W:World} {K':Act->World->Prop} {Q:Exit->Act->World->Prop} {E:Prop} (hgd:Region.wanted o (yielded ops a.tmps)=true) (s x:Operand) (t:TypeId)
 (ho:o.op= .call { callee:= .builtin .append,args:=#[s,x],argTypes:=#[t,t] })
 (base:Nat) (e:TypeId) (i:TypeInfo) (z:Value) (size bytes:Nat) (ht:P.underlying t=some (.slice e)) (hi:P.info? e=some i) (hz:i.zero=some z)
 (hsize:i.size=size) (hby:i.bytes=bytes) (hzs:z.cells.size=size) (hsz:0 < size)
 (v:Value) (n:Nat) (xs:List Value) (hs:a.eval s=v) (hown:W.ownsRow base e size v n xs)
 (A:Option Addr) (m c:Nat) (news:List Value) (hx:a.eval x= .slice A m c) (hA:A=none->m=0/\c=0) (hl:news.length=m * size)
 (hnews: ∀ad,A=some ad-> ∀j u,news[j]? =some u->W.cell? (ad.add j)=some u) (h1: ∀u∈news,u.oneCell'=true)
 (h63:n+m<=maxLen) (hbytes: (n+m) * bytes<=140737488355328) (hbase:base<=W.heap.size)
 (h: ∀v' w',w'.ownsRow base e size v' (n+m) (xs++news)->W.grownBy w' v.ownBlock->(v'.ownBlock=v.ownBlock\/v'.ownBlock=some W.heap.size)->K' (a.put o.dst v') w'):
 if Region.wanted o (yielded ops a.tmps)=true then Oper.wp P o a W K' Q else E:=by
 rw[if_pos hgd]
 match A,hA,hnews,hx with
 | some ad,_,hnews,hx=>
  obtain ⟨v',w',hr,h2,h3,_,h5⟩:=run_append_own_at (P:=P) W base t o.type e i z size bytes ht hi hz hsize hby hzs hsz v n xs hown ad m c news hl (hnews ad rfl) h1 h63 hbytes hbase;unfold Oper.wp execOp;simp only[ho,resolve,invoke,builtin,Sem.run_bind,Sem.run_pure,Result.andThen_ok,List.map_toArray,List.map_cons,List.map_nil,hs,hx,hr];exact h v' w' h2 h3 h5
 | none,hA,_,hx=>
  obtain ⟨rfl,rfl⟩:=hA rfl;obtain rfl:news= []:=List.eq_nil_of_length_eq_zero (by rw[hl,Nat.zero_mul]);have hr:=run_append_owned_none (P:=P) (w:=W) base t o.type e i size ht hi v n xs hown;unfold Oper.wp execOp;simp only[ho,resolve,invoke,builtin,Sem.run_bind,Sem.run_pure,Result.andThen_ok,List.map_toArray,List.map_cons,List.map_nil,hs,hx,hr];exact h v W (by rw[List.append_nil]; exact hown) ⟨rfl,rfl,rfl,Nat.le_refl _,fun _ _ _=>rfl⟩ (Or.inl rfl)
def InvC (S:Nat) (Ch: (Nat->Bool)->(Nat->Value)->World->Prop) (Fin:World->Prop) (d:Nat->Bool) (u:Nat->Value) (W:World):Prop:=(d S=false/\Ch d u W)\/(d S=true/\(∀j,j < S->d j=true)/\Fin W)
section
variable {S : Nat} {Ch : (Nat -> Bool) -> (Nat -> Value) -> World -> Prop} {Fin : World -> Prop} {d : Nat -> Bool} {u : Nat -> Value}
include S Ch Fin d u
theorem InvC.open {W:World} (h:InvC S Ch Fin d u W) {j:Nat} (hd:d j=false) (hj:j<=S):d S=false/\Ch d u W:=by
 rcases h with h | ⟨h1,h2,_⟩
 {exact h}
 {rcases Nat.lt_or_eq_of_le hj with h | rfl
  {rw[h2 j h] at hd; cases hd}
  {rw[h1] at hd; cases hd}}
theorem InvC.next {W':World} {j:Nat} {v:Value} (h:d S=false) (hj:j < S) (hc:Ch (also d j) (upd u j v) W'):InvC S Ch Fin (also d j) (upd u j v) W':=
 Or.inl ⟨by rw[Z03 d (show S≠j by omega)]; exact h,hc⟩
theorem InvC.last {W':World} (h: ∀j,j < S->d j=true) (hf:Fin W'):InvC S Ch Fin (also d S) u W':=
 Or.inr ⟨Z0G d S,fun j hj=>by rw[Z03 d (show j≠S by omega)]; exact h j hj,hf⟩
end
theorem Z1b {P:Program} {ρ:Operand->Value} {o:Oper} {W:World} {t:TypeId} {x:Operand} {lo hi:Option Operand} {v:Value} (h:o.op= .slice t x lo hi none) (hr: (Instr.sliceAt t (ρ x) (lo.map ρ) (hi.map ρ) none).run P W= .ok v W):
 (execOp ρ o).run P W= .ok (.value v) W:=by
 unfold execOp; rw[h];simp[hr]
structure ChN (W0:World) (ty:TypeId) (size:Nat) (val:Nat->Option Value) (x y z:List Value) (lx lz:Nat) (d:Nat->Bool) (u:Nat->Value) (W:World):Prop where
 bel:Below W0.heap.size W0 W
 vals: ∀j,d j=true-> ∀v,val j=some v->u j=v
 rA:d 0=true->d 5=false->W.ownsRow W0.heap.size ty size (u 0) 0 []
 rB:d 5=true->d 12=false->W.ownsRow W0.heap.size ty size (u 5) lx x
 rC:d 12=true->d 17=false->W.ownsRow W0.heap.size ty size (u 12) (lx+1) (x++y)
 rE:d 17=true->W.ownsRow W0.heap.size ty size (u 17) (lx+1+lz) (x++y++z)
 rN:d 11=true->d 12=false-> ∃g,u 11= .slice (some ⟨g,0,none⟩) 1 1/\g < W.heap.size/\(∀j v,y[j]? =some v->W.cell? ⟨g,j,none⟩=some v)/\(d 0=true->d 5=false->(u 0).ownBlock≠some g)/\(d 5=true->(u 5).ownBlock≠some g)
 oB:d 5=true->d 0=true
 oC:d 12=true->d 5=true
 oN:d 12=true->d 11=true
 oE:d 17=true->d 12=true
theorem ChN.start (W0:World) (ty:TypeId) (size:Nat) (val:Nat->Option Value) (x y z:List Value) (lx lz:Nat) (u:Nat->Value):ChN W0 ty size val x y z lx lz (fun _=>false) u W0:=
 ⟨Below.refl _ _,nofun,nofun,nofun,nofun,nofun,nofun,nofun,nofun,nofun,nofun⟩
section
variable {W0 W : World} {ty : TypeId} {size : Nat} {val : Nat -> Option Value} {x y z : List Value} {lx lz : Nat} {d : Nat -> Bool} {u : Nat -> Value} (h : ChN W0 ty size val x y z lx lz d u W)
include W0 W ty size val x y z lx lz d u h
theorem ChN.pure {j:Nat} (hj:j≠0/\j≠5/\j≠12/\j≠17/\j≠11) (v:Value) (hv: ∀v',val j=some v'->v=v'):
 ChN W0 ty size val x y z lx lz (also d j) (upd u j v) W:=by
 obtain ⟨j0,j1,j2,j3,j4⟩:=hj;have k0:=Z03 d (show 0≠j by omega);have l0:=Z01 u v (show 0≠j by omega);have k5:=Z03 d (show 5≠j by omega);have l5:=Z01 u v (show 5≠j by omega);have k11:=Z03 d (show 11≠j by omega);have l11:=Z01 u v (show 11≠j by omega);have k12:=Z03 d (show 12≠j by omega);have l12:=Z01 u v (show 12≠j by omega);have k17:=Z03 d (show 17≠j by omega);have l17:=Z01 u v (show 17≠j by omega);refine ⟨h.bel,fun i hi v' hv'=> ?_, ?_, ?_, ?_, ?_, ?_, ?_, ?_, ?_, ?_⟩
 {by_cases hij:i=j
  {subst hij; rw[Z0g]; exact hv v' hv'}
  {rw[Z03 d hij] at hi; rw[Z01 u v hij]; exact h.vals i hi v' hv'}}
 {simp only[k0,l0,k5,l5,k11,l11,k12,l12,k17,l17]; exact h.rA}
 {simp only[k0,l0,k5,l5,k11,l11,k12,l12,k17,l17]; exact h.rB}
 {simp only[k0,l0,k5,l5,k11,l11,k12,l12,k17,l17]; exact h.rC}
 {simp only[k0,l0,k5,l5,k11,l11,k12,l12,k17,l17]; exact h.rE}
 {simp only[k0,l0,k5,l5,k11,l11,k12,l12,k17,l17]; exact h.rN}
 {simp only[k0,l0,k5,l5,k11,l11,k12,l12,k17,l17]; exact h.oB}
 {simp only[k0,l0,k5,l5,k11,l11,k12,l12,k17,l17]; exact h.oC}
 {simp only[k0,l0,k5,l5,k11,l11,k12,l12,k17,l17]; exact h.oN}
 {simp only[k0,l0,k5,l5,k11,l11,k12,l12,k17,l17]; exact h.oE}
theorem ChN.mkA (hd:d 0=false) (hval:val 0=none)  :
 ChN W0 ty size val x y z lx lz (also d 0) (upd u 0 (.slice (some ⟨W.heap.size,0,none⟩) 0 0)) (W.alloc (.cells #[] ty)):=by
 have k5:=Z03 d (show 5≠0 by decide);have l5:=Z01 u (.slice (some ⟨W.heap.size,0,none⟩) 0 0) (show 5≠0 by decide);have k11:=Z03 d (show 11≠0 by decide);have l11:=Z01 u (.slice (some ⟨W.heap.size,0,none⟩) 0 0) (show 11≠0 by decide);have k12:=Z03 d (show 12≠0 by decide);have l12:=Z01 u (.slice (some ⟨W.heap.size,0,none⟩) 0 0) (show 12≠0 by decide);have k17:=Z03 d (show 17≠0 by decide);have l17:=Z01 u (.slice (some ⟨W.heap.size,0,none⟩) 0 0) (show 17≠0 by decide);have k0:=Z0G d 0;have l0:=Z0g u 0 (.slice (some ⟨W.heap.size,0,none⟩) 0 0);have n5:d 5=false:=by
  cases hq:d 5 with
  | false=>rfl
  | true=>have:=h.oB hq; rw[hd] at this; cases this
 have n12:d 12=false:=by
  cases hq:d 12 with
  | false=>rfl
  | true=>have:=h.oC hq; rw[n5] at this; cases this
 have n17:d 17=false:=by
  cases hq:d 17 with
  | false=>rfl
  | true=>have:=h.oE hq; rw[n12] at this; cases this
 have hb1:=Z00 W (.cells #[] ty);refine ⟨h.bel.trans (hb1.mono h.bel.size),fun i hi v' hv'=> ?_, ?_, ?_, ?_, ?_, ?_, ?_, ?_, ?_, ?_⟩
 {by_cases hij:i=0
  {subst hij; rw[hval] at hv'; cases hv'}
  {rw[Z03 d hij] at hi; rw[Z01 u _ hij]; exact h.vals i hi v' hv'}}
 {simp only[k0,l0,k5,l5,k11,l11,k12,l12,k17,l17]; intro _ _; exact World.ownsRow_made W #[] 0 h.bel.size (Nat.zero_le _) (by simp)}
 {simp only[k0,l0,k5,l5,k11,l11,k12,l12,k17,l17]; intro hq; rw[n5] at hq; cases hq}
 {simp only[k0,l0,k5,l5,k11,l11,k12,l12,k17,l17]; intro hq; rw[n12] at hq; cases hq}
 {simp only[k0,l0,k5,l5,k11,l11,k12,l12,k17,l17]; intro hq; rw[n17] at hq; cases hq}
 {simp only[k0,l0,k5,l5,k11,l11,k12,l12,k17,l17];intro hq _;obtain ⟨g,h1,h2,h3,h4,h5⟩:=h.rN hq n12;refine ⟨g,h1,by simp; omega,fun j v hj=>(hb1.cell (p:=⟨g,j,none⟩) h2).trans (h3 j v hj),fun _ _=> ?_,fun hq2=>by rw[n5] at hq2; cases hq2⟩;intro he;have:W.heap.size=g:=by simpa[Value.ownBlock] using he
  omega}
 {simp only[k0,l0,k5,l5,k11,l11,k12,l12,k17,l17]; intro hq; rw[n5] at hq; cases hq}
 {simp only[k0,l0,k5,l5,k11,l11,k12,l12,k17,l17]; intro hq; rw[n12] at hq; cases hq}
 {simp only[k0,l0,k5,l5,k11,l11,k12,l12,k17,l17]; intro hq; rw[n12] at hq; cases hq}
 {simp only[k0,l0,k5,l5,k11,l11,k12,l12,k17,l17]; intro hq; rw[n17] at hq; cases hq}
theorem ChN.mkN (hd:d 11=false) (hval:val 11=none) (hy:y.length=size) (hs:0 < size):
 ChN W0 ty size val x y z lx lz (also d 11) (upd u 11 (.slice (some ⟨W.heap.size,0,none⟩) 1 1)) (W.alloc (.cells y.toArray ty)):=by
 have k0:=Z03 d (show 0≠11 by decide);have l0:=Z01 u (.slice (some ⟨W.heap.size,0,none⟩) 1 1) (show 0≠11 by decide);have k5:=Z03 d (show 5≠11 by decide);have l5:=Z01 u (.slice (some ⟨W.heap.size,0,none⟩) 1 1) (show 5≠11 by decide);have k12:=Z03 d (show 12≠11 by decide);have l12:=Z01 u (.slice (some ⟨W.heap.size,0,none⟩) 1 1) (show 12≠11 by decide);have k17:=Z03 d (show 17≠11 by decide);have l17:=Z01 u (.slice (some ⟨W.heap.size,0,none⟩) 1 1) (show 17≠11 by decide);have k11:=Z0G d 11;have l11:=Z0g u 11 (.slice (some ⟨W.heap.size,0,none⟩) 1 1);have n12:d 12=false:=by
  cases hq:d 12 with
  | false=>rfl
  | true=>have:=h.oN hq; rw[hd] at this; cases this
 have n17:d 17=false:=by
  cases hq:d 17 with
  | false=>rfl
  | true=>have:=h.oE hq; rw[n12] at this; cases this
 have hb1:=Z00 W (.cells y.toArray ty);refine ⟨h.bel.trans (hb1.mono h.bel.size),fun i hi v' hv'=> ?_, ?_, ?_, ?_, ?_, ?_, ?_, ?_, ?_, ?_⟩
 {by_cases hij:i=11
  {subst hij; rw[hval] at hv'; cases hv'}
  {rw[Z03 d hij] at hi; rw[Z01 u _ hij]; exact h.vals i hi v' hv'}}
 {simp only[k0,l0,k5,l5,k11,l11,k12,l12,k17,l17]; intro h1 h2; exact (h.rA h1 h2).alloc _}
 {simp only[k0,l0,k5,l5,k11,l11,k12,l12,k17,l17]; intro h1 h2; exact (h.rB h1 h2).alloc _}
 {simp only[k0,l0,k5,l5,k11,l11,k12,l12,k17,l17]; intro hq; rw[n12] at hq; cases hq}
 {simp only[k0,l0,k5,l5,k11,l11,k12,l12,k17,l17]; intro hq; rw[n17] at hq; cases hq}
 {simp only[k0,l0,k5,l5,k11,l11,k12,l12,k17,l17];intro _ _;refine ⟨W.heap.size,rfl,by simp,fun j v hj=> ?_,fun h1 h2 he=> ?_,fun h1 he=> ?_⟩
  {rw[World.cell?_alloc_at _ _ _ _ rfl];simpa using hj}
  {have:=((h.rA h1 h2).lt _ he).2; omega}
  {have:=((h.rB h1 n12).lt _ he).2; omega}}
 {simp only[k0,l0,k5,l5,k11,l11,k12,l12,k17,l17]; exact h.oB}
 {simp only[k0,l0,k5,l5,k11,l11,k12,l12,k17,l17]; exact h.oC}
 {simp only[k0,l0,k5,l5,k11,l11,k12,l12,k17,l17]; intro _; trivial}
 {simp only[k0,l0,k5,l5,k11,l11,k12,l12,k17,l17]; exact h.oE}
theorem ChN.apB (hd:d 5=false) (hval:val 5=none) (hp:d 0=true) {v:Value} {W':World} (hown:W'.ownsRow W0.heap.size ty size v lx x) (hg:W.grownBy W' (u 0).ownBlock) (hw:v.ownBlock=(u 0).ownBlock\/v.ownBlock=some W.heap.size):
 ChN W0 ty size val x y z lx lz (also d 5) (upd u 5 v) W':=by
 have k0:=Z03 d (show 0≠5 by decide);have l0:=Z01 u v (show 0≠5 by decide);have k11:=Z03 d (show 11≠5 by decide);have l11:=Z01 u v (show 11≠5 by decide);have k12:=Z03 d (show 12≠5 by decide);have l12:=Z01 u v (show 12≠5 by decide);have k17:=Z03 d (show 17≠5 by decide);have l17:=Z01 u v (show 17≠5 by decide);have k5:=Z0G d 5;have l5:=Z0g u 5 v;have n12:d 12=false:=by
  cases hq:d 12 with
  | false=>rfl
  | true=>have:=h.oC hq; rw[hd] at this; cases this
 have n17:d 17=false:=by
  cases hq:d 17 with
  | false=>rfl
  | true=>have:=h.oE hq; rw[n12] at this; cases this
 have hrow:=h.rA hp hd;have hb1:Below W0.heap.size W W':=Y2.grown hg h.bel.size (fun k hk=>(hrow.lt k hk).1);refine ⟨h.bel.trans hb1,fun i hi v' hv'=> ?_, ?_, ?_, ?_, ?_, ?_, ?_, ?_, ?_, ?_⟩
 {by_cases hij:i=5
  {subst hij; rw[hval] at hv'; cases hv'}
  {rw[Z03 d hij] at hi; rw[Z01 u _ hij]; exact h.vals i hi v' hv'}}
 {simp only[k0,l0,k5,l5,k11,l11,k12,l12,k17,l17]; intro _ hq; cases hq}
 {simp only[k0,l0,k5,l5,k11,l11,k12,l12,k17,l17]; intro _ _; exact hown}
 {simp only[k0,l0,k5,l5,k11,l11,k12,l12,k17,l17]; intro hq; rw[n12] at hq; cases hq}
 {simp only[k0,l0,k5,l5,k11,l11,k12,l12,k17,l17]; intro hq; rw[n17] at hq; cases hq}
 {simp only[k0,l0,k5,l5,k11,l11,k12,l12,k17,l17];intro hq _;obtain ⟨g,h1,h2,h3,h4,h5⟩:=h.rN hq n12;have hne:=h4 hp hd;refine ⟨g,h1,Nat.lt_of_lt_of_le h2 hb1.size,fun j v hj=>hg.cell (h3 j v hj) (fun he=>hne he.symm),nofun,fun _ he=> ?_⟩;rcases hw with hw | hw
  {exact hne (hw▸he)}
  {rw[hw] at he;have:=Option.some.inj he;omega}}
 {simp only[k0,l0,k5,l5,k11,l11,k12,l12,k17,l17]; intro _; exact hp}
 {simp only[k0,l0,k5,l5,k11,l11,k12,l12,k17,l17]; intro hq; rw[n12] at hq; cases hq}
 {simp only[k0,l0,k5,l5,k11,l11,k12,l12,k17,l17]; intro hq; rw[n12] at hq; cases hq}
 {simp only[k0,l0,k5,l5,k11,l11,k12,l12,k17,l17]; exact h.oE}
theorem ChN.apC (hd:d 12=false) (hval:val 12=none) (hp:d 5=true) (hn:d 11=true) {v:Value} {W':World} (hown:W'.ownsRow W0.heap.size ty size v (lx+1) (x++y)) (hg:W.grownBy W' (u 5).ownBlock) (hw:v.ownBlock=(u 5).ownBlock\/v.ownBlock=some W.heap.size):
 ChN W0 ty size val x y z lx lz (also d 12) (upd u 12 v) W':=by
 have k0:=Z03 d (show 0≠12 by decide);have l0:=Z01 u v (show 0≠12 by decide);have k5:=Z03 d (show 5≠12 by decide);have l5:=Z01 u v (show 5≠12 by decide);have k11:=Z03 d (show 11≠12 by decide);have l11:=Z01 u v (show 11≠12 by decide);have k17:=Z03 d (show 17≠12 by decide);have l17:=Z01 u v (show 17≠12 by decide);have k12:=Z0G d 12;have l12:=Z0g u 12 v;have n17:d 17=false:=by
  cases hq:d 17 with
  | false=>rfl
  | true=>have:=h.oE hq; rw[hd] at this; cases this
 have hrow:=h.rB hp hd;have hb1:Below W0.heap.size W W':=Y2.grown hg h.bel.size (fun k hk=>(hrow.lt k hk).1);refine ⟨h.bel.trans hb1,fun i hi v' hv'=> ?_, ?_, ?_, ?_, ?_, ?_, ?_, ?_, ?_, ?_⟩
 {by_cases hij:i=12
  {subst hij; rw[hval] at hv'; cases hv'}
  {rw[Z03 d hij] at hi; rw[Z01 u _ hij]; exact h.vals i hi v' hv'}}
 {simp only[k0,l0,k5,l5,k11,l11,k12,l12,k17,l17]; intro _ hq; rw[hp] at hq; cases hq}
 {simp only[k0,l0,k5,l5,k11,l11,k12,l12,k17,l17]; intro _ hq; cases hq}
 {simp only[k0,l0,k5,l5,k11,l11,k12,l12,k17,l17]; intro _ _; exact hown}
 {simp only[k0,l0,k5,l5,k11,l11,k12,l12,k17,l17]; intro hq; rw[n17] at hq; cases hq}
 {simp only[k0,l0,k5,l5,k11,l11,k12,l12,k17,l17]; intro _ hq; cases hq}
 {simp only[k0,l0,k5,l5,k11,l11,k12,l12,k17,l17]; exact h.oB}
 {simp only[k0,l0,k5,l5,k11,l11,k12,l12,k17,l17]; intro _; exact hp}
 {simp only[k0,l0,k5,l5,k11,l11,k12,l12,k17,l17]; intro _; exact hn}
 {simp only[k0,l0,k5,l5,k11,l11,k12,l12,k17,l17]; intro _; trivial}
theorem ChN.apE (hd:d 17=false) (hval:val 17=none) (hp:d 12=true) {v:Value} {W':World} (hown:W'.ownsRow W0.heap.size ty size v (lx+1+lz) (x++y++z)) (hg:W.grownBy W' (u 12).ownBlock) (hw:v.ownBlock=(u 12).ownBlock\/v.ownBlock=some W.heap.size):
 ChN W0 ty size val x y z lx lz (also d 17) (upd u 17 v) W':=by
 have k0:=Z03 d (show 0≠17 by decide);have l0:=Z01 u v (show 0≠17 by decide);have k5:=Z03 d (show 5≠17 by decide);have l5:=Z01 u v (show 5≠17 by decide);have k11:=Z03 d (show 11≠17 by decide);have l11:=Z01 u v (show 11≠17 by decide);have k12:=Z03 d (show 12≠17 by decide);have l12:=Z01 u v (show 12≠17 by decide);have k17:=Z0G d 17;have l17:=Z0g u 17 v;have hrow:=h.rC hp hd;have hb1:Below W0.heap.size W W':=Y2.grown hg h.bel.size (fun k hk=>(hrow.lt k hk).1);have hb:=h.oC hp;have hn:=h.oN hp;refine ⟨h.bel.trans hb1,fun i hi v' hv'=> ?_, ?_, ?_, ?_, ?_, ?_, ?_, ?_, ?_, ?_⟩
 {by_cases hij:i=17
  {subst hij; rw[hval] at hv'; cases hv'}
  {rw[Z03 d hij] at hi; rw[Z01 u _ hij]; exact h.vals i hi v' hv'}}
 {simp only[k0,l0,k5,l5,k11,l11,k12,l12,k17,l17]; intro _ hq; rw[hb] at hq; cases hq}
 {simp only[k0,l0,k5,l5,k11,l11,k12,l12,k17,l17]; intro _ hq; rw[hp] at hq; cases hq}
 {simp only[k0,l0,k5,l5,k11,l11,k12,l12,k17,l17]; intro _ hq; cases hq}
 {simp only[k0,l0,k5,l5,k11,l11,k12,l12,k17,l17]; intro _; exact hown}
 {simp only[k0,l0,k5,l5,k11,l11,k12,l12,k17,l17]; intro _ hq; rw[hp] at hq; cases hq}
 {simp only[k0,l0,k5,l5,k11,l11,k12,l12,k17,l17]; exact h.oB}
 {simp only[k0,l0,k5,l5,k11,l11,k12,l12,k17,l17]; exact h.oC}
 {simp only[k0,l0,k5,l5,k11,l11,k12,l12,k17,l17]; exact h.oN}
 {simp only[k0,l0,k5,l5,k11,l11,k12,l12,k17,l17]; intro _; exact hp}
end
structure ChP (W0:World) (ty:TypeId) (size:Nat) (val:Nat->Option Value) (x y z:List Value) (lx lz:Nat) (d:Nat->Bool) (u:Nat->Value) (W:World):Prop where
 bel:Below W0.heap.size W0 W
 vals: ∀j,d j=true-> ∀v,val j=some v->u j=v
 rA:d 0=true->d 5=false->W.ownsRow W0.heap.size ty size (u 0) 0 []
 rB:d 5=true->d 8=false->W.ownsRow W0.heap.size ty size (u 5) lx x
 rC:d 8=true->d 13=false->W.ownsRow W0.heap.size ty size (u 8) (lx+1) (x++y)
 rE:d 13=true->W.ownsRow W0.heap.size ty size (u 13) (lx+1+lz) (x++y++z)
 rN:d 7=true->d 8=false-> ∃g,u 7= .slice (some ⟨g,0,none⟩) 1 1/\g < W.heap.size/\(∀j v,y[j]? =some v->W.cell? ⟨g,j,none⟩=some v)/\(d 0=true->d 5=false->(u 0).ownBlock≠some g)/\(d 5=true->(u 5).ownBlock≠some g)
 oB:d 5=true->d 0=true
 oC:d 8=true->d 5=true
 oN:d 8=true->d 7=true
 oE:d 13=true->d 8=true
theorem ChP.start (W0:World) (ty:TypeId) (size:Nat) (val:Nat->Option Value) (x y z:List Value) (lx lz:Nat) (u:Nat->Value):ChP W0 ty size val x y z lx lz (fun _=>false) u W0:=
 ⟨Below.refl _ _,nofun,nofun,nofun,nofun,nofun,nofun,nofun,nofun,nofun,nofun⟩
section
variable {W0 W : World} {ty : TypeId} {size : Nat} {val : Nat -> Option Value} {x y z : List Value} {lx lz : Nat} {d : Nat -> Bool} {u : Nat -> Value} (h : ChP W0 ty size val x y z lx lz d u W)
include W0 W ty size val x y z lx lz d u h
theorem ChP.pure {j:Nat} (hj:j≠0/\j≠5/\j≠8/\j≠13/\j≠7) (v:Value) (hv: ∀v',val j=some v'->v=v'):
 ChP W0 ty size val x y z lx lz (also d j) (upd u j v) W:=by
 obtain ⟨j0,j1,j2,j3,j4⟩:=hj;have k0:=Z03 d (show 0≠j by omega);have l0:=Z01 u v (show 0≠j by omega);have k5:=Z03 d (show 5≠j by omega);have l5:=Z01 u v (show 5≠j by omega);have k7:=Z03 d (show 7≠j by omega);have l7:=Z01 u v (show 7≠j by omega);have k8:=Z03 d (show 8≠j by omega);have l8:=Z01 u v (show 8≠j by omega);have k13:=Z03 d (show 13≠j by omega);have l13:=Z01 u v (show 13≠j by omega);refine ⟨h.bel,fun i hi v' hv'=> ?_, ?_, ?_, ?_, ?_, ?_, ?_, ?_, ?_, ?_⟩
 {by_cases hij:i=j
  {subst hij; rw[Z0g]; exact hv v' hv'}
  {rw[Z03 d hij] at hi; rw[Z01 u v hij]; exact h.vals i hi v' hv'}}
 {simp only[k0,l0,k5,l5,k7,l7,k8,l8,k13,l13]; exact h.rA}
 {simp only[k0,l0,k5,l5,k7,l7,k8,l8,k13,l13]; exact h.rB}
 {simp only[k0,l0,k5,l5,k7,l7,k8,l8,k13,l13]; exact h.rC}
 {simp only[k0,l0,k5,l5,k7,l7,k8,l8,k13,l13]; exact h.rE}
 {simp only[k0,l0,k5,l5,k7,l7,k8,l8,k13,l13]; exact h.rN}
 {simp only[k0,l0,k5,l5,k7,l7,k8,l8,k13,l13]; exact h.oB}
 {simp only[k0,l0,k5,l5,k7,l7,k8,l8,k13,l13]; exact h.oC}
 {simp only[k0,l0,k5,l5,k7,l7,k8,l8,k13,l13]; exact h.oN}
 {simp only[k0,l0,k5,l5,k7,l7,k8,l8,k13,l13]; exact h.oE}
theorem ChP.mkA (hd:d 0=false) (hval:val 0=none)  :
 ChP W0 ty size val x y z lx lz (also d 0) (upd u 0 (.slice (some ⟨W.heap.size,0,none⟩) 0 0)) (W.alloc (.cells #[] ty)):=by
 have k5:=Z03 d (show 5≠0 by decide);have l5:=Z01 u (.slice (some ⟨W.heap.size,0,none⟩) 0 0) (show 5≠0 by decide);have k7:=Z03 d (show 7≠0 by decide);have l7:=Z01 u (.slice (some ⟨W.heap.size,0,none⟩) 0 0) (show 7≠0 by decide);have k8:=Z03 d (show 8≠0 by decide);have l8:=Z01 u (.slice (some ⟨W.heap.size,0,none⟩) 0 0) (show 8≠0 by decide);have k13:=Z03 d (show 13≠0 by decide);have l13:=Z01 u (.slice (some ⟨W.heap.size,0,none⟩) 0 0) (show 13≠0 by decide);have k0:=Z0G d 0;have l0:=Z0g u 0 (.slice (some ⟨W.heap.size,0,none⟩) 0 0);have n5:d 5=false:=by
  cases hq:d 5 with
  | false=>rfl
  | true=>have:=h.oB hq; rw[hd] at this; cases this
 have n8:d 8=false:=by
  cases hq:d 8 with
  | false=>rfl
  | true=>have:=h.oC hq; rw[n5] at this; cases this
 have n13:d 13=false:=by
  cases hq:d 13 with
  | false=>rfl
  | true=>have:=h.oE hq; rw[n8] at this; cases this
 have hb1:=Z00 W (.cells #[] ty);refine ⟨h.bel.trans (hb1.mono h.bel.size),fun i hi v' hv'=> ?_, ?_, ?_, ?_, ?_, ?_, ?_, ?_, ?_, ?_⟩
 {by_cases hij:i=0
  {subst hij; rw[hval] at hv'; cases hv'}
  {rw[Z03 d hij] at hi; rw[Z01 u _ hij]; exact h.vals i hi v' hv'}}
 {simp only[k0,l0,k5,l5,k7,l7,k8,l8,k13,l13]; intro _ _; exact World.ownsRow_made W #[] 0 h.bel.size (Nat.zero_le _) (by simp)}
 {simp only[k0,l0,k5,l5,k7,l7,k8,l8,k13,l13]; intro hq; rw[n5] at hq; cases hq}
 {simp only[k0,l0,k5,l5,k7,l7,k8,l8,k13,l13]; intro hq; rw[n8] at hq; cases hq}
 {simp only[k0,l0,k5,l5,k7,l7,k8,l8,k13,l13]; intro hq; rw[n13] at hq; cases hq}
 {simp only[k0,l0,k5,l5,k7,l7,k8,l8,k13,l13];intro hq _;obtain ⟨g,h1,h2,h3,h4,h5⟩:=h.rN hq n8;refine ⟨g,h1,by simp; omega,fun j v hj=>(hb1.cell (p:=⟨g,j,none⟩) h2).trans (h3 j v hj),fun _ _=> ?_,fun hq2=>by rw[n5] at hq2; cases hq2⟩;intro he;have:W.heap.size=g:=by simpa[Value.ownBlock] using he
  omega}
 {simp only[k0,l0,k5,l5,k7,l7,k8,l8,k13,l13]; intro hq; rw[n5] at hq; cases hq}
 {simp only[k0,l0,k5,l5,k7,l7,k8,l8,k13,l13]; intro hq; rw[n8] at hq; cases hq}
 {simp only[k0,l0,k5,l5,k7,l7,k8,l8,k13,l13]; intro hq; rw[n8] at hq; cases hq}
 {simp only[k0,l0,k5,l5,k7,l7,k8,l8,k13,l13]; intro hq; rw[n13] at hq; cases hq}
theorem ChP.mkN (hd:d 7=false) (hval:val 7=none) (hy:y.length=size) (hs:0 < size):
 ChP W0 ty size val x y z lx lz (also d 7) (upd u 7 (.slice (some ⟨W.heap.size,0,none⟩) 1 1)) (W.alloc (.cells y.toArray ty)):=by
 have k0:=Z03 d (show 0≠7 by decide);have l0:=Z01 u (.slice (some ⟨W.heap.size,0,none⟩) 1 1) (show 0≠7 by decide);have k5:=Z03 d (show 5≠7 by decide);have l5:=Z01 u (.slice (some ⟨W.heap.size,0,none⟩) 1 1) (show 5≠7 by decide);have k8:=Z03 d (show 8≠7 by decide);have l8:=Z01 u (.slice (some ⟨W.heap.size,0,none⟩) 1 1) (show 8≠7 by decide);have k13:=Z03 d (show 13≠7 by decide);have l13:=Z01 u (.slice (some ⟨W.heap.size,0,none⟩) 1 1) (show 13≠7 by decide);have k7:=Z0G d 7;have l7:=Z0g u 7 (.slice (some ⟨W.heap.size,0,none⟩) 1 1);have n8:d 8=false:=by
  cases hq:d 8 with
  | false=>rfl
  | true=>have:=h.oN hq; rw[hd] at this; cases this
 have n13:d 13=false:=by
  cases hq:d 13 with
  | false=>rfl
  | true=>have:=h.oE hq; rw[n8] at this; cases this
 have hb1:=Z00 W (.cells y.toArray ty);refine ⟨h.bel.trans (hb1.mono h.bel.size),fun i hi v' hv'=> ?_, ?_, ?_, ?_, ?_, ?_, ?_, ?_, ?_, ?_⟩
 {by_cases hij:i=7
  {subst hij; rw[hval] at hv'; cases hv'}
  {rw[Z03 d hij] at hi; rw[Z01 u _ hij]; exact h.vals i hi v' hv'}}
 {simp only[k0,l0,k5,l5,k7,l7,k8,l8,k13,l13]; intro h1 h2; exact (h.rA h1 h2).alloc _}
 {simp only[k0,l0,k5,l5,k7,l7,k8,l8,k13,l13]; intro h1 h2; exact (h.rB h1 h2).alloc _}
 {simp only[k0,l0,k5,l5,k7,l7,k8,l8,k13,l13]; intro hq; rw[n8] at hq; cases hq}
 {simp only[k0,l0,k5,l5,k7,l7,k8,l8,k13,l13]; intro hq; rw[n13] at hq; cases hq}
 {simp only[k0,l0,k5,l5,k7,l7,k8,l8,k13,l13];intro _ _;refine ⟨W.heap.size,rfl,by simp,fun j v hj=> ?_,fun h1 h2 he=> ?_,fun h1 he=> ?_⟩
  {rw[World.cell?_alloc_at _ _ _ _ rfl];simpa using hj}
  {have:=((h.rA h1 h2).lt _ he).2; omega}
  {have:=((h.rB h1 n8).lt _ he).2; omega}}
 {simp only[k0,l0,k5,l5,k7,l7,k8,l8,k13,l13]; exact h.oB}
 {simp only[k0,l0,k5,l5,k7,l7,k8,l8,k13,l13]; exact h.oC}
 {simp only[k0,l0,k5,l5,k7,l7,k8,l8,k13,l13]; intro _; trivial}
 {simp only[k0,l0,k5,l5,k7,l7,k8,l8,k13,l13]; exact h.oE}
theorem ChP.apB (hd:d 5=false) (hval:val 5=none) (hp:d 0=true) {v:Value} {W':World} (hown:W'.ownsRow W0.heap.size ty size v lx x) (hg:W.grownBy W' (u 0).ownBlock) (hw:v.ownBlock=(u 0).ownBlock\/v.ownBlock=some W.heap.size):
 ChP W0 ty size val x y z lx lz (also d 5) (upd u 5 v) W':=by
 have k0:=Z03 d (show 0≠5 by decide);have l0:=Z01 u v (show 0≠5 by decide);have k7:=Z03 d (show 7≠5 by decide);have l7:=Z01 u v (show 7≠5 by decide);have k8:=Z03 d (show 8≠5 by decide);have l8:=Z01 u v (show 8≠5 by decide);have k13:=Z03 d (show 13≠5 by decide);have l13:=Z01 u v (show 13≠5 by decide);have k5:=Z0G d 5;have l5:=Z0g u 5 v;have n8:d 8=false:=by
  cases hq:d 8 with
  | false=>rfl
  | true=>have:=h.oC hq; rw[hd] at this; cases this
 have n13:d 13=false:=by
  cases hq:d 13 with
  | false=>rfl
  | true=>have:=h.oE hq; rw[n8] at this; cases this
 have hrow:=h.rA hp hd;have hb1:Below W0.heap.size W W':=Y2.grown hg h.bel.size (fun k hk=>(hrow.lt k hk).1);refine ⟨h.bel.trans hb1,fun i hi v' hv'=> ?_, ?_, ?_, ?_, ?_, ?_, ?_, ?_, ?_, ?_⟩
 {by_cases hij:i=5
  {subst hij; rw[hval] at hv'; cases hv'}
  {rw[Z03 d hij] at hi; rw[Z01 u _ hij]; exact h.vals i hi v' hv'}}
 {simp only[k0,l0,k5,l5,k7,l7,k8,l8,k13,l13]; intro _ hq; cases hq}
 {simp only[k0,l0,k5,l5,k7,l7,k8,l8,k13,l13]; intro _ _; exact hown}
 {simp only[k0,l0,k5,l5,k7,l7,k8,l8,k13,l13]; intro hq; rw[n8] at hq; cases hq}
 {simp only[k0,l0,k5,l5,k7,l7,k8,l8,k13,l13]; intro hq; rw[n13] at hq; cases hq}
 {simp only[k0,l0,k5,l5,k7,l7,k8,l8,k13,l13];intro hq _;obtain ⟨g,h1,h2,h3,h4,h5⟩:=h.rN hq n8;have hne:=h4 hp hd;refine ⟨g,h1,Nat.lt_of_lt_of_le h2 hb1.size,fun j v hj=>hg.cell (h3 j v hj) (fun he=>hne he.symm),nofun,fun _ he=> ?_⟩;rcases hw with hw | hw
  {exact hne (hw▸he)}
  {rw[hw] at he;have:=Option.some.inj he;omega}}
 {simp only[k0,l0,k5,l5,k7,l7,k8,l8,k13,l13]; intro _; exact hp}
 {simp only[k0,l0,k5,l5,k7,l7,k8,l8,k13,l13]; intro hq; rw[n8] at hq; cases hq}
 {simp only[k0,l0,k5,l5,k7,l7,k8,l8,k13,l13]; intro hq; rw[n8] at hq; cases hq}
 {simp only[k0,l0,k5,l5,k7,l7,k8,l8,k13,l13]; exact h.oE}
theorem ChP.apC (hd:d 8=false) (hval:val 8=none) (hp:d 5=true) (hn:d 7=true) {v:Value} {W':World} (hown:W'.ownsRow W0.heap.size ty size v (lx+1) (x++y)) (hg:W.grownBy W' (u 5).ownBlock) (hw:v.ownBlock=(u 5).ownBlock\/v.ownBlock=some W.heap.size):
 ChP W0 ty size val x y z lx lz (also d 8) (upd u 8 v) W':=by
 have k0:=Z03 d (show 0≠8 by decide);have l0:=Z01 u v (show 0≠8 by decide);have k5:=Z03 d (show 5≠8 by decide);have l5:=Z01 u v (show 5≠8 by decide);have k7:=Z03 d (show 7≠8 by decide);have l7:=Z01 u v (show 7≠8 by decide);have k13:=Z03 d (show 13≠8 by decide);have l13:=Z01 u v (show 13≠8 by decide);have k8:=Z0G d 8;have l8:=Z0g u 8 v;have n13:d 13=false:=by
  cases hq:d 13 with
  | false=>rfl
  | true=>have:=h.oE hq; rw[hd] at this; cases this
 have hrow:=h.rB hp hd;have hb1:Below W0.heap.size W W':=Y2.grown hg h.bel.size (fun k hk=>(hrow.lt k hk).1);refine ⟨h.bel.trans hb1,fun i hi v' hv'=> ?_, ?_, ?_, ?_, ?_, ?_, ?_, ?_, ?_, ?_⟩
 {by_cases hij:i=8
  {subst hij; rw[hval] at hv'; cases hv'}
  {rw[Z03 d hij] at hi; rw[Z01 u _ hij]; exact h.vals i hi v' hv'}}
 {simp only[k0,l0,k5,l5,k7,l7,k8,l8,k13,l13]; intro _ hq; rw[hp] at hq; cases hq}
 {simp only[k0,l0,k5,l5,k7,l7,k8,l8,k13,l13]; intro _ hq; cases hq}
 {simp only[k0,l0,k5,l5,k7,l7,k8,l8,k13,l13]; intro _ _; exact hown}
 {simp only[k0,l0,k5,l5,k7,l7,k8,l8,k13,l13]; intro hq; rw[n13] at hq; cases hq}
 {simp only[k0,l0,k5,l5,k7,l7,k8,l8,k13,l13]; intro _ hq; cases hq}
 {simp only[k0,l0,k5,l5,k7,l7,k8,l8,k13,l13]; exact h.oB}
 {simp only[k0,l0,k5,l5,k7,l7,k8,l8,k13,l13]; intro _; exact hp}
 {simp only[k0,l0,k5,l5,k7,l7,k8,l8,k13,l13]; intro _; exact hn}
 {simp only[k0,l0,k5,l5,k7,l7,k8,l8,k13,l13]; intro _; trivial}
theorem ChP.apE (hd:d 13=false) (hval:val 13=none) (hp:d 8=true) {v:Value} {W':World} (hown:W'.ownsRow W0.heap.size ty size v (lx+1+lz) (x++y++z)) (hg:W.grownBy W' (u 8).ownBlock) (hw:v.ownBlock=(u 8).ownBlock\/v.ownBlock=some W.heap.size):
 ChP W0 ty size val x y z lx lz (also d 13) (upd u 13 v) W':=by
 have k0:=Z03 d (show 0≠13 by decide);have l0:=Z01 u v (show 0≠13 by decide);have k5:=Z03 d (show 5≠13 by decide);have l5:=Z01 u v (show 5≠13 by decide);have k7:=Z03 d (show 7≠13 by decide);have l7:=Z01 u v (show 7≠13 by decide);have k8:=Z03 d (show 8≠13 by decide);have l8:=Z01 u v (show 8≠13 by decide);have k13:=Z0G d 13;have l13:=Z0g u 13 v;have hrow:=h.rC hp hd;have hb1:Below W0.heap.size W W':=Y2.grown hg h.bel.size (fun k hk=>(hrow.lt k hk).1);have hb:=h.oC hp;have hn:=h.oN hp;refine ⟨h.bel.trans hb1,fun i hi v' hv'=> ?_, ?_, ?_, ?_, ?_, ?_, ?_, ?_, ?_, ?_⟩
 {by_cases hij:i=13
  {subst hij; rw[hval] at hv'; cases hv'}
  {rw[Z03 d hij] at hi; rw[Z01 u _ hij]; exact h.vals i hi v' hv'}}
 {simp only[k0,l0,k5,l5,k7,l7,k8,l8,k13,l13]; intro _ hq; rw[hb] at hq; cases hq}
 {simp only[k0,l0,k5,l5,k7,l7,k8,l8,k13,l13]; intro _ hq; rw[hp] at hq; cases hq}
 {simp only[k0,l0,k5,l5,k7,l7,k8,l8,k13,l13]; intro _ hq; cases hq}
 {simp only[k0,l0,k5,l5,k7,l7,k8,l8,k13,l13]; intro _; exact hown}
 {simp only[k0,l0,k5,l5,k7,l7,k8,l8,k13,l13]; intro _ hq; rw[hp] at hq; cases hq}
 {simp only[k0,l0,k5,l5,k7,l7,k8,l8,k13,l13]; exact h.oB}
 {simp only[k0,l0,k5,l5,k7,l7,k8,l8,k13,l13]; exact h.oC}
 {simp only[k0,l0,k5,l5,k7,l7,k8,l8,k13,l13]; exact h.oN}
 {simp only[k0,l0,k5,l5,k7,l7,k8,l8,k13,l13]; intro _; exact hp}
end
end
end Go.Proofs.YtchklpedlbkgaaaDoor
