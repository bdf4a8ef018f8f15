/- What the proofs of ExpandDeclares want, part 15. -/
import Derived.Test.YtmeiijjpomcgcaaDoorK0n14
set_option linter.unusedVariables false
set_option linter.unusedSimpArgs false
set_option linter.unusedSectionVars false
set_option maxRecDepth 100000
set_option maxHeartbeats 16000000
namespace Go.Proofs.YtmeiijjpomcgcaaDoor
open Go.RowKit Shp Sub
open Expd (Bd fill keys find put puts)
namespace SubM
def PtOk (f:Nat):Prop:= ∀(t:Sh) (q:Ptr) (L:List Bd) (A:Option Addr) (cap n0:Nat) (w:World),deep t<=f->size t<=400->ShAt w n0 q t->BdsAt w n0 A L->L.length<=1000->n0<=w.heap.size->
 Calls Tryd.prog 24 #[.agg (Y8 t q),.slice A L.length cap] w (PIs n0 (put (find L) t) w)
theorem ZaV (t:Sh) (q:Ptr) (L:List Bd) (A:Option Addr) (cap n0:Nat) (w:World) (hk:t.kind=9) (hq:ShAt w n0 q t) (hL:BdsAt w n0 A L) (hl:L.length<=1000) (hn:n0<=w.heap.size):
 Calls Tryd.prog 24 #[.agg (Y8 t q),.slice A L.length cap] w (PIs n0 (put (find L) t) w):=by
 have HO:Hid (put (find L) t=find L t.of_ t.name):=Y1 (by rw[Expd.put_eq,if_pos hk]);have hb1:=Z01 w (.cells (Y8 t q) 25);obtain ⟨w1,hw1⟩: ∃w1,w1=w.alloc (.cells (Y8 t q) 25):=⟨_,rfl⟩;have hs1:w1.heap.size=w.heap.size+1:=by rw[hw1]; simp
 have hb2:=Z01 w1 (.cells Yb 25);obtain ⟨w2,hw2⟩: ∃w2,w2=w1.alloc (.cells Yb 25):=⟨_,rfl⟩;have hs2:w2.heap.size=w.heap.size+2:=by rw[hw2]; simp[hs1]
 rw[<-hw1] at hb1;rw[<-hw2] at hb2;have hbw:=Z03 hb1 hb2;have hB1:Box5 w1 w.heap.size t q:=by rw[hw1]; exact Z07 w t q
 have hR2:Rc (w.heap.size+1) w2:=by have h:=Zaw hw2; rwa [hs1] at h
 obtain ⟨_,⟨a0,a1,a2,a3,a4⟩,_⟩:=hB1.next hb2;simp only[Nat.zero_add] at a0 a1 a2 a3 a4;have HC:=Y1 (Z9x n0 L A cap t.of_ t.name w2 (hL.keep hbw hn) (Nat.le_trans hn hbw.size) hl);have HR:=Y1 hR2;have HB:=Y1 hbw;have HN:=Y1 hn;have k9:=Y4 9 hk rfl;have hW: (w.alloc (.cells (Y8 t q) 25)).alloc (.cells Yb 25)=w2:=by rw[hw2,hw1]
 clear hb1 hb2 hbw hB1 hR2 hw1 hw2 hq hL hl hn hk;go_enter Tryd.func24,Tryd.ntmps24
 go_wp2_with fail
 refine HC.out.mono ?_;rintro e w4 ⟨s,q4,rfl,hs4,hn4,hat,hb4⟩;have hR4:=HR.out.upd (T:=fun _=>False) (Upd.new hb4) (fun h=>h);obtain ⟨v0,r0⟩:=hR4.ex 0 (by omega);have z0:=hR4.fz 0;obtain ⟨v1,r1⟩:=hR4.ex 1 (by omega);have z1:=hR4.fz 1;obtain ⟨v2,r2⟩:=hR4.ex 2 (by omega);have z2:=hR4.fz 2;obtain ⟨v3,r3⟩:=hR4.ex 3 (by omega);have z3:=hR4.fz 3;obtain ⟨v4,r4⟩:=hR4.ex 4 (by omega);have z4:=hR4.fz 4;obtain ⟨c0,c1,c2,c3,c4⟩:=RX.lay_at s q4 (W:=w4) (g:=w.heap.size+1) hR4.ex;simp only[Nat.zero_add] at c0 c1 c2 c3 c4;have HU:=Y1 (And.intro c0 (And.intro c1 (And.intro c2 (And.intro c3 c4))));have HAT:=Y1 hat;have HS4:=Y1 hs4;have HB4:=Y1 hb4;obtain ⟨is,his⟩: ∃is,(find L t.of_ t.name).isSome=is:=⟨_,rfl⟩;rw[his];have HIS:=Y1 his;clear c0 c1 c2 c3 c4 hR4 hat hb4 hs4 hn4 his a0 a1 a2 a3 a4 k9 hW;go_wp2;obtain ⟨c0,c1,c2,c3,c4⟩:=HU.out;unfold RX.lay at c0 c1 c2 c3 c4;refine bodyPost_ret (v:= .tuple #[sv s q4,.bool is]) (by simp[results,Tryd.results24,go_sem,c0,c1,c2,c3,c4]) rfl ?_;have hu:=RX.lay_upd w4 (w.heap.size+1) s q4;refine ⟨s,q4,by rw[HO.out,HIS.out],(Z03 HB.out HB4.out).trans (hu.below (Nat.le_trans HB.out.size HB4.out.size) (fun x hx=>by omega)),fun j hj=> ?_⟩;rw[HO.out] at hj;have e1:=HS4.out j hj;subst e1;have h1:=HB.out.size;have h2:=HB4.out.size;have h3:=HN.out;refine ⟨rfl,(Kept.old (S:=fun b=>b < n0) HAT.out (by omega) (fun b hb=>hb)).move hu (fun b _ hf=>⟨fun e=> ?_,Or.inl hf⟩)⟩;have e:b=w.heap.size+1:=e;have hf:b < n0:=hf;omega
theorem ZbN {f:Nat} (hI:PtOk f) (t:Sh) (q:Ptr) (L:List Bd) (A:Option Addr) (cap n0:Nat) (w:World) (hd:deep t<=f+1) (hz:size t<=400) (hk: ¬t.kind=9) (hq:ShAt w n0 q t) (hL:BdsAt w n0 A L) (hl:L.length<=1000) (hn:n0<=w.heap.size):
 Calls Tryd.prog 24 #[.agg (Y8 t q),.slice A L.length cap] w (PIs n0 (put (find L) t) w):=by
 obtain ⟨i0,hif0,hz0,hs0,hb0⟩:=Z1o ZbZ;have HO:Hid (put (find L) t=match puts (find L) t.parts with | none=>none | some ps=>some ⟨t.kind,t.of_,t.name,t.names,ps⟩):=Y1 (by rw[Expd.put_eq,if_neg hk]; rfl);have hb1:=Z01 w (.cells (Y8 t q) 25);obtain ⟨w1,hw1⟩: ∃w1,w1=w.alloc (.cells (Y8 t q) 25):=⟨_,rfl⟩;have hs1:w1.heap.size=w.heap.size+1:=by rw[hw1]; simp
 have hb2:=Z01 w1 (.cells Yb 25);obtain ⟨w2,hw2⟩: ∃w2,w2=w1.alloc (.cells Yb 25):=⟨_,rfl⟩;have hs2:w2.heap.size=w.heap.size+2:=by rw[hw2]; simp[hs1]
 have hb3:=Z01 w2 (.cells #[.int .i64 t.kind,.string ⟨t.of_.toArray⟩,.string ⟨t.name.toArray⟩,.slice q.A t.names.length q.c,.slice none 0 0] 25);obtain ⟨w3,hw3⟩: ∃w3,w3=w2.alloc (.cells #[.int .i64 t.kind,.string ⟨t.of_.toArray⟩,.string ⟨t.name.toArray⟩,.slice q.A t.names.length q.c,.slice none 0 0] 25):=⟨_,rfl⟩;have hs3:w3.heap.size=w.heap.size+3:=by rw[hw3]; simp[hs2]
 rw[<-hw1] at hb1;rw[<-hw2] at hb2;rw[<-hw3] at hb3;have hbw:=Z03 hb1 (Z03 hb2 hb3);have hB1:Box5 w1 w.heap.size t q:=by rw[hw1]; exact Z07 w t q
 have hB12:=hB1.next hb2;have hB13:=hB12.next hb3;have hR2:Rc (w.heap.size+1) w2:=by have h:=Zaw hw2; rwa [hs1] at h
 have hR3:Rc (w.heap.size+1) w3:=hR2.upd (T:=fun _=>False) (Upd.new hb3) (fun h=>h);have hu3:Upd (fun _=>False) w w3:=Upd.new hbw;have hc5:w3.cell? ⟨w.heap.size+2,0,none⟩=some (.int .i64 t.kind)/\w3.cell? ⟨w.heap.size+2,1,none⟩=some (.string ⟨t.of_.toArray⟩)/\w3.cell? ⟨w.heap.size+2,2,none⟩=some (.string ⟨t.name.toArray⟩)/\w3.cell? ⟨w.heap.size+2,3,none⟩=some (.slice q.A t.names.length q.c)/\w3.cell? ⟨w.heap.size+2,4,none⟩=some (.slice none 0 0):=by
  rw[<-hs2,hw3]; refine ⟨?_, ?_, ?_, ?_, ?_⟩ <;> simp[go_sem]
 have hfz: ∀j,w3.frozen? ⟨w.heap.size+2,j,none⟩=false:=fun j=>by rw[<-hs2,hw3]; simp[go_sem]
 have hK0:KPo w w3 n0 (w.heap.size+2) (w.heap.size+3) (w.heap.size+1) t q [] [] none 0 w3:=by
  obtain ⟨c0,c1,c2,c3,c4⟩:=hc5;exact ⟨hbw,by omega,by omega,by omega,c0,c1,c2,c3,c4,hfz,World.ownsRow_nil _ _ _ _,rfl,fun x hx=>absurd hx (by simp),hR3,Upd.refl _ _⟩
 have HX2:=Y1 hB13;have HT:=Y1 (Z4X hq hn hu3 (fun _ _ h=>h));have HL:=Y1 (hL.keep hbw hn);have HLN:=Y1 hl;have HK0:=Y1 hK0;have HN:=Y1 hn;have HZ3:=Y1 hs3;have HI:=Y1 hI;have HSZ:Hid (t.parts.length<=400/\ ∀p∈t.parts,deep p<=f/\size p<=400):=Y1 ⟨by have:=Z0F t.parts; rw[size_eq] at hz; omega,fun p hp=>by
  have h1:=Z0z hp;have h3:=Z1h hp;rw[Z0l] at hd;rw[size_eq] at hz;exact ⟨by omega,by omega⟩⟩
 obtain ⟨_,⟨a0,a1,a2,a3,a4⟩,_⟩:=hB12;simp only[Nat.zero_add] at a0 a1 a2 a3 a4;have k9: (t.kind==9)=false:=by simpa using hk
 have hW2: (w.alloc (.cells (Y8 t q) 25)).alloc (.cells Yb 25)=w2:=by rw[hw2,hw1]
 have HW:Hid (w2.alloc (.cells #[.int .i64 t.kind,.string ⟨t.of_.toArray⟩,.string ⟨t.name.toArray⟩,.slice q.A t.names.length q.c,.slice none 0 0] 25)=w3):=Y1 hw3.symm;clear hK0 hbw hR2 hR3 hu3 hc5 hfz hq hn hL hl hI hb1 hb2 hb3 hs1 hs3 hB1 hB13 hk hd hz;clear hw3 hw2 hw1;go_enter Tryd.func24,Tryd.ntmps24
 go_wp2_with fail
 rw[HW.out];clear HW k9 a0 a1 a2 a3 a4 hW2 hs2
 go_loopw [7] (fun ii wr=> ∃i:Nat,ii= .int .i64 i/\i<=t.parts.length/\Hid (∃(l:List El) (AP:Option Addr) (cP:Nat),(∀p∈t.parts.take i,put (find L) p=some (fill (find L) p))/\KPo w w3 n0 (w.heap.size+2) (w.heap.size+3) (w.heap.size+1) t q ((t.parts.take i).map (fill (find L))) l AP cP wr)) (fun i _=>t.parts.length - (intOf i).toNat)
 case atStart=>exact ⟨0,rfl,Nat.zero_le _,Y1 ⟨[],none,0,fun p hp=>by simp at hp,HK0.out⟩⟩
 case round=>
  obtain ⟨i,rfl,hi,HKB⟩:=hrel;obtain ⟨l,AP,cP,hINV,hKB⟩:=HKB.out;have HINV:=Y1 hINV;have hlt1:=HSZ.out.1;have hU:=hKB.up;have hz3:=HZ3.out;have hn:=HN.out;have hx2:=Z2t HX2.out hU (by omega);have hTw:=Z4X HT.out (by omega) hU (fun x hx hs=>by omega);have hLw:BdsAt wr n0 A L:=HL.out.of (Nat.le_refl _) (fun g k hg=>hU.cell (by omega) (by omega));obtain ⟨_,⟨a0,a1,a2,a3,a4⟩,_⟩:=hx2;simp only[Nat.zero_add] at a0 a1 a2 a3 a4;clear hINV;by_cases hlt:i < t.parts.length
  {have hi1: (i:Int) < (t.parts.length:Int):=by omega
   rcases hTw.part with h0 | ⟨g,off,qs,hqP,hg,hc,hra⟩
   {omega}
   have hX5:=hc i hlt;have hXA:=hra i hlt;obtain ⟨x,hx⟩: ∃x,x=t.parts[i]'hlt:=⟨_,rfl⟩;obtain ⟨qx,hqx⟩: ∃z,z=qs i:=⟨_,rfl⟩;rw[<-hx, <-hqx] at hX5 hXA;have hxm:x∈t.parts:=by rw[hx]; exact List.getElem_mem _
   have HLI:=Y1 (And.intro hlt hxm);have HXE:Hid (t.parts.take (i+1)=t.parts.take i++ [x]):=Y1 (by rw[List.take_succ_eq_append_getElem hlt,hx]);have hwr:w.heap.size+3<=wr.heap.size:=hKB.hw;have hn0w:n0<=wr.heap.size:=by omega
   have HC:Hid (Calls Tryd.prog 24 #[.agg (Y8 x qx),.slice A L.length cap] wr (PIs n0 (put (find L) x) wr)):=Y1 (HI.out x qx L A cap n0 wr (HSZ.out.2 x hxm).1 (HSZ.out.2 x hxm).2 hXA hLw HLN.out hn0w);have HKW:=Y1 hKB;have HWR:=Y1 (And.intro hwr hn0w);obtain ⟨x0,x1,x2,x3,x4⟩:=hX5;rw[hqP] at a4;clear hx hqx hc hra hqP hXA hKB hU hTw hLw hz3 hn hwr hn0w hg hxm
   go_wp2_with fail
   refine HC.out.mono ?_;rintro e W3 ⟨u,qu,rfl,hb4,hj⟩;unfold sv;have hb7:=Z01 W3 (.cells (Y8 u qu) 25);have hx7:=Z07 W3 u qu;obtain ⟨W7,hW7⟩: ∃W7,W3.alloc (.cells (Y8 u qu) 25)=W7:=⟨_,rfl⟩;rw[hW7] at hb7 hx7;have HBP:Hid (Below wr.heap.size wr W7):=Y1 (Z03 hb4 hb7);obtain ⟨_,⟨q0,q1,q2,q3,q4⟩,_⟩:=hx7;simp only[Nat.zero_add] at q0 q1 q2 q3 q4;have HJ:Hid (∀j,put (find L) x=some j->u=j/\Kept (fun b=>b < n0\/(wr.heap.size<=b/\b < W7.heap.size)) W7 (j,qu)):=Y1 (fun j h=>by
    obtain ⟨e1,e2⟩:=hj j h;exact ⟨e1,(e2.upd (T:=fun _=>False) (Upd.new hb7) (fun _ _ _ h=>h)).more (fun b hb hf=>hf.imp id (fun h=>⟨h,hb⟩))⟩)
   obtain ⟨is,his⟩: ∃is,(put (find L) x).isSome=is:=⟨_,rfl⟩;rw[his];clear hj hb4 hb7 HC x0 x1 x2 x3 x4 a0 a1 a2 a3 a4;cases is with
   | false=>
    have hbo:put (find L) x=none:=by
     cases e:put (find L) x with
     | none=>rfl
     | some y=>rw[e] at his; cases his
    have hbd:put (find L) t=none:=by rw[HO.out,Expd.puts_none HLI.out.2 hbo]
    have hfin:=ZbM (n0:=n0) (rc:=w.heap.size+1) hbd (by omega) (HKW.out.dn.trans (HBP.out.mono (by have:=HWR.out.1; omega)));have HF:=Y1 hfin;have hR9:=(HKW.out.rr.upd (T:=fun _=>False) (Upd.new HBP.out) (fun h=>h));obtain ⟨v0,r0⟩:=hR9.ex 0 (by omega);have z0:=hR9.fz 0;obtain ⟨v1,r1⟩:=hR9.ex 1 (by omega);have z1:=hR9.fz 1;obtain ⟨v2,r2⟩:=hR9.ex 2 (by omega);have z2:=hR9.fz 2;obtain ⟨v3,r3⟩:=hR9.ex 3 (by omega);have z3:=hR9.fz 3;obtain ⟨v4,r4⟩:=hR9.ex 4 (by omega);have z4:=hR9.fz 4;clear hbd hfin hR9 hbo his;go_wp2;refine bodyPost_ret (v:= .tuple #[.agg #[.int .i64 0,.string ⟨#[]⟩,.string ⟨#[]⟩,.slice none 0 0,.slice none 0 0],.bool false]) (by simp[results,Tryd.results24,go_sem,r0,r1,r2,r3,r4]) rfl ?_;exact HF.out
   | true=>
    obtain ⟨r,hbo⟩:=Option.isSome_iff_exists.1 his;obtain ⟨rfl,hky⟩:=HJ.out r hbo;have hfl:u=fill (find L) x:=(Expd.put_got hbo).2;have HEL:=Y1 hky;have HPL2:Hid ((∀p∈t.parts.take (i+1),put (find L) p=some (fill (find L) p))/\(t.parts.take (i+1)).map (fill (find L))=(t.parts.take i).map (fill (find L))++ [u]):=Y1 ⟨fun p hp=>by
     rw[HXE.out] at hp;rcases List.mem_append.1 hp with hp | hp
     {exact HINV.out p hp}
     · rw[List.mem_singleton.1 hp,hbo,hfl],by rw[HXE.out,List.map_append,List.map_singleton,hfl]⟩
    have HKP:=Y1 (HKW.out.new HBP.out);have d4:=HKP.out.c4;have f4:=HKP.out.fz 4;have hgw:w.heap.size+2 < W7.heap.size:=HKP.out.gw;have hll:=HKP.out.len;have hll2:l.length<=1000:=by rw[hll,List.length_map,List.length_take]; omega
    have HP5:=Y1 (Z0t (S:=fun _=>False) HKP.out.rP (Upd.new (Z01 W7 (.cells (Y8 u qu) 25))) (fun _ _ h=>h));have HS5:Hid (w.heap.size+3<=W7.heap.size):=Y1 HKP.out.hw;clear hll hky hbo his hfl
    go_wp2_with (at_builtin; refine wpList_append_lies _ rfl _ _ 23 rfl (w.heap.size+3) 25 i0 (.agg #[.int .i64 0,.string ByteArray.empty,.string ByteArray.empty,.slice none 0 0,.slice none 0 0]) 5 88 Tryd.underlying23 hif0 hz0 hs0 hb0 rfl (by decide) _ _ _ rfl HP5.out ⟨W7.heap.size,0,none⟩ 1 1 (cells5 (u,qu)) rfl rfl (by intro j v hv; rw[Z0d,Nat.zero_add]; rcases j with _ | _ | _ | _ | _ | j <;> (simp[cells5] at hv; try (subst hv; simp[go_sem]))) (cells5_one _) (by decide) (by unfold maxLen; omega) (by omega) (by have:=HS5.out; simp; omega) _ rfl ?_)
    intro g2 cap2 w8 hown2 hgrow2 hat2 hlt2;rw[rowB_own] at hgrow2 hat2;have hat3:rowB AP=some g2\/g2=(W7.alloc (.cells (Y8 u qu) 25)).heap.size:=by
     rcases hat2 with h | h
     {exact Or.inl h}
     {exact Or.inr (by rw[h]; simp)}
    have hb8:=Z01 W7 (.cells (Y8 u qu) 25);have hEND:=HKP.out.putP (pb:=wr.heap.size) (e:=W7.heap.size) (x:=(u,qu)) (by have:=HN.out; omega) (by omega) HEL.out (Nat.le_refl _) HWR.out.1 (fun b h=>Or.inl (Z0a HKW.out.rP b h).2) hb8 hgrow2 hown2 hat3;have hu8:Upd (fun b=>rowB AP=some b) W7 w8:=(Upd.new (S:=fun b=>rowB AP=some b) hb8).grown hgrow2 (fun k h _=>h);have hn8: ¬rowB AP=some (w.heap.size+2):=fun e=>by have:=(Z0a HKP.out.rP _ e).1; omega
    have d5:=(hu8.cell hgw hn8).trans d4;have f5:=(hu8.frozen hgw hn8).trans f4;have hgw8:w.heap.size+2 < w8.heap.size:=Nat.lt_of_lt_of_le hgw hu8.size;have HEND:Hid (∃(l':List El) (AP':Option Addr) (cP':Nat),(∀p∈t.parts.take (i+1),put (find L) p=some (fill (find L) p))/\KPo w w3 n0 (w.heap.size+2) (w.heap.size+3) (w.heap.size+1) t q ((t.parts.take (i+1)).map (fill (find L))) l' AP' cP' (w8.setCell ⟨w.heap.size+2,4,none⟩ (.slice (some ⟨g2,0,none⟩) (l.length+1) cap2))):=Y1 ⟨l++ [(u,qu)],_,_,HPL2.out.1,by rw[HPL2.out.2]; exact hEND⟩;clear hown2 hgrow2 hat2 hat3 hlt2 hb8 hEND hu8 hn8 d4 f4 HP5;go_wp2
    go_roundw
    case rel=>exact ⟨i+1,by go_num,by have:=HLI.out.1; omega,HEND⟩
    case measure=>have:=HLI.out.1; simp[intOf]; omega}
  {have hi1: ¬(i:Int) < (t.parts.length:Int):=by omega
   obtain rfl:i=t.parts.length:=by omega
   have hKF:=hKB;rw[List.take_length] at hKF;have hall:=HINV.out;rw[List.take_length] at hall;have hbd:put (find L) t=some ⟨t.kind,t.of_,t.name,t.names,t.parts.map (fill (find L))⟩:=by rw[HO.out,Expd.puts_some hall]
   obtain ⟨h5,hkp⟩:=hKF.fin hTw (by have:=hKF.hw; omega) (by rw[List.length_map]; omega);have hfin:=Zcc (rc:=w.heap.size+1) (hi:=w.heap.size+3) (n0:=n0) (w:=w) (W:=wr) hbd HN.out (by omega) (by omega) hKF.dn hkp;obtain ⟨r,hre⟩: ∃r:Sh,r=⟨t.kind,t.of_,t.name,t.names,t.parts.map (fill (find L))⟩:=⟨_,rfl⟩;rw[<-hre] at h5 hfin;have HF:=Y1 hfin;have hR:=hKF.rr;obtain ⟨x0,x1,x2,x3,x4⟩:=h5;simp only[Nat.zero_add] at x0 x1 x2 x3 x4;obtain ⟨v0,y0⟩:=hR.ex 0 (by omega);have z0:=hR.fz 0;obtain ⟨v1,y1⟩:=hR.ex 1 (by omega);have z1:=hR.fz 1;obtain ⟨v2,y2⟩:=hR.ex 2 (by omega);have z2:=hR.fz 2;obtain ⟨v3,y3⟩:=hR.ex 3 (by omega);have z3:=hR.fz 3;obtain ⟨v4,y4⟩:=hR.ex 4 (by omega);have z4:=hR.fz 4;obtain ⟨u0,u1,u2,u3,u4⟩:=RX.lay_at r ⟨q.A,q.c,AP,cP⟩ (W:=wr) (g:=w.heap.size+1) hR.ex;simp only[Nat.zero_add] at u0 u1 u2 u3 u4;have HU:=Y1 (And.intro u0 (And.intro u1 (And.intro u2 (And.intro u3 u4))));clear hfin hkp hKF hKB hR u0 u1 u2 u3 u4 hre hU hTw hLw hbd hall;go_wp2;obtain ⟨u0,u1,u2,u3,u4⟩:=HU.out;unfold RX.lay at u0 u1 u2 u3 u4;refine bodyPost_ret (v:= .tuple #[sv r ⟨q.A,q.c,AP,cP⟩,.bool true]) (by simp[results,Tryd.results24,go_sem,u0,u1,u2,u3,u4]) rfl ?_;exact HF.out}
theorem put_walk (f:Nat):PtOk f:=by
 induction f with
 | zero=>intro t q L A cap n0 w h; rw[Z0l] at h; omega
 | succ f hI=>
  intro t q L A cap n0 w hd hz hq hL hl hn;by_cases hk:t.kind=9
  {exact ZaV t q L A cap n0 w hk hq hL hl hn}
  {exact ZbN hI t q L A cap n0 w hd hz hk hq hL hl hn}
end SubM
end Go.Proofs.YtmeiijjpomcgcaaDoor
namespace Go.Proofs.YtmeiijjpomcgcaaDoor
open Go.RowKit Shp
def pr (x:El):Fld:=(x.n,x.t)
def cells5 (x:El):List Value:= [.int .i64 x.t.kind,.string ⟨x.t.of_.toArray⟩,.string ⟨x.t.name.toArray⟩,.slice x.q.A x.t.names.length x.q.c,.slice x.q.P x.t.parts.length x.q.d]
def cellsE (l:List El):List Value:=l.flatMap cells5
def namesE (l:List (List UInt8)):List Value:=l.map fun n=> .string ⟨n.toArray⟩
theorem cellsE_append (l m:List El):cellsE (l++m)=cellsE l++cellsE m:=by simp[cellsE]
theorem cellsE_one (x:El):cellsE [x]=cells5 x:=by simp[cellsE]
theorem cellsE_len (l:List El): (cellsE l).length=l.length * 5:=by
 induction l with
 | nil=>rfl
 | cons a l ih=>rw[show a::l= [a]++l from rfl,cellsE_append,List.length_append,ih,cellsE_one]; simp[cells5]; omega
theorem namesE_len (l:List (List UInt8)): (namesE l).length=l.length:=by simp[namesE]
theorem namesE_append (l m:List (List UInt8)):namesE (l++m)=namesE l++namesE m:=by simp[namesE]
theorem cells5_one (x:El): ∀u∈cells5 x,u.oneCell'=true:=by
 intro u hu;simp only[cells5,List.mem_cons,List.not_mem_nil,or_false] at hu;rcases hu with rfl | rfl | rfl | rfl | rfl <;> rfl
theorem Z4u (l:List El): ∀u∈cellsE l,u.oneCell'=true:=by
 intro u hu;obtain ⟨x,_,hx⟩:=List.mem_flatMap.1 hu;exact cells5_one x u hx
theorem Z31 (l:List (List UInt8)): ∀u∈namesE l,u.oneCell'=true:=by
 intro u hu;obtain ⟨x,_,rfl⟩:=List.mem_map.1 hu;rfl
theorem cellsE_at {l:List El} {i c:Nat} (hi:i < l.length) (hc:c < 5): (cellsE l)[i * 5+c]? =(cells5 (l[i]'hi))[c]? :=by
 have h1:l=l.take i++([l[i]'hi]++l.drop (i+1)):=by rw[List.singleton_append,List.getElem_cons_drop,List.take_append_drop]
 have h2: (cellsE (l.take i)).length=i * 5:=by rw[cellsE_len,List.length_take]; omega
 have h3: (cells5 (l[i]'hi)).length=5:=rfl
 conv=>lhs; rw[h1]
 rw[cellsE_append,cellsE_append,cellsE_one,List.getElem?_append_right (by omega),h2,Nat.add_sub_cancel_left,List.getElem?_append_left (by omega)]
theorem ZaW {x:Fld}: ∀ {L:List Fld} {k:Nat},k<=L.length->(∀j (h:j < L.length),j < k->(L[j]'h).1 < x.1)->(∀h:k < L.length,¬(L[k]'h).1 < x.1)->ins x L=L.take k++x::L.drop k
 | [],k,hk,_,_=>by
  have:k=0:=by simpa using hk
  subst this; rfl
 | y::L,0,_,_,h2=>by
  have:=h2 (by simp);simp only[List.getElem_cons_zero] at this;simp[ins,this]
 | y::L,k+1,hk,h1,h2=>by
  have h0:=h1 0 (by simp) (by omega);simp only[List.getElem_cons_zero] at h0;unfold ins;rw[if_pos h0,ZaW (L:=L) (k:=k) (by simpa using hk) (fun j h hj=>by
   have:=h1 (j+1) (by simpa using h) (by omega);simpa using this) (fun h=>by
   have:=h2 (by simpa using h);simpa using this)]
  rfl
theorem Z9y {L:List Fld} {i:Nat} (h:i < L.length):sortF (L.take (i+1))=ins (L[i]'h) (sortF (L.take i)):=by
 rw[Z1C h]; unfold sortF; rw[List.foldl_append]; rfl
def rowB (A:Option Addr):Option Nat:=A.map (·.block)
theorem rowB_own (A:Option Addr) (n c:Nat):Value.ownBlock (.slice A n c)=rowB A:=by cases A <;> rfl
structure OutS (W1 W:World) (ob:Nat) (k:Int) (o n:List UInt8) (nl:List (List UInt8)) (l:List El) (AN:Option Addr) (cN:Nat) (AP:Option Addr) (cP:Nat):Prop where
 up:UpF [ob] W1 W
 lt:ob < W1.heap.size
 c0:W.cell? ⟨ob,0,none⟩=some (.int .i64 k)
 c1:W.cell? ⟨ob,1,none⟩=some (.string ⟨o.toArray⟩)
 c2:W.cell? ⟨ob,2,none⟩=some (.string ⟨n.toArray⟩)
 c3:W.cell? ⟨ob,3,none⟩=some (.slice AN nl.length cN)
 c4:W.cell? ⟨ob,4,none⟩=some (.slice AP l.length cP)
 fz: ∀j,W.frozen? ⟨ob,j,none⟩=false
 rN:W.ownsRow W1.heap.size 9 1 (.slice AN nl.length cN) nl.length (namesE nl)
 rP:W.ownsRow W1.heap.size 25 5 (.slice AP l.length cP) l.length (cellsE l)
 ne:rowB AN=none\/rowB AN≠rowB AP
 own: ∀x∈l,Own W x.q x.t x.F
 fs: ∀x∈l,∀b∈x.F,W1.heap.size<=b/\rowB AN≠some b/\rowB AP≠some b
section
variable {W1 W : World} {ob : Nat} {k : Int} {o n : List UInt8} {nl : List (List UInt8)} {l : List El} {AN AP : Option Addr} {cN cP : Nat}
theorem OutS.start {W1:World} {ob:Nat} (k:Int) (o n:List UInt8) (h:Box5 W1 ob ⟨k,o,n,[],[]⟩ noneQ) (hf: ∀j,W1.frozen? ⟨ob,j,none⟩=false):OutS W1 W1 ob k o n [] [] none 0 none 0:=by
 obtain ⟨h0,⟨c0,c1,c2,c3,c4⟩,_⟩:=h;simp only[Nat.zero_add] at c0 c1 c2 c3 c4;exact ⟨UpF.refl _ _,h0,c0,c1,c2,c3,c4,hf,World.ownsRow_nil _ _ _ _,World.ownsRow_nil _ _ _ _,Or.inl rfl,nofun,nofun⟩
theorem OutS.row {A:Option Addr} {m c B e s:Nat} {xs:List Value} (h:W.ownsRow B e s (.slice A m c) m xs): ∀b,rowB A=some b->B<=b/\b < W.heap.size:=fun b hb=>h.lt b (by rw[rowB_own]; exact hb)
theorem OutS.below {W':World} (h:OutS W1 W ob k o n nl l AN cN AP cP) (hb:Below W.heap.size W W'):OutS W1 W' ob k o n nl l AN cN AP cP:=by
 have hob:=Nat.lt_of_lt_of_le h.lt h.up.size;have e: ∀j,W'.cell? ⟨ob,j,none⟩=W.cell? ⟨ob,j,none⟩:=fun j=>hb.cell (p:=⟨ob,j,none⟩) hob;have g:W.grownBy W' none:=⟨hb.os,hb.tape,hb.output,hb.size,fun j hj _=>hb.block j hj⟩;refine ⟨h.up.below hb,h.lt,(e 0).trans h.c0,(e 1).trans h.c1,(e 2).trans h.c2,(e 3).trans h.c3,(e 4).trans h.c4,fun j=>(hb.frozen (p:=⟨ob,j,none⟩) hob).trans (h.fz j),h.rN.kept g ?_,h.rP.kept g ?_,h.ne,fun x hx=>Z0K (h.own x hx) hb,h.fs⟩
 {cases hq:Value.ownBlock (.slice AN nl.length cN) with
  | none=>exact Or.inl rfl
  | some b=>exact Or.inr nofun}
 {cases hq:Value.ownBlock (.slice AP l.length cP) with
  | none=>exact Or.inl rfl
  | some b=>exact Or.inr nofun}
theorem OutS.putP {Wm:World} {l':List El} {g cap:Nat} (h:OutS W1 W ob k o n nl l AN cN AP cP) (hg:W.grownBy Wm (rowB AP)) (hrow:Wm.ownsRow W1.heap.size 25 5 (.slice (some ⟨g,0,none⟩) l'.length cap) l'.length (cellsE l'))
 (hnew:rowB AP=some g\/W.heap.size<=g) (hl: ∀x∈l',Own W x.q x.t x.F/\ ∀b∈x.F,W1.heap.size<=b/\rowB AN≠some b/\rowB AP≠some b):
 OutS W1 (Wm.setCell ⟨ob,4,none⟩ (.slice (some ⟨g,0,none⟩) l'.length cap)) ob k o n nl l' AN cN (some ⟨g,0,none⟩) cap:=by
 have hob:=Nat.lt_of_lt_of_le h.lt h.up.size;have hgo:g≠ob:=by
  rcases hnew with h1 | h1
  {have:=(OutS.row h.rP g h1).1; have:=h.lt; omega}
  {omega}
 have hne:some ob≠rowB AP:=fun e=>by have:=(OutS.row h.rP ob e.symm).1; have:=h.lt; omega
 have hs: ∀b,b < W.heap.size->rowB AP≠some b->Z0y W Wm b:=fun b hb hn=>⟨fun j=>World.cell?_of_block (w:=W) (hg.block b hb (fun e=>hn e.symm)),fun j=>World.frozen?_of_block (w:=W) (hg.block b hb (fun e=>hn e.symm))⟩;have ho:=hs ob hob (fun e=>hne e.symm);have far: ∀j,j≠4->(Wm.setCell ⟨ob,4,none⟩ (.slice (some ⟨g,0,none⟩) l'.length cap)).cell? ⟨ob,j,none⟩=W.cell? ⟨ob,j,none⟩:=fun j hj=>(World.cell?_setCell_other _ _ _ _ (fun e=>by have:=congrArg Addr.off e; simp at this; omega)).trans (ho.1 j);have hsz: (Wm.setCell ⟨ob,4,none⟩ (.slice (some ⟨g,0,none⟩) l'.length cap)).heap.size=Wm.heap.size:=by simp[World.setCell]
 have hW1:=h.up.size;have hz:=hg.size;refine ⟨⟨hg.os.trans h.up.os,hg.tape.trans h.up.tape,hg.output.trans h.up.output,by omega,fun b hb hm=> ?_⟩,h.lt,(far 0 (by omega)).trans h.c0,(far 1 (by omega)).trans h.c1,(far 2 (by omega)).trans h.c2,(far 3 (by omega)).trans h.c3,World.cell?_setCell_same _ _ _ ((ho.1 4).trans h.c4),fun j=> ?_, ?_, ?_, ?_,fun x hx=> ?_,fun x hx b hb=> ?_⟩
 {have hbo:b≠ob:=by simpa using hm
  rw[Below.heap_setCell _ _ _ _ hbo,hg.block b (by omega) (fun e=>by have:=(OutS.row h.rP b e.symm).1; omega)];exact h.up.block b hb hm}
 {rw[World.frozen?_setCell]; exact (ho.2 j).trans (h.fz j)}
 {refine Z20 (h.rN.kept hg (by rw[rowB_own]; exact h.ne)) (a:=⟨ob,4,none⟩) (fun e=> ?_) _;rw[rowB_own] at e;have:=(OutS.row h.rN ob e).1; have:=h.lt; omega}
 {exact Z20 hrow (a:=⟨ob,4,none⟩) (fun e=>hgo (Option.some.inj e)) _}
 {rcases h.ne with h1 | h1
  {exact Or.inl h1}
  {refine Or.inr (fun e=> ?_);have e2:rowB AN=some g:=e;rcases hnew with h2 | h2
   {exact h1 (e2.trans h2.symm)}
   {have:=(OutS.row h.rN g e2).2; omega}}}
 {have hx1:=hl x hx;exact hx1.1.of (fun b hb=>(hs b (hx1.1.lt b hb) (hx1.2 b hb).2.2).trans (Z0i _ _ _ (fun e=>by
   have:=(hx1.2 b hb).1; have:=h.lt;simp at e; omega))) (by rw[hsz]; exact hz)}
 {have hx1:=hl x hx;have hx2:=hx1.2 b hb;refine ⟨hx2.1,hx2.2.1,fun e=> ?_⟩;have e2:g=b:=Option.some.inj e;rcases hnew with h1 | h1
  {exact hx2.2.2 (e2▸h1)}
  {have:=hx1.1.lt b hb; omega}}
theorem OutS.putN {Wm:World} {nl':List (List UInt8)} {g cap:Nat} (h:OutS W1 W ob k o n nl l AN cN AP cP) (hg:Below W.heap.size W Wm) (hrow:Wm.ownsRow W1.heap.size 9 1 (.slice (some ⟨g,0,none⟩) nl'.length cap) nl'.length (namesE nl'))
 (hnew:W.heap.size<=g):OutS W1 (Wm.setCell ⟨ob,3,none⟩ (.slice (some ⟨g,0,none⟩) nl'.length cap)) ob k o n nl' l (some ⟨g,0,none⟩) cap AP cP:=by
 have h2:=h.below hg;have hob:=Nat.lt_of_lt_of_le h.lt h.up.size;have hz:=hg.size;have far: ∀j,j≠3->(Wm.setCell ⟨ob,3,none⟩ (.slice (some ⟨g,0,none⟩) nl'.length cap)).cell? ⟨ob,j,none⟩=Wm.cell? ⟨ob,j,none⟩:=fun j hj=>World.cell?_setCell_other _ _ _ _ (fun e=>by have:=congrArg Addr.off e; simp at this; omega);have hsz: (Wm.setCell ⟨ob,3,none⟩ (.slice (some ⟨g,0,none⟩) nl'.length cap)).heap.size=Wm.heap.size:=by simp[World.setCell]
 have hlt:=h.lt;have hW1:=h.up.size;refine ⟨⟨h2.up.os,h2.up.tape,h2.up.output,by have:=h2.up.size; omega,fun b hb hm=> ?_⟩,h.lt,(far 0 (by omega)).trans h2.c0,(far 1 (by omega)).trans h2.c1,(far 2 (by omega)).trans h2.c2,World.cell?_setCell_same _ _ _ h2.c3,(far 4 (by omega)).trans h2.c4,fun j=> ?_, ?_, ?_, ?_,fun x hx=> ?_,fun x hx b hb=> ?_⟩
 {have hbo:b≠ob:=by simpa using hm
  rw[Below.heap_setCell _ _ _ _ hbo];exact h2.up.block b hb hm}
 {rw[World.frozen?_setCell]; exact h2.fz j}
 {exact Z20 hrow (a:=⟨ob,3,none⟩) (fun e=>by have:=Option.some.inj e; simp at this; omega) _}
 {refine Z20 h2.rP (a:=⟨ob,3,none⟩) (fun e=> ?_) _;rw[rowB_own] at e;have:=(OutS.row h2.rP ob e).1; omega}
 {refine Or.inr (fun e=> ?_);have e2:rowB AP=some g:=e.symm;have:=(OutS.row h.rP g e2).2; omega}
 {exact (h2.own x hx).of (fun b hb=>Z0i _ _ _ (fun e=>by
   have:=(h.fs x hx b hb).1;simp at e; omega)) (by rw[hsz]; exact Nat.le_refl _)}
 {have hx1:=h.fs x hx b hb;refine ⟨hx1.1,fun e=> ?_,hx1.2.2⟩;have e2:g=b:=Option.some.inj e;have:=(h.own x hx).lt b hb;omega}
theorem slice_form {A:Option Addr} {m c B e s:Nat} {xs:List Value} (h:W.ownsRow B e s (.slice A m c) m xs): (A=none/\m=0/\c=0)\/ ∃g,A=some ⟨g,0,none⟩/\m<=c:=by
 rcases h.2 with ⟨h1,h2⟩ | ⟨g,cap,cur,h1,_,_,h2,_⟩
 {simp only[Value.slice.injEq] at h1; exact Or.inl ⟨h1.1,h2,h1.2.2⟩}
 {simp only[Value.slice.injEq] at h1;obtain ⟨h3,_,rfl⟩:=h1;exact Or.inr ⟨g,h3,h2⟩}
theorem OutS.result {u:Sh} (h:OutS W1 W ob k o n nl l AN cN AP cP) (hn:u.names=nl) (hp:u.parts=l.map El.t) (ho:u.of_.length<=9223372036854775807) (hna:u.name.length<=9223372036854775807) (hns: ∀x∈u.names,x.length<=9223372036854775807) (hnl:nl.length<=9223372036854775807) (hl:l.length<=9223372036854775807):
 Own W ⟨AN,cN,AP,cP⟩ u ((rowB AN).toList++(rowB AP).toList++l.flatMap El.F)/\ ∀b∈(rowB AN).toList++(rowB AP).toList++l.flatMap El.F,W1.heap.size<=b:=by
 have hpl:u.parts.length=l.length:=by rw[hp,List.length_map]
 have fN:=slice_form h.rN;have fP:=slice_form h.rP;have hget: ∀i (hi:i < l.length),(l[i]!)=l[i]'hi:=fun i hi=>getElem!_pos l i hi;refine ⟨.mk _ u _ (rowB AN).toList (rowB AP).toList (fun i=>(l[i]!).q) (fun i=>(l[i]!).F) ⟨ho,hna,hns,by rw[hn]; exact hnl,by rw[hpl]; exact hl, ?_, ?_, ?_, ?_⟩ ?_ ?_ ?_ ?_, ?_⟩
 {rw[hn]; rcases fN with ⟨_,h1,h2⟩ | ⟨_,_,h1⟩
  {rw[h1]; exact Nat.zero_le _}
  {exact h1}}
 {rw[hpl]; rcases fP with ⟨_,h1,h2⟩ | ⟨_,_,h1⟩
  {rw[h1]; exact Nat.zero_le _}
  {exact h1}}
 {intro hA;rcases fN with ⟨_,_,h2⟩ | ⟨g,h1,_⟩
  {exact h2}
  {rw[h1] at hA; cases hA}}
 {intro hA;rcases fP with ⟨_,_,h2⟩ | ⟨g,h1,_⟩
  {exact h2}
  {rw[h1] at hA; cases hA}}
 {rcases fN with ⟨h1,h2,_⟩ | ⟨g,h1,_⟩
  {exact Or.inl ⟨by rw[hn]; exact h2,by rw[h1]; rfl⟩}
  {have hr:=h.rN;rw[h1] at hr;refine Or.inr ⟨g,h1,by rw[h1]; rfl,(hr.lt g rfl).2,fun j hj=> ?_,fun j=>hr.frozenAt j⟩;have hj2:j < nl.length:=by rw[hn] at hj; exact hj
   rw[hr.cellAt j (by omega)];simp[namesE,hn,hj2]}}
 {rcases fP with ⟨h1,h2,_⟩ | ⟨g,h1,_⟩
  {exact Or.inl ⟨by rw[hpl]; exact h2,by rw[h1]; rfl⟩}
  {have hr:=h.rP;rw[h1] at hr;refine Or.inr ⟨g,h1,by rw[h1]; rfl,(hr.lt g rfl).2,fun j hj=> ?_,fun j=>hr.frozenAt j⟩;have hj2:j < l.length:=by rw[hpl] at hj; exact hj
   have e:u.parts[j]'hj=(l[j]'hj2).t:=by simp[hp]
   have hc: ∀c,c < 5->W.cell? ⟨g,j * 5+c,none⟩=(cells5 (l[j]'hj2))[c]? :=fun c hc=>by
    rw[hr.cellAt _ (by omega),cellsE_at hj2 hc]
   rw[e,hget j hj2];exact ⟨hc 0 (by omega),hc 1 (by omega),hc 2 (by omega),hc 3 (by omega),hc 4 (by omega)⟩}}
 {intro i hi;have hj2:i < l.length:=by rw[hpl] at hi; exact hi
  have e:u.parts[i]'hi=(l[i]'hj2).t:=by simp[hp]
  rw[e,hget i hj2];exact h.own _ (List.getElem_mem _)}
 {congr 1;rw[hpl];have:l=(List.range l.length).map (fun i=>l[i]!):=by
   apply List.ext_getElem
   {simp}
   {intro i h1 h2;rw[List.getElem_map,List.getElem_range,hget i h1]}
  conv=>lhs; rw[this]
  rw[List.flatMap_map]}
 {intro b hb;rcases List.mem_append.1 hb with hb | hb
  {rcases List.mem_append.1 hb with hb | hb
   {exact (OutS.row h.rN b (by simpa using hb)).1}
   {exact (OutS.row h.rP b (by simpa using hb)).1}}
  {obtain ⟨x,hx,hb⟩:=List.mem_flatMap.1 hb;exact (h.fs x hx b hb).1}}
end
end Go.Proofs.YtmeiijjpomcgcaaDoor
namespace Go.Proofs.YtmeiijjpomcgcaaDoor
section
open Go.RowKit Shp
def rW (w:World) (t:Sh) (q:Ptr):World:=(sW w t q).alloc (.cells #[.int .i64 t.kind,.string ⟨t.of_.toArray⟩,.string ⟨t.name.toArray⟩,.slice none 0 0,.slice none 0 0] 25)
section
variable (w : World) (t : Sh) (q : Ptr)
include w t q
theorem Z8u: (rW w t q).heap.size=w.heap.size+3:=by simp[rW,sW]
theorem Z76:Below w.heap.size w (rW w t q):=Z0h (Z18 w t q) _
theorem ZaX:Box5 (rW w t q) w.heap.size t q:=(Z6D w t q).next (Z01 _ _)
theorem ZaY:Box5 (rW w t q) (w.heap.size+1) Z67 noneQ:=(Z41 w t q).next (Z01 _ _)
theorem Z8v: (sW w t q).heap.size=w.heap.size+2:=by simp[sW]
theorem ZaZ:OutS (rW w t q) (rW w t q) (w.heap.size+2) t.kind t.of_ t.name [] [] none 0 none 0:=by
 have h:=Z07 (sW w t q) ⟨t.kind,t.of_,t.name,[],[]⟩ noneQ;rw[Z8v] at h;refine OutS.start t.kind t.of_ t.name h (fun j=> ?_);unfold rW;have e:w.heap.size+2=(sW w t q).heap.size:=(Z8v w t q).symm;rw[e];simp[go_sem]
end
theorem UpF.old {ob:Nat} {w W1 W:World} (h:UpF [ob] W1 W) (hb:Below w.heap.size w W1) (ho:w.heap.size<=ob):Below w.heap.size w W:=
 ⟨h.os.trans hb.os,h.tape.trans hb.tape,h.output.trans hb.output,Nat.le_trans hb.size h.size,fun k hk=>(h.block k (Nat.lt_of_lt_of_le hk hb.size) (by simp; omega)).trans (hb.block k hk)⟩
theorem OutS.box {W1 W:World} {ob:Nat} {k:Int} {o n:List UInt8} {nl:List (List UInt8)} {l:List El} {AN AP:Option Addr} {cN cP:Nat} (h:OutS W1 W ob k o n nl l AN cN AP cP) {g:Nat} {t:Sh} {q:Ptr} (hb:Box5 W1 g t q) (hg:g≠ob):Box5 W g t q:=
 hb.same (h.up.same hb.1 (by simpa using hg)) h.up.size
def Rs7 (t:Sh):Prop:= ∀x∈t.parts,∀(q:Ptr) (w:World),ShAt w w.heap.size q x->Calls Tryd.prog 40 #[.agg (Y8 x q)] w
 fun e w'=> ∃q' F,e= .returned (.agg (Y8 (sorted x) q'))/\Own w' q' (sorted x) F/\(∀b∈F,w.heap.size<=b)/\Below w.heap.size w w'
theorem Zcy (W:World) (x:El) (H:Nat) (hH:W.heap.size=H): ∀j u,(cells5 x)[j]? =some u->(W.alloc (.cells (Y8 x.t x.q) 25)).cell? ((⟨H,0,none⟩:Addr).add j)=some u:=by
 subst hH;intro j u hj;rw[Z0d,Nat.zero_add,World.cell?_alloc_at _ _ _ _ rfl];simpa[cells5] using hj
def Rp7 (W1 wr:World) (ob:Nat) (t:Sh) (f:Sh->Sh) (i:Nat):Prop:= ∃l AP cP,OutS W1 wr ob t.kind t.of_ t.name [] l none 0 AP cP/\l.map El.t=(t.parts.map f).take i
theorem Rp7.push {W1 Wa W3:World} {ob:Nat} {t:Sh} {f:Sh->Sh} {i g cap:Nat} {l:List El} {AP:Option Addr} {cP:Nat} {x:El} {o:Obj} (hO:OutS W1 Wa ob t.kind t.of_ t.name [] l none 0 AP cP) (hl:l.map El.t=(t.parts.map f).take i) (hi:i < t.parts.length) (hx:x.t=f (t.parts[i]'hi))
 (hxo:Own Wa x.q x.t x.F) (hxf: ∀b∈x.F,W1.heap.size<=b/\rowB AP≠some b) (hg: (Wa.alloc o).grownBy W3 (rowB AP)) (hat:rowB AP=some g\/g=(Wa.alloc o).heap.size)
 (hrow:W3.ownsRow W1.heap.size 25 5 (.slice (some ⟨g,0,none⟩) (l.length+1) cap) (l.length+1) (cellsE l++cells5 x)):
 Rp7 W1 (W3.setCell ⟨ob,4,none⟩ (.slice (some ⟨g,0,none⟩) (l.length+1) cap)) ob t f (i+1):=by
 have hO2:=hO.below (Z01 Wa o);refine ⟨l++ [x],some ⟨g,0,none⟩,cap, ?_, ?_⟩
 {have e:l.length+1=(l++ [x]).length:=by simp
  rw[e] at hrow ⊢;refine hO2.putP hg (by rw[cellsE_append,cellsE_one]; exact hrow) (hat.imp id (fun h=>by omega)) (fun y hy=> ?_);rcases List.mem_append.1 hy with hy | hy
  {exact ⟨hO2.own y hy,fun b hb=>hO2.fs y hy b hb⟩}
  {obtain rfl:y=x:=by simpa using hy
   exact ⟨Z0K hxo (Z01 Wa o),fun b hb=>⟨(hxf b hb).1,nofun,(hxf b hb).2⟩⟩}}
 {rw[List.map_append,hl,Z1C (l:=t.parts.map f) (by simpa using hi)];simp[hx]}
theorem Z63 (t:Sh) (q:Ptr) (w:World) (hq:ShAt w w.heap.size q t) (hz:t.parts.length<=400) (hn:t.names= []) (hf:Rs7 t):
 Calls Tryd.prog 40 #[.agg #[.int .i64 t.kind,.string ⟨t.of_.toArray⟩,.string ⟨t.name.toArray⟩,.slice q.A t.names.length q.c,.slice q.P t.parts.length q.d]] w
  fun e w'=> ∃q' F,e= .returned (.agg #[.int .i64 (sorted t).kind,.string ⟨(sorted t).of_.toArray⟩,.string ⟨(sorted t).name.toArray⟩,.slice q'.A (sorted t).names.length q'.c,.slice q'.P (sorted t).parts.length q'.d])/\Own w' q' (sorted t) F/\(∀b∈F,w.heap.size<=b)/\Below w.heap.size w w':=by
 have HS:Hid (sorted t=⟨t.kind,t.of_,t.name,[],t.parts.map sorted⟩):=Y1 (by rw[Z0c,if_pos hn]);have HBW:=Y1 (Z76 w t q);have HBA:=Y1 (ZaX w t q);have HBR:=Y1 (ZaY w t q);have HBO:=Y1 (ZaZ w t q);have HSZ:=Y1 (Z8u w t q);have HQ:=Y1 hq;have HP:=Y1 hq.part;have HF:=Y1 hf;have hn0: (t.names.length:Int)=0:=by rw[hn]; rfl
 have HB0:=Y1 (Z07 w t q);obtain ⟨b1,⟨c0,c1,c2,c3,c4⟩,b2⟩:=HB0.out;clear hq hf hn b1 b2;go_enter Tryd.func40,Tryd.ntmps40
 go_wp2_with fail
 clear c0 c1 c2 c3 c4 HB0;change Code.wp _ _ _ _ (rW w t q);obtain ⟨ob,hob⟩: ∃ob,ob=w.heap.size+1+1:=⟨_,rfl⟩;have HOB:=Y1 hob;have HBO2:Hid (OutS (rW w t q) (rW w t q) ob t.kind t.of_ t.name [] [] none 0 none 0):=Y1 (by rw[hob]; exact HBO.out);rw[<-hob];generalize rW w t q=W1 at HBW HBA HBR HBO2 HSZ ⊢;have hsw:w.heap.size≠ob:=by omega
 clear HBO hob
 go_loopw [4] (fun ii wr=> ∃i:Nat,ii= .int .i64 i/\i<=t.parts.length/\Hid (Rp7 W1 wr ob t sorted i)) (fun i _=>t.parts.length - (intOf i).toNat)
 case atStart=>exact ⟨0,rfl,Nat.zero_le _,Y1 ⟨[],none,0,HBO2.out,by simp⟩⟩
 case round=>
  obtain ⟨i,rfl,hi,HR⟩:=hrel;obtain ⟨l,AP,cP,hO,hl⟩:=HR.out;have hli:l.length=i:=by
   have:=congrArg List.length hl;rw[List.length_map,List.length_take,List.length_map] at this;omega
  have hbw:Below w.heap.size w wr:=hO.up.old HBW.out (by have:=HOB.out; omega);have HBX:=Y1 (hO.box HBA.out hsw);obtain ⟨b1,⟨c0,c1,c2,c3,c4⟩,b2⟩:=HBX.out;simp only[Nat.zero_add] at c0 c1 c2 c3 c4;clear b1 b2;by_cases hlt:i < t.parts.length
  {rcases HP.out with h0 | ⟨g,off,qs,hqP,hg,hc,hr⟩
   {omega}
   {obtain ⟨x,hx⟩: ∃x,x=t.parts[i]:=⟨_,rfl⟩;obtain ⟨p0,p1,p2,p3,p4⟩:=(hc i hlt).keep hg hbw;have IH:=Y1 (HF.out t.parts[i] (List.getElem_mem _) (qs i) wr ((hr i hlt).keep hbw (Nat.le_refl _) |>.more hbw.size));rw[<-hx] at p0 p1 p2 p3 p4 IH;have HX:=Y1 hx;have HL:=Y1 hl;have HO:=Y1 hO;have HLI:=Y1 hli;have HBWR:=Y1 hbw;have hi1: (i:Int) < (t.parts.length:Int):=by omega
    have hgw:g < wr.heap.size:=Nat.lt_of_lt_of_le hg hbw.size;rw[hqP] at c4;have HQP:=Y1 hqP;clear hx hl hO hli hbw hc hr hqP HR
    go_wp2_with fail
    refine IH.out.mono ?_;rintro e w2 ⟨q',F,rfl,ho,hF,hb2⟩;obtain ⟨z,hz⟩: ∃z,z=sorted x:=⟨_,rfl⟩;rw[<-hz] at ho ⊢;have hO3:=(HO.out.below hb2).below (Z01 w2 (.cells #[.int .i64 z.kind,.string ⟨z.of_.toArray⟩,.string ⟨z.name.toArray⟩,.slice q'.A z.names.length q'.c,.slice q'.P z.parts.length q'.d] 25));have hBX3:=(HBX.out.next hb2).next (Z01 w2 (.cells #[.int .i64 z.kind,.string ⟨z.of_.toArray⟩,.string ⟨z.name.toArray⟩,.slice q'.A z.names.length q'.c,.slice q'.P z.parts.length q'.d] 25));have hnz:=Z07 w2 z q';have HO3:=Y1 hO3;have HOW:=Y1 (Z0K ho (Z01 w2 (.cells #[.int .i64 z.kind,.string ⟨z.of_.toArray⟩,.string ⟨z.name.toArray⟩,.slice q'.A z.names.length q'.c,.slice q'.P z.parts.length q'.d] 25)));have HFB:Hid (∀b∈F,W1.heap.size<=b/\rowB AP≠some b):=Y1 (fun b hb=>by
     have h1:=hF b hb;have h2:=HO.out.up.size;refine ⟨by omega,fun e=> ?_⟩;have:=(OutS.row HO.out.rP b e).2;omega)
    obtain ⟨b1,⟨k0,k1,k2,k3,k4⟩,b2⟩:=hBX3;obtain ⟨b3,⟨m0,m1,m2,m3,m4⟩,b4⟩:=hnz;simp only[Nat.zero_add] at k0 k1 k2 k3 k4 m0 m1 m2 m3 m4;have o4:=hO3.c4;have fz4:=hO3.fz 4;have HZ:=Y1 hz;have hl400:l.length<=400:=by have:=HLI.out; omega
    obtain ⟨i0,hi2,hz0,hz1,hz2⟩:=info_parts (P:=Tryd.prog) (e:=25) (z:= .agg #[.int .i64 0,.string ByteArray.empty,.string ByteArray.empty,.slice none 0 0,.slice none 0 0]) (size:=5) (bytes:=88) Z26;clear hO3 ho hF hz b1 b2 b3 b4 c0 c1 c2 c3 c4 p0 p1 p2 p3 p4 IH
    go_wp2_with (at_builtin; refine wpList_append_own_at _ rfl _ _ 23 rfl W1.heap.size 25 i0 (.agg #[.int .i64 0,.string ByteArray.empty,.string ByteArray.empty,.slice none 0 0,.slice none 0 0]) 5 88 Tryd.underlying23 hi2 hz0 hz1 hz2 rfl (by decide) _ _ _ rfl (HO3.out.rP.alloc _) ⟨w2.heap.size+1,0,none⟩ 1 1 (cells5 ⟨[],z,q',F⟩) rfl rfl (Zcy _ ⟨[],z,q',F⟩ _ (by simp)) (cells5_one _) (by unfold maxLen; omega) (by omega) (by have:=HO3.out.up.size; simp at this ⊢; omega) ?_)
    intro v' W3 hrow hg3 _ hat;obtain ⟨g3,cap,rfl,_,_⟩:=hrow.form (by omega);simp only[rowB_own] at hg3 hat;have hat2:rowB AP=some g3\/g3=((w2.alloc (.cells #[.int .i64 z.kind,.string ⟨z.of_.toArray⟩,.string ⟨z.name.toArray⟩,.slice q'.A z.names.length q'.c,.slice q'.P z.parts.length q'.d] 25)).alloc (.cells #[.int .i64 z.kind,.string ⟨z.of_.toArray⟩,.string ⟨z.name.toArray⟩,.slice q'.A z.names.length q'.c,.slice q'.P z.parts.length q'.d] 25)).heap.size:=by
     rcases hat with h | h
     {exact Or.inl h.symm}
     {exact Or.inr (by have:=Option.some.inj h; simp at this ⊢; omega)}
    have HN:Hid (Rp7 W1 (W3.setCell ⟨ob,4,none⟩ (.slice (some ⟨g3,0,none⟩) (l.length+1) cap)) ob t sorted (i+1)):=Y1 (Rp7.push (x:=⟨[],z,q',F⟩) HO3.out HL.out hlt (by rw[<-HX.out, <-HZ.out]) HOW.out HFB.out hg3 hat2 hrow);have hobr:some ob≠rowB AP:=fun e=>by have:=(OutS.row HO3.out.rP ob e.symm).1; have:=HO3.out.lt; omega
    have hobl:ob < ((w2.alloc (.cells #[.int .i64 z.kind,.string ⟨z.of_.toArray⟩,.string ⟨z.name.toArray⟩,.slice q'.A z.names.length q'.c,.slice q'.P z.parts.length q'.d] 25)).alloc (.cells #[.int .i64 z.kind,.string ⟨z.of_.toArray⟩,.string ⟨z.name.toArray⟩,.slice q'.A z.names.length q'.c,.slice q'.P z.parts.length q'.d] 25)).heap.size:=by
     have:=HO3.out.up.size; have:=HO3.out.lt; simp at *; omega
    have x4:=(World.cell?_of_block (w:=(w2.alloc (.cells #[.int .i64 z.kind,.string ⟨z.of_.toArray⟩,.string ⟨z.name.toArray⟩,.slice q'.A z.names.length q'.c,.slice q'.P z.parts.length q'.d] 25)).alloc (.cells #[.int .i64 z.kind,.string ⟨z.of_.toArray⟩,.string ⟨z.name.toArray⟩,.slice q'.A z.names.length q'.c,.slice q'.P z.parts.length q'.d] 25)) (a:=⟨ob,4,none⟩) (hg3.block ob hobl hobr)).trans (((Z01 (w2.alloc (.cells #[.int .i64 z.kind,.string ⟨z.of_.toArray⟩,.string ⟨z.name.toArray⟩,.slice q'.A z.names.length q'.c,.slice q'.P z.parts.length q'.d] 25)) (.cells #[.int .i64 z.kind,.string ⟨z.of_.toArray⟩,.string ⟨z.name.toArray⟩,.slice q'.A z.names.length q'.c,.slice q'.P z.parts.length q'.d] 25)).cell (p:=⟨ob,4,none⟩) (by simp at hobl ⊢; have:=HO3.out.up.size; have:=HO3.out.lt; simp at *; omega)).trans HO3.out.c4);have xf:=(World.frozen?_of_block (w:=(w2.alloc (.cells #[.int .i64 z.kind,.string ⟨z.of_.toArray⟩,.string ⟨z.name.toArray⟩,.slice q'.A z.names.length q'.c,.slice q'.P z.parts.length q'.d] 25)).alloc (.cells #[.int .i64 z.kind,.string ⟨z.of_.toArray⟩,.string ⟨z.name.toArray⟩,.slice q'.A z.names.length q'.c,.slice q'.P z.parts.length q'.d] 25)) (a:=⟨ob,4,none⟩) (hg3.block ob hobl hobr)).trans (((Z01 (w2.alloc (.cells #[.int .i64 z.kind,.string ⟨z.of_.toArray⟩,.string ⟨z.name.toArray⟩,.slice q'.A z.names.length q'.c,.slice q'.P z.parts.length q'.d] 25)) (.cells #[.int .i64 z.kind,.string ⟨z.of_.toArray⟩,.string ⟨z.name.toArray⟩,.slice q'.A z.names.length q'.c,.slice q'.P z.parts.length q'.d] 25)).frozen (p:=⟨ob,4,none⟩) (by simp at hobl ⊢; have:=HO3.out.up.size; have:=HO3.out.lt; simp at *; omega)).trans (HO3.out.fz 4));clear hrow hg3 hat hat2 hobr hobl o4 fz4 k0 k1 k2 k3 k4 m0 m1 m2 m3 m4;go_wp2
    go_roundw
    case rel=>exact ⟨i+1,by go_num,by omega,HN⟩
    case measure=>simp[intOf]; omega}}
  {have hie:i=t.parts.length:=by omega
   have HLL:=Y1 hli;have HE:Hid (l.map El.t=t.parts.map sorted):=Y1 (by rw[hl,hie,List.take_of_length_le (by simp)]);have hi1: ¬(i:Int) < (t.parts.length:Int):=by omega
   have HO:=Y1 hO;have HBWR:=Y1 hbw;have HER:=Y1 (hO.box HBR.out (by have:=HOB.out; omega));have HOO:=Y1 (show w.heap.size+1≠ob by have:=HOB.out; omega);obtain ⟨_,⟨r0,r1,r2,r3,r4⟩,f0,f1,f2,f3,f4⟩:=HER.out;simp only[Nat.zero_add] at r0 r1 r2 r3 r4;have o0:=hO.c0;have o1:=hO.c1;have o2:=hO.c2;have o3:=hO.c3;have o4:=hO.c4;clear hO hl hbw;have hne:ob≠w.heap.size+1:=fun e=>HOO.out e.symm;go_wp2;refine bodyPost_ret (v:= .agg #[.int .i64 t.kind,.string ⟨t.of_.toArray⟩,.string ⟨t.name.toArray⟩,.slice none 0 0,.slice AP t.parts.length cP]) (by simp[results,Tryd.results40,go_sem,r0,r1,r2,r3,r4]) rfl ?_;have hsm:=HQ.out.small;have hnn: (sorted t).names= []:=by rw[HS.out]
   have hpp: (sorted t).parts=l.map El.t:=by rw[HS.out,HE.out]
   have hoo: (sorted t).of_=t.of_:=by rw[HS.out]
   have hna: (sorted t).name=t.name:=by rw[HS.out]
   have hkk: (sorted t).kind=t.kind:=by rw[HS.out]
   obtain ⟨ho,hF⟩:=HO.out.result (u:=sorted t) hnn hpp (by rw[hoo]; exact hsm.o) (by rw[hna]; exact hsm.n) (by rw[hnn]; nofun) (by simp) (by have:=HLL.out; omega);have h5:=Z19 (b:=w.heap.size+1) ho (fun b hb e=>by have:=hF b hb; have:=HSZ.out; omega) (.int .i64 t.kind) (.string ⟨t.of_.toArray⟩) (.string ⟨t.name.toArray⟩) (.slice none 0 0) (.slice AP t.parts.length cP);have h6:=Z0j (b:=w.heap.size+1) HBWR.out (by omega) (.int .i64 t.kind) (.string ⟨t.of_.toArray⟩) (.string ⟨t.name.toArray⟩) (.slice none 0 0) (.slice AP t.parts.length cP);refine ⟨⟨none,0,AP,cP⟩, ?_,(rowB none).toList++(rowB AP).toList++l.flatMap El.F,h5,fun b hb=>by have:=hF b hb; have:=HSZ.out; omega,h6⟩;rw[hkk,hoo,hna,hnn,hpp,List.length_map,HLL.out,hie];rfl}
theorem Z8w {w:World} {base base' size n:Nat} {e:TypeId} {v:Value} {xs:List Value} (h:w.ownsRow base e size v n xs) (hb:base'<=base):w.ownsRow base' e size v n xs:=
 ⟨h.1,h.2.elim Or.inl (fun ⟨g,cap,cur,hv,hg,r⟩=>Or.inr ⟨g,cap,cur,hv,Nat.le_trans hb hg,r⟩)⟩
def hiA (A:Option Addr) (k c size:Nat):Option Addr:=if c=k then A else A.map (·.add (k * size))
section
variable {W W' : World} {B e size m c k : Nat} {A : Option Addr} {xs : List Value} (h : W.ownsRow B e size (.slice A m c) m xs) (hk : k <= m) (hb : Below W.heap.size W W')
include W W' B e size m c k A xs h hk hb
theorem Zb0:
 ∀ad,A=some ad-> ∀j u,(xs.take (k * size))[j]? =some u->W'.cell? (ad.add j)=some u:=by
 intro ad hA j u hj;rcases slice_form h with ⟨h1,_⟩ | ⟨g,h1,_⟩
 {rw[h1] at hA; cases hA}
 {rw[h1] at hA h;cases hA;have hjl:j < k * size:=by
   rcases Nat.lt_or_ge j (k * size) with hl | hl
   {exact hl}
   {rw[List.getElem?_eq_none (by rw[List.length_take]; omega)] at hj; cases hj}
  have hkm:k * size<=m * size:=Nat.mul_le_mul_right _ hk;rw[Z0d,Nat.zero_add,hb.cell (p:=⟨g,j,none⟩) (h.lt g rfl).2,h.cellAt j (by omega)]
  rwa [List.getElem?_take,if_pos hjl] at hj}
theorem Zb1:
 ∀ad,hiA A k c size=some ad-> ∀j u,(xs.drop (k * size))[j]? =some u->W'.cell? (ad.add j)=some u:=by
 intro ad hA j u hj;have hxl:=h.1;rcases slice_form h with ⟨h1,h2,h3⟩ | ⟨g,h1,h2⟩
 {rw[h1] at hA;unfold hiA at hA;split at hA <;> cases hA}
 {rw[h1] at hA h;unfold hiA at hA;have hjl:k * size+j < m * size:=by
   rcases Nat.lt_or_ge (k * size+j) (m * size) with hl | hl
   {exact hl}
   {rw[List.getElem?_eq_none (by rw[List.length_drop]; omega)] at hj; cases hj}
  split at hA
  {rename_i hck
   have:m * size<=k * size:=Nat.mul_le_mul_right _ (by omega);omega}
  {simp only[Option.map_some,Option.some.injEq] at hA;subst hA;rw[Z0d,Z0d,Nat.zero_add,hb.cell (p:=⟨g,k * size+j,none⟩) (h.lt g rfl).2,h.cellAt _ hjl]
   rwa [List.getElem?_drop] at hj}}
end
section
variable {W : World} {B e size m c k : Nat} {A : Option Addr} {xs : List Value} (h : W.ownsRow B e size (.slice A m c) m xs)
include W B e size m c k A xs h
theorem Z77 (hk:k<=m):hiA A k c size=none->m - k=0/\c - k=0:=by
 intro hA;rcases slice_form h with ⟨h1,h2,h3⟩ | ⟨g,h1,h2⟩
 {omega}
 {rw[h1] at hA;unfold hiA at hA;split at hA <;> cases hA}
theorem Z8x (hk:k<=m):A=none->k=0/\c=0:=by
 intro hA;rcases slice_form h with ⟨h1,h2,h3⟩ | ⟨g,h1,h2⟩
 {omega}
 {rw[h1] at hA; cases hA}
theorem Z5P (s:Nat):sliced A 0 k c s= .slice A k c:=by
 unfold sliced;rcases slice_form h with ⟨h1,_⟩ | ⟨g,h1,_⟩
 {rw[h1]; simp}
 {rw[h1]; simp[Addr.add]}
end
theorem Z5Q (A:Option Addr) (k m c s:Nat):sliced A k m c s= .slice (hiA A k c s) (m - k) (c - k):=rfl
section
variable (W : World) (A : Option Addr) (m c k : Nat)
include W A m c k
theorem Z9z (hk:k<=c): (Instr.sliceAt 22 (.slice A m c) none (some (.int .i64 (k:Int))) none).run Tryd.prog W= .ok (sliced A 0 k c 1) W:=by
 have h1:Tryd.prog.underlying 22=some (.slice (Tryd.prog.elem 22)):=by kernel_rfl
 have h: (sizeOf (Tryd.prog.elem 22)).run Tryd.prog W= .ok 1 W:=by kernel_rfl
 rw[run_sliceAt_slice _ _ _ _ _ _ h1,run_slice_h _ _ _ _ _ h1 _ _ (by omega) (by omega),h,show (k:Int).toNat=k from by omega];rfl
theorem Z9A (hk:k<=m): (Instr.sliceAt 22 (.slice A m c) (some (.int .i64 (k:Int))) none none).run Tryd.prog W= .ok (sliced A k m c 1) W:=by
 have h1:Tryd.prog.underlying 22=some (.slice (Tryd.prog.elem 22)):=by kernel_rfl
 have h: (sizeOf (Tryd.prog.elem 22)).run Tryd.prog W= .ok 1 W:=by kernel_rfl
 rw[run_sliceAt_slice _ _ _ _ _ _ h1,run_slice_l _ _ _ _ _ h1 _ _ (by omega) (by omega),h,show (k:Int).toNat=k from by omega];rfl
theorem Z78 (hk:k<=c): (Instr.sliceAt 23 (.slice A m c) none (some (.int .i64 (k:Int))) none).run Tryd.prog W= .ok (sliced A 0 k c 5) W:=by
 have h1:Tryd.prog.underlying 23=some (.slice (Tryd.prog.elem 23)):=by kernel_rfl
 have h: (sizeOf (Tryd.prog.elem 23)).run Tryd.prog W= .ok 5 W:=by kernel_rfl
 rw[run_sliceAt_slice _ _ _ _ _ _ h1,run_slice_h _ _ _ _ _ h1 _ _ (by omega) (by omega),h,show (k:Int).toNat=k from by omega];rfl
theorem Z79 (hk:k<=m): (Instr.sliceAt 23 (.slice A m c) (some (.int .i64 (k:Int))) none none).run Tryd.prog W= .ok (sliced A k m c 5) W:=by
 have h1:Tryd.prog.underlying 23=some (.slice (Tryd.prog.elem 23)):=by kernel_rfl
 have h: (sizeOf (Tryd.prog.elem 23)).run Tryd.prog W= .ok 5 W:=by kernel_rfl
 rw[run_sliceAt_slice _ _ _ _ _ _ h1,run_slice_l _ _ _ _ _ h1 _ _ (by omega) (by omega),h,show (k:Int).toNat=k from by omega];rfl
end
def Rn7 (W1 wr:World) (ob:Nat) (t:Sh) (i:Nat):Prop:= ∃l AN cN AP cP,OutS W1 wr ob t.kind t.of_ t.name (l.map El.n) l AN cN AP cP/\l.map pr=sortF ((t.names.zip (t.parts.map sorted)).take i)
def FinC (W0:World) (ob c:Nat) (ty size n:Nat) (xs:List Value) (W:World):Prop:=
 ∃Wm g cap,Below W0.heap.size W0 Wm/\Wm.ownsRow W0.heap.size ty size (.slice (some ⟨g,0,none⟩) n cap) n xs/\W0.heap.size<=g/\W=Wm.setCell ⟨ob,c,none⟩ (.slice (some ⟨g,0,none⟩) n cap)
def Ahead (l:List El) (y:List UInt8) (k:Nat):Prop:= ∀j (h:j < l.length),j < k->(l[j]'h).n < y
theorem Rn7.push {W1 wr W3 W4 W5:World} {ob:Nat} {t:Sh} {i k:Nat} {l:List El} {AN AP:Option Addr} {cN cP:Nat} {x:El} (hO:OutS W1 wr ob t.kind t.of_ t.name (l.map El.n) l AN cN AP cP)
 (hl:l.map pr=sortF ((t.names.zip (t.parts.map sorted)).take i)) (hi:i < (t.names.zip (t.parts.map sorted)).length) (hx:pr x=(t.names.zip (t.parts.map sorted))[i]'hi) (hxo:Own wr x.q x.t x.F) (hxf: ∀b∈x.F,W1.heap.size<=b/\rowB AN≠some b/\rowB AP≠some b)
 (hk:k<=l.length) (h1:Ahead l x.n k) (h2: ∀h:k < l.length,¬(l[k]'h).n < x.n)
 (f1:FinC wr ob 3 9 1 (l.length+1) (namesE ((l.map El.n).take k)++ [.string ⟨x.n.toArray⟩]++namesE ((l.map El.n).drop k)) W4)
 (f2:FinC W4 ob 4 25 5 (l.length+1) (cellsE (l.take k)++cells5 x++cellsE (l.drop k)) W5):Rn7 W1 W5 ob t (i+1):=by
 obtain ⟨Wm,g,cap,b1,r1,hg,rfl⟩:=f1;obtain ⟨Wn,g2,cap2,b2,r2,hg2,rfl⟩:=f2;have hW:=hO.up.size;have en:namesE ((l.map El.n).take k)++ [.string ⟨x.n.toArray⟩]++namesE ((l.map El.n).drop k)=namesE ((l.take k++x::l.drop k).map El.n):=by
  simp[namesE,List.map_take,List.map_drop]
 have ec:cellsE (l.take k)++cells5 x++cellsE (l.drop k)=cellsE (l.take k++x::l.drop k):=by
  rw[show l.take k++x::l.drop k=l.take k++([x]++l.drop k) from rfl,cellsE_append,cellsE_append,cellsE_one,List.append_assoc]
 have el: (l.take k++x::l.drop k).length=l.length+1:=by simp; omega
 have elm: ((l.take k++x::l.drop k).map El.n).length=l.length+1:=by rw[List.length_map,el]
 rw[en] at r1;rw[ec] at r2;have hO2:OutS W1 (Wm.setCell ⟨ob,3,none⟩ (.slice (some ⟨g,0,none⟩) ((l.take k++x::l.drop k).map El.n).length cap)) ob t.kind t.of_ t.name ((l.take k++x::l.drop k).map El.n) l (some ⟨g,0,none⟩) cap AP cP:=
  hO.putN b1 (by rw[elm]; exact Z8w r1 hW) hg
 rw[elm] at hO2;have hxo2:Own (Wm.setCell ⟨ob,3,none⟩ (.slice (some ⟨g,0,none⟩) (l.length+1) cap)) x.q x.t x.F:=(Z0K hxo b1).of (fun b hb=>Z0i _ _ _ (fun e=>by
  have:=(hxf b hb).1; have:=hO.lt;simp at e; omega)) (by simp[World.setCell])
 have hsz: (Wm.setCell ⟨ob,3,none⟩ (.slice (some ⟨g,0,none⟩) (l.length+1) cap)).heap.size=Wm.heap.size:=by simp[World.setCell]
 have hO3:=hO2.putP (l':=l.take k++x::l.drop k) (g:=g2) (cap:=cap2) (Wm:=Wn) ⟨b2.os,b2.tape,b2.output,b2.size,fun j hj _=>b2.block j hj⟩
  (by rw[el]; exact Z8w r2 (hO2.up.size)) (Or.inr hg2) (fun y hy=>by
   rcases List.mem_append.1 hy with hy | hy
   {exact ⟨hO2.own y (List.mem_of_mem_take hy),fun b hb=>hO2.fs y (List.mem_of_mem_take hy) b hb⟩}
   · rcases List.mem_cons.1 hy with rfl | hy
     {refine ⟨hxo2,fun b hb=>⟨(hxf b hb).1,fun e=> ?_,(hxf b hb).2.2⟩⟩;have e2:g=b:=Option.some.inj e;have:=hxo.lt b hb;omega}
     · exact ⟨hO2.own y (List.mem_of_mem_drop hy),fun b hb=>hO2.fs y (List.mem_of_mem_drop hy) b hb⟩)
 rw[el] at hO3;refine ⟨l.take k++x::l.drop k,some ⟨g,0,none⟩,cap,some ⟨g2,0,none⟩,cap2, ?_, ?_⟩
 {rw[<-elm, <-el] at *;exact hO3}
 {rw[Z9y hi, <-hl, <-hx];rw[ZaW (L:=l.map pr) (x:=pr x) (k:=k) (by simpa using hk) (fun j h hj=>by
   have:=h1 j (by simpa using h) hj;simpa[pr] using this) (fun h=>by
   have:=h2 (by simpa using h);simpa[pr] using this)]
  simp[List.map_take,List.map_drop]}
end
end Go.Proofs.YtmeiijjpomcgcaaDoor
