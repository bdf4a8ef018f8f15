/- What the proofs of ParsePlaces want, part 8. -/
import Derived.RangeFuncFrom
import Derived.RangeFuncCalls
import Derived.Shelf.RegionOpen
import Derived.OwnWalkIn
import Derived.LoopNIn
import Derived.LoopIn
import Derived.Lib.Split
import Derived.Deep.OwnRows
import Derived.Test.YtkncdbaoaeeoiaaGreatDoorK0n7
set_option linter.unusedVariables false
set_option linter.unusedSimpArgs false
set_option linter.unusedSectionVars false
set_option maxRecDepth 100000
set_option maxHeartbeats 16000000
namespace Go.Proofs.YtkncdbaoaeeoiaaGreatDoor
section
open Go.RowKit
attribute [local go_sem] Oper.semAt_some
def SeqAt (W:World) (b:Nat) (s:List UInt8):Prop:=
 b+2 < W.heap.size/\W.cell? ⟨b,0,none⟩=some (.string ⟨s.toArray⟩)/\W.frozen? ⟨b,0,none⟩=false/\W.cell? ⟨b+1,0,none⟩=some (.string ⟨#[46]⟩)/\W.cell? ⟨b+2,0,none⟩=some (.int .i64 0)
theorem SeqAt.keep {W W':World} {b:Nat} {s:List UInt8} (h:SeqAt W b s) (hb:Below (b+3) W W'):SeqAt W' b s:=by
 obtain ⟨h0,h1,h2,h3,h4⟩:=h;exact ⟨Nat.lt_of_lt_of_le h0 hb.size,(hb.cell (p:=⟨b,0,none⟩) (by show b < b+3; omega)).trans h1,(hb.frozen (p:=⟨b,0,none⟩) (by show b < b+3; omega)).trans h2,
  (hb.cell (p:=⟨b+1,0,none⟩) (by show b+1 < b+3; omega)).trans h3,(hb.cell (p:=⟨b+2,0,none⟩) (by show b+2 < b+3; omega)).trans h4⟩
theorem SeqAt.set {W:World} {b:Nat} {s t:List UInt8} (h:SeqAt W b s):SeqAt (W.setCell ⟨b,0,none⟩ (.string ⟨t.toArray⟩)) b t:=by
 obtain ⟨h0,h1,h2,h3,h4⟩:=h;refine ⟨by rw[World.size_setCell]; exact h0,World.cell?_setCell_same _ _ _ h1,by rw[World.frozen?_setCell]; exact h2, ?_, ?_⟩
 {refine (World.cell?_setCell_other _ _ _ _ ?_).trans h3;intro h; have:=congrArg Addr.block h; simp at this}
 {refine (World.cell?_setCell_other _ _ _ _ ?_).trans h4;intro h; have:=congrArg Addr.block h; simp at this}
section
variable (s : List UInt8)
include s
theorem Zei (w:World):
 Calls Tryz.prog 215 #[.string ⟨s.toArray⟩,.string ⟨#[46]⟩] w fun e w'=>e= .returned (.func (.func 230) #[] #[.pointer (some ⟨w.heap.size+1,0,none⟩),.pointer (some ⟨w.heap.size,0,none⟩),.pointer (some ⟨w.heap.size+2,0,none⟩)])/\SeqAt w' w.heap.size s/\Below w.heap.size w w':=by
 have hin: ∀w,Calls Tryz.prog 224 #[.string ⟨s.toArray⟩,.string ⟨#[46]⟩,.int .i64 0] w fun e w'=>e= .returned (.func (.func 230) #[] #[.pointer (some ⟨w.heap.size+1,0,none⟩),.pointer (some ⟨w.heap.size,0,none⟩),.pointer (some ⟨w.heap.size+2,0,none⟩)])/\SeqAt w' w.heap.size s/\Below w.heap.size w w':=by
  intro w;go_enter Tryz.func224,Tryz.ntmps224;go_wp2;go_ret;refine ⟨rfl,⟨by simp, ?_, ?_, ?_, ?_⟩,Z03 (Z03 (Z01 _ _) _) _⟩
  {simp[go_sem]}
  {simp[go_sem]}
  {simp[go_sem]}
  {simp[go_sem]}
 go_enter Tryz.func215,Tryz.ntmps215
 go_wp2_with (go_at_call 224; refine (hin _).mono ?_; rintro e w' ⟨rfl,h1,h2⟩)
 go_ret;exact ⟨rfl,by assumption,by assumption⟩
theorem Z74: (Lib.indexByte s 46= -1/\(Sem.cut 46 s).2.2=false)\/ ∃i:Nat,Lib.indexByte s 46=i/\i < s.length/\Sem.cut 46 s=(s.take i,s.drop (i+1),true):=by
 have h:=Z6z 46 s;unfold Lib.cut at h;rw[Lib.index_one] at h;have hge:=Lib.indexByte_ge s 46;by_cases hn:Lib.indexByte s 46= -1
 {left;rw[if_neg (by omega)] at h;exact ⟨hn,by rw[<-h]⟩}
 {right;rw[if_pos (by omega)] at h;refine ⟨(Lib.indexByte s 46).toNat,by omega, ?_,h.symm⟩;have h1:=(Lib.indexByte_some (l:=s) (c:=46) (o:=(Lib.indexByte s 46).toNat) (by omega)).1;rcases Nat.lt_or_ge (Lib.indexByte s 46).toNat s.length with h2 | h2
  {exact h2}
  {rw[List.getElem?_eq_none h2] at h1; cases h1}}
theorem Z2i (w:World):Calls Tryz.prog 214 #[.string ⟨s.toArray⟩,.string ⟨#[46]⟩] w fun e w'=>e= .returned (.int .i64 (Lib.indexByte s 46))/\w'=w:=
 Any.strings_Index_one Tryz.lays143 ⟨s.toArray⟩ 46 w
end
theorem Zej (n:Nat) (hn:1<=n) (l b:Nat) (s:List UInt8) (hs:s.length<=24) (J Jx:List (List UInt8)->World->Prop) (W:World)
 (hY: ∀pre x W,J pre W->x.length<=24->YieldAt Fence.wide (n - 1) Tryz.prog l #[.string ⟨x.toArray⟩] W fun e W'=>
  (e= .returned (.bool true)/\J (pre++ [x]) W'/\Below (b+3) W W')\/(e= .returned (.bool false)/\Jx (pre++ [x]) W'))
 (hJ: ∀pre W v,J pre W->J pre (W.setCell ⟨b,0,none⟩ v)) (hS:SeqAt W b s) (h0:J [] W):
 CallsIn Fence.wide n Tryz.prog 230 #[.func (.yield l) #[] #[],.pointer (some ⟨b+1,0,none⟩),.pointer (some ⟨b,0,none⟩),.pointer (some ⟨b+2,0,none⟩)] W fun e W'=>
  (∃v,e= .returned v)/\(J (Sem.parts s) W'\/ ∃pre suf,pre++suf=Sem.parts s/\Jx pre W'):=by
 refine callsIn_of_wp Tryz.func230 rfl trivial ?_ rfl;simp only[Tryz.ntmps230,List.size_toArray,List.length_cons,List.length_nil,Nat.reduceAdd,Nat.reduceSub,Array.replicate_succ,Array.replicate_zero,List.push_toArray,List.append_toArray,List.nil_append,List.cons_append];have HS:=Y1 hS;obtain ⟨hb,c0,f0,c1,c2⟩:=hS
 gi_wp2_with fail
 gi_loopw [7] (fun i wr=> ∃(pre:List (List UInt8)) (rest:List UInt8),rest.length<=24/\SeqAt wr b rest/\pre++Sem.parts rest=Sem.parts s/\J pre wr)
  (fun i wr=>match wr.cell? ⟨b,0,none⟩ with | some (.string x)=>x.size | _=>0)
 case atStart=>exact ⟨[],s,hs,HS.out,rfl,h0⟩
 case round=>
  clear HS hb c0 f0 c1 c2;obtain ⟨pre,rest,hr,hSA,hpp,hJs⟩:=hrel;have HSA:=Y1 hSA;have hcut:=Sem.ZcK rest;obtain ⟨hb,c0,f0,c1,c2⟩:=hSA;rcases Z74 rest with ⟨hi,hc⟩ | ⟨i,hi,hlt,hc⟩
  {rw[hc,if_neg (by simp)] at hcut;have HE:Hid (pre++ [rest]=Sem.parts s):=Y1 (by rw[<-hpp,hcut]);have hI:=fun w=>callsIn_wide (n:=n - 1).2 (Z2i rest w);rw[hi] at hI;obtain ⟨fn,tmps,assign,body,hy,hR⟩:=hY pre rest wr hJs hr;clear hc hi hcut hpp hY hJs
   gi_wp2_with (refine ⟨trivial, ?_⟩; gi_at_call 214; refine (hI _).mono ?_; rintro e w' ⟨rfl,rfl⟩)
   refine hR.mono ?_;rintro e W3 (⟨rfl,hJ3,hk3⟩ | ⟨rfl,hJx3⟩)
   {gi_wp2
    go_end0
    exact ⟨⟨_,rfl⟩,Or.inl (by rw[<-HE.out]; exact hJ3)⟩}
   {gi_wp2
    go_end0
    exact ⟨⟨_,rfl⟩,Or.inr ⟨_,[],(List.append_nil _).trans HE.out,hJx3⟩⟩}}
  {rw[hc,if_pos rfl] at hcut;have HE:Hid ((pre++ [rest.take i])++Sem.parts (rest.drop (i+1))=Sem.parts s):=Y1 (by rw[<-hpp,hcut]; simp);have hI:=fun w=>callsIn_wide (n:=n - 1).2 (Z2i rest w);rw[hi] at hI;obtain ⟨fn,tmps,assign,body,hy,hR⟩:=hY pre (rest.take i) wr hJs (by rw[List.length_take]; omega);have ex: (⟨(rest.take i).toArray⟩:ByteArray)=(⟨rest.toArray⟩:ByteArray).extract 0 i:=by
    have:=ByteArray.extract_mk rest 0 i;simpa using this.symm
   rw[ex] at hy;have hsz: (⟨rest.toArray⟩:ByteArray).size=rest.length:=Z07 _;have hw:IntKind.i64.wrap ((i:Int)+1)=(i:Int)+1:=IntWalk.i64_in _ (by omega);have hsl: ∀W,(Instr.slice 9 (.string ⟨rest.toArray⟩) (some (.int .i64 ((i:Int)+1))) none none).run Tryz.prog W= .ok (.string ⟨(rest.drop (i+1)).toArray⟩) W:=fun W=>by
    have h:=Z0Z ⟨rest.toArray⟩ (i+1) (by rw[hsz]; omega) W;exact h
   clear hc hi hcut hpp hY
   gi_wp2_with (refine ⟨trivial, ?_⟩; gi_at_call 214; refine (hI _).mono ?_; rintro e w' ⟨rfl,rfl⟩)
   refine hR.mono ?_;rintro e W3 (⟨rfl,hJ3,hk3⟩ | ⟨rfl,hJx3⟩)
   {have hS3:=HSA.out.keep hk3;have HS3:=Y1 hS3;have HJ3:=Y1 hJ3;obtain ⟨hb3,d0,g0,d1,d2⟩:=hS3;have hm0:=d0;clear c0 f0 c1 c2 hk3 hJ3
    gi_wp2
    go_roundw
    case rel=>exact ⟨pre++ [rest.take i],rest.drop (i+1),by rw[List.length_drop]; omega,HS3.out.set,HE.out,hJ _ _ _ HJ3.out⟩
    case measure=>
     rw[World.cell?_setCell_same _ _ _ hm0,HSA.out.2.1];show (⟨(rest.drop (i+1)).toArray⟩:ByteArray).size < (⟨rest.toArray⟩:ByteArray).size;rw[Z07,Z07,List.length_drop]; omega}
   {gi_wp2
    refine bodyPost_ret (results_none rfl _ _ _) rfl ?_;exact ⟨⟨_,rfl⟩,Or.inr ⟨_,_,HE.out,hJx3⟩⟩}}
end
end Go.Proofs.YtkncdbaoaeeoiaaGreatDoor
namespace Sem
def split:Nat->List UInt8->List (List UInt8)
 | 0,l=> [l]
 | k+1,l=>if (cut 46 l).2.2=true then (cut 46 l).1::split k (cut 46 l).2.1 else [l]
theorem Z64 {k:Nat} {l:List UInt8} (h: (cut 46 l).2.2=false):split k l= [l]:=by
 cases k with
 | zero=>rfl
 | succ k=>rw[split,if_neg (by rw[h]; simp)]
theorem Z4I {k:Nat} {l p q:List UInt8} (h:cut 46 l=(p,q,true)):split (k+1) l=p::split k q:=by
 rw[split,h,if_pos rfl]
theorem Z5r: ∀(k:Nat) (l:List UInt8),∀p∈split k l,p.length<=l.length
 | 0,l,p,hp=>by simp[split] at hp; rw[hp]; omega
 | k+1,l,p,hp=>by
  rw[split] at hp;split at hp
  {obtain ⟨h1,h2,_⟩:=Z6y 46 l;rcases List.mem_cons.1 hp with rfl | hp
   {exact h1}
   {exact Nat.le_trans (Z5r k _ p hp) h2}}
  {simp at hp; rw[hp]; omega}
end Sem
namespace Go.Proofs.YtkncdbaoaeeoiaaGreatDoor
open Go.RowKit
theorem Z9H: (Tryz.prog.info? 9).map (fun i=>(i.zero,i.size,i.bytes))=some (some (.string ByteArray.empty),1,16):=by kernel_rfl
theorem Z7r (s:List UInt8) (hs:s.length<=4611686018427387904) (N:Nat) (hN: (N:Int)=min 4 ((s.length:Int)+1)) (w:World):
 Calls Tryz.prog 205 #[.string ⟨s.toArray⟩,.string ⟨#[46]⟩,.int .i64 0,.int .i64 4] w fun e w'=>
  e= .returned (.slice (some ⟨w.heap.size,0,none⟩) (Sem.split (N - 1) s).length N)/\w'=w.alloc (.cells (Lib.cellsOf (strs (Sem.split (N - 1) s)) N) 9):=by
 have hsz: (⟨s.toArray⟩:ByteArray).size=s.length:=Z07 _;have eN:min (4:Int) ((s.length:Int)+1)=(N:Int):=hN.symm;have hNs: (N:Int)<=(s.length:Int)+1:=by rw[hN]; exact Int.min_le_right _ _
 have hN4: (N:Int)<=4:=by rw[hN]; exact Int.min_le_left _ _
 have hN1: (1:Int)<=(N:Int):=by rw[hN]; exact Int.le_min.2 ⟨by omega,by omega⟩
 have hmk:=run_make_row' (P:=Tryz.prog) 22 9 (.string ByteArray.empty) 16 Tryz.underlying22 Z9H rfl .i64 .i64 N (by omega) (by omega);clear hN;go_enter Tryz.func205,Tryz.ntmps205
 go_wp2_with fail
 clear hmk
 go_loopw [0,10] (fun a i wr=> ∃(done:List (List UInt8)) (rest:List UInt8),a= .string ⟨rest.toArray⟩/\i= .int .i64 done.length/\done.length<=N - 1/\rest.length<=s.length/\
  wr=w.alloc (.cells (Lib.cellsOf (strs done) N) 9)/\Hid (done++Sem.split (N - 1 - done.length) rest=Sem.split (N - 1) s))
  (fun _ i _=>N - (intOf i).toNat)
 case atStart=>exact ⟨[],s,rfl,rfl,Nat.zero_le _,Nat.le_refl _,by rw[show strs []= [] from rfl,Lib.cellsOf_nil],Y1 (by simp)⟩
 case round=>
  obtain ⟨done,rest,rfl,rfl,hd,hr,rfl,HP⟩:=hrel;have hsl: (strs done).length=done.length:=by simp[strs]
  have hnext: (Lib.cellsOf (strs done) N)[done.length]? =some (.string ByteArray.empty):=by rw[<-hsl]; exact Lib.cellsOf_next (by omega)
  have fin: ∀x:List UInt8,Sem.split (N - 1 - done.length) rest= [x]->(Sem.split (N - 1) s).length=done.length+1/\(Lib.cellsOf (strs done) N).setIfInBounds done.length (.string ⟨x.toArray⟩)=Lib.cellsOf (strs (Sem.split (N - 1) s)) N:=fun x h=>by
   rw[<-HP.out,h];refine ⟨by simp, ?_⟩;have:=Lib.cellsOf_set (done:=strs done) (N:=N) (by omega) ⟨x.toArray⟩;rw[hsl] at this;rw[this]; simp[strs]
  have hrs: (⟨rest.toArray⟩:ByteArray).size=rest.length:=Z07 _;by_cases hlt:done.length < N - 1
  {have hltz: ((done.length:Nat):Int) < (N:Int) - 1:=by omega
   have hI:=fun w=>Z2i rest w;rcases Z74 rest with ⟨hi,hc⟩ | ⟨i,hi,hil,hc⟩
   {rw[hi] at hI;obtain ⟨f1,f2⟩:=fin rest (Sem.Z64 hc);have F1:=Y1 f1;have F2:=Y1 f2;clear hi hc fin f1 f2
    go_wp2_with (go_at_call 214; refine (hI _).mono ?_; rintro e w' ⟨rfl,hw⟩; rw[hw])
    go_ret;rw[F1.out, <-F2.out];exact ⟨rfl,rfl⟩}
   {rw[hi] at hI;have HN:Hid ((done++ [rest.take i])++Sem.split (N - 1 - (done.length+1)) (rest.drop (i+1))=Sem.split (N - 1) s):=Y1 (by
     rw[<-HP.out,show N - 1 - done.length=(N - 1 - (done.length+1))+1 from by omega,Sem.Z4I hc]; simp)
    have ex: (⟨rest.toArray⟩:ByteArray).extract 0 i=⟨(rest.take i).toArray⟩:=by
     have:=ByteArray.extract_mk rest 0 i;simpa using this
    have hset: (Lib.cellsOf (strs done) N).setIfInBounds done.length (.string ⟨(rest.take i).toArray⟩)=Lib.cellsOf (strs (done++ [rest.take i])) N:=by
     have:=Lib.cellsOf_set (done:=strs done) (N:=N) (by omega) ⟨(rest.take i).toArray⟩;rw[hsl] at this;rw[this]; simp[strs]
    have hw1:IntKind.i64.wrap ((i:Int)+1)=(i:Int)+1:=IntWalk.i64_in _ (by omega);have hw0:IntKind.i64.wrap ((i:Int)+0)=(i:Int)+0:=IntWalk.i64_in _ (by omega);have hsp: ∀W,(Instr.slice 9 (.string ⟨rest.toArray⟩) (some (.int .i64 ((i:Int)+1))) none none).run Tryz.prog W= .ok (.string ⟨(rest.drop (i+1)).toArray⟩) W:=fun W=>by
     have h:=Z0Z ⟨rest.toArray⟩ (i+1) (by rw[hrs]; omega) W;exact h
    have HS:=Y1 hset;clear hi hc fin hset
    go_wp2_with (go_at_call 214; refine (hI _).mono ?_; rintro e w' ⟨rfl,hw⟩; rw[hw])
    go_roundw
    case rel=>exact ⟨done++ [rest.take i],rest.drop (i+1),rfl,by simp,by simp; omega,by rw[List.length_drop]; omega,by rw[<-HS.out],by rw[List.length_append]; exact HN⟩
    case measure=>simp[intOf]; omega}}
  {have hltz: ¬(((done.length:Nat):Int) < (N:Int) - 1):=by omega
   obtain ⟨f1,f2⟩:=fin rest (by rw[show N - 1 - done.length=0 from by omega]; rfl);have F1:=Y1 f1;have F2:=Y1 f2;clear fin f1 f2;go_wp2;go_ret;rw[F1.out, <-F2.out];exact ⟨rfl,rfl⟩}
theorem Zbf (w:World) (ps:List (List UInt8)) (N:Nat):Strs (w.alloc (.cells (Lib.cellsOf (strs ps) N) 9)) (w.alloc (.cells (Lib.cellsOf (strs ps) N) 9)).heap.size (some ⟨w.heap.size,0,none⟩) (strs ps):=by
 refine Or.inr ⟨w.heap.size,0,rfl,by simp,fun i hi=> ?_⟩;have h1: (Lib.cellsOf (strs ps) N)[i]? =some (.string ((strs ps)[i]'hi)):=by
  unfold Lib.cellsOf;simp[List.getElem?_append_left,hi]
 rw[Nat.zero_add];simp[go_sem,h1]
theorem Z9I (s:List UInt8) (hs:s.length<=4611686018427387904) (w:World):
 Calls Tryz.prog 191 #[.string ⟨s.toArray⟩,.string ⟨#[46]⟩,.int .i64 4] w fun e w'=> ∃g N,e= .returned (.slice (some ⟨g,0,none⟩) (Sem.split (min 3 s.length) s).length N)/\
  Strs w' w'.heap.size (some ⟨g,0,none⟩) (strs (Sem.split (min 3 s.length) s))/\Below w.heap.size w w':=by
 have hg:=Z7r s hs (min 4 (s.length+1)) (by omega);rw[show min 4 (s.length+1) - 1=min 3 s.length from by omega] at hg;go_enter Tryz.func191,Tryz.ntmps191
 go_wp2_with fail
 refine (hg _).mono ?_;rintro e w' ⟨rfl,hw⟩;have hS:=Zbf w (Sem.split (min 3 s.length) s) (min 4 (s.length+1));rw[<-hw] at hS;have hB:Below w.heap.size w w':=by rw[hw]; exact Z01 _ _
 clear hw;go_wp2;go_ret;exact ⟨_,_,rfl,hS,hB⟩
end Go.Proofs.YtkncdbaoaeeoiaaGreatDoor
namespace Sem
section
theorem Zek (l:List UInt8) (c:UInt8):num (l++ [c])=10 * num l+(c.toNat - 48):=by
 unfold num; rw[List.foldl_append]; rfl
theorem Zaw: ∀n:Nat,num (dec n)=n:=by
 intro n;induction n using Nat.strongRecOn with
 | ind n ih=>
  by_cases h:n < 10
  {rw[Z1Z h];simp[num]; omega}
  {have e: (UInt8.ofNat (48+n % 10)).toNat=48+n % 10:=by simp; omega
   rw[Z2Y h,Zek,ih _ (by omega),e];omega}
theorem Z6A: ∀(l:List UInt8) (acc:Nat),(∀c∈l,48<=c.toNat/\c.toNat<=57)->acc * 10 ^ l.length+num l < 1000000000000000000->Go.Lib.parseUint10 acc l= .ok (acc * 10 ^ l.length+num l)
 | [],acc,_,_=>by simp[Go.Lib.parseUint10,num]
 | c::r,acc,hd,hb=>by
  have hc:=hd c (by simp);have h1:=Z5B r (10 * acc+(c.toNat - 48));have hn:acc * 10 ^ (c::r).length+num (c::r)=(acc * 10+(c.toNat - 48)) * 10 ^ r.length+num r:=by
   rw[Z1S,List.length_cons,Nat.pow_succ,Nat.add_mul, <-Nat.add_assoc];congr 2;rw[Nat.mul_assoc,Nat.mul_comm 10 (10 ^ r.length)]
  have hp:1<=10 ^ r.length:=Nat.one_le_pow _ _ (by omega);have hlt:acc * 10+(c.toNat - 48) < 1000000000000000000:=by
   have: (acc * 10+(c.toNat - 48)) * 1<=(acc * 10+(c.toNat - 48)) * 10 ^ r.length:=Nat.mul_le_mul_left _ hp;omega
  rw[Go.Lib.parseUint10,if_pos hc,if_neg (by omega),if_neg (by omega),Z6A r _ (fun d h=>hd d (by simp[h])) (by omega),hn]
theorem Z5L (n:Nat) (h:n<=999999):Go.Lib.atoiAll (dec n)= .ok (n:Int):=by
 have hd:=Z2Z n;have hm:Go.Lib.parseMag (dec n)= .ok n:=by
  unfold Go.Lib.parseMag;rw[if_neg (Z33 n),Z6A (dec n) 0 hd (by rw[Zaw]; omega),Zaw]; simp
 rcases hdn:dec n with _ | ⟨c,r⟩
 {exact absurd hdn (Z33 n)}
 {have hc:=hd c (by rw[hdn]; simp);rw[hdn] at hm;rw[Go.Lib.atoiAll_plain c r (by omega) (by omega),hm];show (if 9223372036854775808<=n then Go.Lib.NumEnd.range else .ok (n:Int))=_;rw[if_neg (by omega)]}
def coreText (v:Ver):List UInt8:=dec v.maj.toNat++46::(dec v.min.toNat++46::dec v.pat.toNat)
theorem ZcN (v:Ver):text v=coreText v++if v.pre= [] then [] else 45::v.pre:=by
 simp[text,coreText]
theorem Z31 (n:Nat) {x:UInt8} (hx:x.toNat < 48): ∀d∈dec n,d≠x:=by
 rintro d hd rfl;have:=Z2Z n d hd;omega
theorem Z5s (v:Ver): ∀d∈coreText v,d≠45:=by
 intro d hd;unfold coreText at hd;rcases List.mem_append.1 hd with h | h
 {exact Z31 _ (by decide) d h}
 {rcases List.mem_cons.1 h with rfl | h
  {decide}
  {rcases List.mem_append.1 h with h | h
   {exact Z31 _ (by decide) d h}
   {rcases List.mem_cons.1 h with rfl | h
    {decide}
    {exact Z31 _ (by decide) d h}}}}
theorem Zel (v:Ver): (cut 45 (text v)).1=coreText v/\(cut 45 (text v)).2.1=v.pre:=by
 rw[ZcN];by_cases h:v.pre= []
 {rw[if_pos h,List.append_nil,Z8o (Z5s v),h]; exact ⟨rfl,rfl⟩}
 {rw[if_neg h,Z63 _ (Z5s v)]; exact ⟨rfl,rfl⟩}
theorem Zbg (v:Ver):split (min 3 (coreText v).length) (coreText v)= [dec v.maj.toNat,dec v.min.toNat,dec v.pat.toNat]:=by
 have h1:1<=(dec v.maj.toNat).length:=List.length_pos_iff.2 (Z33 _);have h2:min 3 (coreText v).length=3:=by unfold coreText; simp; omega
 rw[h2];unfold coreText;rw[Z4I (Z63 _ (Z31 _ (by decide))),Z4I (Z63 _ (Z31 _ (by decide))),Z64 (by rw[Z8o (Z31 _ (by decide))])]
section
variable {l : List UInt8}
include l
theorem Z3a {u:Ver} (h:parse l=some u):
 split (min 3 (cut 45 l).1.length) (cut 45 l).1= [dec u.maj.toNat,dec u.min.toNat,dec u.pat.toNat]/\(cut 45 l).2.1=u.pre/\
 Go.Lib.atoiAll (dec u.maj.toNat)= .ok u.maj/\Go.Lib.atoiAll (dec u.min.toNat)= .ok u.min/\Go.Lib.atoiAll (dec u.pat.toNat)= .ok u.pat:=by
 obtain ⟨hm,ht⟩:=Z2M h;obtain ⟨h1,h2⟩:=Zel u;rw[ht] at h1 h2;rw[h1];rw[Z12] at hm;obtain ⟨⟨a1,a2⟩,⟨b1,b2⟩,⟨c1,c2⟩,_⟩:=hm;refine ⟨Zbg u,h2, ?_, ?_, ?_⟩
 {rw[Z5L _ (by omega),Int.toNat_of_nonneg a1]}
 {rw[Z5L _ (by omega),Int.toNat_of_nonneg b1]}
 {rw[Z5L _ (by omega),Int.toNat_of_nonneg c1]}
theorem Zbh {p0 p1 p2:List UInt8} {x0 x1 x2:Int} (hs:split (min 3 (cut 45 l).1.length) (cut 45 l).1= [p0,p1,p2])
 (h0:Go.Lib.atoiAll p0= .ok x0) (h1:Go.Lib.atoiAll p1= .ok x1) (h2:Go.Lib.atoiAll p2= .ok x2):
 parse l=if may ⟨x0,x1,x2,(cut 45 l).2.1⟩=true/\text ⟨x0,x1,x2,(cut 45 l).2.1⟩=l then some ⟨x0,x1,x2,(cut 45 l).2.1⟩ else none:=by
 by_cases h:may ⟨x0,x1,x2,(cut 45 l).2.1⟩=true/\text ⟨x0,x1,x2,(cut 45 l).2.1⟩=l
 {rw[if_pos h];have:=Z5R h.1
  rwa [h.2] at this}
 {rw[if_neg h];rcases hp:parse l with _ | u
  {rfl}
  {exfalso;apply h;obtain ⟨q0,q1,q2,q3,q4⟩:=Z3a hp;rw[hs] at q0;simp only[List.cons.injEq,and_true] at q0;obtain ⟨rfl,rfl,rfl⟩:=q0;have e0:x0=u.maj:=by rw[h0] at q2; injection q2
   have e1:x1=u.min:=by rw[h1] at q3; injection q3
   have e2:x2=u.pat:=by rw[h2] at q4; injection q4
   rw[q1,e0,e1,e2];exact Z2M hp}}
theorem Z9J (h: (split (min 3 (cut 45 l).1.length) (cut 45 l).1).length≠3):parse l=none:=by
 rcases hp:parse l with _ | u
 {rfl}
 {rw[(Z3a hp).1] at h; exact absurd rfl h}
theorem ZcO {p0 p1 p2:List UInt8} (hs:split (min 3 (cut 45 l).1.length) (cut 45 l).1= [p0,p1,p2])
 (h: (∀x,Go.Lib.atoiAll p0≠ .ok x)\/(∀x,Go.Lib.atoiAll p1≠ .ok x)\/(∀x,Go.Lib.atoiAll p2≠ .ok x)):parse l=none:=by
 rcases hp:parse l with _ | u
 {rfl}
 {obtain ⟨q0,_,q2,q3,q4⟩:=Z3a hp;rw[hs] at q0;simp only[List.cons.injEq,and_true] at q0;obtain ⟨rfl,rfl,rfl⟩:=q0;rcases h with h | h | h
  {exact absurd q2 (h _)}
  {exact absurd q3 (h _)}
  {exact absurd q4 (h _)}}
end
end
end Sem
namespace Go.Proofs.YtkncdbaoaeeoiaaGreatDoor
section
open Go.RowKit
section
variable (x : List UInt8) (hx : x.length <= 140737488355328)
include x hx
theorem Z53 (v:Int) (h:Lib.atoiAll x= .ok v) (w:World):
 Y9 165 #[.string ⟨x.toArray⟩] w (.tuple #[.int .i64 v,.nilIface]):=by
 have hi:=Any.strconv_Atoi_ok Tryz.lays172 ⟨x.toArray⟩ (by rw[Z07]; omega) v h w;refine Calls.mono hi ?_;rintro e w' ⟨rfl,hw⟩;refine ⟨rfl, ?_⟩;rcases hw with rfl | ⟨t,rfl⟩
 {exact Below.refl _ _}
 {exact Lib.bytesWorld_below _ _ _}
theorem Z5M (h: ∀v,Lib.atoiAll x≠ .ok v) (w:World) (hg:Globs w):
 Calls Tryz.prog 165 #[.string ⟨x.toArray⟩] w fun e w'=> ∃z N,e= .returned (.tuple #[.int .i64 z,.iface 213 (.pointer (some ⟨N,0,none⟩))])/\Below w.heap.size w w':=by
 obtain ⟨te,pe,h1⟩:=hg.syn;obtain ⟨te',pe',h2⟩:=hg.rng;rcases ha:Lib.atoiAll x with v | _ | _
 {exact absurd ha (h v)}
 {have hi:=Any.strconv_Atoi_syntax Tryz.lays172 ⟨x.toArray⟩ (by rw[Z07]; omega) ha _ w h1 (Or.inr ⟨te,pe,rfl⟩);refine Calls.mono hi ?_;rintro e w' ⟨N,rfl,_,_,hb⟩;exact ⟨_,N,rfl,hb⟩}
 {have hi:=Any.strconv_Atoi_range Tryz.lays172 ⟨x.toArray⟩ (by rw[Z07]; omega) ha _ w h2 (Or.inr ⟨te',pe',rfl⟩);refine Calls.mono hi ?_;rintro e w' ⟨N,rfl,_,_,hb⟩;exact ⟨_,N,rfl,hb⟩}
theorem Z48 (w:World):
 Y9 124 #[.string ⟨x.toArray⟩] w (.string ⟨x.toArray⟩):=by
 have hi: ∀w,Y9 161 #[.string ⟨x.toArray⟩] w (.string ⟨x.toArray⟩):=fun w=>
  Any.stringslite_Clone Tryz.laysM316 ⟨x.toArray⟩ w (by rw[Z07]; omega)
 go_enter Tryz.func124,Tryz.ntmps124
 go_wp2_with fail
 refine (hi _).mono ?_;rintro e w' ⟨rfl,hb⟩;go_wp2;go_ret;exact ⟨rfl,hb⟩
end
end
section
open Go.RowKit Tms
open Shp (Sh)
open Pso (St)
open Prs (sign)
theorem Z65 (bp:Nat) (A:Option Addr) (c:Nat) (l:List Tk) (σ:St) (hl:l.length<=1000000) (hi:σ.1 < l.length) (ht: (Prs.look l σ.1).t.text.length<=1000000) (w:World) (h:PAt w bp A c l σ):
 Calls Tryz.prog 127 #[.pointer (some ⟨bp,0,none⟩)] w fun e w'=>e= .returned (.string ⟨(Prs.look l σ.1).t.text.toArray⟩)/\PAt w' bp A c l (σ.1+1,σ.2)/\UpT [bp] w w':=by
 obtain ⟨i,f⟩:=σ;simp only at hi ht ⊢;have HL:=Y1 (Z1o bp A c l (i,f) hl (by simpa using Nat.le_of_lt hi) w h);simp only at HL;obtain ⟨x,hx⟩: ∃x,x=Prs.look l i:=⟨_,rfl⟩;rw[<-hx] at HL ht ⊢;have HP:=Y1 h;have hfd:=Zfn x.t.kind ⟨x.t.text.toArray⟩ x.at_;clear h hx;go_enter Tryz.func127,Tryz.ntmps127
 go_wp2_with fail
 refine HL.out.mono ?_;rintro e w1 ⟨rfl,hb1⟩;have HB1:=Y1 hb1;clear hb1 HL
 go_wp2_with fail
 refine (Z48 x.t.text (by omega) w1).mono ?_;rintro e w2 ⟨rfl,hb2⟩;have HB2:=Y1 (Z00 HB1.out hb2);have HP2:=Y1 ((HP.out.below HB1.out).below hb2);have hlt:=HP2.out.lt;have c1:=HP2.out.c1;have f1:=HP2.out.fz 1;simp only at c1;clear hb2 HB1;go_wp2;go_ret;exact ⟨rfl,HP2.out.turn1 _,(Z05 HB2.out).set _ (Or.inr (by simp)) _⟩
def wants (l:List Tk) (σ:St) (ws:List (List UInt8)):List UInt8×St:=if signs l σ.1 ws=true then ((Prs.look l σ.1).t.text,(σ.1+1,σ.2)) else ([],Pso.misfit l σ)
theorem Zem {l:List Tk} {i:Nat} {ws:List (List UInt8)} (h:signs l i ws=true):i < l.length:=by
 unfold signs at h;simp only[Bool.and_eq_true,Bool.or_eq_true,decide_eq_true_eq] at h;exact Pso.kind_lt (by rcases h.1 with e | e <;> rw[e] <;> decide)
theorem ZcP (l:List Tk) (σ:St) (s:List UInt8): (wants l σ [s]).2=Pso.want l σ s:=by
 unfold wants Pso.want;rw[Z4G];split <;> rfl
section
variable (bp : Nat) (A : Option Addr) (c : Nat) (l : List Tk) (σ : St)
include bp A c l σ
theorem Zbi (B:Nat) (AW:Option Addr) (cw:Nat) (ws:List (List UInt8)) (hl:l.length<=1000000) (hi:σ.1<=l.length) (ht: ∀b∈l,b.t.text.length<=1000000) (hws:ws.length<=1000000) (w:World) (h:PAt w bp A c l σ) (hr:Row w B 9 1 cN AW cw ws):
 Calls Tryz.prog 93 #[.pointer (some ⟨bp,0,none⟩),.slice AW ws.length cw] w fun e w'=>e= .returned (.string ⟨(wants l σ ws).1.toArray⟩)/\PAt w' bp A c l (wants l σ ws).2/\UpT [bp] w w':=by
 have HF:Hid (wants l σ ws=if signs l σ.1 ws=true then ((Prs.look l σ.1).t.text,(σ.1+1,σ.2)) else ([],Pso.misfit l σ)):=Y1 rfl;have HL:=Y1 (Z4H bp A c l σ B AW cw ws hl hi hws w h hr);rw[HF.out];have HP:=Y1 h;clear h hr HF;cases hs:signs l σ.1 ws
 {rw[hs] at HL;go_enter Tryz.func93,Tryz.ntmps93
  go_wp2_with fail
  refine HL.out.mono ?_;rintro e w1 ⟨rfl,hb1⟩;have HP1:=Y1 (HP.out.below hb1);have HU1:=Y1 (Z05 (F:= [bp]) hb1);clear hb1 HL
  go_wp2_with fail
  refine (Z2z bp A c l σ hl hi w1 HP1.out).mono ?_;rintro e w2 ⟨rfl,hp2,hu2⟩;have HP2:=Y1 hp2;have HU2:=Y1 hu2;clear hp2 hu2;go_wp2;go_ret;exact ⟨rfl,by simpa using HP2.out,HU1.out.trans HU2.out⟩}
 {rw[hs] at HL;have hlt:=Zem hs;have HT:=Y1 (fun (w:World) (h:PAt w bp A c l σ)=>Z65 bp A c l σ hl hlt (by rw[Prs.look_in hlt]; exact ht _ (List.getElem_mem _)) w h);obtain ⟨x,hx⟩: ∃x,x=Prs.look l σ.1:=⟨_,rfl⟩;rw[<-hx] at HT ⊢;clear hx;go_enter Tryz.func93,Tryz.ntmps93
  go_wp2_with fail
  refine HL.out.mono ?_;rintro e w1 ⟨rfl,hb1⟩;have HP1:=Y1 (HP.out.below hb1);have HU1:=Y1 (Z05 (F:= [bp]) hb1);clear hb1 HL
  go_wp2_with fail
  refine (HT.out w1 HP1.out).mono ?_;rintro e w2 ⟨rfl,hp2,hu2⟩;have HP2:=Y1 hp2;have HU2:=Y1 hu2;clear hp2 hu2;go_wp2;go_ret;exact ⟨rfl,by simpa using HP2.out,HU1.out.trans HU2.out⟩}
theorem Z0d (s:List UInt8) (hl:l.length<=1000000) (hi:σ.1<=l.length) (w:World) (h:PAt w bp A c l σ) {b:Nat} (hb:b=w.heap.size:=by first | rfl | simp | omega):
 Calls Tryz.prog 93 #[.pointer (some ⟨bp,0,none⟩),.slice (some ⟨b,0,none⟩) 1 1] (w.alloc (.cells #[.string ⟨s.toArray⟩] 9)) fun e w'=> ∃v,e= .returned (.string v)/\PAt w' bp A c l (Pso.want l σ s)/\UpT [bp] w w':=by
 subst hb;have h1:=Zbi bp A c l σ w.heap.size (some ⟨w.heap.size,0,none⟩) 1 [s] hl hi h.tx (by simp) _ (h.alloc (.cells #[.string ⟨s.toArray⟩] 9)) (Z5K w s);rw[ZcP] at h1;refine h1.mono ?_;rintro e w' ⟨rfl,hp,hu⟩;exact ⟨_,rfl,hp,(Z05 (F:= [bp]) (Z01 w _)).trans hu⟩
theorem Z2A (k:Int) (hk0:k≠0) (fn:Nat) (hen: ∀args W,(callFunc fn args).run Tryz.prog W= .ok (.enter fn args) W) (ok:List UInt8->Bool) (hl:l.length<=1000000) (hi:σ.1<=l.length) (ht: ∀b∈l,b.t.text.length<=1000000) (w:World) (h:PAt w bp A c l σ)
 (hk: ∀W,Below w.heap.size w W->(Prs.look l σ.1).t.kind=k->Y9 fn #[.string ⟨(Prs.look l σ.1).t.text.toArray⟩] W (.bool (ok (Prs.look l σ.1).t.text))):
 Calls Tryz.prog 125 #[.pointer (some ⟨bp,0,none⟩),.int .i64 k,.func (.func fn) #[] #[]] w fun e w'=>e= .returned (.string ⟨(Pso.textOf l σ k ok).1.toArray⟩)/\PAt w' bp A c l (Pso.textOf l σ k ok).2/\UpT [bp] w w':=by
 have HL:=Y1 (Z1o bp A c l σ hl hi w h);have HF:Hid (Pso.textOf l σ k ok=if (decide ((Prs.look l σ.1).t.kind=k)&&ok (Prs.look l σ.1).t.text)=true then ((Prs.look l σ.1).t.text,(σ.1+1,σ.2)) else ([],Pso.misfit l σ)):=Y1 rfl;have HLT:Hid ((Prs.look l σ.1).t.kind=k->σ.1 < l.length/\(Prs.look l σ.1).t.text.length<=1000000):=Y1 (fun e=>by
  have h1:=Pso.kind_lt (l:=l) (i:=σ.1) (by rw[e]; exact hk0);exact ⟨h1,by rw[Prs.look_in h1]; exact ht _ (List.getElem_mem _)⟩)
 rw[HF.out];have HT:=Y1 (fun (w:World) (h:PAt w bp A c l σ) (h1:σ.1 < l.length) (h2: (Prs.look l σ.1).t.text.length<=1000000)=>Z65 bp A c l σ hl h1 h2 w h);have HK:=Y1 hk;have HP:=Y1 h;obtain ⟨x,hx⟩: ∃x,x=Prs.look l σ.1:=⟨_,rfl⟩;rw[<-hx] at HL HT HK HLT ⊢;clear h hk HF hx;by_cases h1:x.t.kind=k
 {have d1:decide (x.t.kind=k)=true:=decide_eq_true h1;rw[d1,Bool.true_and];have hn: (x.t.kind !=k)=false:=by simpa using h1
  cases h2:ok x.t.text
  {go_enter Tryz.func125,Tryz.ntmps125
   go_wp2_with fail
   refine HL.out.mono ?_;rintro e w1 ⟨rfl,hb1⟩;have HB1:=Y1 (Z03 hb1 (.cells #[.int .i64 x.t.kind,.string ⟨x.t.text.toArray⟩,.int .i64 x.at_] 54));clear hb1 HL
   go_wp2_with fail
   have hbn:=HB1.out;rw[h1] at hbn;refine (HK.out _ (by first | exact hbn | exact HB1.out) h1).mono ?_;rintro e w2 ⟨rfl,hb2⟩;rw[h2];have HB2:=Y1 (Z00 hbn hb2);clear hb2 HB1 hbn
   go_wp2_with fail
   refine (Z2z bp A c l σ hl hi w2 (HP.out.below HB2.out)).mono ?_;rintro e w3 ⟨rfl,hp3,hu3⟩;have HP3:=Y1 hp3;have HU3:=Y1 hu3;clear hp3 hu3;go_wp2;go_ret;exact ⟨rfl,by simpa using HP3.out,(Z05 HB2.out).trans HU3.out⟩}
  {obtain ⟨h3,h4⟩:=HLT.out h1;go_enter Tryz.func125,Tryz.ntmps125
   go_wp2_with fail
   refine HL.out.mono ?_;rintro e w1 ⟨rfl,hb1⟩;have HB1:=Y1 (Z03 hb1 (.cells #[.int .i64 x.t.kind,.string ⟨x.t.text.toArray⟩,.int .i64 x.at_] 54));clear hb1 HL
   go_wp2_with fail
   have hbn:=HB1.out;rw[h1] at hbn;refine (HK.out _ (by first | exact hbn | exact HB1.out) h1).mono ?_;rintro e w2 ⟨rfl,hb2⟩;rw[h2];have HB2:=Y1 (Z00 hbn hb2);clear hb2 HB1 hbn
   go_wp2_with fail
   refine (HT.out w2 (HP.out.below HB2.out) h3 h4).mono ?_;rintro e w3 ⟨rfl,hp3,hu3⟩;have HP3:=Y1 hp3;have HU3:=Y1 hu3;clear hp3 hu3;go_wp2;go_ret;exact ⟨rfl,by simpa using HP3.out,(Z05 HB2.out).trans HU3.out⟩}}
 {have d1:decide (x.t.kind=k)=false:=decide_eq_false h1;rw[d1,Bool.false_and];have hn: (x.t.kind !=k)=true:=by simpa using h1
  go_enter Tryz.func125,Tryz.ntmps125
  go_wp2_with fail
  refine HL.out.mono ?_;rintro e w1 ⟨rfl,hb1⟩;have HB1:=Y1 (Z03 hb1 (.cells #[.int .i64 x.t.kind,.string ⟨x.t.text.toArray⟩,.int .i64 x.at_] 54));clear hb1 HL
  go_wp2_with fail
  refine (Z2z bp A c l σ hl hi _ (HP.out.below HB1.out)).mono ?_;rintro e w3 ⟨rfl,hp3,hu3⟩;have HP3:=Y1 hp3;have HU3:=Y1 hu3;clear hp3 hu3;go_wp2;go_ret;exact ⟨rfl,by simpa using HP3.out,(Z05 HB1.out).trans HU3.out⟩}
theorem Z1a (hl:l.length<=1000000) (hi:σ.1<=l.length) (ht: ∀b∈l,b.t.text.length<=1000000) (w:World) (h:PAt w bp A c l σ):
 Calls Tryz.prog 92 #[.pointer (some ⟨bp,0,none⟩)] w fun e w'=>e= .returned (.string ⟨(Pso.name l σ).1.toArray⟩)/\PAt w' bp A c l (Pso.name l σ).2/\UpT [bp] w w':=by
 have HF:Hid (Pso.name l σ=Pso.textOf l σ 1 Lex.isName):=Y1 rfl;rw[HF.out];have HH:=Y1 (Z2A bp A c l σ 1 (by decide) 126 (enters_of Tryz.func126 (by kernel_rfl) rfl) Lex.isName hl hi ht w h (fun W hW hk=>(Z0s _ (by
  have h1:=Pso.kind_lt (l:=l) (i:=σ.1) (by rw[hk]; decide);rw[Prs.look_in h1]; have:=ht _ (List.getElem_mem h1); omega) W).mono (fun e w' h=>⟨h.1,h.2▸Below.refl _ _⟩)))
 clear h;go_enter Tryz.func92,Tryz.ntmps92
 go_wp2_with fail
 refine HH.out.mono ?_;rintro e w1 ⟨rfl,hp1,hu1⟩;have HP1:=Y1 hp1;have HU1:=Y1 hu1;clear hp1 hu1;go_wp2;go_ret;exact ⟨rfl,HP1.out,HU1.out⟩
theorem Z2B (hl:l.length<=1000000) (hi:σ.1<=l.length) (ht: ∀b∈l,b.t.text.length<=1000000) (w:World) (h:PAt w bp A c l σ):
 Calls Tryz.prog 104 #[.pointer (some ⟨bp,0,none⟩)] w fun e w'=>e= .returned (.string ⟨(Pso.upperN l σ).1.toArray⟩)/\PAt w' bp A c l (Pso.upperN l σ).2/\UpT [bp] w w':=by
 have HF:Hid (Pso.upperN l σ=Pso.textOf l σ 2 Lex.isUpper):=Y1 rfl;rw[HF.out];have HH:=Y1 (Z2A bp A c l σ 2 (by decide) 137 (enters_of Tryz.func137 (by kernel_rfl) rfl) Lex.isUpper hl hi ht w h (fun W hW hk=>(Z0R _ (by
  have h1:=Pso.kind_lt (l:=l) (i:=σ.1) (by rw[hk]; decide);rw[Prs.look_in h1]; have:=ht _ (List.getElem_mem h1); omega) W).mono (fun e w' h=>⟨h.1,h.2▸Below.refl _ _⟩)))
 clear h;go_enter Tryz.func104,Tryz.ntmps104
 go_wp2_with fail
 refine HH.out.mono ?_;rintro e w1 ⟨rfl,hp1,hu1⟩;have HP1:=Y1 hp1;have HU1:=Y1 hu1;clear hp1 hu1;go_wp2;go_ret;exact ⟨rfl,HP1.out,HU1.out⟩
end
def anoth (l:List Tk) (σ:St) (ns:List (List UInt8)) (r:List UInt8×St):St:=if ns.contains r.1=true then Pso.fail l r.2 111 (Prs.look l σ.1).at_ else r.2
section
variable (bp : Nat) (A : Option Addr) (c : Nat) (l : List Tk) (σ : St) (B : Nat) (AN : Option Addr) (cn : Nat) (ns : List (List UInt8))
include bp A c l σ B AN cn ns
theorem Zbj (fn:Nat) (hen: ∀args W,(callFunc fn args).run Tryz.prog W= .ok (.enter fn args) W) (r:List UInt8×St) (hl:l.length<=1000000) (hi:σ.1<=l.length) (hns:ns.length<=900000) (w:World) (h:PAt w bp A c l σ)
 (hr:Row w B 9 1 cN AN cn ns) (hB:bp < B) (hrd: ∀W,PAt W bp A c l σ->Calls Tryz.prog fn #[.pointer (some ⟨bp,0,none⟩)] W fun e W'=>e= .returned (.string ⟨r.1.toArray⟩)/\PAt W' bp A c l r.2/\UpT [bp] W W'):
 Calls Tryz.prog 91 #[.pointer (some ⟨bp,0,none⟩),.slice AN ns.length cn,.func (.func fn) #[.pointer (some ⟨bp,0,none⟩)] #[]] w fun e w'=>e= .returned (.string ⟨r.1.toArray⟩)/\PAt w' bp A c l (anoth l σ ns r)/\UpT [bp] w w':=by
 have HA:Hid (anoth l σ ns r=if ns.contains r.1=true then Pso.fail l r.2 111 (Prs.look l σ.1).at_ else r.2):=Y1 rfl;rw[HA.out];have HL:=Y1 (Z1o bp A c l σ hl hi w h);have HP:=Y1 h;have HR:=Y1 hr;obtain ⟨x,hx⟩: ∃x,x=Prs.look l σ.1:=⟨_,rfl⟩;rw[<-hx] at HL ⊢;have hfd:=Z47 x.t.kind ⟨x.t.text.toArray⟩ x.at_;have hRB: ∀k,rowT AN=some k->B<=k:=fun k hk=>(hr.lt k hk).1;have HRB:=Y1 hRB;have HRD:=Y1 hrd;obtain ⟨nm,τ⟩:=r;simp only at HRD ⊢;have HSC:=Y1 (fun (w:World) (h:Row w B 9 1 cN AN cn ns)=>Z3G B AN cn ns nm w (by omega) h);obtain ⟨b,hb⟩: ∃b,b=ns.contains nm:=⟨_,rfl⟩;rw[<-hb] at HSC ⊢;clear h hr HA hx hRB hb hrd;go_enter Tryz.func91,Tryz.ntmps91
 go_wp2_with fail
 refine HL.out.mono ?_;rintro e w1 ⟨rfl,hb1⟩;have HB1:=Y1 hb1;clear hb1 HL
 go_wp2_with fail
 refine (HRD.out w1 (HP.out.below HB1.out)).mono ?_;rintro e w2 ⟨rfl,hp2,hu2⟩;have HP2:=Y1 hp2;have HU2:=Y1 ((Z05 (F:= [bp]) HB1.out).trans hu2);clear hp2 hu2 HB1
 go_wp2_with fail
 have hR2:=HR.out.up HU2.out (fun x hx=>by simp at hx; subst hx; intro e; have:=HRB.out _ e; omega);refine (HSC.out w2 hR2).mono ?_;rintro e w3 ⟨rfl,hb3⟩;have HP3:=Y1 (HP2.out.below hb3);have HU3:=Y1 (HU2.out.trans (Z05 hb3));clear hb3 hR2 HU2 HP2;cases b
 {simp only[Bool.false_eq_true,if_false];go_wp2;go_ret;exact ⟨rfl,HP3.out,HU3.out⟩}
 {simp only[if_true]
  go_wp2_with fail
  refine (Z3j bp A c l τ 111 x.at_ hl w3 HP3.out).mono ?_;rintro e w4 ⟨rfl,hp4,hu4⟩;have HP4:=Y1 hp4;have HU4:=Y1 (HU3.out.trans hu4);clear hp4 hu4 HU3;go_wp2;go_ret;exact ⟨rfl,HP4.out,HU4.out⟩}
theorem Z2b (hl:l.length<=1000000) (hi:σ.1<=l.length) (ht: ∀b∈l,b.t.text.length<=1000000) (hns:ns.length<=900000) (w:World) (h:PAt w bp A c l σ)
 (hr:Row w B 9 1 cN AN cn ns) (hB:bp < B):
 Calls Tryz.prog 91 #[.pointer (some ⟨bp,0,none⟩),.slice AN ns.length cn,.func (.func 92) #[.pointer (some ⟨bp,0,none⟩)] #[]] w fun e w'=>e= .returned (.string ⟨(Pso.name l σ).1.toArray⟩)/\PAt w' bp A c l (Pso.another l σ ns).2/\UpT [bp] w w':=
 Zbj bp A c l σ B AN cn ns 92 (enters_of Tryz.func92 (by kernel_rfl) rfl) (Pso.name l σ) hl hi hns w h hr hB (fun W hW=>Z1a bp A c l σ hl hi ht W hW)
end
end
section
open Go.RowKit Tms
open Shp (Sh)
open Pso (St Ok Goes betw loop want)
open Prs (sign)
def Reads (bp:Nat) (A:Option Addr) (c:Nat) (l:List Tk) {α:Type} (fn:Nat) (p0 p1:Value) (J:Nat->World->α->Prop) (f:St->α->St×α) (m:Nat):Prop:=
 ∀(r:Nat) (W:World) (τ:St) (a:α),r<=l.length+1->Ok l τ->l.length - τ.1 < m->PAt W bp A c l τ->J r W a->
  Calls Tryz.prog fn #[p0,p1] W fun e W'=>e= .returned (.tuple #[])/\PAt W' bp A c l (f τ a).1/\J (r+1) W' (f τ a).2
def LoopR (bp:Nat) (A:Option Addr) (c:Nat) (l:List Tk) {α:Type} (s:List UInt8) (J:Nat->World->α->Prop) (f:St->α->St×α) (m:Nat) (y:St×α) (k:Nat) (W:World):Prop:=
 ∃(n r:Nat) (τ:St) (a:α),loop l s f n τ a=y/\l.length - τ.1 < n/\n<=k/\Ok l τ/\l.length - τ.1 < m/\PAt W bp A c l τ/\r+(l.length - τ.1)<=l.length+1/\J r W a
theorem Z15 {α:Type} (bp:Nat) (A:Option Addr) (c:Nat) (l:List Tk) (o s e:List UInt8) (fn:Nat) (hen: ∀args W,(callFunc fn args).run Tryz.prog W= .ok (.enter fn args) W) (p0 p1:Value) (J:Nat->World->α->Prop) (f:St->α->St×α) (m:Nat) (hl:l.length<=1000000) (hG:Goes l f)
 (hJ: ∀r W W' a,J r W a->UpT [bp] W W'->J r W' a) (hc:Reads bp A c l fn p0 p1 J f m) (σ:St) (a:α) (w:World) (hσ:Ok l σ) (hm:l.length - (want l σ o).1 < m) (hP:PAt w bp A c l σ) (hJ0:J 0 w a):
 Calls Tryz.prog 89 #[.pointer (some ⟨bp,0,none⟩),.string ⟨o.toArray⟩,.string ⟨s.toArray⟩,.string ⟨e.toArray⟩,.func (.func fn) #[] #[p0,p1]] w fun e' w'=>e'= .returned (.tuple #[])/\PAt w' bp A c l (betw l o s e f σ a).1/\ ∃r,r<=l.length+2/\J r w' (betw l o s e f σ a).2:=by
 have HF:Hid (betw l o s e f σ a=if sign l (want l σ o).1 e=true then (((want l σ o).1+1,(want l σ o).2),a) else (want l (loop l s f (l.length+1) (f (want l σ o) a).1 (f (want l σ o) a).2).1 e,(loop l s f (l.length+1) (f (want l σ o) a).1 (f (want l σ o) a).2).2)):=Y1 rfl;rw[HF.out];have hOτ:=(Pso.to_want hσ o).1;have HW:=Y1 (Z0d bp A c l σ o hl hσ.1 w hP);obtain ⟨τ,hτ⟩: ∃τ,τ=want l σ o:=⟨_,rfl⟩;rw[<-hτ] at HW hOτ hm ⊢;have HPS:=Y1 (fun (w:World) (h:PAt w bp A c l τ)=>Z2U bp A c l τ e hl hOτ.1 w h);have HLT:Hid (sign l τ.1 e=true->τ.1 < l.length):=Y1 Pso.sign_lt;obtain ⟨b,hb⟩: ∃b,b=sign l τ.1 e:=⟨_,rfl⟩;rw[<-hb] at HPS HLT ⊢;obtain ⟨x,hx⟩: ∃x,x=f τ a:=⟨_,rfl⟩;have HX:=Y1 hx;obtain ⟨y,hy⟩: ∃y,y=loop l s f (l.length+1) x.1 x.2:=⟨_,rfl⟩;have HY:=Y1 hy;rw[<-hx, <-hy];have HJ:=Y1 hJ;have HC:=Y1 hc;have HG:=Y1 hG;have HJ0:=Y1 hJ0;have HO:=Y1 hOτ;clear HF hP hJ hc hG hJ0 hσ hτ hOτ hb hx hy;go_enter Tryz.func89,Tryz.ntmps89
 go_wp2_with fail
 refine HW.out.mono ?_;rintro e1 w1 ⟨v1,rfl,hp1,hu1⟩;have HP1:=Y1 hp1;have HJ1:=Y1 (HJ.out _ _ _ _ HJ0.out hu1);clear hp1 hu1 HW
 go_wp2_with fail
 refine (HPS.out w1 HP1.out).mono ?_;rintro e1 w2 ⟨rfl,hp2,hu2⟩;have HP2:=Y1 hp2;have HJ2:=Y1 (HJ.out _ _ _ _ HJ1.out hu2);clear hp2 hu2 HJ1 HP1;cases b
 {simp only[Bool.false_eq_true,if_false] at HP2 ⊢
  go_wp2_with fail
  have hR:=HC.out 0 w2 τ a (by omega) HO.out hm HP2.out HJ2.out;rw[<-HX.out] at hR;refine hR.mono ?_;rintro e1 w3 ⟨rfl,hp3,hj3⟩;have hT:=HG.out τ a HO.out;rw[<-HX.out] at hT;have hm2:=hT.2.1;have HR1:Hid (LoopR bp A c l s J f m y (l.length+1) w3):=Y1 ⟨l.length+1,1,x.1,x.2,HY.out.symm,by omega,Nat.le_refl _,hT.1,by omega,hp3,by omega,hj3⟩;clear hp3 hj3 hT hm2 hR
  go_wp2_with fail
  go_loopg [24] (l.length+1) (fun kx s24 wr=>Hid (LoopR bp A c l s J f m y kx wr))
  case atStart=>exact HR1
  case round=>
   obtain ⟨n,r,ρ,a1,hlo,hn,hnk,hok,hmm,hp,hr,hj⟩:=hrel.out;have HN:=Y1 hnk;have HP:=Y1 hp;have HJr:=Y1 hj;have HK:=Y1 hok;have HRR:=Y1 hr;have HMM:=Y1 hmm;have HLO:=Y1 hlo;have HNN:=Y1 hn;have HPS2:=Y1 (fun (w:World) (h:PAt w bp A c l ρ)=>Z2U bp A c l ρ s hl hok.1 w h);have HLT2:Hid (sign l ρ.1 s=true->ρ.1 < l.length):=Y1 Pso.sign_lt;have HB2:Hid (sign l ρ.1 s=sign l ρ.1 s):=Y1 rfl;obtain ⟨b2,hb2⟩: ∃b2,b2=sign l ρ.1 s:=⟨_,rfl⟩;rw[<-hb2] at HPS2 HLT2;have HBB:=Y1 hb2;clear hrel HR1 hlo hn hnk hok hmm hp hr hj hb2 HB2;cases b2
   {go_wp2_with fail
    refine (HPS2.out wr HP.out).mono ?_;rintro e1 w4 ⟨rfl,hp4,hu4⟩;have HP4:=Y1 (show PAt w4 bp A c l ρ by simpa using hp4);have HJ4:=Y1 (HJ.out _ _ _ _ HJr.out hu4);clear hp4 hu4;have HYY:Hid (y=(ρ,a1)):=Y1 (by
     rw[<-HLO.out];cases n with
     | zero=>exact absurd HNN.out (by omega)
     | succ n=>unfold loop; rw[<-HBB.out,if_neg (by simp)])
    go_wp2_with fail
    refine (Z0d bp A c l ρ e hl HK.out.1 w4 HP4.out).mono ?_;rintro e1 w5 ⟨v5,rfl,hp5,hu5⟩;have HP5:=Y1 hp5;have HJ5:=Y1 (HJ.out _ _ _ _ HJ4.out hu5);clear hp5 hu5;go_wp2
    go_end0
    rw[HYY.out];exact ⟨rfl,HP5.out,r,by have:=HRR.out; omega,HJ5.out⟩}
   {go_wp2_with fail
    refine (HPS2.out wr HP.out).mono ?_;rintro e1 w4 ⟨rfl,hp4,hu4⟩;have HP4:=Y1 (show PAt w4 bp A c l (ρ.1+1,ρ.2) by simpa using hp4);have HJ4:=Y1 (HJ.out _ _ _ _ HJr.out hu4);clear hp4 hu4;have hlt:=HLT2.out trivial;have HT1:=Y1 (Pso.to_next HK.out hlt)
    go_wp2_with fail
    refine (HC.out r w4 (ρ.1+1,ρ.2) a1 (by have:=HRR.out; omega) HT1.out.1 (by have:=HMM.out; simp only; omega) HP4.out HJ4.out).mono ?_;rintro e1 w5 ⟨rfl,hp5,hj5⟩;have HP5:=Y1 hp5;have HJ5:=Y1 hj5;have HT2:=Y1 (HG.out (ρ.1+1,ρ.2) a1 HT1.out.1);clear hp5 hj5
    go_wp2_with fail
    go_roundg (n - 1)
    case measure=>have:=HN.out; have:=HNN.out; omega
    case rel=>
     have h1:=HNN.out;have h2:=HT2.out.2.1;simp only at h2;refine Y1 ⟨n - 1,r+1,(f (ρ.1+1,ρ.2) a1).1,(f (ρ.1+1,ρ.2) a1).2, ?_,by omega,Nat.le_refl _,HT2.out.1,by have:=HMM.out; omega,HP5.out,by have:=HRR.out; omega,HJ5.out⟩;rw[<-HLO.out];obtain ⟨n',rfl⟩: ∃n',n=n'+1:=⟨n - 1,by omega⟩
     conv=>rhs; unfold loop
     rw[<-HBB.out,if_pos rfl];rfl}}
 {simp only[if_true] at HP2 ⊢;go_wp2;refine bodyPost_ret (v:= .tuple #[]) (by simp[results,Tryz.results89,go_sem]) rfl ?_;exact ⟨rfl,HP2.out,0,by omega,HJ2.out⟩}
end
end Go.Proofs.YtkncdbaoaeeoiaaGreatDoor
namespace Go.Proofs.YtkncdbaoaeeoiaaGreatDoor
open Go.RowKit
def upd (u:Nat->Value) (i:Nat) (v:Value):Nat->Value:=fun j=>cond (Nat.beq j i) v (u j)
theorem Z09 (u:Nat->Value) (i:Nat) (v:Value):upd u i v i=v:=by simp[upd]
theorem Z06 (u:Nat->Value) {i j:Nat} (v:Value) (h:j≠i):upd u i v j=u j:=by
 have:Nat.beq j i=false:=by cases hb:Nat.beq j i <;> first | rfl | exact absurd (Nat.eq_of_beq_eq_true hb) h
 simp[upd,this]
structure Want where
 ok:Value->World->Prop
 keep: ∀(v:Value) (w w':World),Below w.heap.size w w'->ok v w->ok v w'
theorem Want.mono {T:Want} {v:Value} {w w':World} (hb:Below w.heap.size w w') (h:T.ok v w):T.ok v w':=T.keep v w w' hb h
def Want.val (c:Value):Want:=⟨fun v _=>v=c,fun _ _ _ _ h=>h⟩
def Want.any:Want:=⟨fun _ _=>True,fun _ _ _ _ h=>h⟩
section
variable {P : Program} {ops : Array Oper} {Q : Exit -> Act -> World -> Prop}
def waits (o:Oper) (j:Nat):Bool:=o.after.any fun e=>Region.binds .any e&&e.on==j
def StepAt (P:Program) (ops:Array Oper) (Q:Exit->Act->World->Prop) (A: (Nat->Value)->Act) (T:Nat->Want) (J:World->Prop) (i:Nat):Prop:=
 ∀o,ops[i]? =some o-> ∀(u:Nat->Value) (W:World),J W->(∀j,waits o j=true->(T j).ok (u j) W)->
  wpOp P ops Q i (fun a' w'=> ∃v,a'=A (upd u i v)/\(T i).ok v w'/\J w'/\Below W.heap.size W w') (A u) W
def StepsAt (P:Program) (ops:Array Oper) (Q:Exit->Act->World->Prop) (A: (Nat->Value)->Act) (T:Nat->Want) (J:World->Prop) (rs:List Nat):Prop:=
 ∀i∈rs,StepAt P ops Q A T J i
section
variable {A : (Nat -> Value) -> Act} {T : Nat -> Want} {J : World -> Prop}
include A T J
theorem StepsAt.nil:StepsAt P ops Q A T J []:=fun _ h=>by cases h
theorem StepsAt.cons {i:Nat} {rs:List Nat} (o:Oper) (ho:ops[i]? =some o)
 (h: ∀(u:Nat->Value) (W:World) (K':Act->World->Prop),J W->(∀j,waits o j=true->(T j).ok (u j) W)->
  Shut (∀v w',(T i).ok v w'->J w'->Below W.heap.size W w'->K' (A (upd u i v)) w')->
  if Region.wanted o (yielded ops (A u).tmps)=true then Oper.wp P o (A u) W K' Q else K' ((A u).put o.dst undef) W)
 (hs:StepsAt P ops Q A T J rs):StepsAt P ops Q A T J (i::rs):=fun j hj=>by
 rcases List.mem_cons.1 hj with rfl | hj
 {intro o' ho' u W hJ hd;rw[ho] at ho';obtain rfl:o=o':=Option.some.inj ho';exact wpOp_step ho (fun K' hK=>h u W K' hJ hd (fun v w' h1 h2 h3=>hK _ _ ⟨v,rfl,h1,h2,h3⟩))}
 {exact hs j hj}
end
def lowAfter (ops:Array Oper):Bool:=(List.range ops.size).all fun i=>((ops[i]?).map fun o=>o.after.all fun e=> !Region.binds .any e||decide (e.on < i)).getD true
theorem Z7s (h:lowAfter ops=true) {i:Nat} {o:Oper} (ho:ops[i]? =some o): ∀e∈o.after,Region.binds .any e=true->e.on < i:=by
 intro e he hb;have hi:i < ops.size:=by
  rcases Nat.lt_or_ge i ops.size with h | h
  {exact h}
  {rw[Array.getElem?_eq_none h] at ho; cases ho}
 have h1:=List.all_eq_true.1 h i (List.mem_range.2 hi);rw[ho] at h1;simp only[Option.map_some,Option.getD_some] at h1;have:=Array.all_eq_true_iff_forall_mem.1 h1 e he;rw[hb] at this;simpa using this
theorem Z2V (hl:lowAfter ops=true) (listed:Array Bool) (hr:Region.ready .any ops listed= []) (hsz:listed.size=ops.size):
 ∀n j,j < n->j < ops.size->listed.getD j false=true:=by
 intro n;induction n with
 | zero=>intro j hj; omega
 | succ n ih=>
  intro j hj hjs;by_cases hjn:j < n
  {exact ih j hjn hjs}
  {cases hlj:listed.getD j false with
   | true=>rfl
   | false=>
    have hmem:j∈Region.ready .any ops listed:=by
     refine mem_ready.2 ⟨?_,ops[j]'hjs,by simp[hjs],fun e he hb=> ?_⟩
     {have:j < listed.size:=by omega
      simp[this] at hlj ⊢;exact hlj}
     {have hlt:=Z7s hl (show ops[j]? =some (ops[j]'hjs) by simp[hjs]) e he hb;exact ih e.on (by omega) (by omega)}
    rw[hr] at hmem;cases hmem}
theorem Z75 (l:List Bool): ∀(i:Nat),l[i]? =some false->(l.set i true).count false+1=l.count false:=by
 induction l with
 | nil=>intro i h; simp at h
 | cons b l ih=>
  intro i h;cases i with
  | zero=>
   simp at h;subst h;simp
  | succ i=>
   simp at h;have:=ih i h;cases b <;> simp at this ⊢ <;> omega
theorem Z66 (l:List Bool) (h:l.count false=0) (j:Nat):l[j]? ≠some false:=by
 intro hj;have:=List.count_pos_iff.2 (List.mem_of_getElem? hj);omega
theorem ZcQ (A: (Nat->Value)->Act) (T:Nat->Want) (J:World->Prop) (hl:lowAfter ops=true)
 (hstep:StepsAt P ops Q A T J (List.range ops.size))
 (hdone: ∀u W,J W->(∀j,j < ops.size->(T j).ok (u j) W)->Q .normal (A u) W):
 ∀(fuel:Nat) (listed:Array Bool) (u:Nat->Value) (W:World),listed.size=ops.size->listed.toList.count false<=fuel->J W->
  (∀j,listed.getD j false=true->(T j).ok (u j) W)->wpAny P .any ops Q fuel listed (A u) W:=by
 intro fuel;induction fuel with
 | zero=>
  intro listed u W hsz hc hJ hd;have hr:Region.ready .any ops listed= []:=by
   refine List.eq_nil_iff_forall_not_mem.2 fun j hj=> ?_;obtain ⟨h1,o,ho,_⟩:=mem_ready.1 hj;have hjs:j < listed.size:=by
    rw[hsz];rcases Nat.lt_or_ge j ops.size with h | h
    {exact h}
    {rw[Array.getElem?_eq_none h] at ho; cases ho}
   refine Z66 listed.toList (by omega) j ?_;simp[hjs] at h1 ⊢;exact h1
  exact ⟨hr,hdone u W hJ fun j hj=>hd j (Z2V hl listed hr hsz (j+1) j (by omega) hj)⟩
 | succ fuel ih=>
  intro listed u W hsz hc hJ hd;refine ⟨fun hr=>hdone u W hJ fun j hj=>hd j (Z2V hl listed hr hsz (j+1) j (by omega) hj),fun i hi=> ?_⟩;obtain ⟨h1,o,ho,hall⟩:=mem_ready.1 hi;have his:i < ops.size:=by
   rcases Nat.lt_or_ge i ops.size with h | h
   {exact h}
   {rw[Array.getElem?_eq_none h] at ho; cases ho}
  have hil:i < listed.size:=by omega
  have hdep: ∀j,waits o j=true->(T j).ok (u j) W:=fun j hj=>by
   obtain ⟨e,he,hb⟩:=Array.any_eq_true'.1 hj;simp only[Bool.and_eq_true,beq_iff_eq] at hb;obtain ⟨hb,rfl⟩:=hb;exact hd e.on (hall e he hb)
  refine wpOp_mono (fun a' w' h=> ?_) (hstep i (List.mem_range.2 his) o ho u W hJ hdep);obtain ⟨v,rfl,hok,hJ',hb⟩:=h;refine ih _ _ _ (by simpa using hsz) ?_ hJ' fun j hj=> ?_
  {have h2:listed.toList[i]? =some false:=by simp[hil] at h1 ⊢; exact h1
   have:=Z75 listed.toList i h2;rw[Array.toList_setIfInBounds];omega}
  {by_cases hji:j=i
   {subst hji;rw[Z09];exact hok}
   {rw[Z06 u v hji];refine Want.mono hb (hd j ?_);rw[getD_set_ne false (Ne.symm hji)] at hj;exact hj}}
theorem Z76 {id:Nat} {w:World} {rs:List Nat} (A: (Nat->Value)->Act) (u0:Nat->Value) (T:Nat->Want) (J:World->Prop) (hm:P.follows .mixedOrders=true) (hl:lowAfter ops=true)
 (hrs:List.range ops.size=rs) (hJ:J w.drew) (hstep:StepsAt P ops Q A T J rs)
 (hdone: ∀u W,J W->(∀j,j < ops.size->(T j).ok (u j) W)->Q .normal (A u) W):
 (Code.region id ops true).wp P Q (A u0) w:=by
 subst hrs;refine wp_region_any hm (ZcQ A T J hl hstep hdone _ _ _ _ (by simp) ?_ hJ fun j hj=> ?_)
 {exact Nat.le_trans List.count_le_length (by simp)}
 {exfalso;rcases Nat.lt_or_ge j ops.size with h | h
  {simp[h] at hj}
  {simp[h] at hj}}
section
variable {o : Oper} {a : Act}
include o a
theorem Z02 {W W':World} {K':Act->World->Prop} {v:Value} {E:Prop} (hw:Region.wanted o (yielded ops a.tmps)=true)
 (hrun: (execOp a.eval o).run P W= .ok (.value v) W') (hK:K' (a.put o.dst v) W'):
 if Region.wanted o (yielded ops a.tmps)=true then Oper.wp P o a W K' Q else E:=by
 rw[if_pos hw,Oper.wp,hrun,Oper.upon_value];exact hK
theorem Y0 {W:World} {K':Act->World->Prop} {F:Value->Act} {T:Nat->Want} {J:World->Prop} {i:Nat} {E:Prop} {c:Value}
 (hK:Shut (∀v w',(T i).ok v w'->J w'->Below W.heap.size W w'->K' (F v) w')) (hJ:J W) (hT:T i=Want.val c) (hA:a.put o.dst c=F c)
 (hw:Region.wanted o (yielded ops a.tmps)=true) (hr: (execOp a.eval o).run P W= .ok (.value c) W):
 if Region.wanted o (yielded ops a.tmps)=true then Oper.wp P o a W K' Q else E:=
 Z02 (v:=c) (W':=W) hw hr (by rw[hA]; exact hK.out c W (by rw[hT]; rfl) hJ (Below.refl _ _))
theorem Z0M {W W':World} {K':Act->World->Prop} {f:FuncId} {args:Array Value} {E:Prop} (hw:Region.wanted o (yielded ops a.tmps)=true)
 (hrun: (execOp a.eval o).run P W= .ok (.enter f args) W') (hc:Calls P f args W' fun e w'=> ∃v,e= .returned v/\K' (a.put o.dst v) w'):
 if Region.wanted o (yielded ops a.tmps)=true then Oper.wp P o a W K' Q else E:=by
 rw[if_pos hw,Oper.wp,hrun,Oper.upon_enter];refine hc.mono fun e w' h=> ?_;obtain ⟨v,rfl,h⟩:=h;exact h
theorem Z0f {W:World} {K':Act->World->Prop} {E:Prop} (hw:Region.wanted o (yielded ops a.tmps)=false) (hE:E):
 if Region.wanted o (yielded ops a.tmps)=true then Oper.wp P o a W K' Q else E:=by
 rw[if_neg (by rw[hw]; simp)];exact hE
end
theorem Z3H {ρ:Operand->Value} {o:Oper} (x:Operand) (h:o.op= .move x) (w:World): (execOp ρ o).run P w= .ok (.value (ρ x)) w:=by
 unfold execOp; rw[h]; rfl
end
end Go.Proofs.YtkncdbaoaeeoiaaGreatDoor
