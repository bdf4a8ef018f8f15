/- What the proofs of ParseTypes want, part 5. -/
import Derived.RangeFuncFrom
import Derived.RangeFuncCalls
import Derived.Shelf.RegionOpen
import Derived.OwnWalkIn
import Derived.LoopNIn
import Derived.LoopIn
import Derived.Lib.Split
import Derived.Deep.OwnRows
import Derived.Test.YtgndehppmaacaaaGreatDoorK0n4
set_option linter.unusedVariables false
set_option linter.unusedSimpArgs false
set_option linter.unusedSectionVars false
set_option maxRecDepth 100000
set_option maxHeartbeats 16000000
namespace Go.Proofs.YtgndehppmaacaaaGreatDoor
section
open Go.RowKit
attribute [local go_sem] Oper.semAt_some
def SeqAt (W:World) (b:Nat) (s:List UInt8):Prop:=
 b+2 < W.heap.size/\W.cell? ⟨b,0,none⟩=some (.string ⟨s.toArray⟩)/\W.frozen? ⟨b,0,none⟩=false/\W.cell? ⟨b+1,0,none⟩=some (.string ⟨#[46]⟩)/\W.cell? ⟨b+2,0,none⟩=some (.int .i64 0)
theorem SeqAt.keep {W W':World} {b:Nat} {s:List UInt8} (h:SeqAt W b s) (a:Below (b+3) W W'):SeqAt W' b s:=by
 obtain ⟨c,d,e,f,g⟩:=h;exact ⟨Nat.lt_of_lt_of_le c a.size,(a.cell (p:=⟨b,0,none⟩) (by show b < b+3; omega)).trans d,(a.frozen (p:=⟨b,0,none⟩) (by show b < b+3; omega)).trans e,
  (a.cell (p:=⟨b+1,0,none⟩) (by show b+1 < b+3; omega)).trans f,(a.cell (p:=⟨b+2,0,none⟩) (by show b+2 < b+3; omega)).trans g⟩
theorem SeqAt.set {W:World} {b:Nat} {s t:List UInt8} (h:SeqAt W b s):SeqAt (W.setCell ⟨b,0,none⟩ (.string ⟨t.toArray⟩)) b t:=by
 obtain ⟨a,c,d,e,f⟩:=h;refine ⟨by rw[World.size_setCell]; exact a,World.cell?_setCell_same _ _ _ c,by rw[World.frozen?_setCell]; exact d, ?_, ?_⟩
 {refine (World.cell?_setCell_other _ _ _ _ ?_).trans e;intro h; have:=congrArg Addr.block h; simp at this}
 {refine (World.cell?_setCell_other _ _ _ _ ?_).trans f;intro h; have:=congrArg Addr.block h; simp at this}
section
variable (s : List UInt8)
include s
theorem ZnY (w:World):
 Calls Tryz.prog 243 #[.string ⟨s.toArray⟩,.string ⟨#[46]⟩] w fun e w'=>e= .returned (.func (.func 258) #[] #[.pointer (some ⟨w.heap.size+1,0,none⟩),.pointer (some ⟨w.heap.size,0,none⟩),.pointer (some ⟨w.heap.size+2,0,none⟩)])/\SeqAt w' w.heap.size s/\Below w.heap.size w w':=by
 have a: ∀w,Calls Tryz.prog 252 #[.string ⟨s.toArray⟩,.string ⟨#[46]⟩,.int .i64 0] w fun e w'=>e= .returned (.func (.func 258) #[] #[.pointer (some ⟨w.heap.size+1,0,none⟩),.pointer (some ⟨w.heap.size,0,none⟩),.pointer (some ⟨w.heap.size+2,0,none⟩)])/\SeqAt w' w.heap.size s/\Below w.heap.size w w':=by
  intro w;go_enter Tryz.func252,Tryz.ntmps252;go_wp2;go_ret;refine ⟨rfl,⟨by simp, ?_, ?_, ?_, ?_⟩,Z0h (Z0h (Z01 _ _) _) _⟩
  {simp[go_sem]}
  {simp[go_sem]}
  {simp[go_sem]}
  {simp[go_sem]}
 go_enter Tryz.func243,Tryz.ntmps243
 go_wp2_with (go_at_call 252; refine (a _).mono ?_; rintro e w' ⟨rfl,b,c⟩)
 go_ret;exact ⟨rfl,by assumption,by assumption⟩
theorem Zi9: (Lib.indexByte s 46= -1/\(Sem.cut 46 s).2.2=false)\/ ∃i:Nat,Lib.indexByte s 46=i/\i < s.length/\Sem.cut 46 s=(s.take i,s.drop (i+1),true):=by
 have h:=ZhJ 46 s;unfold Lib.cut at h;rw[Lib.index_one] at h;have d:=Lib.indexByte_ge s 46;by_cases e:Lib.indexByte s 46= -1
 {left;rw[if_neg (by omega)] at h;exact ⟨e,by rw[<-h]⟩}
 {right;rw[if_pos (by omega)] at h;refine ⟨(Lib.indexByte s 46).toNat,by omega, ?_,h.symm⟩;have b:=(Lib.indexByte_some (l:=s) (c:=46) (o:=(Lib.indexByte s 46).toNat) (by omega)).1;rcases Nat.lt_or_ge (Lib.indexByte s 46).toNat s.length with a | a
  {exact a}
  {rw[List.getElem?_eq_none a] at b; cases b}}
theorem Zeg (w:World):Calls Tryz.prog 242 #[.string ⟨s.toArray⟩,.string ⟨#[46]⟩] w fun e w'=>e= .returned (.int .i64 (Lib.indexByte s 46))/\w'=w:=
 Any.strings_Index_one Tryz.lays143 ⟨s.toArray⟩ 46 w
end
theorem ZnZ (n:Nat) (V:1<=n) (l b:Nat) (s:List UInt8) (S:s.length<=24) (J F:List (List UInt8)->World->Prop) (W:World)
 (t: ∀a x W,J a W->x.length<=24->YieldAt Fence.wide (n - 1) Tryz.prog l #[.string ⟨x.toArray⟩] W fun e W'=>
  (e= .returned (.bool true)/\J (a++ [x]) W'/\Below (b+3) W W')\/(e= .returned (.bool false)/\F (a++ [x]) W'))
 (N: ∀a W v,J a W->J a (W.setCell ⟨b,0,none⟩ v)) (G:SeqAt W b s) (M:J [] W):
 CallsIn Fence.wide n Tryz.prog 258 #[.func (.yield l) #[] #[],.pointer (some ⟨b+1,0,none⟩),.pointer (some ⟨b,0,none⟩),.pointer (some ⟨b+2,0,none⟩)] W fun e W'=>
  (∃v,e= .returned v)/\(J (Sem.parts s) W'\/ ∃a suf,a++suf=Sem.parts s/\F a W'):=by
 refine callsIn_of_wp Tryz.func258 rfl trivial ?_ rfl;simp only[Tryz.ntmps258,List.size_toArray,List.length_cons,List.length_nil,Nat.reduceAdd,Nat.reduceSub,Array.replicate_succ,Array.replicate_zero,List.push_toArray,List.append_toArray,List.nil_append,List.cons_append];have E:=Y1 G;obtain ⟨H,z,A,c1,c2⟩:=G
 gi_wp2_with fail
 gi_loopw [7] (fun i wr=> ∃(a:List (List UInt8)) (rest:List UInt8),rest.length<=24/\SeqAt wr b rest/\a++Sem.parts rest=Sem.parts s/\J a wr)
  (fun i wr=>match wr.cell? ⟨b,0,none⟩ with | some (.string x)=>x.size | _=>0)
 case atStart=>exact ⟨[],s,S,E.out,rfl,M⟩
 case round=>
  clear E H z A c1 c2;obtain ⟨a,rest,Q,p,f,g⟩:=hrel;have k:=Y1 p;have c:=Sem.Zmt rest;obtain ⟨H,z,A,c1,c2⟩:=p;rcases Zi9 rest with ⟨r,q⟩ | ⟨i,r,P,q⟩
  {rw[q,if_neg (by simp)] at c;have j:Hid (a++ [rest]=Sem.parts s):=Y1 (by rw[<-f,c]);have m:=fun w=>callsIn_wide (n:=n - 1).2 (Zeg rest w);rw[r] at m;obtain ⟨L,tmps,d,body,I,B⟩:=t a rest wr g Q;clear q r c f t g
   gi_wp2_with (refine ⟨trivial, ?_⟩; gi_at_call 242; refine (m _).mono ?_; rintro e w' ⟨rfl,rfl⟩)
   refine B.mono ?_;rintro e K (⟨rfl,hJ3,hk3⟩ | ⟨rfl,hJx3⟩)
   {gi_wp2
    go_end0
    exact ⟨⟨_,rfl⟩,Or.inl (by rw[<-j.out]; exact hJ3)⟩}
   {gi_wp2
    go_end0
    exact ⟨⟨_,rfl⟩,Or.inr ⟨_,[],(List.append_nil _).trans j.out,hJx3⟩⟩}}
  {rw[q,if_pos rfl] at c;have j:Hid ((a++ [rest.take i])++Sem.parts (rest.drop (i+1))=Sem.parts s):=Y1 (by rw[<-f,c]; simp);have m:=fun w=>callsIn_wide (n:=n - 1).2 (Zeg rest w);rw[r] at m;obtain ⟨L,tmps,d,body,I,B⟩:=t a (rest.take i) wr g (by rw[List.length_take]; omega);have ex: (⟨(rest.take i).toArray⟩:ByteArray)=(⟨rest.toArray⟩:ByteArray).extract 0 i:=by
    have:=ByteArray.extract_mk rest 0 i;simpa using this.symm
   rw[ex] at I;have D: (⟨rest.toArray⟩:ByteArray).size=rest.length:=Z0J _;have X:IntKind.i64.wrap ((i:Int)+1)=(i:Int)+1:=IntWalk.i64_in _ (by omega);have T: ∀W,(Instr.slice 9 (.string ⟨rest.toArray⟩) (some (.int .i64 ((i:Int)+1))) none none).run Tryz.prog W= .ok (.string ⟨(rest.drop (i+1)).toArray⟩) W:=fun W=>by
    have h:=Z8E ⟨rest.toArray⟩ (i+1) (by rw[D]; omega) W;exact h
   clear q r c f t
   gi_wp2_with (refine ⟨trivial, ?_⟩; gi_at_call 242; refine (m _).mono ?_; rintro e w' ⟨rfl,rfl⟩)
   refine B.mono ?_;rintro e K (⟨rfl,hJ3,hk3⟩ | ⟨rfl,hJx3⟩)
   {have o:=k.out.keep hk3;have y:=Y1 o;have u:=Y1 hJ3;obtain ⟨O,d0,g0,d1,U⟩:=o;have C:=d0;clear z A c1 c2 hk3 hJ3
    gi_wp2
    go_roundw
    case rel=>exact ⟨a++ [rest.take i],rest.drop (i+1),by rw[List.length_drop]; omega,y.out.set,j.out,N _ _ _ u.out⟩
    case measure=>
     rw[World.cell?_setCell_same _ _ _ C,k.out.2.1];show (⟨(rest.drop (i+1)).toArray⟩:ByteArray).size < (⟨rest.toArray⟩:ByteArray).size;rw[Z0J,Z0J,List.length_drop]; omega}
   {gi_wp2
    refine bodyPost_ret (results_none rfl _ _ _) rfl ?_;exact ⟨⟨_,rfl⟩,Or.inr ⟨_,_,j.out,hJx3⟩⟩}}
end
end Go.Proofs.YtgndehppmaacaaaGreatDoor
namespace Sem
def split:Nat->List UInt8->List (List UInt8)
 | 0,l=> [l]
 | k+1,l=>if (cut 46 l).2.2=true then (cut 46 l).1::split k (cut 46 l).2.1 else [l]
theorem Zhc {k:Nat} {l:List UInt8} (h: (cut 46 l).2.2=false):split k l= [l]:=by
 cases k with
 | zero=>rfl
 | succ k=>rw[split,if_neg (by rw[h]; simp)]
theorem Zgc {k:Nat} {l p q:List UInt8} (h:cut 46 l=(p,q,true)):split (k+1) l=p::split k q:=by
 rw[split,h,if_pos rfl]
theorem ZgN: ∀(k:Nat) (l:List UInt8),∀p∈split k l,p.length<=l.length
 | 0,l,p,a=>by simp[split] at a; rw[a]; omega
 | k+1,l,p,a=>by
  rw[split] at a;split at a
  {obtain ⟨b,c,_⟩:=ZhI 46 l;rcases List.mem_cons.1 a with rfl | a
   {exact b}
   {exact Nat.le_trans (ZgN k _ p a) c}}
  {simp at a; rw[a]; omega}
end Sem
namespace Go.Proofs.YtgndehppmaacaaaGreatDoor
open Go.RowKit
theorem Zk3: (Tryz.prog.info? 9).map (fun i=>(i.zero,i.size,i.bytes))=some (some (.string ByteArray.empty),1,16):=by kernel_rfl
theorem Ziy (s:List UInt8) (L:s.length<=4611686018427387904) (N:Nat) (g: (N:Int)=min 4 ((s.length:Int)+1)) (w:World):
 Calls Tryz.prog 233 #[.string ⟨s.toArray⟩,.string ⟨#[46]⟩,.int .i64 0,.int .i64 4] w fun e w'=>
  e= .returned (.slice (some ⟨w.heap.size,0,none⟩) (Sem.split (N - 1) s).length N)/\w'=w.alloc (.cells (Lib.cellsOf (strs (Sem.split (N - 1) s)) N) 9):=by
 have F: (⟨s.toArray⟩:ByteArray).size=s.length:=Z0J _;have I:min (4:Int) ((s.length:Int)+1)=(N:Int):=g.symm;have B: (N:Int)<=(s.length:Int)+1:=by rw[g]; exact Int.min_le_right _ _
 have A: (N:Int)<=4:=by rw[g]; exact Int.min_le_left _ _
 have z: (1:Int)<=(N:Int):=by rw[g]; exact Int.le_min.2 ⟨by omega,by omega⟩
 have p:=run_make_row' (P:=Tryz.prog) 25 9 (.string ByteArray.empty) 16 Tryz.underlying25 Zk3 rfl .i64 .i64 N (by omega) (by omega);clear g;go_enter Tryz.func233,Tryz.ntmps233
 go_wp2_with fail
 clear p
 go_loopw [0,10] (fun a i wr=> ∃(done:List (List UInt8)) (rest:List UInt8),a= .string ⟨rest.toArray⟩/\i= .int .i64 done.length/\done.length<=N - 1/\rest.length<=s.length/\
  wr=w.alloc (.cells (Lib.cellsOf (strs done) N) 9)/\Hid (done++Sem.split (N - 1 - done.length) rest=Sem.split (N - 1) s))
  (fun _ i _=>N - (intOf i).toNat)
 case atStart=>exact ⟨[],s,rfl,rfl,Nat.zero_le _,Nat.le_refl _,by rw[show strs []= [] from rfl,Lib.cellsOf_nil],Y1 (by simp)⟩
 case round=>
  obtain ⟨done,rest,rfl,rfl,J,K,rfl,u⟩:=hrel;have c: (strs done).length=done.length:=by simp[strs]
  have q: (Lib.cellsOf (strs done) N)[done.length]? =some (.string ByteArray.empty):=by rw[<-c]; exact Lib.cellsOf_next (by omega)
  have fin: ∀x:List UInt8,Sem.split (N - 1 - done.length) rest= [x]->(Sem.split (N - 1) s).length=done.length+1/\(Lib.cellsOf (strs done) N).setIfInBounds done.length (.string ⟨x.toArray⟩)=Lib.cellsOf (strs (Sem.split (N - 1) s)) N:=fun x h=>by
   rw[<-u.out,h];refine ⟨by simp, ?_⟩;have:=Lib.cellsOf_set (done:=strs done) (N:=N) (by omega) ⟨x.toArray⟩;rw[c] at this;rw[this]; simp[strs]
  have r: (⟨rest.toArray⟩:ByteArray).size=rest.length:=Z0J _;by_cases D:done.length < N - 1
  {have l: ((done.length:Nat):Int) < (N:Int) - 1:=by omega
   have m:=fun w=>Zeg rest w;rcases Zi9 rest with ⟨k,j⟩ | ⟨i,k,C,j⟩
   {rw[k] at m;obtain ⟨d,f⟩:=fin rest (Sem.Zhc j);have n:=Y1 d;have o:=Y1 f;clear k j fin d f
    go_wp2_with (go_at_call 242; refine (m _).mono ?_; rintro e w' ⟨rfl,t⟩; rw[t])
    go_ret;rw[n.out, <-o.out];exact ⟨rfl,rfl⟩}
   {rw[k] at m;have v:Hid ((done++ [rest.take i])++Sem.split (N - 1 - (done.length+1)) (rest.drop (i+1))=Sem.split (N - 1) s):=Y1 (by
     rw[<-u.out,show N - 1 - done.length=(N - 1 - (done.length+1))+1 from by omega,Sem.Zgc j]; simp)
    have ex: (⟨rest.toArray⟩:ByteArray).extract 0 i=⟨(rest.take i).toArray⟩:=by
     have:=ByteArray.extract_mk rest 0 i;simpa using this
    have b: (Lib.cellsOf (strs done) N).setIfInBounds done.length (.string ⟨(rest.take i).toArray⟩)=Lib.cellsOf (strs (done++ [rest.take i])) N:=by
     have:=Lib.cellsOf_set (done:=strs done) (N:=N) (by omega) ⟨(rest.take i).toArray⟩;rw[c] at this;rw[this]; simp[strs]
    have H:IntKind.i64.wrap ((i:Int)+1)=(i:Int)+1:=IntWalk.i64_in _ (by omega);have G:IntKind.i64.wrap ((i:Int)+0)=(i:Int)+0:=IntWalk.i64_in _ (by omega);have E: ∀W,(Instr.slice 9 (.string ⟨rest.toArray⟩) (some (.int .i64 ((i:Int)+1))) none none).run Tryz.prog W= .ok (.string ⟨(rest.drop (i+1)).toArray⟩) W:=fun W=>by
     have h:=Z8E ⟨rest.toArray⟩ (i+1) (by rw[r]; omega) W;exact h
    have y:=Y1 b;clear k j fin b
    go_wp2_with (go_at_call 242; refine (m _).mono ?_; rintro e w' ⟨rfl,t⟩; rw[t])
    go_roundw
    case rel=>exact ⟨done++ [rest.take i],rest.drop (i+1),rfl,by simp,by simp; omega,by rw[List.length_drop]; omega,by rw[<-y.out],by rw[List.length_append]; exact v⟩
    case measure=>simp[intOf]; omega}}
  {have l: ¬(((done.length:Nat):Int) < (N:Int) - 1):=by omega
   obtain ⟨d,f⟩:=fin rest (by rw[show N - 1 - done.length=0 from by omega]; rfl);have n:=Y1 d;have o:=Y1 f;clear fin d f;go_wp2;go_ret;rw[n.out, <-o.out];exact ⟨rfl,rfl⟩}
theorem Zlj (w:World) (ps:List (List UInt8)) (N:Nat):Strs (w.alloc (.cells (Lib.cellsOf (strs ps) N) 9)) (w.alloc (.cells (Lib.cellsOf (strs ps) N) 9)).heap.size (some ⟨w.heap.size,0,none⟩) (strs ps):=by
 refine Or.inr ⟨w.heap.size,0,rfl,by simp,fun i hi=> ?_⟩;have a: (Lib.cellsOf (strs ps) N)[i]? =some (.string ((strs ps)[i]'hi)):=by
  unfold Lib.cellsOf;simp[List.getElem?_append_left,hi]
 rw[Nat.zero_add];simp[go_sem,a]
theorem Zk4 (s:List UInt8) (f:s.length<=4611686018427387904) (w:World):
 Calls Tryz.prog 218 #[.string ⟨s.toArray⟩,.string ⟨#[46]⟩,.int .i64 4] w fun e w'=> ∃g N,e= .returned (.slice (some ⟨g,0,none⟩) (Sem.split (min 3 s.length) s).length N)/\
  Strs w' w'.heap.size (some ⟨g,0,none⟩) (strs (Sem.split (min 3 s.length) s))/\Below w.heap.size w w':=by
 have c:=Ziy s f (min 4 (s.length+1)) (by omega);rw[show min 4 (s.length+1) - 1=min 3 s.length from by omega] at c;go_enter Tryz.func218,Tryz.ntmps218
 go_wp2_with fail
 refine (c _).mono ?_;rintro e w' ⟨rfl,a⟩;have b:=Zlj w (Sem.split (min 3 s.length) s) (min 4 (s.length+1));rw[<-a] at b;have d:Below w.heap.size w w':=by rw[a]; exact Z01 _ _
 clear a;go_wp2;go_ret;exact ⟨_,_,rfl,b,d⟩
end Go.Proofs.YtgndehppmaacaaaGreatDoor
namespace Sem
section
theorem Zo0 (l:List UInt8) (c:UInt8):num (l++ [c])=10 * num l+(c.toNat - 48):=by
 unfold num; rw[List.foldl_append]; rfl
theorem ZkJ: ∀n:Nat,num (dec n)=n:=by
 intro n;induction n using Nat.strongRecOn with
 | ind n ih=>
  by_cases h:n < 10
  {rw[Z27 h];simp[num]; omega}
  {have e: (UInt8.ofNat (48+n % 10)).toNat=48+n % 10:=by simp; omega
   rw[Z34 h,Zo0,ih _ (by omega),e];omega}
theorem ZhK: ∀(l:List UInt8) (acc:Nat),(∀c∈l,48<=c.toNat/\c.toNat<=57)->acc * 10 ^ l.length+num l < 1000000000000000000->Go.Lib.parseUint10 acc l= .ok (acc * 10 ^ l.length+num l)
 | [],acc,_,_=>by simp[Go.Lib.parseUint10,num]
 | c::r,acc,hd,hb=>by
  have a:=hd c (by simp);have g:=Zbg r (10 * acc+(c.toNat - 48));have e:acc * 10 ^ (c::r).length+num (c::r)=(acc * 10+(c.toNat - 48)) * 10 ^ r.length+num r:=by
   rw[Z2m,List.length_cons,Nat.pow_succ,Nat.add_mul, <-Nat.add_assoc];congr 2;rw[Nat.mul_assoc,Nat.mul_comm 10 (10 ^ r.length)]
  have f:1<=10 ^ r.length:=Nat.one_le_pow _ _ (by omega);have b:acc * 10+(c.toNat - 48) < 1000000000000000000:=by
   have: (acc * 10+(c.toNat - 48)) * 1<=(acc * 10+(c.toNat - 48)) * 10 ^ r.length:=Nat.mul_le_mul_left _ f;omega
  rw[Go.Lib.parseUint10,if_pos a,if_neg (by omega),if_neg (by omega),ZhK r _ (fun d h=>hd d (by simp[h])) (by omega),e]
theorem ZgZ (n:Nat) (h:n<=999999):Go.Lib.atoiAll (dec n)= .ok (n:Int):=by
 have b:=Z48 n;have d:Go.Lib.parseMag (dec n)= .ok n:=by
  unfold Go.Lib.parseMag;rw[if_neg (Z4L n),ZhK (dec n) 0 b (by rw[ZkJ]; omega),ZkJ]; simp
 rcases a:dec n with _ | ⟨c,r⟩
 {exact absurd a (Z4L n)}
 {have e:=b c (by rw[a]; simp);rw[a] at d;rw[Go.Lib.atoiAll_plain c r (by omega) (by omega),d];show (if 9223372036854775808<=n then Go.Lib.NumEnd.range else .ok (n:Int))=_;rw[if_neg (by omega)]}
def coreText (v:Ver):List UInt8:=dec v.maj.toNat++46::(dec v.min.toNat++46::dec v.pat.toNat)
theorem Zmw (v:Ver):text v=coreText v++if v.pre= [] then [] else 45::v.pre:=by
 simp[text,coreText]
theorem ZeL (n:Nat) {x:UInt8} (b:x.toNat < 48): ∀d∈dec n,d≠x:=by
 rintro d a rfl;have:=Z48 n d a;omega
theorem ZgO (v:Ver): ∀d∈coreText v,d≠45:=by
 intro d a;unfold coreText at a;rcases List.mem_append.1 a with h | h
 {exact ZeL _ (by decide) d h}
 {rcases List.mem_cons.1 h with rfl | h
  {decide}
  {rcases List.mem_append.1 h with h | h
   {exact ZeL _ (by decide) d h}
   {rcases List.mem_cons.1 h with rfl | h
    {decide}
    {exact ZeL _ (by decide) d h}}}}
theorem Zo1 (v:Ver): (cut 45 (text v)).1=coreText v/\(cut 45 (text v)).2.1=v.pre:=by
 rw[Zmw];by_cases h:v.pre= []
 {rw[if_pos h,List.append_nil,Zj7 (ZgO v),h]; exact ⟨rfl,rfl⟩}
 {rw[if_neg h,Zhb _ (ZgO v)]; exact ⟨rfl,rfl⟩}
theorem Zlk (v:Ver):split (min 3 (coreText v).length) (coreText v)= [dec v.maj.toNat,dec v.min.toNat,dec v.pat.toNat]:=by
 have b:1<=(dec v.maj.toNat).length:=List.length_pos_iff.2 (Z4L _);have a:min 3 (coreText v).length=3:=by unfold coreText; simp; omega
 rw[a];unfold coreText;rw[Zgc (Zhb _ (ZeL _ (by decide))),Zgc (Zhb _ (ZeL _ (by decide))),Zhc (by rw[Zj7 (ZeL _ (by decide))])]
section
variable {l : List UInt8}
include l
theorem ZeP {u:Ver} (h:parse l=some u):
 split (min 3 (cut 45 l).1.length) (cut 45 l).1= [dec u.maj.toNat,dec u.min.toNat,dec u.pat.toNat]/\(cut 45 l).2.1=u.pre/\
 Go.Lib.atoiAll (dec u.maj.toNat)= .ok u.maj/\Go.Lib.atoiAll (dec u.min.toNat)= .ok u.min/\Go.Lib.atoiAll (dec u.pat.toNat)= .ok u.pat:=by
 obtain ⟨c,f⟩:=Z8A h;obtain ⟨a,b⟩:=Zo1 u;rw[f] at a b;rw[a];rw[Z33] at c;obtain ⟨⟨d,g⟩,⟨e,i⟩,⟨c1,c2⟩,_⟩:=c;refine ⟨Zlk u,b, ?_, ?_, ?_⟩
 {rw[ZgZ _ (by omega),Int.toNat_of_nonneg d]}
 {rw[ZgZ _ (by omega),Int.toNat_of_nonneg e]}
 {rw[ZgZ _ (by omega),Int.toNat_of_nonneg c1]}
theorem Zll {p0 p1 p2:List UInt8} {x0 x1 x2:Int} (i:split (min 3 (cut 45 l).1.length) (cut 45 l).1= [p0,p1,p2])
 (e:Go.Lib.atoiAll p0= .ok x0) (f:Go.Lib.atoiAll p1= .ok x1) (g:Go.Lib.atoiAll p2= .ok x2):
 parse l=if may ⟨x0,x1,x2,(cut 45 l).2.1⟩=true/\text ⟨x0,x1,x2,(cut 45 l).2.1⟩=l then some ⟨x0,x1,x2,(cut 45 l).2.1⟩ else none:=by
 by_cases h:may ⟨x0,x1,x2,(cut 45 l).2.1⟩=true/\text ⟨x0,x1,x2,(cut 45 l).2.1⟩=l
 {rw[if_pos h];have:=Z8z h.1
  rwa [h.2] at this}
 {rw[if_neg h];rcases b:parse l with _ | u
  {rfl}
  {exfalso;apply h;obtain ⟨a,q1,q2,q3,c⟩:=ZeP b;rw[i] at a;simp only[List.cons.injEq,and_true] at a;obtain ⟨rfl,rfl,rfl⟩:=a;have e0:x0=u.maj:=by rw[e] at q2; injection q2
   have e1:x1=u.min:=by rw[f] at q3; injection q3
   have d:x2=u.pat:=by rw[g] at c; injection c
   rw[q1,e0,e1,d];exact Z8A b}}
theorem Zk5 (h: (split (min 3 (cut 45 l).1.length) (cut 45 l).1).length≠3):parse l=none:=by
 rcases a:parse l with _ | u
 {rfl}
 {rw[(ZeP a).1] at h; exact absurd rfl h}
theorem Zmx {p0 p1 p2:List UInt8} (c:split (min 3 (cut 45 l).1.length) (cut 45 l).1= [p0,p1,p2])
 (h: (∀x,Go.Lib.atoiAll p0≠ .ok x)\/(∀x,Go.Lib.atoiAll p1≠ .ok x)\/(∀x,Go.Lib.atoiAll p2≠ .ok x)):parse l=none:=by
 rcases b:parse l with _ | u
 {rfl}
 {obtain ⟨a,_,d,e,f⟩:=ZeP b;rw[c] at a;simp only[List.cons.injEq,and_true] at a;obtain ⟨rfl,rfl,rfl⟩:=a;rcases h with h | h | h
  {exact absurd d (h _)}
  {exact absurd e (h _)}
  {exact absurd f (h _)}}
end
end
end Sem
namespace Go.Proofs.YtgndehppmaacaaaGreatDoor
section
open Go.RowKit
section
variable (x : List UInt8) (hx : x.length <= 140737488355328)
include x hx
theorem Zgt (v:Int) (h:Lib.atoiAll x= .ok v) (w:World):
 Y9 195 #[.string ⟨x.toArray⟩] w (.tuple #[.int .i64 v,.nilIface]):=by
 have a:=Any.strconv_Atoi_ok Tryz.lays172 ⟨x.toArray⟩ (by rw[Z0J]; omega) v h w;refine Calls.mono a ?_;rintro e w' ⟨rfl,b⟩;refine ⟨rfl, ?_⟩;rcases b with rfl | ⟨t,rfl⟩
 {exact Below.refl _ _}
 {exact Lib.bytesWorld_below _ _ _}
theorem Zh0 (h: ∀v,Lib.atoiAll x≠ .ok v) (w:World) (f:Globs w):
 Calls Tryz.prog 195 #[.string ⟨x.toArray⟩] w fun e w'=> ∃z N,e= .returned (.tuple #[.int .i64 z,.iface 195 (.pointer (some ⟨N,0,none⟩))])/\Below w.heap.size w w':=by
 obtain ⟨j,pe,g⟩:=f.syn;obtain ⟨d,pe',i⟩:=f.rng;rcases a:Lib.atoiAll x with v | _ | _
 {exact absurd a (h v)}
 {have c:=Any.strconv_Atoi_syntax Tryz.lays172 ⟨x.toArray⟩ (by rw[Z0J]; omega) a _ w g (Or.inr ⟨j,pe,rfl⟩);refine Calls.mono c ?_;rintro e w' ⟨N,rfl,_,_,b⟩;exact ⟨_,N,rfl,b⟩}
 {have c:=Any.strconv_Atoi_range Tryz.lays172 ⟨x.toArray⟩ (by rw[Z0J]; omega) a _ w i (Or.inr ⟨d,pe',rfl⟩);refine Calls.mono c ?_;rintro e w' ⟨N,rfl,_,_,b⟩;exact ⟨_,N,rfl,b⟩}
theorem ZfG (w:World):
 Y9 152 #[.string ⟨x.toArray⟩] w (.string ⟨x.toArray⟩):=by
 have b: ∀w,Y9 182 #[.string ⟨x.toArray⟩] w (.string ⟨x.toArray⟩):=fun w=>
  Any.stringslite_Clone Tryz.laysM316 ⟨x.toArray⟩ w (by rw[Z0J]; omega)
 go_enter Tryz.func152,Tryz.ntmps152
 go_wp2_with fail
 refine (b _).mono ?_;rintro e w' ⟨rfl,a⟩;go_wp2;go_ret;exact ⟨rfl,a⟩
end
end
section
open Go.RowKit Tms
open Shp (Sh)
open Pso (St)
open Prs (sign)
theorem Zhd (bp:Nat) (A:Option Addr) (c:Nat) (l:List Tk) (σ:St) (r:l.length<=1000000) (m:σ.1 < l.length) (n: (Prs.look l σ.1).t.text.length<=1000000) (w:World) (h:PAt w bp A c l σ):
 Calls Tryz.prog 121 #[.pointer (some ⟨bp,0,none⟩)] w fun e w'=>e= .returned (.string ⟨(Prs.look l σ.1).t.text.toArray⟩)/\PAt w' bp A c l (σ.1+1,σ.2)/\UpT [bp] w w':=by
 obtain ⟨i,f⟩:=σ;simp only at m n ⊢;have j:=Y1 (Zdu bp A c l (i,f) r (by simpa using Nat.le_of_lt m) w h);simp only at j;obtain ⟨x,o⟩: ∃x,x=Prs.look l i:=⟨_,rfl⟩;rw[<-o] at j n ⊢;have p:=Y1 h;have q:=Zp9 x.t.kind ⟨x.t.text.toArray⟩ x.at_;clear h o;go_enter Tryz.func121,Tryz.ntmps121
 go_wp2_with fail
 refine j.out.mono ?_;rintro e t ⟨rfl,g⟩;have b:=Y1 g;clear g j
 go_wp2_with fail
 refine (ZfG x.t.text (by omega) t).mono ?_;rintro e v ⟨rfl,d⟩;have k:=Y1 (Z03 b.out d);have a:=Y1 ((p.out.below b.out).below d);have s:=a.out.lt;have c1:=a.out.c1;have u:=a.out.fz 1;simp only at c1;clear d b;go_wp2;go_ret;exact ⟨rfl,a.out.turn1 _,(ZcF k.out).set _ (Or.inr (by simp)) _⟩
def wants (l:List Tk) (σ:St) (ws:List (List UInt8)):List UInt8×St:=if signs l σ.1 ws=true then ((Prs.look l σ.1).t.text,(σ.1+1,σ.2)) else ([],Pso.misfit l σ)
theorem Zo2 {l:List Tk} {i:Nat} {a:List (List UInt8)} (h:signs l i a=true):i < l.length:=by
 unfold signs at h;simp only[Bool.and_eq_true,Bool.or_eq_true,decide_eq_true_eq] at h;exact Pso.kind_lt (by rcases h.1 with e | e <;> rw[e] <;> decide)
theorem Zmy (l:List Tk) (σ:St) (s:List UInt8): (wants l σ [s]).2=Pso.want l σ s:=by
 unfold wants Pso.want;rw[Zga];split <;> rfl
section
variable (bp : Nat) (A : Option Addr) (c : Nat) (l : List Tk) (σ : St)
include bp A c l σ
theorem Zlm (B:Nat) (o:Option Addr) (p:Nat) (f:List (List UInt8)) (q:l.length<=1000000) (z:σ.1<=l.length) (E: ∀b∈l,b.t.text.length<=1000000) (s:f.length<=1000000) (w:World) (h:PAt w bp A c l σ) (C:Row w B 9 1 cN o p f):
 Calls Tryz.prog 86 #[.pointer (some ⟨bp,0,none⟩),.slice o f.length p] w fun e w'=>e= .returned (.string ⟨(wants l σ f).1.toArray⟩)/\PAt w' bp A c l (wants l σ f).2/\UpT [bp] w w':=by
 have u:Hid (wants l σ f=if signs l σ.1 f=true then ((Prs.look l σ.1).t.text,(σ.1+1,σ.2)) else ([],Pso.misfit l σ)):=Y1 rfl;have m:=Y1 (Zgb bp A c l σ B o p f q z s w h C);rw[u.out];have v:=Y1 h;clear h C u;cases r:signs l σ.1 f
 {rw[r] at m;go_enter Tryz.func86,Tryz.ntmps86
  go_wp2_with fail
  refine m.out.mono ?_;rintro e t ⟨rfl,a⟩;have g:=Y1 (v.out.below a);have j:=Y1 (ZcF (F:= [bp]) a);clear a m
  go_wp2_with fail
  refine (Zev bp A c l σ q z t g.out).mono ?_;rintro e G ⟨rfl,hp2,d⟩;have i:=Y1 hp2;have k:=Y1 d;clear hp2 d;go_wp2;go_ret;exact ⟨rfl,by simpa using i.out,j.out.trans k.out⟩}
 {rw[r] at m;have n:=Zo2 r;have y:=Y1 (fun (w:World) (h:PAt w bp A c l σ)=>Zhd bp A c l σ q n (by rw[Prs.look_in n]; exact E _ (List.getElem_mem _)) w h);obtain ⟨x,D⟩: ∃x,x=Prs.look l σ.1:=⟨_,rfl⟩;rw[<-D] at y ⊢;clear D;go_enter Tryz.func86,Tryz.ntmps86
  go_wp2_with fail
  refine m.out.mono ?_;rintro e t ⟨rfl,a⟩;have g:=Y1 (v.out.below a);have j:=Y1 (ZcF (F:= [bp]) a);clear a m
  go_wp2_with fail
  refine (y.out t g.out).mono ?_;rintro e G ⟨rfl,hp2,d⟩;have i:=Y1 hp2;have k:=Y1 d;clear hp2 d;go_wp2;go_ret;exact ⟨rfl,by simpa using i.out,j.out.trans k.out⟩}
theorem ZcJ (s:List UInt8) (f:l.length<=1000000) (d:σ.1<=l.length) (w:World) (h:PAt w bp A c l σ) {b:Nat} (hb:b=w.heap.size:=by first | rfl | simp | omega):
 Calls Tryz.prog 86 #[.pointer (some ⟨bp,0,none⟩),.slice (some ⟨b,0,none⟩) 1 1] (w.alloc (.cells #[.string ⟨s.toArray⟩] 9)) fun e w'=> ∃v,e= .returned (.string v)/\PAt w' bp A c l (Pso.want l σ s)/\UpT [bp] w w':=by
 subst hb;have a:=Zlm bp A c l σ w.heap.size (some ⟨w.heap.size,0,none⟩) 1 [s] f d h.tx (by simp) _ (h.alloc (.cells #[.string ⟨s.toArray⟩] 9)) (ZgY w s);rw[Zmy] at a;refine a.mono ?_;rintro e w' ⟨rfl,g,i⟩;exact ⟨_,rfl,g,(ZcF (F:= [bp]) (Z01 w _)).trans i⟩
theorem Zew (k:Int) (D:k≠0) (t:Nat) (N: ∀args W,(callFunc t args).run Tryz.prog W= .ok (.enter t args) W) (r:List UInt8->Bool) (v:l.length<=1000000) (C:σ.1<=l.length) (P: ∀b∈l,b.t.text.length<=1000000) (w:World) (h:PAt w bp A c l σ)
 (H: ∀W,Below w.heap.size w W->(Prs.look l σ.1).t.kind=k->Y9 t #[.string ⟨(Prs.look l σ.1).t.text.toArray⟩] W (.bool (r (Prs.look l σ.1).t.text))):
 Calls Tryz.prog 93 #[.pointer (some ⟨bp,0,none⟩),.int .i64 k,.func (.func t) #[] #[]] w fun e w'=>e= .returned (.string ⟨(Pso.textOf l σ k r).1.toArray⟩)/\PAt w' bp A c l (Pso.textOf l σ k r).2/\UpT [bp] w w':=by
 have q:=Y1 (Zdu bp A c l σ v C w h);have F:Hid (Pso.textOf l σ k r=if (decide ((Prs.look l σ.1).t.kind=k)&&r (Prs.look l σ.1).t.text)=true then ((Prs.look l σ.1).t.text,(σ.1+1,σ.2)) else ([],Pso.misfit l σ)):=Y1 rfl;have s:Hid ((Prs.look l σ.1).t.kind=k->σ.1 < l.length/\(Prs.look l σ.1).t.text.length<=1000000):=Y1 (fun e=>by
  have j:=Pso.kind_lt (l:=l) (i:=σ.1) (by rw[e]; exact D);exact ⟨j,by rw[Prs.look_in j]; exact P _ (List.getElem_mem _)⟩)
 rw[F.out];have G:=Y1 (fun (w:World) (h:PAt w bp A c l σ) (j:σ.1 < l.length) (u: (Prs.look l σ.1).t.text.length<=1000000)=>Zhd bp A c l σ v j u w h);have y:=Y1 H;have z:=Y1 h;obtain ⟨x,I⟩: ∃x,x=Prs.look l σ.1:=⟨_,rfl⟩;rw[<-I] at q G y s ⊢;clear h H F I;by_cases j:x.t.kind=k
 {have B:decide (x.t.kind=k)=true:=decide_eq_true j;rw[B,Bool.true_and];have O: (x.t.kind !=k)=false:=by simpa using j
  cases u:r x.t.text
  {go_enter Tryz.func93,Tryz.ntmps93
   go_wp2_with fail
   refine q.out.mono ?_;rintro e J ⟨rfl,f⟩;have a:=Y1 (Z0h f (.cells #[.int .i64 x.t.kind,.string ⟨x.t.text.toArray⟩,.int .i64 x.at_] 46));clear f q
   go_wp2_with fail
   have d:=a.out;rw[j] at d;refine (y.out _ (by first | exact d | exact a.out) j).mono ?_;rintro e E ⟨rfl,p⟩;rw[u];have m:=Y1 (Z03 d p);clear p a d
   go_wp2_with fail
   refine (Zev bp A c l σ v C E (z.out.below m.out)).mono ?_;rintro e K ⟨rfl,hp3,g⟩;have n:=Y1 hp3;have o:=Y1 g;clear hp3 g;go_wp2;go_ret;exact ⟨rfl,by simpa using n.out,(ZcF m.out).trans o.out⟩}
  {obtain ⟨L,M⟩:=s.out j;go_enter Tryz.func93,Tryz.ntmps93
   go_wp2_with fail
   refine q.out.mono ?_;rintro e J ⟨rfl,f⟩;have a:=Y1 (Z0h f (.cells #[.int .i64 x.t.kind,.string ⟨x.t.text.toArray⟩,.int .i64 x.at_] 46));clear f q
   go_wp2_with fail
   have d:=a.out;rw[j] at d;refine (y.out _ (by first | exact d | exact a.out) j).mono ?_;rintro e E ⟨rfl,p⟩;rw[u];have m:=Y1 (Z03 d p);clear p a d
   go_wp2_with fail
   refine (G.out E (z.out.below m.out) L M).mono ?_;rintro e K ⟨rfl,hp3,g⟩;have n:=Y1 hp3;have o:=Y1 g;clear hp3 g;go_wp2;go_ret;exact ⟨rfl,by simpa using n.out,(ZcF m.out).trans o.out⟩}}
 {have B:decide (x.t.kind=k)=false:=decide_eq_false j;rw[B,Bool.false_and];have O: (x.t.kind !=k)=true:=by simpa using j
  go_enter Tryz.func93,Tryz.ntmps93
  go_wp2_with fail
  refine q.out.mono ?_;rintro e J ⟨rfl,f⟩;have a:=Y1 (Z0h f (.cells #[.int .i64 x.t.kind,.string ⟨x.t.text.toArray⟩,.int .i64 x.at_] 46));clear f q
  go_wp2_with fail
  refine (Zev bp A c l σ v C _ (z.out.below a.out)).mono ?_;rintro e K ⟨rfl,hp3,g⟩;have n:=Y1 hp3;have o:=Y1 g;clear hp3 g;go_wp2;go_ret;exact ⟨rfl,by simpa using n.out,(ZcF a.out).trans o.out⟩}
theorem Zdk (p:l.length<=1000000) (o:σ.1<=l.length) (k: ∀b∈l,b.t.text.length<=1000000) (w:World) (h:PAt w bp A c l σ):
 Calls Tryz.prog 91 #[.pointer (some ⟨bp,0,none⟩)] w fun e w'=>e= .returned (.string ⟨(Pso.name l σ).1.toArray⟩)/\PAt w' bp A c l (Pso.name l σ).2/\UpT [bp] w w':=by
 have m:Hid (Pso.name l σ=Pso.textOf l σ 1 Lex.isName):=Y1 rfl;rw[m.out];have n:=Y1 (Zew bp A c l σ 1 (by decide) 123 (enters_of Tryz.func123 (by kernel_rfl) rfl) Lex.isName p o k w h (fun W hW hk=>(Z2i _ (by
  have j:=Pso.kind_lt (l:=l) (i:=σ.1) (by rw[hk]; decide);rw[Prs.look_in j]; have:=k _ (List.getElem_mem j); omega) W).mono (fun e w' h=>⟨h.1,h.2▸Below.refl _ _⟩)))
 clear h;go_enter Tryz.func91,Tryz.ntmps91
 go_wp2_with fail
 refine n.out.mono ?_;rintro e q ⟨rfl,a,d⟩;have f:=Y1 a;have g:=Y1 d;clear a d;go_wp2;go_ret;exact ⟨rfl,f.out,g.out⟩
theorem Zex (p:l.length<=1000000) (o:σ.1<=l.length) (k: ∀b∈l,b.t.text.length<=1000000) (w:World) (h:PAt w bp A c l σ):
 Calls Tryz.prog 50 #[.pointer (some ⟨bp,0,none⟩)] w fun e w'=>e= .returned (.string ⟨(Pso.upperN l σ).1.toArray⟩)/\PAt w' bp A c l (Pso.upperN l σ).2/\UpT [bp] w w':=by
 have m:Hid (Pso.upperN l σ=Pso.textOf l σ 2 Lex.isUpper):=Y1 rfl;rw[m.out];have n:=Y1 (Zew bp A c l σ 2 (by decide) 94 (enters_of Tryz.func94 (by kernel_rfl) rfl) Lex.isUpper p o k w h (fun W hW hk=>(Z4l _ (by
  have j:=Pso.kind_lt (l:=l) (i:=σ.1) (by rw[hk]; decide);rw[Prs.look_in j]; have:=k _ (List.getElem_mem j); omega) W).mono (fun e w' h=>⟨h.1,h.2▸Below.refl _ _⟩)))
 clear h;go_enter Tryz.func50,Tryz.ntmps50
 go_wp2_with fail
 refine n.out.mono ?_;rintro e q ⟨rfl,a,d⟩;have f:=Y1 a;have g:=Y1 d;clear a d;go_wp2;go_ret;exact ⟨rfl,f.out,g.out⟩
end
def anoth (l:List Tk) (σ:St) (ns:List (List UInt8)) (r:List UInt8×St):St:=if ns.contains r.1=true then Pso.fail l r.2 111 (Prs.look l σ.1).at_ else r.2
section
variable (bp : Nat) (A : Option Addr) (c : Nat) (l : List Tk) (σ : St) (B : Nat) (AN : Option Addr) (cn : Nat) (ns : List (List UInt8))
include bp A c l σ B AN cn ns
theorem Zln (z:Nat) (O: ∀args W,(callFunc z args).run Tryz.prog W= .ok (.enter z args) W) (r:List UInt8×St) (K:l.length<=1000000) (Q:σ.1<=l.length) (S:ns.length<=900000) (w:World) (h:PAt w bp A c l σ)
 (H:Row w B 9 1 cN AN cn ns) (X:bp < B) (t: ∀W,PAt W bp A c l σ->Calls Tryz.prog z #[.pointer (some ⟨bp,0,none⟩)] W fun e W'=>e= .returned (.string ⟨r.1.toArray⟩)/\PAt W' bp A c l r.2/\UpT [bp] W W'):
 Calls Tryz.prog 90 #[.pointer (some ⟨bp,0,none⟩),.slice AN ns.length cn,.func (.func z) #[.pointer (some ⟨bp,0,none⟩)] #[]] w fun e w'=>e= .returned (.string ⟨r.1.toArray⟩)/\PAt w' bp A c l (anoth l σ ns r)/\UpT [bp] w w':=by
 have I:Hid (anoth l σ ns r=if ns.contains r.1=true then Pso.fail l r.2 111 (Prs.look l σ.1).at_ else r.2):=Y1 rfl;rw[I.out];have C:=Y1 (Zdu bp A c l σ K Q w h);have M:=Y1 h;have N:=Y1 H;obtain ⟨x,y⟩: ∃x,x=Prs.look l σ.1:=⟨_,rfl⟩;rw[<-y] at C ⊢;have P:=ZdX x.t.kind ⟨x.t.text.toArray⟩ x.at_;have p: ∀k,rowT AN=some k->B<=k:=fun k hk=>(H.lt k hk).1;have E:=Y1 p;have m:=Y1 t;obtain ⟨L,τ⟩:=r;simp only at m ⊢;have n:=Y1 (fun (w:World) (h:Row w B 9 1 cN AN cn ns)=>Zfo B AN cn ns L w (by omega) h);obtain ⟨b,J⟩: ∃b,b=ns.contains L:=⟨_,rfl⟩;rw[<-J] at n ⊢;clear h H I y p J t;go_enter Tryz.func90,Tryz.ntmps90
 go_wp2_with fail
 refine C.out.mono ?_;rintro e T ⟨rfl,q⟩;have a:=Y1 q;clear q C
 go_wp2_with fail
 refine (m.out T (M.out.below a.out)).mono ?_;rintro e U ⟨rfl,s,u⟩;have i:=Y1 s;have d:=Y1 ((ZcF (F:= [bp]) a.out).trans u);clear s u a
 go_wp2_with fail
 have o:=N.out.up d.out (fun x y=>by simp at y; subst y; intro e; have:=E.out _ e; omega);refine (n.out U o).mono ?_;rintro e V ⟨rfl,g⟩;have j:=Y1 (i.out.below g);have f:=Y1 (d.out.trans (ZcF g));clear g o d i;cases b
 {simp only[Bool.false_eq_true,if_false];go_wp2;go_ret;exact ⟨rfl,j.out,f.out⟩}
 {simp only[if_true]
  go_wp2_with fail
  refine (Zf2 bp A c l τ 111 x.at_ K V j.out).mono ?_;rintro e Y ⟨rfl,hp4,v⟩;have D:=Y1 hp4;have G:=Y1 (f.out.trans v);clear hp4 v f;go_wp2;go_ret;exact ⟨rfl,D.out,G.out⟩}
theorem Zeb (f:l.length<=1000000) (d:σ.1<=l.length) (j: ∀b∈l,b.t.text.length<=1000000) (a:ns.length<=900000) (w:World) (h:PAt w bp A c l σ)
 (i:Row w B 9 1 cN AN cn ns) (g:bp < B):
 Calls Tryz.prog 90 #[.pointer (some ⟨bp,0,none⟩),.slice AN ns.length cn,.func (.func 91) #[.pointer (some ⟨bp,0,none⟩)] #[]] w fun e w'=>e= .returned (.string ⟨(Pso.name l σ).1.toArray⟩)/\PAt w' bp A c l (Pso.another l σ ns).2/\UpT [bp] w w':=
 Zln bp A c l σ B AN cn ns 91 (enters_of Tryz.func91 (by kernel_rfl) rfl) (Pso.name l σ) f d a w h i g (fun W hW=>Zdk bp A c l σ f d j W hW)
end
end
section
open Go.RowKit Tms
open Shp (Sh)
open Pso (St Ok Goes betw loop want)
open Prs (sign)
def Reads (bp:Nat) (A:Option Addr) (c:Nat) (l:List Tk) {α:Type} (fn:Nat) (p0 p1:Value) (J:Nat->World->α->Prop) (f:St->α->St×α) (m:Nat):Prop:=
 ∀(r:Nat) (W:World) (τ:St) (a:α),r<=l.length+1->Ok l τ->l.length - τ.1 < m->PAt W bp A c l τ->J r W a->
  Calls Tryz.prog fn #[p0,p1] W fun e W'=>e= .returned (.tuple #[])/\PAt W' bp A c l (f τ a).1/\J (r+1) W' (f τ a).2
def LoopR (bp:Nat) (A:Option Addr) (c:Nat) (l:List Tk) {α:Type} (s:List UInt8) (J:Nat->World->α->Prop) (f:St->α->St×α) (m:Nat) (y:St×α) (k:Nat) (W:World):Prop:=
 ∃(n r:Nat) (τ:St) (a:α),loop l s f n τ a=y/\l.length - τ.1 < n/\n<=k/\Ok l τ/\l.length - τ.1 < m/\PAt W bp A c l τ/\r+(l.length - τ.1)<=l.length+1/\J r W a
theorem Zde {α:Type} (bp:Nat) (A:Option Addr) (c:Nat) (l:List Tk) (o s e:List UInt8) (fn:Nat) (f5: ∀args W,(callFunc fn args).run Tryz.prog W= .ok (.enter fn args) W) (p0 p1:Value) (J:Nat->World->α->Prop) (f:St->α->St×α) (m:Nat) (hl:l.length<=1000000) (hG:Goes l f)
 (hJ: ∀r W W' a,J r W a->UpT [bp] W W'->J r W' a) (hc:Reads bp A c l fn p0 p1 J f m) (σ:St) (a:α) (w:World) (hσ:Ok l σ) (hm:l.length - (want l σ o).1 < m) (hP:PAt w bp A c l σ) (U:J 0 w a):
 Calls Tryz.prog 88 #[.pointer (some ⟨bp,0,none⟩),.string ⟨o.toArray⟩,.string ⟨s.toArray⟩,.string ⟨e.toArray⟩,.func (.func fn) #[] #[p0,p1]] w fun e' w'=>e'= .returned (.tuple #[])/\PAt w' bp A c l (betw l o s e f σ a).1/\ ∃r,r<=l.length+2/\J r w' (betw l o s e f σ a).2:=by
 have HF:Hid (betw l o s e f σ a=if sign l (want l σ o).1 e=true then (((want l σ o).1+1,(want l σ o).2),a) else (want l (loop l s f (l.length+1) (f (want l σ o) a).1 (f (want l σ o) a).2).1 e,(loop l s f (l.length+1) (f (want l σ o) a).1 (f (want l σ o) a).2).2)):=Y1 rfl;rw[HF.out];have j:=(Pso.to_want hσ o).1;have HW:=Y1 (ZcJ bp A c l σ o hl hσ.1 w hP);obtain ⟨τ,hτ⟩: ∃τ,τ=want l σ o:=⟨_,rfl⟩;rw[<-hτ] at HW j hm ⊢;have O:=Y1 (fun (w:World) (h:PAt w bp A c l τ)=>ZeJ bp A c l τ e hl j.1 w h);have b5:Hid (sign l τ.1 e=true->τ.1 < l.length):=Y1 Pso.sign_lt;obtain ⟨b,hb⟩: ∃b,b=sign l τ.1 e:=⟨_,rfl⟩;rw[<-hb] at O b5 ⊢;obtain ⟨x,hx⟩: ∃x,x=f τ a:=⟨_,rfl⟩;have HX:=Y1 hx;obtain ⟨y,hy⟩: ∃y,y=loop l s f (l.length+1) x.1 x.2:=⟨_,rfl⟩;have HY:=Y1 hy;rw[<-hx, <-hy];have G:=Y1 hJ;have HC:=Y1 hc;have HG:=Y1 hG;have b4:=Y1 U;have HO:=Y1 j;clear HF hP hJ hc hG U hσ hτ j hb hx hy;go_enter Tryz.func88,Tryz.ntmps88
 go_wp2_with fail
 refine HW.out.mono ?_;rintro E w1 ⟨v1,rfl,a2,a5⟩;have N:=Y1 a2;have H:=Y1 (G.out _ _ _ _ b4.out a5);clear a2 a5 HW
 go_wp2_with fail
 refine (O.out w1 N.out).mono ?_;rintro E w2 ⟨rfl,a3,a6⟩;have i:=Y1 a3;have I:=Y1 (G.out _ _ _ _ H.out a6);clear a3 a6 H N;cases b
 {simp only[Bool.false_eq_true,if_false] at i ⊢
  go_wp2_with fail
  have hR:=HC.out 0 w2 τ a (by omega) HO.out hm i.out I.out;rw[<-HX.out] at hR;refine hR.mono ?_;rintro E w3 ⟨rfl,a4,V⟩;have hT:=HG.out τ a HO.out;rw[<-HX.out] at hT;have c8:=hT.2.1;have P:Hid (LoopR bp A c l s J f m y (l.length+1) w3):=Y1 ⟨l.length+1,1,x.1,x.2,HY.out.symm,by omega,Nat.le_refl _,hT.1,by omega,a4,by omega,V⟩;clear a4 V hT c8 hR
  go_wp2_with fail
  go_loopg [24] (l.length+1) (fun kx s24 wr=>Hid (LoopR bp A c l s J f m y kx wr))
  case atStart=>exact P
  case round=>
   obtain ⟨n,r,ρ,T,Y,hn,a0,D,Z,hp,hr,hj⟩:=hrel.out;have HN:=Y1 a0;have HP:=Y1 hp;have K:=Y1 hj;have HK:=Y1 D;have B:=Y1 hr;have M:=Y1 Z;have L:=Y1 Y;have t:=Y1 hn;have d:=Y1 (fun (w:World) (h:PAt w bp A c l ρ)=>ZeJ bp A c l ρ s hl D.1 w h);have k:Hid (sign l ρ.1 s=true->ρ.1 < l.length):=Y1 Pso.sign_lt;have b3:Hid (sign l ρ.1 s=sign l ρ.1 s):=Y1 rfl;obtain ⟨b2,C⟩: ∃b2,b2=sign l ρ.1 s:=⟨_,rfl⟩;rw[<-C] at d k;have F:=Y1 C;clear hrel P Y hn a0 D Z hp hr hj C b3;cases b2
   {go_wp2_with fail
    refine (d.out wr HP.out).mono ?_;rintro E w4 ⟨rfl,hp4,g⟩;have u:=Y1 (show PAt w4 bp A c l ρ by simpa using hp4);have p:=Y1 (G.out _ _ _ _ K.out g);clear hp4 g;have b7:Hid (y=(ρ,T)):=Y1 (by
     rw[<-L.out];cases n with
     | zero=>exact absurd t.out (by omega)
     | succ n=>unfold loop; rw[<-F.out,if_neg (by simp)])
    go_wp2_with fail
    refine (ZcJ bp A c l ρ e hl HK.out.1 w4 u.out).mono ?_;rintro E w5 ⟨v5,rfl,hp5,a7⟩;have z:=Y1 hp5;have q:=Y1 (G.out _ _ _ _ p.out a7);clear hp5 a7;go_wp2
    go_end0
    rw[b7.out];exact ⟨rfl,z.out,r,by have:=B.out; omega,q.out⟩}
   {go_wp2_with fail
    refine (d.out wr HP.out).mono ?_;rintro E w4 ⟨rfl,hp4,g⟩;have u:=Y1 (show PAt w4 bp A c l (ρ.1+1,ρ.2) by simpa using hp4);have p:=Y1 (G.out _ _ _ _ K.out g);clear hp4 g;have c0:=k.out trivial;have Q:=Y1 (Pso.to_next HK.out c0)
    go_wp2_with fail
    refine (HC.out r w4 (ρ.1+1,ρ.2) T (by have:=B.out; omega) Q.out.1 (by have:=M.out; simp only; omega) u.out p.out).mono ?_;rintro E w5 ⟨rfl,hp5,X⟩;have z:=Y1 hp5;have q:=Y1 X;have S:=Y1 (HG.out (ρ.1+1,ρ.2) T Q.out.1);clear hp5 X
    go_wp2_with fail
    go_roundg (n - 1)
    case measure=>have:=HN.out; have:=t.out; omega
    case rel=>
     have h1:=t.out;have h2:=S.out.2.1;simp only at h2;refine Y1 ⟨n - 1,r+1,(f (ρ.1+1,ρ.2) T).1,(f (ρ.1+1,ρ.2) T).2, ?_,by omega,Nat.le_refl _,S.out.1,by have:=M.out; omega,z.out,by have:=B.out; omega,q.out⟩;rw[<-L.out];obtain ⟨n',rfl⟩: ∃n',n=n'+1:=⟨n - 1,by omega⟩
     conv=>rhs; unfold loop
     rw[<-F.out,if_pos rfl];rfl}}
 {simp only[if_true] at i ⊢;go_wp2;refine bodyPost_ret (v:= .tuple #[]) (by simp[results,Tryz.results88,go_sem]) rfl ?_;exact ⟨rfl,i.out,0,by omega,I.out⟩}
end
end Go.Proofs.YtgndehppmaacaaaGreatDoor
namespace Go.Proofs.YtgndehppmaacaaaGreatDoor
open Go.RowKit
def upd (u:Nat->Value) (i:Nat) (v:Value):Nat->Value:=fun j=>cond (Nat.beq j i) v (u j)
theorem Z06 (u:Nat->Value) (i:Nat) (v:Value):upd u i v i=v:=by simp[upd]
theorem Z02 (u:Nat->Value) {i j:Nat} (v:Value) (h:j≠i):upd u i v j=u j:=by
 have:Nat.beq j i=false:=by cases a:Nat.beq j i <;> first | rfl | exact absurd (Nat.eq_of_beq_eq_true a) h
 simp[upd,this]
structure Want where
 ok:Value->World->Prop
 keep: ∀(v:Value) (w w':World),Below w.heap.size w w'->ok v w->ok v w'
theorem Want.mono {T:Want} {v:Value} {w w':World} (a:Below w.heap.size w w') (h:T.ok v w):T.ok v w':=T.keep v w w' a h
def Want.val (c:Value):Want:=⟨fun v _=>v=c,fun _ _ _ _ h=>h⟩
def Want.any:Want:=⟨fun _ _=>True,fun _ _ _ _ h=>h⟩
section
variable {P : Program} {ops : Array Oper} {Q : Exit -> Act -> World -> Prop}
def waits (o:Oper) (j:Nat):Bool:=o.after.any fun e=>Region.binds .any e&&e.on==j
def StepAt (P:Program) (ops:Array Oper) (Q:Exit->Act->World->Prop) (A: (Nat->Value)->Act) (T:Nat->Want) (J:World->Prop) (i:Nat):Prop:=
 ∀o,ops[i]? =some o-> ∀(u:Nat->Value) (W:World),J W->(∀j,waits o j=true->(T j).ok (u j) W)->
  wpOp P ops Q i (fun a' w'=> ∃v,a'=A (upd u i v)/\(T i).ok v w'/\J w'/\Below W.heap.size W w') (A u) W
def StepsAt (P:Program) (ops:Array Oper) (Q:Exit->Act->World->Prop) (A: (Nat->Value)->Act) (T:Nat->Want) (J:World->Prop) (rs:List Nat):Prop:=
 ∀i∈rs,StepAt P ops Q A T J i
section
variable {A : (Nat -> Value) -> Act} {T : Nat -> Want} {J : World -> Prop}
include A T J
theorem StepsAt.nil:StepsAt P ops Q A T J []:=fun _ h=>by cases h
theorem StepsAt.cons {i:Nat} {rs:List Nat} (o:Oper) (c:ops[i]? =some o)
 (h: ∀(u:Nat->Value) (W:World) (K':Act->World->Prop),J W->(∀j,waits o j=true->(T j).ok (u j) W)->
  Shut (∀v w',(T i).ok v w'->J w'->Below W.heap.size W w'->K' (A (upd u i v)) w')->
  if Region.wanted o (yielded ops (A u).tmps)=true then Oper.wp P o (A u) W K' Q else K' ((A u).put o.dst undef) W)
 (f:StepsAt P ops Q A T J rs):StepsAt P ops Q A T J (i::rs):=fun j b=>by
 rcases List.mem_cons.1 b with rfl | b
 {intro g a u W d e;rw[c] at a;obtain rfl:o=g:=Option.some.inj a;exact wpOp_step c (fun K' hK=>h u W K' d e (fun v w' h1 h2 h3=>hK _ _ ⟨v,rfl,h1,h2,h3⟩))}
 {exact f j b}
end
def lowAfter (ops:Array Oper):Bool:=(List.range ops.size).all fun i=>((ops[i]?).map fun o=>o.after.all fun e=> !Region.binds .any e||decide (e.on < i)).getD true
theorem Z5V (h:lowAfter ops=true) {i:Nat} {o:Oper} (b:ops[i]? =some o): ∀e∈o.after,Region.binds .any e=true->e.on < i:=by
 intro e d c;have f:i < ops.size:=by
  rcases Nat.lt_or_ge i ops.size with h | h
  {exact h}
  {rw[Array.getElem?_eq_none h] at b; cases b}
 have a:=List.all_eq_true.1 h i (List.mem_range.2 f);rw[b] at a;simp only[Option.map_some,Option.getD_some] at a;have:=Array.all_eq_true_iff_forall_mem.1 a e d;rw[c] at this;simpa using this
theorem Z2j (h:lowAfter ops=true) (a:Array Bool) (k:Region.ready .any ops a= []) (l:a.size=ops.size):
 ∀n j,j < n->j < ops.size->a.getD j false=true:=by
 intro n;induction n with
 | zero=>intro j g; omega
 | succ n ih=>
  intro j g b;by_cases f:j < n
  {exact ih j f b}
  {cases d:a.getD j false with
   | true=>rfl
   | false=>
    have c:j∈Region.ready .any ops a:=by
     refine mem_ready.2 ⟨?_,ops[j]'b,by simp[b],fun e he hb=> ?_⟩
     {have:j < a.size:=by omega
      simp[this] at d ⊢;exact d}
     {have i:=Z5V h (show ops[j]? =some (ops[j]'b) by simp[b]) e he hb;exact ih e.on (by omega) (by omega)}
    rw[k] at c;cases c}
theorem Z5A (l:List Bool): ∀(i:Nat),l[i]? =some false->(l.set i true).count false+1=l.count false:=by
 induction l with
 | nil=>intro i h; simp at h
 | cons b l ih=>
  intro i h;cases i with
  | zero=>
   simp at h;subst h;simp
  | succ i=>
   simp at h;have:=ih i h;cases b <;> simp at this ⊢ <;> omega
theorem Z4Y (l:List Bool) (h:l.count false=0) (j:Nat):l[j]? ≠some false:=by
 intro a;have:=List.count_pos_iff.2 (List.mem_of_getElem? a);omega
theorem Zac (A: (Nat->Value)->Act) (T:Nat->Want) (J:World->Prop) (C:lowAfter ops=true)
 (g:StepsAt P ops Q A T J (List.range ops.size))
 (c: ∀u W,J W->(∀j,j < ops.size->(T j).ok (u j) W)->Q .normal (A u) W):
 ∀(b:Nat) (a:Array Bool) (u:Nat->Value) (W:World),a.size=ops.size->a.toList.count false<=b->J W->
  (∀j,a.getD j false=true->(T j).ok (u j) W)->wpAny P .any ops Q b a (A u) W:=by
 intro b;induction b with
 | zero=>
  intro a u W d E r p;have s:Region.ready .any ops a= []:=by
   refine List.eq_nil_iff_forall_not_mem.2 fun j hj=> ?_;obtain ⟨m,o,l,_⟩:=mem_ready.1 hj;have z:j < a.size:=by
    rw[d];rcases Nat.lt_or_ge j ops.size with h | h
    {exact h}
    {rw[Array.getElem?_eq_none h] at l; cases l}
   refine Z4Y a.toList (by omega) j ?_;simp[z] at m ⊢;exact m
  exact ⟨s,c u W r fun j hj=>p j (Z2j C a s d (j+1) j (by omega) hj)⟩
 | succ b ih=>
  intro a u W d E r p;refine ⟨fun s=>c u W r fun j hj=>p j (Z2j C a s d (j+1) j (by omega) hj),fun i hi=> ?_⟩;obtain ⟨m,o,l,n⟩:=mem_ready.1 hi;have y:i < ops.size:=by
   rcases Nat.lt_or_ge i ops.size with h | h
   {exact h}
   {rw[Array.getElem?_eq_none h] at l; cases l}
  have w:i < a.size:=by omega
  have q: ∀j,waits o j=true->(T j).ok (u j) W:=fun j hj=>by
   obtain ⟨e,F,k⟩:=Array.any_eq_true'.1 hj;simp only[Bool.and_eq_true,beq_iff_eq] at k;obtain ⟨k,rfl⟩:=k;exact p e.on (n e F k)
  refine wpOp_mono (fun a' w' h=> ?_) (g i (List.mem_range.2 y) o l u W r q);obtain ⟨v,rfl,B,t,k⟩:=h;refine ih _ _ _ (by simpa using d) ?_ t fun j hj=> ?_
  {have D:a.toList[i]? =some false:=by simp[w] at m ⊢; exact m
   have:=Z5A a.toList i D;rw[Array.toList_setIfInBounds];omega}
  {by_cases f:j=i
   {subst f;rw[Z06];exact B}
   {rw[Z02 u v f];refine Want.mono k (p j ?_);rw[getD_set_ne false (Ne.symm f)] at hj;exact hj}}
theorem Zmz {id:Nat} {w:World} {rs:List Nat} (A: (Nat->Value)->Act) (g:Nat->Value) (T:Nat->Want) (J:World->Prop) (f:P.follows .mixedOrders=true) (e:lowAfter ops=true)
 (c:List.range ops.size=rs) (d:J w.drew) (b:StepsAt P ops Q A T J rs)
 (a: ∀u W,J W->(∀j,j < ops.size->(T j).ok (u j) W)->Q .normal (A u) W):
 (Code.region id ops true).wp P Q (A g) w:=by
 subst c;refine wp_region_any f (Zac A T J e b a _ _ _ _ (by simp) ?_ d fun j hj=> ?_)
 {exact Nat.le_trans List.count_le_length (by simp)}
 {exfalso;rcases Nat.lt_or_ge j ops.size with h | h
  {simp[h] at hj}
  {simp[h] at hj}}
section
variable {o : Oper} {a : Act}
include o a
theorem Z00 {W W':World} {c:Act->World->Prop} {v:Value} {E:Prop} (e:Region.wanted o (yielded ops a.tmps)=true)
 (b: (execOp a.eval o).run P W= .ok (.value v) W') (d:c (a.put o.dst v) W'):
 if Region.wanted o (yielded ops a.tmps)=true then Oper.wp P o a W c Q else E:=by
 rw[if_pos e,Oper.wp,b,Oper.upon_value];exact d
theorem Y0 {W:World} {b:Act->World->Prop} {F:Value->Act} {T:Nat->Want} {J:World->Prop} {i:Nat} {E:Prop} {c:Value}
 (f:Shut (∀v w',(T i).ok v w'->J w'->Below W.heap.size W w'->b (F v) w')) (e:J W) (g:T i=Want.val c) (d:a.put o.dst c=F c)
 (j:Region.wanted o (yielded ops a.tmps)=true) (h: (execOp a.eval o).run P W= .ok (.value c) W):
 if Region.wanted o (yielded ops a.tmps)=true then Oper.wp P o a W b Q else E:=
 Z00 (v:=c) (W':=W) j h (by rw[d]; exact f.out c W (by rw[g]; rfl) e (Below.refl _ _))
theorem Z1n {W W':World} {c:Act->World->Prop} {f:FuncId} {args:Array Value} {E:Prop} (g:Region.wanted o (yielded ops a.tmps)=true)
 (b: (execOp a.eval o).run P W= .ok (.enter f args) W') (d:Calls P f args W' fun e w'=> ∃v,e= .returned v/\c (a.put o.dst v) w'):
 if Region.wanted o (yielded ops a.tmps)=true then Oper.wp P o a W c Q else E:=by
 rw[if_pos g,Oper.wp,b,Oper.upon_enter];refine d.mono fun e w' h=> ?_;obtain ⟨v,rfl,h⟩:=h;exact h
end
end
end Go.Proofs.YtgndehppmaacaaaGreatDoor
namespace Go.Proofs.YtgndehppmaacaaaGreatDoor
open Go.RowKit
def also (d:Nat->Bool) (i:Nat):Nat->Bool:=fun j=>cond (Nat.beq j i) true (d j)
section
variable {P : Program} {ops : Array Oper} {Q : Exit -> Act -> World -> Prop}
def StepInv (P:Program) (ops:Array Oper) (Q:Exit->Act->World->Prop) (A: (Nat->Value)->Act) (I: (Nat->Bool)->(Nat->Value)->World->Prop) (i:Nat):Prop:=
 ∀o,ops[i]? =some o-> ∀(d:Nat->Bool) (u:Nat->Value) (W:World),I d u W->d i=false->(∀j,waits o j=true->d j=true)->
  wpOp P ops Q i (fun a' w'=> ∃v,a'=A (upd u i v)/\I (also d i) (upd u i v) w') (A u) W
def StepsInv (P:Program) (ops:Array Oper) (Q:Exit->Act->World->Prop) (A: (Nat->Value)->Act) (I: (Nat->Bool)->(Nat->Value)->World->Prop) (rs:List Nat):Prop:=
 ∀i∈rs,StepInv P ops Q A I i
section
variable {A : (Nat -> Value) -> Act} {I : (Nat -> Bool) -> (Nat -> Value) -> World -> Prop}
include A I
theorem StepsInv.nil:StepsInv P ops Q A I []:=fun _ h=>by cases h
theorem StepsInv.cons {i:Nat} {rs:List Nat} (o:Oper) (c:ops[i]? =some o)
 (h: ∀(d:Nat->Bool) (u:Nat->Value) (W:World) (K':Act->World->Prop),I d u W->d i=false->(∀j,waits o j=true->d j=true)->
  Shut (∀v w',I (also d i) (upd u i v) w'->K' (A (upd u i v)) w')->
  if Region.wanted o (yielded ops (A u).tmps)=true then Oper.wp P o (A u) W K' Q else K' ((A u).put o.dst undef) W)
 (g:StepsInv P ops Q A I rs):StepsInv P ops Q A I (i::rs):=fun j b=>by
 rcases List.mem_cons.1 b with rfl | b
 {intro l a d u W e f k;rw[c] at a;obtain rfl:o=l:=Option.some.inj a;exact wpOp_step c (fun K' hK=>h d u W K' e f k (fun v w' h1=>hK _ _ ⟨v,rfl,h1⟩))}
 {exact g j b}
end
theorem Z7F (a:Array Bool) {i:Nat} (c:i < a.size): (fun j=>(a.setIfInBounds i true).getD j false)=also (fun j=>a.getD j false) i:=by
 funext j;unfold also;by_cases h:j=i
 {subst h;have:Nat.beq j j=true:=Nat.beq_refl j;rw[this];simp[c]}
 {have b:Nat.beq j i=false:=by cases b:Nat.beq j i <;> first | rfl | exact absurd (Nat.eq_of_beq_eq_true b) h
  rw[b];exact getD_set_ne false (Ne.symm h)}
theorem Zco (A: (Nat->Value)->Act) (I: (Nat->Bool)->(Nat->Value)->World->Prop) (B:lowAfter ops=true)
 (l:StepsInv P ops Q A I (List.range ops.size))
 (c: ∀d u W,I d u W->(∀j,j < ops.size->d j=true)->Q .normal (A u) W):
 ∀(b:Nat) (a:Array Bool) (u:Nat->Value) (W:World),a.size=ops.size->a.toList.count false<=b->I (fun j=>a.getD j false) u W->
  wpAny P .any ops Q b a (A u) W:=by
 intro b;induction b with
 | zero=>
  intro a u W f D r;have t:Region.ready .any ops a= []:=by
   refine List.eq_nil_iff_forall_not_mem.2 fun j hj=> ?_;obtain ⟨g,o,m,_⟩:=mem_ready.1 hj;have z:j < a.size:=by
    rw[f];rcases Nat.lt_or_ge j ops.size with h | h
    {exact h}
    {rw[Array.getElem?_eq_none h] at m; cases m}
   refine Z4Y a.toList (by omega) j ?_;simp[z] at g ⊢;exact g
  exact ⟨t,c _ u W r fun j hj=>Z2j B a t f (j+1) j (by omega) hj⟩
 | succ b ih=>
  intro a u W f D r;refine ⟨fun t=>c _ u W r fun j hj=>Z2j B a t f (j+1) j (by omega) hj,fun i hi=> ?_⟩;obtain ⟨g,o,m,p⟩:=mem_ready.1 hi;have y:i < ops.size:=by
   rcases Nat.lt_or_ge i ops.size with h | h
   {exact h}
   {rw[Array.getElem?_eq_none h] at m; cases m}
  have k:i < a.size:=by omega
  have w:a.getD i false=false:=by simp[k] at g ⊢; exact g
  have q: ∀j,waits o j=true->a.getD j false=true:=fun j hj=>by
   obtain ⟨e,E,s⟩:=Array.any_eq_true'.1 hj;simp only[Bool.and_eq_true,beq_iff_eq] at s;obtain ⟨s,rfl⟩:=s;exact p e E s
  refine wpOp_mono (fun a' w' h=> ?_) (l i (List.mem_range.2 y) o m (fun j=>a.getD j false) u W r w q);obtain ⟨v,rfl,n⟩:=h;rw[<-Z7F a k] at n;refine ih _ _ _ (by simpa using f) ?_ n;have C:a.toList[i]? =some false:=by simp[k] at g ⊢; exact g
  have:=Z5A a.toList i C;rw[Array.toList_setIfInBounds];omega
theorem Z3a {id:Nat} {w:World} {rs:List Nat} (A: (Nat->Value)->Act) (f:Nat->Value) (I: (Nat->Bool)->(Nat->Value)->World->Prop) (k:P.follows .mixedOrders=true) (i:lowAfter ops=true)
 (c:List.range ops.size=rs) (g:I (fun _=>false) f w.drew) (b:StepsInv P ops Q A I rs)
 (a: ∀d u W,I d u W->(∀j,j < ops.size->d j=true)->Q .normal (A u) W):
 (Code.region id ops true).wp P Q (A f) w:=by
 subst c;refine wp_region_any k (Zco A I i b a _ _ _ _ (by simp) ?_ ?_)
 {exact Nat.le_trans List.count_le_length (by simp)}
 {have e: (fun j=>(Array.replicate ops.size false).getD j false)=fun _=>false:=by
   funext j;rcases Nat.lt_or_ge j ops.size with h | h
   {simp[h]}
   {simp[h]}
  rw[e];exact g}
theorem Z2E {o:Oper} {a:Act} {W W':World} {c:Act->World->Prop} {E:Prop} (e:Region.wanted o (yielded ops a.tmps)=true)
 (b: (execOp a.eval o).run P W= .ok .skip W') (d:c (a.put o.dst undef) W'):
 if Region.wanted o (yielded ops a.tmps)=true then Oper.wp P o a W c Q else E:=by
 rw[if_pos e,Oper.wp,b,Oper.upon_skip];exact d
end
end Go.Proofs.YtgndehppmaacaaaGreatDoor
