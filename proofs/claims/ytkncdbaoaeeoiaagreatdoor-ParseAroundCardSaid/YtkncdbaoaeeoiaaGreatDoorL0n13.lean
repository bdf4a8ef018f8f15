/- What the proofs of ParseAround want, part 13. -/
import Derived.Lib.AppendIntMem
import Derived.Test.YtkncdbaoaeeoiaaGreatDoorL0n12
set_option linter.unusedVariables false
set_option linter.unusedSimpArgs false
set_option linter.unusedSectionVars false
set_option maxRecDepth 100000
set_option maxHeartbeats 16000000
namespace Go.Proofs.YtkncdbaoaeeoiaaGreatDoor
section
open Go.RowKit
def verV (v:Sem.Ver):Value:= .agg #[.int .i64 v.maj,.int .i64 v.min,.int .i64 v.pat,.string ⟨v.pre.toArray⟩]
def VerAt (w:World) (g:Nat) (v:Sem.Ver):Prop:=g < w.heap.size/\w.cell? ⟨g,0,none⟩=some (.int .i64 v.maj)/\w.cell? ⟨g,1,none⟩=some (.int .i64 v.min)/\w.cell? ⟨g,2,none⟩=some (.int .i64 v.pat)/\w.cell? ⟨g,3,none⟩=some (.string ⟨v.pre.toArray⟩)
theorem VerAt.next {w w':World} {g:Nat} {v:Sem.Ver} (h:VerAt w g v) (a:Below w.heap.size w w'):VerAt w' g v:=
 ⟨Nat.lt_of_lt_of_le h.1 a.size,((Z04 (o:=0) a h.1).1).trans h.2.1,((Z04 (o:=1) a h.1).1).trans h.2.2.1,((Z04 (o:=2) a h.1).1).trans h.2.2.2.1,((Z04 (o:=3) a h.1).1).trans h.2.2.2.2⟩
theorem Z2m (w:World) (v:Sem.Ver):VerAt (w.alloc (.cells #[.int .i64 v.maj,.int .i64 v.min,.int .i64 v.pat,.string ⟨v.pre.toArray⟩] 105)) w.heap.size v:=
 ⟨by simp,by simp[go_sem],by simp[go_sem],by simp[go_sem],by simp[go_sem]⟩
def chk (v:Sem.Ver):Int:=if Sem.may v=true then 0 else 40
attribute [local go_sem] Oper.semAt_some
section
variable (a b c : Int) (W : World)
include a b c W
theorem Z6a: (Instr.index 208 (.agg #[.int .i64 a,.int .i64 b,.int .i64 c]) (.int .i64 0)).run Tryz.prog W= .ok (.int .i64 a) W:=by
 simp[Instr.index,run_underlying Tryz.underlying208,asIntOf,go_sem,Tryz.sizeOf3,Tryz.isAgg3]
theorem Z6b: (Instr.index 208 (.agg #[.int .i64 a,.int .i64 b,.int .i64 c]) (.int .i64 1)).run Tryz.prog W= .ok (.int .i64 b) W:=by
 simp[Instr.index,run_underlying Tryz.underlying208,asIntOf,go_sem,Tryz.sizeOf3,Tryz.isAgg3]
theorem Z6c: (Instr.index 208 (.agg #[.int .i64 a,.int .i64 b,.int .i64 c]) (.int .i64 2)).run Tryz.prog W= .ok (.int .i64 c) W:=by
 simp[Instr.index,run_underlying Tryz.underlying208,asIntOf,go_sem,Tryz.sizeOf3,Tryz.isAgg3]
end
def Far (a b c:Int) (i:Value):Prop:=i= .int .i64 0\/(i= .int .i64 1/\0<=a/\a<=999999)\/(i= .int .i64 2/\0<=a/\a<=999999/\0<=b/\b<=999999)\/(i= .int .i64 3/\0<=a/\a<=999999/\0<=b/\b<=999999/\0<=c/\c<=999999)
theorem Z7y {a b c:Int} {p:List UInt8} (h: ¬((0<=a/\a<=999999)/\(0<=b/\b<=999999)/\(0<=c/\c<=999999))):chk ⟨a,b,c,p⟩=40:=by
 rw[chk,if_neg];rw[Sem.Z12];rintro ⟨d,e,f,_⟩;exact h ⟨d,e,f⟩
theorem Zd5 (a b c:Int) (p:List UInt8) (j: ¬((0<=a/\a<=999999)/\(0<=b/\b<=999999)/\(0<=c/\c<=999999))) (w:World):
 Y9 206 #[.agg #[.int .i64 a,.int .i64 b,.int .i64 c,.string ⟨p.toArray⟩]] w (.int .i64 (chk ⟨a,b,c,p⟩)):=by
 have d:Hid (chk ⟨a,b,c,p⟩=40):=Y1 (Z7y j);go_enter Tryz.func206,Tryz.ntmps206
 go_wp2_with fail
 have k:=Z6a a b c;have l:=Z6b a b c;have m:=Z6c a b c
 go_loop [13] (fun i=>Far a b c i) (fun i=>3 - (intOf i).toNat)
 case atStart=>exact Or.inl rfl
 case round=>
  rcases hrel with rfl | ⟨rfl,a1,a2⟩ | ⟨rfl,a1,a2,b1,b2⟩ | ⟨rfl,a1,a2,b1,b2,c1,c2⟩
  {rcases (show a < 0\/999999 < a\/(0<=a/\a<=999999) from by omega) with h | h | ⟨f,g⟩
   {go_wp2;refine bodyPost_ret (v:= .int .i64 40) (by simp[results,Tryz.results206,go_sem]) rfl ?_;exact ⟨by rw[d.out],Z03 (Z01 _ _) _⟩}
   {have e:decide (a < 0)=false:=decide_eq_false (by omega);have hd2:decide (999999 < a)=true:=decide_eq_true h;go_wp2;refine bodyPost_ret (v:= .int .i64 40) (by simp[results,Tryz.results206,go_sem]) rfl ?_;exact ⟨by rw[d.out],Z03 (Z01 _ _) _⟩}
   {have e:decide (a < 0)=false:=decide_eq_false (by omega);have hd2:decide (999999 < a)=false:=decide_eq_false (by omega);go_wp2
    go_round
    case rel=>exact Or.inr (Or.inl ⟨rfl,by omega,by omega⟩)
    case measure=>simp[intOf]}}
  {rcases (show b < 0\/999999 < b\/(0<=b/\b<=999999) from by omega) with h | h | ⟨f,g⟩
   {go_wp2;refine bodyPost_ret (v:= .int .i64 40) (by simp[results,Tryz.results206,go_sem]) rfl ?_;exact ⟨by rw[d.out],Z03 (Z01 _ _) _⟩}
   {have e:decide (b < 0)=false:=decide_eq_false (by omega);have hd2:decide (999999 < b)=true:=decide_eq_true h;go_wp2;refine bodyPost_ret (v:= .int .i64 40) (by simp[results,Tryz.results206,go_sem]) rfl ?_;exact ⟨by rw[d.out],Z03 (Z01 _ _) _⟩}
   {have e:decide (b < 0)=false:=decide_eq_false (by omega);have hd2:decide (999999 < b)=false:=decide_eq_false (by omega);go_wp2
    go_round
    case rel=>exact Or.inr (Or.inr (Or.inl ⟨rfl,a1,a2,by omega,by omega⟩))
    case measure=>simp[intOf]}}
  {rcases (show c < 0\/999999 < c\/(0<=c/\c<=999999) from by omega) with h | h | ⟨f,g⟩
   {go_wp2;refine bodyPost_ret (v:= .int .i64 40) (by simp[results,Tryz.results206,go_sem]) rfl ?_;exact ⟨by rw[d.out],Z03 (Z01 _ _) _⟩}
   {have e:decide (c < 0)=false:=decide_eq_false (by omega);have hd2:decide (999999 < c)=true:=decide_eq_true h;go_wp2;refine bodyPost_ret (v:= .int .i64 40) (by simp[results,Tryz.results206,go_sem]) rfl ?_;exact ⟨by rw[d.out],Z03 (Z01 _ _) _⟩}
   {have e:decide (c < 0)=false:=decide_eq_false (by omega);have hd2:decide (999999 < c)=false:=decide_eq_false (by omega);go_wp2
    go_round
    case rel=>exact Or.inr (Or.inr (Or.inr ⟨rfl,a1,a2,b1,b2,by omega,by omega⟩))
    case measure=>simp[intOf]}}
  {exact absurd ⟨⟨a1,a2⟩,⟨b1,b2⟩,⟨c1,c2⟩⟩ j}
theorem Zbv (a b c:Int) (d:0<=a) (e:a<=999999) (f:0<=b) (g:b<=999999) (c1:0<=c) (c2:c<=999999) (w:World):
 Y9 206 #[.agg #[.int .i64 a,.int .i64 b,.int .i64 c,.string ⟨(([]:List UInt8)).toArray⟩]] w (.int .i64 (chk ⟨a,b,c,[]⟩)):=by
 have h:Hid (chk ⟨a,b,c,[]⟩=0):=Y1 (by rw[chk,if_pos]; exact (Sem.Z12 _).2 ⟨⟨d,e⟩,⟨f,g⟩,⟨c1,c2⟩,by simp,rfl⟩);have p:decide (a < 0)=false:=decide_eq_false (by omega);have q:decide (b < 0)=false:=decide_eq_false (by omega);have r:decide (c < 0)=false:=decide_eq_false (by omega);have j:decide (999999 < a)=false:=decide_eq_false (by omega);have k:decide (999999 < b)=false:=decide_eq_false (by omega);have l:decide (999999 < c)=false:=decide_eq_false (by omega);go_enter Tryz.func206,Tryz.ntmps206
 go_wp2_with fail
 have m:=Z6a a b c;have n:=Z6b a b c;have o:=Z6c a b c
 go_loop [13] (fun i=>Far a b c i) (fun i=>3 - (intOf i).toNat)
 case atStart=>exact Or.inl rfl
 case round=>
  rcases hrel with rfl | ⟨rfl,_,_⟩ | ⟨rfl,_,_,_,_⟩ | ⟨rfl,_,_,_,_,_,_⟩
  {go_wp2
   go_round
   case rel=>exact Or.inr (Or.inl ⟨rfl,d,e⟩)
   case measure=>simp[intOf]}
  {go_wp2
   go_round
   case rel=>exact Or.inr (Or.inr (Or.inl ⟨rfl,d,e,f,g⟩))
   case measure=>simp[intOf]}
  {go_wp2
   go_round
   case rel=>exact Or.inr (Or.inr (Or.inr ⟨rfl,d,e,f,g,c1,c2⟩))
   case measure=>simp[intOf]}
  {go_wp2;refine bodyPost_ret (v:= .int .i64 0) (by simp[results,Tryz.results206,go_sem]) rfl ?_;exact ⟨by rw[h.out],Z03 (Z01 _ _) _⟩}
theorem Zbw (a b c:Int) (p:List UInt8) (n:24 < p.length) (A:p.length<=9223372036854775807) (d:0<=a) (e:a<=999999) (f:0<=b) (g:b<=999999) (c1:0<=c) (c2:c<=999999) (w:World):
 Y9 206 #[.agg #[.int .i64 a,.int .i64 b,.int .i64 c,.string ⟨p.toArray⟩]] w (.int .i64 (chk ⟨a,b,c,p⟩)):=by
 have j:Hid (chk ⟨a,b,c,p⟩=40):=Y1 (by rw[chk,if_neg]; rw[Sem.Z12]; rintro ⟨_,_,_,h,_⟩; simp only at h; omega);have z:p.isEmpty=false:=by
  cases p with
  | nil=>simp at n
  | cons _ _=>rfl
 have o: (⟨p.toArray⟩:ByteArray).size=p.length:=Z07 _;have t:decide (a < 0)=false:=decide_eq_false (by omega);have u:decide (b < 0)=false:=decide_eq_false (by omega);have y:decide (c < 0)=false:=decide_eq_false (by omega);have k:decide (999999 < a)=false:=decide_eq_false (by omega);have l:decide (999999 < b)=false:=decide_eq_false (by omega);have m:decide (999999 < c)=false:=decide_eq_false (by omega);go_enter Tryz.func206,Tryz.ntmps206
 go_wp2_with fail
 have q:=Z6a a b c;have r:=Z6b a b c;have s:=Z6c a b c
 go_loop [13] (fun i=>Far a b c i) (fun i=>3 - (intOf i).toNat)
 case atStart=>exact Or.inl rfl
 case round=>
  rcases hrel with rfl | ⟨rfl,_,_⟩ | ⟨rfl,_,_,_,_⟩ | ⟨rfl,_,_,_,_,_,_⟩
  {go_wp2
   go_round
   case rel=>exact Or.inr (Or.inl ⟨rfl,d,e⟩)
   case measure=>simp[intOf]}
  {go_wp2
   go_round
   case rel=>exact Or.inr (Or.inr (Or.inl ⟨rfl,d,e,f,g⟩))
   case measure=>simp[intOf]}
  {go_wp2
   go_round
   case rel=>exact Or.inr (Or.inr (Or.inr ⟨rfl,d,e,f,g,c1,c2⟩))
   case measure=>simp[intOf]}
  {go_wp2;refine bodyPost_ret (v:= .int .i64 40) (by simp[results,Tryz.results206,go_sem]) rfl ?_;exact ⟨by rw[j.out],Z03 (Z01 _ _) _⟩}
attribute [local go_sem] Oper.semAt_some
theorem Z9P (a b c:Int) (p:List UInt8) (P:p.length<=24) (N:p≠ []) (z:0<=a) (C:a<=999999) (H:0<=b) (I:b<=999999) (c1:0<=c) (c2:c<=999999) (w:World):
 Y9 206 #[.agg #[.int .i64 a,.int .i64 b,.int .i64 c,.string ⟨p.toArray⟩]] w (.int .i64 (chk ⟨a,b,c,p⟩)):=by
 have O:Hid (chk ⟨a,b,c,p⟩=if (Sem.parts p).all Sem.part=true then 0 else 40):=Y1 (by
  rw[chk];have e:Sem.may ⟨a,b,c,p⟩=(Sem.parts p).all Sem.part:=by
   rw[Bool.eq_iff_iff,Sem.Z12];have U:Sem.preOk p=(Sem.parts p).all Sem.part:=by
    unfold Sem.preOk;rw[show p.isEmpty=false from by simpa using N,Bool.false_or]
   rw[U];exact ⟨fun h=>h.2.2.2.2,fun h=>⟨⟨z,C⟩,⟨H,I⟩,⟨c1,c2⟩,P,h⟩⟩
  rw[e])
 have he:p.isEmpty=false:=by simpa using N
 have V: (⟨p.toArray⟩:ByteArray).size=p.length:=Z07 _;clear N;have da:decide (a < 0)=false:=decide_eq_false (by omega);have db:decide (b < 0)=false:=decide_eq_false (by omega);have dc:decide (c < 0)=false:=decide_eq_false (by omega);have Q:decide (999999 < a)=false:=decide_eq_false (by omega);have S:decide (999999 < b)=false:=decide_eq_false (by omega);have T:decide (999999 < c)=false:=decide_eq_false (by omega);have X:=Z6a a b c;have Y:=Z6b a b c;have Z:=Z6c a b c;refine (callsIn_wide (n:=6)).1 ?_;refine callsIn_of_wp_marks Tryz.func206 rfl trivial ?_ rfl;simp only[Tryz.ntmps206,List.size_toArray,List.length_cons,List.length_nil,Nat.reduceAdd,Nat.reduceSub,Array.replicate_succ,Array.replicate_zero,List.push_toArray,List.append_toArray,List.nil_append,List.cons_append]
 gi_wp2_with fail
 gi_loopw [13] (fun i wr=>Far a b c i/\wr=(w.alloc (Obj.cells #[Value.int IntKind.i64 a,Value.int IntKind.i64 b,Value.int IntKind.i64 c,Value.string ⟨p.toArray⟩] 105)).alloc (Obj.cells #[Value.int IntKind.i64 0] 27)) (fun i _=>3 - (intOf i).toNat)
 case atStart=>exact ⟨Or.inl rfl,rfl⟩
 case round=>
  obtain ⟨v,rfl⟩:=hrel;rcases v with rfl | ⟨rfl,_,_⟩ | ⟨rfl,_,_,_,_⟩ | ⟨rfl,_,_,_,_,_,_⟩
  {gi_wp2
   go_roundw
   case rel=>exact ⟨Or.inr (Or.inl ⟨rfl,z,C⟩),trivial⟩
   case measure=>simp[intOf]}
  {gi_wp2
   go_roundw
   case rel=>exact ⟨Or.inr (Or.inr (Or.inl ⟨rfl,z,C,H,I⟩)),trivial⟩
   case measure=>simp[intOf]}
  {gi_wp2
   go_roundw
   case rel=>exact ⟨Or.inr (Or.inr (Or.inr ⟨rfl,z,C,H,I,c1,c2⟩)),trivial⟩
   case measure=>simp[intOf]}
  {gi_wp2_with (refine ⟨trivial, ?_⟩; gi_at_call 215; refine (callsIn_wide.2 (Zei p _)).mono ?_; rintro e w' ⟨rfl,E,j⟩)
   simp only[World.size_alloc] at E j;have hb0:Below w.heap.size w w':=(Z03 (Z01 _ _) _).trans (j.mono (by omega));have o:w'.cell? ⟨w.heap.size+1,0,none⟩=some (.int .i64 0):=(j.cell (p:=⟨w.heap.size+1,0,none⟩) (by show w.heap.size+1 < w.heap.size+1+1; omega)).trans (by simp[go_sem]);have q:w'.frozen? ⟨w.heap.size+1,0,none⟩=false:=(j.frozen (p:=⟨w.heap.size+1,0,none⟩) (by show w.heap.size+1 < w.heap.size+1+1; omega)).trans (by simp[go_sem]);clear j;refine Zd3 6 (by omega) (w.heap.size+1+1) p rfl E P rfl
    (fun d W=>Below w.heap.size w W/\W.cell? ⟨w.heap.size+1,0,none⟩=some (.int .i64 0)/\W.frozen? ⟨w.heap.size+1,0,none⟩=false/\d.all Sem.part=true)
    (fun d W=>Below w.heap.size w W/\W.cell? ⟨w.heap.size+1,0,none⟩=some (.int .i64 40)/\d.all Sem.part=false)
    ?hI ?hIx ⟨hb0,o,q,rfl⟩
    (fun x=> { tmps:=#[.agg #[.int .i64 a,.int .i64 b,.int .i64 c,.string ⟨p.toArray⟩],.pointer (some ⟨w.heap.size,0,none⟩),.pointer (some ⟨w.heap.size+1,0,none⟩),undef,u4,.string ⟨x.toArray⟩,.pointer (some ⟨w.heap.size,0,none⟩),.int .i64 a,
     .pointer (some ⟨w.heap.size,1,none⟩),.int .i64 b,.pointer (some ⟨w.heap.size,2,none⟩),.int .i64 c,.agg #[.int .i64 a,.int .i64 b,.int .i64 c],.int .i64 3,.bool false,u15,u16,u17,u18,u19,u20,u21,u22,.pointer (some ⟨w.heap.size,3,none⟩),.string ⟨p.toArray⟩,.bool false,
     .pointer (some ⟨w.heap.size,3,none⟩),.string ⟨p.toArray⟩,.int .i64 p.length,.bool (decide ((24:Int) < p.length)),.pointer (some ⟨w.heap.size,3,none⟩),.string ⟨p.toArray⟩,
     .func (.func 230) #[] #[.pointer (some ⟨w.heap.size+1+1+1,0,none⟩),.pointer (some ⟨w.heap.size+1+1,0,none⟩),.pointer (some ⟨w.heap.size+1+1+2,0,none⟩)],.string ⟨x.toArray⟩,undef,undef,undef],defers:= [] }) ?hassign ?hbody ?hdone ?hstop
   case hI=>
    rintro d A B ⟨h1,h2,h3,g⟩ j;exact ⟨h1.trans (j.mono (by omega)),(j.cell (p:=⟨w.heap.size+1,0,none⟩) (by show w.heap.size+1 < w.heap.size+1+1; omega)).trans h2,(j.frozen (p:=⟨w.heap.size+1,0,none⟩) (by show w.heap.size+1 < w.heap.size+1+1; omega)).trans h3,g⟩
   case hIx=>
    rintro d A B ⟨h1,h2,g⟩ j;exact ⟨h1.trans (j.mono (by omega)),(j.cell (p:=⟨w.heap.size+1,0,none⟩) (by show w.heap.size+1 < w.heap.size+1+1; omega)).trans h2,g⟩
   case hassign=>
    intro l x W K t
    gi_wp2
    exact t
   case hbody=>
    rintro l d x W ⟨h1,h2,h3,g⟩ hx;have f:=fun W=>CallsIn.inRound l (callsIn_wide (n:=6 - 1 - 1 - 1).2 (Z6D ⟨x.toArray⟩ (by rw[Z07]; omega) W));have r:Sem.part (⟨x.toArray⟩:ByteArray).data.toList=Sem.part x:=rfl;rw[r] at f;cases s:Sem.part x
    {have F:Hid ((d++ [x]).all Sem.part=false):=Y1 (by rw[List.all_append,g]; simp[s]);rw[s] at f;clear s r g
     gi_wp2_with (refine ⟨trivial, ?_⟩; gi_at_call 216; refine (f _).mono ?_; rintro e w' ⟨rfl,rfl⟩)
     exact ⟨KeepsOthers.setCell _ _ _,h1.setCell (p:=⟨w.heap.size+1,0,none⟩) (by show w.heap.size<=w.heap.size+1; omega) _,World.cell?_setCell_same _ _ _ h2,F.out⟩}
    {have F:Hid ((d++ [x]).all Sem.part=true):=Y1 (by rw[List.all_append,g]; simp[s]);rw[s] at f;clear s r g
     gi_wp2_with (refine ⟨trivial, ?_⟩; gi_at_call 216; refine (f _).mono ?_; rintro e w' ⟨rfl,rfl⟩)
     exact ⟨KeepsOthers.refl _,Below.refl _ _,h1,h2,h3,F.out⟩}
   case hdone=>
    rintro D W ⟨h1,h2,h3,g⟩ t J;have G:Hid (chk ⟨a,b,c,p⟩=0):=Y1 (by rw[O.out,if_pos g]);clear g o q
    gi_wp2
    have L:w.heap.size+1+1+2 < D:=Nat.lt_of_lt_of_le E.1 J;have M: (W.setCell ⟨w.heap.size+1,0,none⟩ (.int .i64 0)).heap[D]? =some (.deferred (some [])):=(Below.heap_setCell W ⟨w.heap.size+1,0,none⟩ _ D (by show D≠w.heap.size+1; omega)).trans t;have u:=Z1j (B:=w.heap.size+2) (W:=W.setCell ⟨w.heap.size+1,0,none⟩ (.int .i64 0)) (l:=D) (.deferred none) (by omega);have m:=(u.cell (p:=⟨w.heap.size+1,0,none⟩) (by show w.heap.size+1 < w.heap.size+2; omega)).trans (World.cell?_setCell_same _ _ (.int .i64 0) h2);have k:Below w.heap.size w ((W.setCell ⟨w.heap.size+1,0,none⟩ (.int .i64 0)).putObj D (.deferred none)):=(h1.setCell (p:=⟨w.heap.size+1,0,none⟩) (by show w.heap.size<=w.heap.size+1; omega) _).trans (u.mono (by omega));refine ⟨by simp,.inl ⟨_,_,rfl,run_takeDeferred M, ?_⟩⟩;generalize (W.setCell ⟨w.heap.size+1,0,none⟩ (.int .i64 0)).putObj D (.deferred none)=W5 at m k ⊢;refine ⟨.int .i64 0,by simp[results,Tryz.results206,go_sem,m], ?_⟩;exact ⟨by rw[G.out],k⟩
   case hstop=>
    rintro D d a0 W y ⟨h1,h2,g⟩ t J;have G:Hid (chk ⟨a,b,c,p⟩=40):=Y1 (by
     rw[O.out,if_neg];rw[<-y,List.all_append,g]; simp)
    clear g o q y
    gi_wp2
    have L:w.heap.size+1+1+2 < D:=Nat.lt_of_lt_of_le E.1 J;have u:=Z1j (B:=w.heap.size+2) (W:=W) (l:=D) (.deferred none) (by omega);have m:=(u.cell (p:=⟨w.heap.size+1,0,none⟩) (by show w.heap.size+1 < w.heap.size+2; omega)).trans h2;have k:Below w.heap.size w (W.putObj D (.deferred none)):=h1.trans (u.mono (by omega));refine ⟨by simp,.inl ⟨_,_,rfl,run_takeDeferred t, ?_⟩⟩;generalize W.putObj D (.deferred none)=W5 at m k ⊢;refine ⟨.int .i64 40,by simp[results,Tryz.results206,go_sem,m], ?_⟩;exact ⟨by rw[G.out],k⟩}
theorem Z6d (v:Sem.Ver) (k:v.pre.length<=9223372036854775807) (w:World):
 Y9 206 #[verV v] w (.int .i64 (chk v)):=by
 obtain ⟨a,b,c,p⟩:=v;unfold verV;simp only at k;by_cases h: (0<=a/\a<=999999)/\(0<=b/\b<=999999)/\(0<=c/\c<=999999)
 {obtain ⟨⟨d,e⟩,⟨f,g⟩,⟨c1,c2⟩⟩:=h;by_cases i:p= []
  {subst i; exact Zbv a b c d e f g c1 c2 w}
  {by_cases j:p.length<=24
   {exact Z9P a b c p j i d e f g c1 c2 w}
   {exact Zbw a b c p (by omega) (by omega) d e f g c1 c2 w}}}
 {exact Zd5 a b c p h w}
def showR (v:Sem.Ver):Value:=if Sem.may v=true then .tuple #[.string ⟨(Sem.text v).toArray⟩,.int .i64 0] else .tuple #[.string ByteArray.empty,.int .i64 40]
theorem Z22 {n:Nat} (h:n<=999999): (Sem.dec n).length<=6:=Sem.Z30 6 n (by have: (10:Nat) ^ 6=1000000:=rfl; omega) (by omega)
theorem Zg4 (n:Nat):Lib.decDigits n=Sem.dec n:=by
 induction n using Nat.strongRecOn with
 | ind n ih=>
  rw[Lib.decDigits,Sem.dec];by_cases h:n < 10
  {rw[dif_pos h,dif_pos h]}
  {rw[dif_neg h,dif_neg h,ih _ (by omega)]}
theorem Zd9 (n:Nat) (h:n<=999999) (w:World) (b:Globs w):
 Y9 207 #[.int .i64 n] w (.string ⟨(Sem.dec n).toArray⟩):=by
 have a:=Any.strconv_Itoa Tryz.laysM171 n (by omega) (by omega) w b.tab;rw[Lib.itoa_nonneg,Zg4] at a;refine Calls.mono a ?_;rintro e w' ⟨rfl,k,os,rfl⟩;exact ⟨rfl,Lib.below_grow _ _ (Nat.le_refl _) _ _⟩
theorem Zbx (z:Int) (a:0<=z) (h:z<=999999) (w:World) (b:Globs w):
 Y9 207 #[.int .i64 z] w (.string ⟨(Sem.dec z.toNat).toArray⟩):=by
 obtain ⟨n,rfl⟩:=Int.eq_ofNat_of_zero_le a;exact Zd9 n (by omega) w b
theorem Zby {w W w':World} {g:Nat} {a b c:Int} {x:ByteArray} (h:g < W.heap.size/\W.cell? ⟨g,0,none⟩=some (.int .i64 a)/\W.cell? ⟨g,1,none⟩=some (.int .i64 b)/\W.cell? ⟨g,2,none⟩=some (.int .i64 c)/\W.cell? ⟨g,3,none⟩=some (.string x)/\Globs W/\Below w.heap.size w W) (d:Below W.heap.size W w'):
 g < w'.heap.size/\w'.cell? ⟨g,0,none⟩=some (.int .i64 a)/\w'.cell? ⟨g,1,none⟩=some (.int .i64 b)/\w'.cell? ⟨g,2,none⟩=some (.int .i64 c)/\w'.cell? ⟨g,3,none⟩=some (.string x)/\Globs w'/\Below w.heap.size w w':=by
 obtain ⟨e,f,i,j,k,l,m⟩:=h;exact ⟨Nat.lt_of_lt_of_le e d.size,((Z04 (o:=0) d e).1).trans f,((Z04 (o:=1) d e).1).trans i,((Z04 (o:=2) d e).1).trans j,((Z04 (o:=3) d e).1).trans k,l.next d,Z00 m d⟩
theorem Z4b (z:Int) (d:0<=z) (e:z<=999999) {w W:World} {g:Nat} {a b c:Int} {x:ByteArray} (h:g < W.heap.size/\W.cell? ⟨g,0,none⟩=some (.int .i64 a)/\W.cell? ⟨g,1,none⟩=some (.int .i64 b)/\W.cell? ⟨g,2,none⟩=some (.int .i64 c)/\W.cell? ⟨g,3,none⟩=some (.string x)/\Globs W/\Below w.heap.size w W):
 Y9 207 #[.int .i64 z] W (.string ⟨(Sem.dec z.toNat).toArray⟩):=
 Zbx z d e W h.2.2.2.2.2.1
theorem Globs.drew {w:World} (h:Globs w):Globs w.drew:=⟨h.syn,h.rng,h.tab⟩
theorem Z2X {w W:World} {g:Nat} {a b c:Int} {x:ByteArray} (h:g < W.heap.size/\W.cell? ⟨g,0,none⟩=some (.int .i64 a)/\W.cell? ⟨g,1,none⟩=some (.int .i64 b)/\W.cell? ⟨g,2,none⟩=some (.int .i64 c)/\W.cell? ⟨g,3,none⟩=some (.string x)/\Globs W/\Below w.heap.size w W):
 g < W.drew.heap.size/\W.drew.cell? ⟨g,0,none⟩=some (.int .i64 a)/\W.drew.cell? ⟨g,1,none⟩=some (.int .i64 b)/\W.drew.cell? ⟨g,2,none⟩=some (.int .i64 c)/\W.drew.cell? ⟨g,3,none⟩=some (.string x)/\Globs W.drew/\Below w.heap.size w W.drew:=
 ⟨h.1,h.2.1,h.2.2.1,h.2.2.2.1,h.2.2.2.2.1,h.2.2.2.2.2.1.drew,h.2.2.2.2.2.2.drew⟩
theorem Zeq (x y z:List UInt8): (⟨x.toArray⟩:ByteArray)++⟨#[46]⟩++⟨y.toArray⟩++⟨#[46]⟩++⟨z.toArray⟩=⟨(x++46::(y++46::z)).toArray⟩:=by
 apply ByteArray.ext;simp[ByteArray.data_append]
theorem Zer (x y z p:List UInt8): (⟨(x++46::(y++46::z)).toArray⟩:ByteArray)++(⟨#[45]⟩++⟨p.toArray⟩)=⟨(x++46::(y++46::(z++45::p))).toArray⟩:=by
 apply ByteArray.ext;simp[ByteArray.data_append]
theorem Zda (v:Sem.Ver) (hs:v.pre.length<=140737488351232) (w:World) (hg:Globs w):
 Calls Tryz.prog 192 #[verV v] w fun e w'=>e= .returned (showR v)/\Below w.heap.size w w':=by
 cases hm:Sem.may v
 {have HM:=Y1 hm;have hc:chk v=40:=by rw[chk,hm]; rfl
  have HC:=Y1 hc;obtain ⟨a,b,c,p⟩:=v;clear hm hc;have hv:verV ⟨a,b,c,p⟩= .agg #[.int .i64 a,.int .i64 b,.int .i64 c,.string ⟨p.toArray⟩]:=rfl;rw[hv];clear hv;go_enter Tryz.func192,Tryz.ntmps192
  go_wp2_with fail
  refine (Z6d ⟨a,b,c,p⟩ (Nat.le_trans hs (by decide)) _).mono ?_;rintro e w1 ⟨he,hb⟩;rw[HC.out] at he;subst he;go_wp2
  go_ret2
  exact ⟨by rw[showR,HM.out,if_neg (by simp)]; rfl,Z00 (Z01 _ _) hb⟩}
 {have HM:=Y1 hm;have hc:chk v=0:=by rw[chk,hm]; rfl
  have HC:=Y1 hc;have hmi:=(Sem.Z12 v).1 hm;obtain ⟨a,b,c,p⟩:=v;simp only at hmi hs;obtain ⟨⟨a1,a2⟩,⟨b1,b2⟩,⟨c1,c2⟩,hp,_⟩:=hmi;clear hm hc;have HS:Hid (showR ⟨a,b,c,p⟩= .tuple #[.string ⟨(Sem.dec a.toNat++46::(Sem.dec b.toNat++46::(Sem.dec c.toNat++if p= [] then [] else 45::p))).toArray⟩,.int .i64 0]):=Y1 (by
   rw[showR,HM.out,if_pos rfl]; rfl)
  have la:=Z22 (n:=a.toNat) (by omega);have lb:=Z22 (n:=b.toNat) (by omega);have lc:=Z22 (n:=c.toNat) (by omega);have lp: (⟨p.toArray⟩:ByteArray).size=p.length:=Z07 _;have sa: (⟨(Sem.dec a.toNat).toArray⟩:ByteArray).size=(Sem.dec a.toNat).length:=Z07 _;have sb: (⟨(Sem.dec b.toNat).toArray⟩:ByteArray).size=(Sem.dec b.toNat).length:=Z07 _;have sc: (⟨(Sem.dec c.toNat).toArray⟩:ByteArray).size=(Sem.dec c.toNat).length:=Z07 _;have sd: (⟨#[46]⟩:ByteArray).size=1:=rfl;have n1: ((⟨(Sem.dec a.toNat).toArray⟩:ByteArray)++⟨#[46]⟩).size=(Sem.dec a.toNat).length+1:=by rw[ByteArray.size_append,sa,sd]
  have n2: ((⟨(Sem.dec a.toNat).toArray⟩:ByteArray)++⟨#[46]⟩++⟨(Sem.dec b.toNat).toArray⟩).size=(Sem.dec a.toNat).length+1+(Sem.dec b.toNat).length:=by rw[ByteArray.size_append,n1,sb]
  have n3: ((⟨(Sem.dec a.toNat).toArray⟩:ByteArray)++⟨#[46]⟩++⟨(Sem.dec b.toNat).toArray⟩++⟨#[46]⟩).size=(Sem.dec a.toNat).length+1+(Sem.dec b.toNat).length+1:=by rw[ByteArray.size_append,n2,sd]
  have k1: ∀W:World,(Op.stringOp .add (⟨(Sem.dec a.toNat).toArray⟩:ByteArray) ⟨#[46]⟩).run Tryz.prog W= .ok (.string ((⟨(Sem.dec a.toNat).toArray⟩:ByteArray)++⟨#[46]⟩)) W:=fun W=>run_string_add_sum _ _ _ (by omega);have k2: ∀W:World,(Op.stringOp .add ((⟨(Sem.dec a.toNat).toArray⟩:ByteArray)++⟨#[46]⟩) ⟨(Sem.dec b.toNat).toArray⟩).run Tryz.prog W= .ok (.string ((⟨(Sem.dec a.toNat).toArray⟩:ByteArray)++⟨#[46]⟩++⟨(Sem.dec b.toNat).toArray⟩)) W:=fun W=>run_string_add_sum _ _ _ (by omega);have k3: ∀W:World,(Op.stringOp .add ((⟨(Sem.dec a.toNat).toArray⟩:ByteArray)++⟨#[46]⟩++⟨(Sem.dec b.toNat).toArray⟩) ⟨#[46]⟩).run Tryz.prog W= .ok (.string ((⟨(Sem.dec a.toNat).toArray⟩:ByteArray)++⟨#[46]⟩++⟨(Sem.dec b.toNat).toArray⟩++⟨#[46]⟩)) W:=fun W=>run_string_add_sum _ _ _ (by omega);have k4: ∀W:World,(Op.stringOp .add ((⟨(Sem.dec a.toNat).toArray⟩:ByteArray)++⟨#[46]⟩++⟨(Sem.dec b.toNat).toArray⟩++⟨#[46]⟩) ⟨(Sem.dec c.toNat).toArray⟩).run Tryz.prog W= .ok (.string ((⟨(Sem.dec a.toNat).toArray⟩:ByteArray)++⟨#[46]⟩++⟨(Sem.dec b.toNat).toArray⟩++⟨#[46]⟩++⟨(Sem.dec c.toNat).toArray⟩)) W:=fun W=>run_string_add_sum _ _ _ (by omega);clear n1 n2 n3 sd;unfold verV;go_enter Tryz.func192,Tryz.ntmps192
  go_wp2_with fail
  refine (Z6d ⟨a,b,c,p⟩ (Nat.le_trans hs (by decide)) _).mono ?_;rintro e w1 ⟨he,hb⟩;rw[HC.out] at he;subst he;obtain ⟨h0,g0,g1,g2,g3⟩:=(Z2m w ⟨a,b,c,p⟩).next hb;have hb1:=Z00 (Z01 w (Obj.cells #[Value.int IntKind.i64 a,Value.int IntKind.i64 b,Value.int IntKind.i64 c,Value.string ⟨p.toArray⟩] 105)) hb;have hS0:w.heap.size < w1.heap.size/\w1.cell? ⟨w.heap.size,0,none⟩=some (.int .i64 a)/\w1.cell? ⟨w.heap.size,1,none⟩=some (.int .i64 b)/\w1.cell? ⟨w.heap.size,2,none⟩=some (.int .i64 c)/\w1.cell? ⟨w.heap.size,3,none⟩=some (.string ⟨p.toArray⟩)/\Globs w1/\Below w.heap.size w w1:=⟨h0,g0,g1,g2,g3,hg.next hb1,hb1⟩;simp only at g0 g1 g2 g3;have hG1:=hS0.2.2.2.2.2.1;clear hb hb1
  go_wp2_with fail
  go_region_held3 (fun w'=>w.heap.size < w'.heap.size/\w'.cell? ⟨w.heap.size,0,none⟩=some (.int .i64 a)/\w'.cell? ⟨w.heap.size,1,none⟩=some (.int .i64 b)/\w'.cell? ⟨w.heap.size,2,none⟩=some (.int .i64 c)/\w'.cell? ⟨w.heap.size,3,none⟩=some (.string ⟨p.toArray⟩)/\Globs w'/\Below w.heap.size w w')
   (first | exact Z2X hS0 | exact Zby (by assumption) (by assumption) | assumption)
   (first | (go_at_call 207; refine Calls.mono (Z4b (w:=w) (g:=w.heap.size) (a:=a) (b:=b) (c:=c) (x:=⟨p.toArray⟩) a a1 a2 ?_) ?_; (first | exact Z2X hS0 | exact hS0 | assumption); rintro e w4 ⟨rfl,hb4⟩) | (go_at_call 207; refine Calls.mono (Z4b (w:=w) (g:=w.heap.size) (a:=a) (b:=b) (c:=c) (x:=⟨p.toArray⟩) b b1 b2 ?_) ?_; (first | exact Z2X hS0 | exact hS0 | assumption); rintro e w5 ⟨rfl,hb5⟩) | (go_at_call 207; refine Calls.mono (Z4b (w:=w) (g:=w.heap.size) (a:=a) (b:=b) (c:=c) (x:=⟨p.toArray⟩) c c1 c2 ?_) ?_; (first | exact Z2X hS0 | exact hS0 | assumption); rintro e w6 ⟨rfl,hb6⟩))
  all_goals (
   have hH:w.heap.size < w6.heap.size/\w6.cell? ⟨w.heap.size,0,none⟩=some (.int .i64 a)/\w6.cell? ⟨w.heap.size,1,none⟩=some (.int .i64 b)/\w6.cell? ⟨w.heap.size,2,none⟩=some (.int .i64 c)/\w6.cell? ⟨w.heap.size,3,none⟩=some (.string ⟨p.toArray⟩)/\Globs w6/\Below w.heap.size w w6:=by assumption
   obtain ⟨_,j0,j1,j2,j3,_,kb⟩:=hH;clear k1 k2 k3 k4;rw[Zeq];obtain ⟨t,ht⟩: ∃t,t=Sem.dec a.toNat++46::(Sem.dec b.toNat++46::Sem.dec c.toNat):=⟨_,rfl⟩;have htl:t.length<=20:=by rw[ht]; simp; omega
   have hts: (⟨t.toArray⟩:ByteArray).size=t.length:=Z07 _;rw[<-ht];by_cases hz:p= []
   {have he:p.isEmpty=true:=by rw[hz]; rfl
    have HF:Hid (showR ⟨a,b,c,p⟩= .tuple #[.string ⟨t.toArray⟩,.int .i64 0]):=Y1 (by rw[HS.out,if_pos hz,List.append_nil,ht]);clear ht hz;go_wp2
    go_ret2
    exact ⟨by rw[HF.out]; rfl,kb⟩}
   · have he:p.isEmpty=false:=by simpa using hz
     have HF:Hid (showR ⟨a,b,c,p⟩= .tuple #[.string (⟨t.toArray⟩++(⟨#[45]⟩++⟨p.toArray⟩)),.int .i64 0]):=Y1 (by
      rw[HS.out,if_neg hz,ht,Zer])
     clear ht hz;go_wp2
     go_ret2
     exact ⟨by rw[HF.out]; rfl,kb⟩)}
def Box4 (W:World) (g:Nat) (v:Sem.Ver):Prop:=VerAt W g v/\W.frozen? ⟨g,0,none⟩=false/\W.frozen? ⟨g,1,none⟩=false/\W.frozen? ⟨g,2,none⟩=false/\W.frozen? ⟨g,3,none⟩=false
theorem Box4.keep {W W':World} {g B:Nat} {v:Sem.Ver} (h:Box4 W g v) (b:g < B) (a:Below B W W'):Box4 W' g v:=by
 obtain ⟨⟨i,j,k,l,m⟩,c,d,e,f⟩:=h;exact ⟨⟨Nat.lt_of_lt_of_le i a.size,(a.cell (p:=⟨g,0,none⟩) b).trans j,(a.cell (p:=⟨g,1,none⟩) b).trans k,(a.cell (p:=⟨g,2,none⟩) b).trans l,(a.cell (p:=⟨g,3,none⟩) b).trans m⟩,
  (a.frozen (p:=⟨g,0,none⟩) b).trans c,(a.frozen (p:=⟨g,1,none⟩) b).trans d,(a.frozen (p:=⟨g,2,none⟩) b).trans e,(a.frozen (p:=⟨g,3,none⟩) b).trans f⟩
theorem Box4.set {W:World} {g:Nat} {v:Sem.Ver} (h:Box4 W g v) (u:Sem.Ver):Box4 ((((W.setCell ⟨g,0,none⟩ (.int .i64 u.maj)).setCell ⟨g,1,none⟩ (.int .i64 u.min)).setCell ⟨g,2,none⟩ (.int .i64 u.pat)).setCell ⟨g,3,none⟩ (.string ⟨u.pre.toArray⟩)) g u:=by
 obtain ⟨⟨e,f,i,j,k⟩,a,b,c,d⟩:=h;exact ⟨⟨by simpa using e,by simp[go_sem,f],by simp[go_sem,i],by simp[go_sem,j],by simp[go_sem,k]⟩,by simp[go_sem,a],by simp[go_sem,b],by simp[go_sem,c],by simp[go_sem,d]⟩
theorem ZaC (w:World) (v:Sem.Ver):Box4 (w.alloc (.cells #[.int .i64 v.maj,.int .i64 v.min,.int .i64 v.pat,.string ⟨v.pre.toArray⟩] 105)) w.heap.size v:=
 ⟨Z2m w v,by simp[go_sem],by simp[go_sem],by simp[go_sem],by simp[go_sem]⟩
theorem VerAt.put {W:World} {g x:Nat} {v:Sem.Ver} (h:VerAt W g v) (a:x≠g) (p q r s:Value):
 VerAt ((((W.setCell ⟨x,0,none⟩ p).setCell ⟨x,1,none⟩ q).setCell ⟨x,2,none⟩ r).setCell ⟨x,3,none⟩ s) g v:=by
 obtain ⟨b,c,d,f,l⟩:=h;have k: ∀(V:World) (i j:Nat) (z:Value),(V.setCell ⟨x,i,none⟩ z).cell? ⟨g,j,none⟩=V.cell? ⟨g,j,none⟩:=fun V i j z=>World.cell?_setCell_other _ _ _ _ (fun e=>a (congrArg Addr.block e));refine ⟨by simpa using b, ?_, ?_, ?_, ?_⟩ <;> rw[k,k,k,k] <;> assumption
theorem Box4.put {W:World} {g x:Nat} {v:Sem.Ver} (h:Box4 W g v) (a:x≠g) (p q r s:Value):
 Box4 ((((W.setCell ⟨x,0,none⟩ p).setCell ⟨x,1,none⟩ q).setCell ⟨x,2,none⟩ r).setCell ⟨x,3,none⟩ s) g v:=by
 obtain ⟨f,b,c,d,e⟩:=h;exact ⟨f.put a p q r s,by simp[go_sem,b],by simp[go_sem,c],by simp[go_sem,d],by simp[go_sem,e]⟩
def parseR (o:Option Sem.Ver):Value:=match o with
 | some v=> .tuple #[verV v,.int .i64 0]
 | none=> .tuple #[verV ⟨0,0,0,[]⟩,.int .i64 40]
def tl (t:Nat×Nat×Nat):List Value:= [.int .i64 t.1,.int .i64 t.2.1,.int .i64 t.2.2]
theorem bel4 {w W:World} {x0 x1 x2 a:Value} (h:Below w.heap.size w W):Below w.heap.size w ((((W.setCell ⟨w.heap.size,0,none⟩ x0).setCell ⟨w.heap.size,1,none⟩ x1).setCell ⟨w.heap.size,2,none⟩ x2).setCell ⟨w.heap.size,3,none⟩ a):=
 (((h.setCell (p:=⟨w.heap.size,0,none⟩) (Nat.le_refl _) _).setCell (p:=⟨w.heap.size,1,none⟩) (Nat.le_refl _) _).setCell (p:=⟨w.heap.size,2,none⟩) (Nat.le_refl _) _).setCell (p:=⟨w.heap.size,3,none⟩) (Nat.le_refl _) _
def Arr3 (W:World) (g:Nat) (x0 x1 x2:Int):Prop:=g < W.heap.size/\W.cell? ⟨g,0,none⟩=some (.int .i64 x0)/\W.cell? ⟨g,1,none⟩=some (.int .i64 x1)/\W.cell? ⟨g,2,none⟩=some (.int .i64 x2)/\
 W.frozen? ⟨g,0,none⟩=false/\W.frozen? ⟨g,1,none⟩=false/\W.frozen? ⟨g,2,none⟩=false
theorem Arr3.keep {W W':World} {g B:Nat} {x0 x1 x2:Int} (h:Arr3 W g x0 x1 x2) (b:g < B) (a:Below B W W'):Arr3 W' g x0 x1 x2:=by
 obtain ⟨f,i,j,k,c,d,e⟩:=h;exact ⟨Nat.lt_of_lt_of_le f a.size,(a.cell (p:=⟨g,0,none⟩) b).trans i,(a.cell (p:=⟨g,1,none⟩) b).trans j,(a.cell (p:=⟨g,2,none⟩) b).trans k,
  (a.frozen (p:=⟨g,0,none⟩) b).trans c,(a.frozen (p:=⟨g,1,none⟩) b).trans d,(a.frozen (p:=⟨g,2,none⟩) b).trans e⟩
section
variable {W : World} {g : Nat} {x0 x1 x2 : Int} (h : Arr3 W g x0 x1 x2) (x : Int)
include W g x0 x1 x2 h x
theorem Arr3.set0:Arr3 (W.setCell ⟨g,0,none⟩ (.int .i64 x)) g x x1 x2:=by
 obtain ⟨d,e,f,i,a,b,c⟩:=h;exact ⟨by simpa using d,by simp[go_sem,e],by simp[go_sem,f],by simp[go_sem,i],by simp[go_sem,a],by simp[go_sem,b],by simp[go_sem,c]⟩
theorem Arr3.set1:Arr3 (W.setCell ⟨g,1,none⟩ (.int .i64 x)) g x0 x x2:=by
 obtain ⟨d,e,f,i,a,b,c⟩:=h;exact ⟨by simpa using d,by simp[go_sem,e],by simp[go_sem,f],by simp[go_sem,i],by simp[go_sem,a],by simp[go_sem,b],by simp[go_sem,c]⟩
theorem Arr3.set2:Arr3 (W.setCell ⟨g,2,none⟩ (.int .i64 x)) g x0 x1 x:=by
 obtain ⟨d,e,f,i,a,b,c⟩:=h;exact ⟨by simpa using d,by simp[go_sem,e],by simp[go_sem,f],by simp[go_sem,i],by simp[go_sem,a],by simp[go_sem,b],by simp[go_sem,c]⟩
end
theorem Z8D {ps:List (List UInt8)} (h:ps.length=3): ∃p0 p1 p2,ps= [p0,p1,p2]:=by
 match ps,h with
 | [a,b,c],_=>exact ⟨a,b,c,rfl⟩
def Read (p0 p1 p2:List UInt8) (i:Value) (x0 x1 x2:Int):Prop:=i= .int .i64 0\/(i= .int .i64 1/\Lib.atoiAll p0= .ok x0)\/(i= .int .i64 2/\Lib.atoiAll p0= .ok x0/\Lib.atoiAll p1= .ok x1)\/(i= .int .i64 3/\Lib.atoiAll p0= .ok x0/\Lib.atoiAll p1= .ok x1/\Lib.atoiAll p2= .ok x2)
theorem Z4c (p:List UInt8): (∃v,Lib.atoiAll p= .ok v)\/(∀v,Lib.atoiAll p≠ .ok v):=by
 rcases h:Lib.atoiAll p with v | _ | _
 {exact Or.inl ⟨v,rfl⟩}
 {exact Or.inr (fun v h=>by cases h)}
 {exact Or.inr (fun v h=>by cases h)}
theorem Z9R (l:List UInt8) (hl:l.length<=140737488351232) (w:World) (hg:Globs w):
 Y9 178 #[.string ⟨l.toArray⟩] w (parseR (Sem.parse l)):=by
 obtain ⟨a1,a2,_⟩:=Sem.Z6y 45 l;have HC:=Y1 (@Sem.Z9J l);have T:=Y1 (fun (p0 p1 p2:List UInt8)=>Sem.ZcO (l:=l) (p0:=p0) (p1:=p1) (p2:=p2));have HM:=Y1 (fun (p0 p1 p2:List UInt8) (x0 x1 x2:Int)=>Sem.Zbh (l:=l) (p0:=p0) (p1:=p1) (p2:=p2) (x0:=x0) (x1:=x1) (x2:=x2));have t: ∀w,Y9 117 #[.string ⟨l.toArray⟩,.string ⟨#[45]⟩] w (.tuple #[.string ⟨(Sem.cut 45 l).1.toArray⟩,.string ⟨(Sem.cut 45 l).2.1.toArray⟩,.bool (Sem.cut 45 l).2.2]):=
  fun w=>Z8q ⟨l.toArray⟩ 45 (by rw[Z07]; omega) w
 rcases a3:Sem.cut 45 l with ⟨core,d,m⟩;rw[a3] at a1 a2 t HC T HM;simp only at a1 a2 t T HM;clear a3;go_enter Tryz.func178,Tryz.ntmps178
 go_wp2_with fail
 refine (t _).mono ?_;rintro e w1 ⟨rfl,I⟩
 go_wp2_with fail
 refine (Z9I core (by omega) _).mono ?_;rintro e s ⟨g,N,rfl,hS,P⟩;have Q:=(ZaC w ⟨0,0,0,[]⟩).keep (B:=w.heap.size+1) (by omega) ((I.mono (by simp)).trans (P.mono (by have:=I.size; simp at this; omega)));have r:Below w.heap.size w s:=Z00 (Z00 (Z01 w (.cells #[.int .i64 0,.int .i64 0,.int .i64 0,.string ⟨#[]⟩] 105)) I) P;have J:=hg.next r;have G: ∀p∈Sem.split (min 3 core.length) core,p.length<=140737488351232:=fun p hp=>by have:=Sem.Z5r _ _ p hp; omega
 obtain ⟨ps,a5⟩: ∃ps,ps=Sem.split (min 3 core.length) core:=⟨_,rfl⟩;rw[<-a5] at hS G HC T HM ⊢;clear a5 t I P;have f:=Y1 Q;by_cases h3:ps.length=3
 {obtain ⟨p0,p1,p2,rfl⟩:=Z8D h3;have l0:=G p0 (by simp);have l1:=G p1 (by simp);have l2:=G p2 (by simp);have b0:Hid (s.cell? ⟨g,0,none⟩=some (.string ⟨p0.toArray⟩)/\s.cell? ⟨g,1,none⟩=some (.string ⟨p1.toArray⟩)/\s.cell? ⟨g,2,none⟩=some (.string ⟨p2.toArray⟩)/\g < s.heap.size):=by
   rcases hS with h | ⟨b,off,C,b6,hc⟩
   {simp[strs] at h}
   {simp only[Option.some.injEq,Addr.mk.injEq,and_true] at C;obtain ⟨rfl,rfl⟩:=C;have q0:=hc 0 (by simp[strs]);have q1:=hc 1 (by simp[strs]);have q2:=hc 2 (by simp[strs]);exact Y1 ⟨by simpa[strs] using q0,by simpa[strs] using q1,by simpa[strs] using q2,b6⟩}
  clear hS Q h3 G HC
  go_wp2_with fail
  go_loopw [30] (fun i wr=> ∃x0 x1 x2:Int,Read p0 p1 p2 i x0 x1 x2/\Arr3 wr s.heap.size x0 x1 x2/\Below s.heap.size s wr) (fun i _=>3 - (intOf i).toNat)
  case atStart=>exact ⟨0,0,0,Or.inl rfl,⟨by simp,by simp[go_sem],by simp[go_sem],by simp[go_sem],by simp[go_sem],by simp[go_sem],by simp[go_sem]⟩,Z01 _ _⟩
  case round=>
   obtain ⟨x0,x1,x2,S,C,q⟩:=hrel;obtain ⟨L,M,O,zg⟩:=b0.out;rw[<-(Z04 (o:=0) q zg).1] at L;rw[<-(Z04 (o:=1) q zg).1] at M;rw[<-(Z04 (o:=2) q zg).1] at O;rcases S with rfl | ⟨rfl,q0⟩ | ⟨rfl,q0,q1⟩ | ⟨rfl,q0,q1,q2⟩
   {rcases Z4c p0 with ⟨v,n⟩ | n
    {go_wp2_with fail
     refine (Z53 p0 (by omega) v n _).mono ?_;rintro e K ⟨rfl,a⟩;have c:=Z00 q a;have j:=C.keep (B:=wr.heap.size) C.1 a;have A:=Y1 j;obtain ⟨_,t0,t1,t2,s0,s1,s2⟩:=j;clear L M O;go_wp2
     go_roundw
     case rel=>exact ⟨v,x1,x2,Or.inr (Or.inl ⟨rfl,n⟩),A.out.set0 v,c.setCell (p:=⟨s.heap.size,0,none⟩) (Nat.le_refl _) _⟩
     case measure=>simp[intOf]}
    {have u:=Y1 (T.out p0 p1 p2 rfl (Or.inl n));have F:=J.next q
     go_wp2_with fail
     refine (Z5M p0 (by omega) n _ F).mono ?_;rintro e K ⟨z,N3,rfl,a⟩;have c:=Z00 q a;have k:=Z00 r c;obtain ⟨⟨_,r0,r1,r2,y⟩,f0,f1,f2,U⟩:=f.out.keep (B:=s.heap.size) f.out.1.1 c;clear L M O;go_wp2;refine bodyPost_ret (v:= .tuple #[.agg #[.int .i64 0,.int .i64 0,.int .i64 0,.string ByteArray.empty],.int .i64 40]) (by simp[results,Tryz.results178,go_sem,r0,r1,r2,y]; rfl) rfl ?_;exact ⟨by rw[u.out]; rfl,bel4 k⟩}}
   {rcases Z4c p1 with ⟨v,n⟩ | n
    {go_wp2_with fail
     refine (Z53 p1 (by omega) v n _).mono ?_;rintro e K ⟨rfl,a⟩;have c:=Z00 q a;have j:=C.keep (B:=wr.heap.size) C.1 a;have A:=Y1 j;obtain ⟨_,t0,t1,t2,s0,s1,s2⟩:=j;clear L M O;go_wp2
     go_roundw
     case rel=>exact ⟨x0,v,x2,Or.inr (Or.inr (Or.inl ⟨rfl,q0,n⟩)),A.out.set1 v,c.setCell (p:=⟨s.heap.size,1,none⟩) (Nat.le_refl _) _⟩
     case measure=>simp[intOf]}
    {have u:=Y1 (T.out p0 p1 p2 rfl (Or.inr (Or.inl n)));have F:=J.next q
     go_wp2_with fail
     refine (Z5M p1 (by omega) n _ F).mono ?_;rintro e K ⟨z,N3,rfl,a⟩;have c:=Z00 q a;have k:=Z00 r c;obtain ⟨⟨_,r0,r1,r2,y⟩,f0,f1,f2,U⟩:=f.out.keep (B:=s.heap.size) f.out.1.1 c;clear L M O;go_wp2;refine bodyPost_ret (v:= .tuple #[.agg #[.int .i64 0,.int .i64 0,.int .i64 0,.string ByteArray.empty],.int .i64 40]) (by simp[results,Tryz.results178,go_sem,r0,r1,r2,y]; rfl) rfl ?_;exact ⟨by rw[u.out]; rfl,bel4 k⟩}}
   {rcases Z4c p2 with ⟨v,n⟩ | n
    {go_wp2_with fail
     refine (Z53 p2 (by omega) v n _).mono ?_;rintro e K ⟨rfl,a⟩;have c:=Z00 q a;have j:=C.keep (B:=wr.heap.size) C.1 a;have A:=Y1 j;obtain ⟨_,t0,t1,t2,s0,s1,s2⟩:=j;clear L M O;go_wp2
     go_roundw
     case rel=>exact ⟨x0,x1,v,Or.inr (Or.inr (Or.inr ⟨rfl,q0,q1,n⟩)),A.out.set2 v,c.setCell (p:=⟨s.heap.size,2,none⟩) (Nat.le_refl _) _⟩
     case measure=>simp[intOf]}
    {have u:=Y1 (T.out p0 p1 p2 rfl (Or.inr (Or.inr n)));have F:=J.next q
     go_wp2_with fail
     refine (Z5M p2 (by omega) n _ F).mono ?_;rintro e K ⟨z,N3,rfl,a⟩;have c:=Z00 q a;have k:=Z00 r c;obtain ⟨⟨_,r0,r1,r2,y⟩,f0,f1,f2,U⟩:=f.out.keep (B:=s.heap.size) f.out.1.1 c;clear L M O;go_wp2;refine bodyPost_ret (v:= .tuple #[.agg #[.int .i64 0,.int .i64 0,.int .i64 0,.string ByteArray.empty],.int .i64 40]) (by simp[results,Tryz.results178,go_sem,r0,r1,r2,y]; rfl) rfl ?_;exact ⟨by rw[u.out]; rfl,bel4 k⟩}}
   {have HE:=Y1 (HM.out p0 p1 p2 x0 x1 x2 rfl q0 q1 q2);clear L M O q0 q1 q2;have HA:=Y1 C;obtain ⟨_,t0,t1,t2,_,_,_⟩:=C
    go_wp2_with fail
    have b5:d.length<=140737488351232:=by omega
    have b1:=Y1 (ZaC wr ⟨x0,x1,x2,d⟩);have D:=Z01 wr (.cells #[.int .i64 x0,.int .i64 x1,.int .i64 x2,.string ⟨d.toArray⟩] 105);refine (Zda ⟨x0,x1,x2,d⟩ b5 _ ((J.next q).next D)).mono ?_;rintro e K ⟨V,a⟩;have Y:=Z00 q (Z00 D a);have E:=Z00 r Y;have X:=Y1 (b1.out.keep (B:=wr.heap.size+1) (by omega) (a.mono (by simp)));have H:=Y1 (f.out.keep (B:=s.heap.size) f.out.1.1 Y);clear t0 t1 t2;cases hmay:Sem.may ⟨x0,x1,x2,d⟩
    {have u:Hid (Sem.parse l=none):=Y1 (by rw[HE.out,if_neg (by rw[hmay]; simp)]);rw[showR,hmay,if_neg (by simp)] at V;subst V;obtain ⟨⟨_,r0,r1,r2,y⟩,f0,f1,f2,U⟩:=H.out;clear D a;go_wp2;refine bodyPost_ret (v:= .tuple #[.agg #[.int .i64 0,.int .i64 0,.int .i64 0,.string ByteArray.empty],.int .i64 40]) (by simp[results,Tryz.results178,go_sem,r0,r1,r2,y]; rfl) rfl ?_;exact ⟨by rw[u.out]; rfl,bel4 E⟩}
    {rw[showR,hmay,if_pos rfl] at V;by_cases W:Sem.text ⟨x0,x1,x2,d⟩=l
     {have u:Hid (Sem.parse l=some ⟨x0,x1,x2,d⟩):=Y1 (by rw[HE.out,if_pos ⟨hmay,W⟩]);rw[W] at V;subst V;have a4: (l==l)=true:=by simp
      clear D a W
      go_wp2_with fail
      refine (Z48 d (by omega) _).mono ?_;rintro e w4 ⟨rfl,c⟩;have Z:=Z00 E c;obtain ⟨⟨_,v0,v1,v2,v3⟩,_,_,_,y3⟩:=X.out.keep (B:=K.heap.size) X.out.1.1 c;obtain ⟨⟨_,r0,r1,r2,y⟩,f0,f1,f2,U⟩:=H.out.keep (B:=K.heap.size) H.out.1.1 c;have c0:wr.heap.size≠w.heap.size:=by have:=q.size; have:=f.out.1.1; omega
      simp only at v0 v1 v2 v3;clear c a4;go_wp2;have a0:Below w.heap.size w (w4.setCell ⟨wr.heap.size,3,none⟩ (.string ⟨d.toArray⟩)):=Z.setCell (p:=⟨wr.heap.size,3,none⟩) (by show w.heap.size<=wr.heap.size; have:=r.size; have:=q.size; omega) _;refine bodyPost_ret (v:= .tuple #[.agg #[.int .i64 x0,.int .i64 x1,.int .i64 x2,.string ⟨d.toArray⟩],.int .i64 0]) (by simp[results,Tryz.results178,go_sem,r0,r1,r2,y]) rfl ?_;exact ⟨by rw[u.out]; rfl,bel4 a0⟩}
     {have u:Hid (Sem.parse l=none):=Y1 (by rw[HE.out,if_neg (fun h=>W h.2)]);subst V;have a4: (Sem.text ⟨x0,x1,x2,d⟩==l)=false:=by simpa using W
      obtain ⟨⟨_,r0,r1,r2,y⟩,f0,f1,f2,U⟩:=H.out;clear D a W;go_wp2;refine bodyPost_ret (v:= .tuple #[.agg #[.int .i64 0,.int .i64 0,.int .i64 0,.string ByteArray.empty],.int .i64 40]) (by simp[results,Tryz.results178,go_sem,r0,r1,r2,y]; rfl) rfl ?_;exact ⟨by rw[u.out]; rfl,bel4 E⟩}}}}
 {have u:=Y1 (HC.out h3);obtain ⟨⟨_,r0,r1,r2,y⟩,f0,f1,f2,U⟩:=Q;have hd: ((ps.length:Int) !=3)=true:=by rw[bne_iff_ne]; omega
  go_wp2;refine bodyPost_ret (v:= .tuple #[.agg #[.int .i64 0,.int .i64 0,.int .i64 0,.string ByteArray.empty],.int .i64 40]) (by simp[results,Tryz.results178,go_sem,r0,r1,r2,y]; rfl) rfl ?_;exact ⟨by rw[u.out]; rfl,bel4 r⟩}
theorem ZbA (s:ByteArray) (b:s.size<=140737488351232) (w:World) (a:Globs w):
 Y9 178 #[.string s] w (parseR (Sem.parse s.data.toList)):=by
 have h:=Z9R s.data.toList (by rw[<-Lib.size_eq]; exact b) w a;rw[<-ZeX s] at h;exact h
def kindV (l:List UInt8):Value:=match Lex.kindR l with
 | some k=> .tuple #[.int .i64 k,.bool true]
 | none=> .tuple #[.int .i64 0,.bool false]
section
variable (l : List UInt8) (hl : l.length <= 140737488351232)
include l hl
theorem Z4N (u:Sem.Ver) (d:Int) (h:parseR (Sem.parse l)= .tuple #[verV u,.int .i64 d]) (w:World) (j:Globs w):
 Y9 160 #[.string ⟨l.toArray⟩] w (.bool (d==0)):=by
 obtain ⟨a,b,c,p⟩:=u;have i:Hid (parseR (Sem.parse l)= .tuple #[.agg #[.int .i64 a,.int .i64 b,.int .i64 c,.string ⟨p.toArray⟩],.int .i64 d]):=Y1 h;clear h;go_enter Tryz.func160,Tryz.ntmps160
 go_wp2_with fail
 refine (ZbA ⟨l.toArray⟩ (by rw[Z07]; exact hl) _ j).mono ?_;rintro e k ⟨g,f⟩;rw[show (⟨l.toArray⟩:ByteArray).data.toList=l from rfl,i.out] at g;subst g;go_wp2;go_ret;exact ⟨rfl,Z03 f _⟩
theorem Z4m (w:World) (a:Globs w):
 Y9 160 #[.string ⟨l.toArray⟩] w (.bool (Sem.parse l).isSome):=by
 rcases b:Sem.parse l with _ | v
 {exact Z4N l hl ⟨0,0,0,[]⟩ 40 (by rw[b]; rfl) w a}
 {exact Z4N l hl v 0 (by rw[b]; rfl) w a}
theorem ZbB (w:World) (g:Globs w):
 Y9 123 #[.string ⟨l.toArray⟩] w (kindV l):=by
 have c:Hid (Lex.kindR l=if Lex.isWord l then some 5 else if Lex.isName l then some 1 else if Lex.isUpper l then some 2 else if Lex.isSign l then some 6 else if Lex.number l then some 3 else if (Sem.parse l).isSome then some 7 else none):=Y1 rfl;cases h0:Lex.isWord l
 {cases h1:Lex.isName l
  {cases h2:Lex.isUpper l
   {cases h3:Lex.isSign l
    {cases h4:Lex.number l
     {cases d: (Sem.parse l).isSome
      {have b:Hid (kindV l= .tuple #[.int .i64 0,.bool false]):=Y1 (by
        have:Lex.kindR l=none:=by rw[c.out,h0,h1,h2,h3,h4,d]; rfl
        unfold kindV; rw[this])
       go_enter Tryz.func123,Tryz.ntmps123
       go_wp2_with fail
       refine (Z19 l _).mono ?_;rintro e a ⟨rfl,rfl⟩;rw[h0]
       go_wp2_with fail
       refine (Z0s l (by omega) _).mono ?_;rintro e a ⟨rfl,rfl⟩;rw[h1]
       go_wp2_with fail
       refine (Z0R l (by omega) _).mono ?_;rintro e a ⟨rfl,rfl⟩;rw[h2]
       go_wp2_with fail
       refine (Z1H l _).mono ?_;rintro e a ⟨rfl,rfl⟩;rw[h3]
       go_wp2_with fail
       refine (Z38 l (by omega) _).mono ?_;rintro e a ⟨rfl,rfl⟩;rw[h4]
       go_wp2_with fail
       refine (Z4m l hl _ g).mono ?_;rintro e a ⟨rfl,f⟩;rw[d];go_wp2
       go_ret2
       exact ⟨by rw[b.out]; rfl,f⟩}
      {have b:Hid (kindV l= .tuple #[.int .i64 7,.bool true]):=Y1 (by
        have:Lex.kindR l=some 7:=by rw[c.out,h0,h1,h2,h3,h4,d]; rfl
        unfold kindV; rw[this])
       go_enter Tryz.func123,Tryz.ntmps123
       go_wp2_with fail
       refine (Z19 l _).mono ?_;rintro e a ⟨rfl,rfl⟩;rw[h0]
       go_wp2_with fail
       refine (Z0s l (by omega) _).mono ?_;rintro e a ⟨rfl,rfl⟩;rw[h1]
       go_wp2_with fail
       refine (Z0R l (by omega) _).mono ?_;rintro e a ⟨rfl,rfl⟩;rw[h2]
       go_wp2_with fail
       refine (Z1H l _).mono ?_;rintro e a ⟨rfl,rfl⟩;rw[h3]
       go_wp2_with fail
       refine (Z38 l (by omega) _).mono ?_;rintro e a ⟨rfl,rfl⟩;rw[h4]
       go_wp2_with fail
       refine (Z4m l hl _ g).mono ?_;rintro e a ⟨rfl,f⟩;rw[d];go_wp2
       go_ret2
       exact ⟨by rw[b.out]; rfl,f⟩}}
     {have b:Hid (kindV l= .tuple #[.int .i64 3,.bool true]):=Y1 (by
       have:Lex.kindR l=some 3:=by rw[c.out,h0,h1,h2,h3,h4]; rfl
       unfold kindV; rw[this])
      go_enter Tryz.func123,Tryz.ntmps123
      go_wp2_with fail
      refine (Z19 l _).mono ?_;rintro e a ⟨rfl,rfl⟩;rw[h0]
      go_wp2_with fail
      refine (Z0s l (by omega) _).mono ?_;rintro e a ⟨rfl,rfl⟩;rw[h1]
      go_wp2_with fail
      refine (Z0R l (by omega) _).mono ?_;rintro e a ⟨rfl,rfl⟩;rw[h2]
      go_wp2_with fail
      refine (Z1H l _).mono ?_;rintro e a ⟨rfl,rfl⟩;rw[h3]
      go_wp2_with fail
      refine (Z38 l (by omega) _).mono ?_;rintro e a ⟨rfl,rfl⟩;rw[h4];go_wp2
      go_ret2
      exact ⟨by rw[b.out]; rfl,Below.refl _ _⟩}}
    {have b:Hid (kindV l= .tuple #[.int .i64 6,.bool true]):=Y1 (by
      have:Lex.kindR l=some 6:=by rw[c.out,h0,h1,h2,h3]; rfl
      unfold kindV; rw[this])
     go_enter Tryz.func123,Tryz.ntmps123
     go_wp2_with fail
     refine (Z19 l _).mono ?_;rintro e a ⟨rfl,rfl⟩;rw[h0]
     go_wp2_with fail
     refine (Z0s l (by omega) _).mono ?_;rintro e a ⟨rfl,rfl⟩;rw[h1]
     go_wp2_with fail
     refine (Z0R l (by omega) _).mono ?_;rintro e a ⟨rfl,rfl⟩;rw[h2]
     go_wp2_with fail
     refine (Z1H l _).mono ?_;rintro e a ⟨rfl,rfl⟩;rw[h3];go_wp2
     go_ret2
     exact ⟨by rw[b.out]; rfl,Below.refl _ _⟩}}
   {have b:Hid (kindV l= .tuple #[.int .i64 2,.bool true]):=Y1 (by
     have:Lex.kindR l=some 2:=by rw[c.out,h0,h1,h2]; rfl
     unfold kindV; rw[this])
    go_enter Tryz.func123,Tryz.ntmps123
    go_wp2_with fail
    refine (Z19 l _).mono ?_;rintro e a ⟨rfl,rfl⟩;rw[h0]
    go_wp2_with fail
    refine (Z0s l (by omega) _).mono ?_;rintro e a ⟨rfl,rfl⟩;rw[h1]
    go_wp2_with fail
    refine (Z0R l (by omega) _).mono ?_;rintro e a ⟨rfl,rfl⟩;rw[h2];go_wp2
    go_ret2
    exact ⟨by rw[b.out]; rfl,Below.refl _ _⟩}}
  {have b:Hid (kindV l= .tuple #[.int .i64 1,.bool true]):=Y1 (by
    have:Lex.kindR l=some 1:=by rw[c.out,h0,h1]; rfl
    unfold kindV; rw[this])
   go_enter Tryz.func123,Tryz.ntmps123
   go_wp2_with fail
   refine (Z19 l _).mono ?_;rintro e a ⟨rfl,rfl⟩;rw[h0]
   go_wp2_with fail
   refine (Z0s l (by omega) _).mono ?_;rintro e a ⟨rfl,rfl⟩;rw[h1];go_wp2
   go_ret2
   exact ⟨by rw[b.out]; rfl,Below.refl _ _⟩}}
 {have b:Hid (kindV l= .tuple #[.int .i64 5,.bool true]):=Y1 (by
   have:Lex.kindR l=some 5:=by rw[c.out,h0]; rfl
   unfold kindV; rw[this])
  go_enter Tryz.func123,Tryz.ntmps123
  go_wp2_with fail
  refine (Z19 l _).mono ?_;rintro e a ⟨rfl,rfl⟩;rw[h0];go_wp2
  go_ret2
  exact ⟨by rw[b.out]; rfl,Below.refl _ _⟩}
end
structure ScanAt (W:World) (g:Nat) (s:List UInt8) (i:Nat):Prop where
 lt:g < W.heap.size
 c0:W.cell? ⟨g,0,none⟩=some (.string ⟨s.toArray⟩)
 c1:W.cell? ⟨g,1,none⟩=some (.int .i64 (i:Int))
 f1:W.frozen? ⟨g,1,none⟩=false
 f2:W.frozen? ⟨g,2,none⟩=false
theorem ScanAt.keep {W W':World} {g B i:Nat} {s:List UInt8} (h:ScanAt W g s i) (b:g < B) (a:Below B W W'):ScanAt W' g s i:=
 ⟨Nat.lt_of_lt_of_le h.lt a.size,(a.cell (p:=⟨g,0,none⟩) b).trans h.c0,(a.cell (p:=⟨g,1,none⟩) b).trans h.c1,(a.frozen (p:=⟨g,1,none⟩) b).trans h.f1,(a.frozen (p:=⟨g,2,none⟩) b).trans h.f2⟩
theorem Z0g (w:World) (n:Nat):Below w.heap.size w (w.drewN n):=Z0b Y2 n
section
variable (g : Nat) (s : List UInt8)
include g s
theorem Z6e (i:Nat) (w:World) (h:ScanAt w g s i):
 Calls Tryz.prog 59 #[.pointer (some ⟨g,0,none⟩)] w fun e w'=>e= .returned (.bool ((i:Int)==(s.length:Int)))/\ ∃n,w'=w.drewN n:=by
 have f: (⟨s.toArray⟩:ByteArray).size=s.length:=Z07 _;obtain ⟨a,b,c1,c,d⟩:=h;go_enter Tryz.func59,Tryz.ntmps59
 go_wp2_with fail
 go_quiet (fail)
 go_wp2;go_ret;exact ⟨rfl,_,rfl⟩
theorem Z3u (i:Nat) (b:i < s.length) (w:World) (h:ScanAt w g s i):
 Calls Tryz.prog 60 #[.pointer (some ⟨g,0,none⟩)] w fun e w'=>e= .returned (.int .u8 (s[i]'b).toNat)/\ ∃n,w'=w.drewN n:=by
 have o: (⟨s.toArray⟩:ByteArray).size=s.length:=Z07 _;obtain ⟨c,a⟩: ∃c,c=s[i]'b:=⟨_,rfl⟩;have d: ∀W,(Instr.index 9 (.string ⟨s.toArray⟩) (.int .i64 (i:Int))).run Tryz.prog W= .ok (.int .u8 c.toNat) W:=fun W=>by
  rw[a]; exact Z0i ⟨s.toArray⟩ i (by omega) W
 rw[<-a];clear a;have f: (i:Int) < (s.length:Int):=by omega
 obtain ⟨j,k,c1,l,m⟩:=h;go_enter Tryz.func60,Tryz.ntmps60
 go_wp2_with fail
 go_quiet (fail)
 go_wp2;go_ret;exact ⟨rfl,_,rfl⟩
theorem Z6f (i:Nat) (k:i<=s.length) (w:World) (h:ScanAt w g s i):
 Calls Tryz.prog 118 #[.pointer (some ⟨g,0,none⟩)] w fun e w'=>e= .returned (.string ⟨(s.drop i).toArray⟩)/\ ∃n,w'=w.drewN n:=by
 have l: (⟨s.toArray⟩:ByteArray).size=s.length:=Z07 _;have c: ∀W,(Instr.slice 9 (.string ⟨s.toArray⟩) (some (.int .i64 (i:Int))) none none).run Tryz.prog W= .ok (.string ⟨(s.drop i).toArray⟩) W:=fun W=>Z0Z (W:=W) ⟨s.toArray⟩ i (by omega);have a: (i:Int)<=(s.length:Int):=by omega
 obtain ⟨b,d,c1,f,j⟩:=h;go_enter Tryz.func118,Tryz.ntmps118
 go_wp2_with fail
 go_quiet (fail)
 go_wp2;go_ret;exact ⟨rfl,_,rfl⟩
theorem Z1J (i n:Nat) (o:i<=s.length) (r:s.length<=1000000) (q:n<=1000000) (w:World) (h:ScanAt w g s i):
 Calls Tryz.prog 84 #[.pointer (some ⟨g,0,none⟩),.int .i64 (n:Int)] w fun e w'=>e= .returned (.string ⟨((s.drop i).take n).toArray⟩)/\ ∃n,w'=w.drewN n:=by
 have u: (⟨s.toArray⟩:ByteArray).size=s.length:=Z07 _;have a: ∀(k:Int),(i:Int)<=k->k<=s.length-> ∀W,(Instr.slice 9 (.string ⟨s.toArray⟩) (some (.int .i64 (i:Int))) (some (.int .i64 k)) none).run Tryz.prog W= .ok (.string ⟨((s.drop i).take (k.toNat - i)).toArray⟩) W:=fun k b h2 W=>Z1i ⟨s.toArray⟩ i k b (by omega) W;have t:IntKind.i64.wrap ((i:Int)+(n:Int))=(i:Int)+(n:Int):=IntWalk.i64_in _ (by omega);obtain ⟨d,j,c1,l,m⟩:=h;by_cases p:i+n<=s.length
 {have f:min ((i:Int)+n) (s.length:Int)=(i:Int)+n:=by omega
  have b:=a ((i:Int)+n) (by omega) (by omega);have e: (((i:Int)+n).toNat - i)=n:=by omega
  rw[e] at b;have c: (i:Int)+n<=(s.length:Int):=by omega
  clear a e;go_enter Tryz.func84,Tryz.ntmps84
  go_wp2_with fail
  go_quiet (fail)
  go_wp2;go_ret;exact ⟨rfl,_,rfl⟩}
 {have f:min ((i:Int)+n) (s.length:Int)=(s.length:Int):=by omega
  have b:=a (s.length:Int) (by omega) (by omega);have e: ((s.drop i).take ((s.length:Int).toNat - i))=(s.drop i).take n:=by
   rw[List.take_of_length_le (by rw[List.length_drop]; omega),List.take_of_length_le (by rw[List.length_drop]; omega)]
  rw[e] at b;have c: ¬(i:Int)+n<=(s.length:Int):=by omega
  clear a e;go_enter Tryz.func84,Tryz.ntmps84
  go_wp2_with fail
  go_quiet (fail)
  go_wp2;go_ret;exact ⟨rfl,_,rfl⟩}
end
end
end Go.Proofs.YtkncdbaoaeeoiaaGreatDoor
