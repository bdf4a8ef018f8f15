/- ParseAround: ( and ) around an expression change nothing but places; for all values that the row lets in, with the program's variables laid as their texts lay them. -/
import Derived.Test.YtkncdbaoaeeoiaaGreatDoorTie
import Derived.Test.YtkncdbaoaeeoiaaGreatDoorCards
import Derived.LaidMore
import Derived.Lay
import Derived.Test.YtkncdbaoaeeoiaaGreatDoorL0n33
set_option linter.unusedVariables false
set_option linter.unusedSimpArgs false
set_option linter.unusedSectionVars false
set_option maxRecDepth 100000
set_option maxHeartbeats 16000000
namespace Go.Proofs.YtkncdbaoaeeoiaaGreatDoor
section
open Go.RowKit Tms
open Shp (Sh)
theorem Zjj {t b:Tm} (h:strip t=b/\slim t=true/\Tms.check t=0) (q:TP) (w:World) (g:TmAt w w.heap.size q t) (a:Gl w):
 Calls Tryz.prog 8 #[.agg (Y7 t q)] w fun e w'=> ∃q',e= .returned (.agg (Y7 b q'))/\TmAt w' w'.heap.size q' b/\Below w.heap.size w w':=by
 obtain ⟨c,d,f⟩:=h;subst c; exact Zhh t q w g a.s a.u d f
def Zj0 (t:Tm):Want:=⟨fun v W=> ∃q':TP,v= .agg (Y7 t q')/\TmAt W W.heap.size q' t,fun v w w' hb ⟨q',h1,h2⟩=>⟨q',h1,h2.next hb⟩⟩
theorem Zjh (s:List UInt8): (⟨#[40,32]⟩++⟨s.toArray⟩++⟨#[10,41]⟩:ByteArray)=⟨(Lex.parenT s).toArray⟩:=by
 rw[show (⟨#[40,32]⟩:ByteArray)=⟨([40,32]:List UInt8).toArray⟩ from rfl,show (⟨#[10,41]⟩:ByteArray)=⟨([10,41]:List UInt8).toArray⟩ from rfl,Zhl,Zhl]; rfl
def aroT (s:List UInt8) (x y:ET) (B:Tm) (w1 w2:World):Nat->Want
 | 0=> .val (.pointer (some ⟨(w2.heap.size+1),0,none⟩))
 | 1=> .val (.int .i64 0)
 | 2=> .val (.bool true)
 | 3=> .val (.bool true)
 | 4=> .val (.agg (Y7 x.t x.q))
 | 5=>Zj0 B
 | 6=> .val (.agg (Y7 y.t y.q))
 | 7=>Zj0 B
 | 8=> .val (.bool true)
 | 9=> .val (.bool true)
 | 10=> .val (.bool true)
 | 11=> .val (.bool true)
 | 12=> .val (.bool true)
 | 13=> .val (.bool true)
 | _=> .any
theorem Zhb (s:List UInt8) (hs:s.length<=140737488351232) (w:World) (hG:Gl w):
 Y9 3 #[.string ⟨s.toArray⟩] w (.bool true):=by
 have r:=Z2q s (by omega) w hG;have H:=Y1 hG;clear hG;have b8: (⟨s.toArray⟩:ByteArray).size=s.length:=by simp[ByteArray.size]
 cases D:Pso.rdText s Pso.wholeE with
 | error f=>
  rw[D] at r;have hf: (f.1 !=0)=true:=by simpa using Pso.rdText_ne D
  obtain ⟨a,b⟩:=f;dsimp only at hf;clear D;go_enter Tryz.func3,Tryz.ntmps3
  go_wp2_with fail
  refine r.mono ?_;rintro e l ⟨o,he⟩;simp only at he;subst he;clear r;have A:=box2 l #[.int .i64 0,.string ⟨#[]⟩,.string ⟨#[]⟩,.int .i64 0,.slice none 0 0,.slice none 0 0,.slice none 0 0,.slice none 0 0,.int .i64 0] #[.int .i64 a,.int .i64 b] 26 29;have C:=Y1 (Z00 o A.1);clear A o
  go_wp2_with fail
  refine (Z5y _ (H.out.next C.out)).mono ?_;rintro e d ⟨rfl,m⟩;have E:=Y1 (Z00 C.out m);clear m
  go_wp2_with fail
  go_ret;exact ⟨rfl,E.out⟩
 | ok t=>
  rw[D] at r;by_cases h4:s.length+4<=4096
  {obtain ⟨F,G⟩:=Pso.around_holds D h4;have V:=Y1 (Pso.slim_text D);have U:=Y1 (Pso.slim_text F);have N:=Y1 G;have O:=Y1 (ZhA (by decide: (0:Int)<=2) G);have I:=Y1 (fun (W:World) (hW:Below w.heap.size w W)=>Z2q (Lex.parenT s) (by simp[Lex.parenT]; omega) W (H.out.next hW));rw[F] at I;have b0:Hid (Lex.parenT s= [40,32]++s++ [10,41]):=Y1 rfl;have h5: ¬4096 < (s.length:Int)+4:=by omega
   clear D F G;go_enter Tryz.func3,Tryz.ntmps3
   go_wp2_with fail
   refine r.mono ?_;rintro e l ⟨o,x,rfl,hi,_,M⟩;clear r;have HE:=Y1 M;have HQ:=Y1 hi.here;have A:=box2 l (Y7 x.t x.q) #[.int .i64 0,.int .i64 0] 26 29;have X:=Y1 A;have C:=Y1 (Z00 o A.1);clear A o hi M;simp only[valT]
   go_wp2_with fail
   rw[Zjh];refine (I.out _ C.out).mono ?_;rintro e d ⟨m,y,rfl,J,_,L⟩;obtain ⟨B,hB⟩: ∃B,B=strip t:=⟨_,rfl⟩;have Y:Hid (strip x.t=B/\slim x.t=true/\Tms.check x.t=0):=Y1 (by rw[HE.out,hB]; exact ⟨rfl,V.out,N.out⟩);have Z:Hid (strip y.t=B/\slim y.t=true/\Tms.check y.t=0):=Y1 (by rw[L,hB]; exact ⟨Zh8 2 t,U.out,O.out⟩);have P:=Y1 ((HQ.out.next X.out.1).next m);have S:=Y1 J.here;have hz:=X.out.2.2.2;have q:=box2 d (Y7 y.t y.q) #[.int .i64 0,.int .i64 0] 26 29;have n:Hid (∀k v,((Y7 x.t x.q):Array Value)[k]? =some v->((d.alloc (.cells (Y7 y.t y.q) 26)).alloc (.cells Yc 29)).cell? ⟨l.heap.size,k,none⟩=some v):=Y1 (fun k v h=>(Below.cells (Z00 m q.1) (b:=l.heap.size) (by omega) _).trans (X.out.2.1 k v h));have g:Hid (l.heap.size < d.heap.size):=Y1 (by have:=m.size; omega);have c:=Y1 q;have z:=Y1 (Z00 C.out (Z00 m q.1));have Q:=Y1 (P.out.next q.1);have T:=Y1 (S.out.next q.1);clear m q J L hB hz;simp only[valT]
   go_wp2_with fail
   refine Z76 (rs:= [0,1,2,3,4,5,6,7,8,9,10,11,12,13])
    (fun i=> { tmps:=#[.string ⟨s.toArray⟩,undef,i 13,.pointer (some ⟨l.heap.size,0,none⟩),.pointer (some ⟨l.heap.size+1,0,none⟩),.pointer (some ⟨d.heap.size,0,none⟩),.pointer (some ⟨d.heap.size+1,0,none⟩),.tuple #[.agg (Y7 x.t x.q),.agg #[.int .i64 0,.int .i64 0]],.string ⟨s.toArray⟩,.tuple #[.agg (Y7 x.t x.q),.agg #[.int .i64 0,.int .i64 0]],.agg (Y7 x.t x.q),.agg #[.int .i64 0,.int .i64 0],.pointer (some ⟨l.heap.size+1,0,none⟩),.int .i64 0,.bool false,.bool false,.string ⟨s.toArray⟩,.int .i64 (s.length:Int),.int .i64 ((s.length:Int)+4),.bool (decide ((4096:Int) < (s.length:Int)+4)),.bool (decide ((4096:Int) < (s.length:Int)+4)),undef,.tuple #[.agg (Y7 y.t y.q),.agg #[.int .i64 0,.int .i64 0]],.string ⟨s.toArray⟩,.string (⟨#[40,32]⟩++⟨s.toArray⟩),.string ⟨(Lex.parenT s).toArray⟩,.tuple #[.agg (Y7 y.t y.q),.agg #[.int .i64 0,.int .i64 0]],.agg (Y7 y.t y.q),.agg #[.int .i64 0,.int .i64 0],i 0,i 1,i 2,i 3,i 4,i 5,i 6,i 7,i 8,i 9,i 10,i 11,i 12],defers:= [] })
    (fun j=>([undef,undef,undef,undef,undef,undef,undef,undef,undef,undef,undef,undef,undef,.bool false]:List Value).getD j undef) (aroT s x y B l d) (fun W=>Below ((d.alloc (.cells (Y7 y.t y.q) 26)).alloc (.cells Yc 29)).heap.size ((d.alloc (.cells (Y7 y.t y.q) 26)).alloc (.cells Yc 29)) W) (by kernel_rfl) (by kernel_rfl) (by kernel_rfl) Y2.drew ?_ ?_
   refine StepsAt.cons _ rfl (fun i W K' hJ hd hK=> ?_) ?_
   {refine Y0 hK hJ rfl rfl rfl ?_
    try dsimp only
    go_simp}
   refine StepsAt.cons _ rfl (fun i W K' hJ hd hK=> ?_) ?_
   {have d0:_=_:=hd 0 (by kernel_rfl);have y0:=(hJ.cell (p:=⟨d.heap.size+1,0,none⟩) (by rw[c.out.2.2.2]; show d.heap.size+1 < d.heap.size+2; omega)).trans (c.out.2.2.1 0 _ rfl);refine Y0 hK hJ rfl rfl rfl ?_
    try dsimp only
    go_simp}
   refine StepsAt.cons _ rfl (fun i W K' hJ hd hK=> ?_) ?_
   {have d1:_=_:=hd 1 (by kernel_rfl);refine Y0 hK hJ rfl rfl rfl ?_
    try dsimp only
    go_simp}
   refine StepsAt.cons _ rfl (fun i W K' hJ hd hK=> ?_) ?_
   {have d2:_=_:=hd 2 (by kernel_rfl);refine Y0 hK hJ rfl rfl rfl ?_
    try dsimp only
    go_simp}
   refine StepsAt.cons _ rfl (fun i W K' hJ hd hK=> ?_) ?_
   {have u:_=_:=hd 3 (by kernel_rfl);have y0:=(hJ.cell (p:=⟨l.heap.size,0,none⟩) (by rw[c.out.2.2.2]; have:=g.out; show l.heap.size < d.heap.size+2; omega)).trans (n.out 0 _ rfl);have y1:=(hJ.cell (p:=⟨l.heap.size,1,none⟩) (by rw[c.out.2.2.2]; have:=g.out; show l.heap.size < d.heap.size+2; omega)).trans (n.out 1 _ rfl);have y2:=(hJ.cell (p:=⟨l.heap.size,2,none⟩) (by rw[c.out.2.2.2]; have:=g.out; show l.heap.size < d.heap.size+2; omega)).trans (n.out 2 _ rfl);have y3:=(hJ.cell (p:=⟨l.heap.size,3,none⟩) (by rw[c.out.2.2.2]; have:=g.out; show l.heap.size < d.heap.size+2; omega)).trans (n.out 3 _ rfl);have y4:=(hJ.cell (p:=⟨l.heap.size,4,none⟩) (by rw[c.out.2.2.2]; have:=g.out; show l.heap.size < d.heap.size+2; omega)).trans (n.out 4 _ rfl);have y5:=(hJ.cell (p:=⟨l.heap.size,5,none⟩) (by rw[c.out.2.2.2]; have:=g.out; show l.heap.size < d.heap.size+2; omega)).trans (n.out 5 _ rfl);have y6:=(hJ.cell (p:=⟨l.heap.size,6,none⟩) (by rw[c.out.2.2.2]; have:=g.out; show l.heap.size < d.heap.size+2; omega)).trans (n.out 6 _ rfl);have y7:=(hJ.cell (p:=⟨l.heap.size,7,none⟩) (by rw[c.out.2.2.2]; have:=g.out; show l.heap.size < d.heap.size+2; omega)).trans (n.out 7 _ rfl);have y8:=(hJ.cell (p:=⟨l.heap.size,8,none⟩) (by rw[c.out.2.2.2]; have:=g.out; show l.heap.size < d.heap.size+2; omega)).trans (n.out 8 _ rfl);refine Y0 hK hJ rfl rfl ?_ ?_
    {simp[Region.wanted,yielded,u]}
    {try dsimp only
     go_simp}}
   refine StepsAt.cons _ rfl (fun i W K' hJ hd hK=> ?_) ?_
   {have u:_=_:=hd 3 (by kernel_rfl);have d4:_=_:=hd 4 (by kernel_rfl);refine Z0M (f:=8) (args:=#[.agg (Y7 x.t x.q)]) (W':=W) ?_ ?_ ((Zjj Y.out x.q W (Q.out.next hJ) (H.out.next (Z00 z.out hJ))).mono fun e w' ⟨q',r,F,h3⟩=>⟨_,r,hK.out _ _ ⟨q',rfl,F⟩ (Z00 hJ h3) h3⟩)
    {simp[Region.wanted,yielded,u]}
    {try dsimp only
     go_simp}}
   refine StepsAt.cons _ rfl (fun i W K' hJ hd hK=> ?_) ?_
   {have u:_=_:=hd 3 (by kernel_rfl);have y0:=(hJ.cell (p:=⟨d.heap.size,0,none⟩) (by rw[c.out.2.2.2]; have:=g.out; show d.heap.size < d.heap.size+2; omega)).trans (c.out.2.1 0 _ rfl);have y1:=(hJ.cell (p:=⟨d.heap.size,1,none⟩) (by rw[c.out.2.2.2]; have:=g.out; show d.heap.size < d.heap.size+2; omega)).trans (c.out.2.1 1 _ rfl);have y2:=(hJ.cell (p:=⟨d.heap.size,2,none⟩) (by rw[c.out.2.2.2]; have:=g.out; show d.heap.size < d.heap.size+2; omega)).trans (c.out.2.1 2 _ rfl);have y3:=(hJ.cell (p:=⟨d.heap.size,3,none⟩) (by rw[c.out.2.2.2]; have:=g.out; show d.heap.size < d.heap.size+2; omega)).trans (c.out.2.1 3 _ rfl);have y4:=(hJ.cell (p:=⟨d.heap.size,4,none⟩) (by rw[c.out.2.2.2]; have:=g.out; show d.heap.size < d.heap.size+2; omega)).trans (c.out.2.1 4 _ rfl);have y5:=(hJ.cell (p:=⟨d.heap.size,5,none⟩) (by rw[c.out.2.2.2]; have:=g.out; show d.heap.size < d.heap.size+2; omega)).trans (c.out.2.1 5 _ rfl);have y6:=(hJ.cell (p:=⟨d.heap.size,6,none⟩) (by rw[c.out.2.2.2]; have:=g.out; show d.heap.size < d.heap.size+2; omega)).trans (c.out.2.1 6 _ rfl);have y7:=(hJ.cell (p:=⟨d.heap.size,7,none⟩) (by rw[c.out.2.2.2]; have:=g.out; show d.heap.size < d.heap.size+2; omega)).trans (c.out.2.1 7 _ rfl);have y8:=(hJ.cell (p:=⟨d.heap.size,8,none⟩) (by rw[c.out.2.2.2]; have:=g.out; show d.heap.size < d.heap.size+2; omega)).trans (c.out.2.1 8 _ rfl);refine Y0 hK hJ rfl rfl ?_ ?_
    {simp[Region.wanted,yielded,u]}
    {try dsimp only
     go_simp}}
   refine StepsAt.cons _ rfl (fun i W K' hJ hd hK=> ?_) ?_
   {have u:_=_:=hd 3 (by kernel_rfl);have d6:_=_:=hd 6 (by kernel_rfl);refine Z0M (f:=8) (args:=#[.agg (Y7 y.t y.q)]) (W':=W) ?_ ?_ ((Zjj Z.out y.q W (T.out.next hJ) (H.out.next (Z00 z.out hJ))).mono fun e w' ⟨q',r,F,h3⟩=>⟨_,r,hK.out _ _ ⟨q',rfl,F⟩ (Z00 hJ h3) h3⟩)
    {simp[Region.wanted,yielded,u]}
    {try dsimp only
     go_simp}}
   refine StepsAt.cons _ rfl (fun i W K' hJ hd hK=> ?_) ?_
   {have u:_=_:=hd 3 (by kernel_rfl);obtain ⟨qa,d5,h5⟩:=hd 5 (by kernel_rfl);obtain ⟨qb,d7,h7⟩:=hd 7 (by kernel_rfl);have heq:=Zha B B qa qb W h5 h7;rw[Tms.eqB_refl] at heq;refine Z0M (f:=7) (args:=#[.agg (Y7 B qa),.agg (Y7 B qb),.bool true]) (W':=W) ?_ ?_ (heq.mono fun e w' h=>⟨_,h.1,hK.out _ _ rfl (Z00 hJ h.2) h.2⟩)
    {simp[Region.wanted,yielded,u]}
    {try dsimp only
     go_simp}}
   refine StepsAt.cons _ rfl (fun i W K' hJ hd hK=> ?_) ?_
   {have d3:_=_:=hd 3 (by kernel_rfl);have d8:_=_:=hd 8 (by kernel_rfl);refine Y0 hK hJ rfl rfl rfl ?_
    try dsimp only
    go_simp}
   refine StepsAt.cons _ rfl (fun i W K' hJ hd hK=> ?_) ?_
   {have d9:_=_:=hd 9 (by kernel_rfl);refine Y0 hK hJ rfl rfl rfl ?_
    try dsimp only
    go_simp}
   refine StepsAt.cons _ rfl (fun i W K' hJ hd hK=> ?_) ?_
   {have u:_=_:=hd 10 (by kernel_rfl);refine Z0M (f:=6) (args:=#[]) (W':=W) ?_ ?_ ((Z5y W (H.out.next (Z00 z.out hJ))).mono fun e w' h=>⟨_,h.1,hK.out _ _ rfl (Z00 hJ h.2) h.2⟩)
    {simp[Region.wanted,yielded,u]}
    {try dsimp only
     go_simp}}
   refine StepsAt.cons _ rfl (fun i W K' hJ hd hK=> ?_) ?_
   {have b2:_=_:=hd 10 (by kernel_rfl);have b3:_=_:=hd 11 (by kernel_rfl);refine Y0 hK hJ rfl rfl rfl ?_
    try dsimp only
    go_simp}
   refine StepsAt.cons _ rfl (fun i W K' hJ hd hK=> ?_) StepsAt.nil
   {have b4:_=_:=hd 12 (by kernel_rfl);refine Y0 hK hJ rfl rfl rfl ?_
    try dsimp only
    go_simp}
   intro i W' a4 K;have a0:i 13= .bool true:=K 13 (by decide);clear K
   try dsimp only
   rw[a0];go_wp2;go_ret;exact ⟨rfl,Z00 z.out a4⟩}
  {have h5:4096 < (s.length:Int)+4:=by omega
   clear D;go_enter Tryz.func3,Tryz.ntmps3
   go_wp2_with fail
   refine r.mono ?_;rintro e l ⟨o,x,rfl,hi,_,M⟩;clear r;have A:=box2 l (Y7 x.t x.q) #[.int .i64 0,.int .i64 0] 26 29;have C:=Y1 (Z00 o A.1);clear A o hi M;simp only[valT]
   go_wp2_with fail
   refine (Z5y _ (H.out.next C.out)).mono ?_;rintro e d ⟨rfl,m⟩;have E:=Y1 (Z00 C.out m);clear m
   go_wp2_with fail
   go_ret;exact ⟨rfl,E.out⟩}
end
end Go.Proofs.YtkncdbaoaeeoiaaGreatDoor
namespace Go.Proofs.YtkncdbaoaeeoiaaGreatDoor.parseAround
section
open Go.ChangeShapes Go.WideShapes Go.ChangeAt Go.RowKit
open Go.ChangeMaps (open_string shut_string)
theorem own:ownKnob Tryz.prog.godebug=none:=by kernel_rfl
theorem laidOut:laidOutB Tryz.prog=true:=by kernel_rfl
theorem contract (H:Type) (enc:TypeId×Value->H) (W:World) (base:Nat) (args:Array Value) (i m:List (DataW H)) (a:List MemPlace)
 (b: ∀(j:Nat) t v,Tryz.f3.params[j]? =some t->args[j]? =some v->Value.okWide Tryz.prog W .any base t v)
 (o:DataW.Whole enc Tryz.prog Tryz.f3.params.toList Rows.parseAroundSpec.vars false W args.toList i m a) (f:laidMetH Tryz.prog Rows.parseAroundRow.laid W)
 (d: (DataW.weightsEach Tryz.prog (Tryz.f3.params.toList++Rows.parseAroundSpec.plain.varTypes Tryz.prog) (i++m)).all (· <=reachBytes)=true):
 Calls Tryz.prog 3 args W fun e W'=> ∃v,e= .returned v/\Rows.parseAroundSpec.post enc Tryz.prog Tryz.f3 false true false false W args v W':=by
 have k:=o;obtain ⟨p,q,c,A,rfl,B,C⟩:=o;have n:DataW.TrodAll enc Tryz.prog W 0 (fun _=>true) true Tryz.f3.params.toList args.toList i p:=c;rw[Tryz.params3] at n b d;obtain ⟨r,E,G,s,p0,I,l,rfl,rfl,z,D⟩:=trodAll_cons n;obtain ⟨rfl,rfl,rfl⟩:=trodAll_nil D;obtain rfl:args=#[r]:=by cases args; simp_all
 obtain ⟨rfl,rfl⟩:=trodVars_none A;obtain ⟨g,rfl,rfl,rfl,F⟩:=open_string Tryz.underlying9 (b 0 9 r rfl rfl) z;have J:g.size<=140737488351232:=by
  have:=sized_string d (j:=0) (t:=9) rfl rfl;rw[Lib.size_eq]; exact Nat.le_trans this (by decide)
 clear c;rw[MakeChecks.laidMetH_plain _ _ _ (by kernel_rfl)] at f;have u:Globs W:=Zeb f (List.Mem.tail _ (List.Mem.tail _ (List.Mem.tail _ (List.Mem.tail _ (List.Mem.tail _ (List.Mem.head _)))))) (List.Mem.tail _ (List.Mem.tail _ (List.Mem.tail _ (List.Mem.tail _ (List.Mem.head _))))) (List.Mem.tail _ (List.Mem.tail _ (List.Mem.head _)));have w:WGlobs W:=ZcE f (List.Mem.tail _ (List.Mem.tail _ (List.Mem.tail _ (List.Mem.tail _ (List.Mem.tail _ (List.Mem.tail _ (List.Mem.head _)))))));have y:Z0J W:=Zba f (List.Mem.tail _ (List.Mem.tail _ (List.Mem.tail _ (List.Mem.tail _ (List.Mem.tail _ (List.Mem.tail _ (List.Mem.tail _ (List.Mem.head _)))))))) (List.Mem.tail _ (List.Mem.tail _ (List.Mem.tail _ (List.Mem.head _))));refine (Zhb g.data.toList (by have:=Lib.size_eq g; omega) W ⟨u,w,y⟩).mono fun e W' ⟨he,bel⟩=> ?_;subst he;exact ⟨_,rfl,_,_,_,[],_,[],k,trodAll_mk1 (shut_bool Tryz.underlying4 _),(trodAll_cons_mk (shut_string Tryz.underlying9 F) trodAll_mk0),rfl,bel.frame _,fun h=>by cases h⟩
theorem reads (os:Os) {H:Type} (enc:TypeId×Value->H): ∃places,DataW.whole enc Tryz.prog ((World.laidAll Tryz.prog os Rows.parseAroundRow.laid).forCall (fun _ _=>0) ⟨#[], #[(.string ByteArray.empty)],[]⟩).memory Tryz.f3.params.toList Rows.parseAroundSpec.vars false #[(.string ByteArray.empty)].toList 8=some ([.lit (.string [])],[],places):=
 ⟨[],by kernel_rfl⟩
theorem lifted (os:Os) (a:os.Started) (H:Type) (enc:TypeId×Value->H) (F:Stop.Interp):
 ReturnsInHanded {} Tryz.checked os 3 .any ((OpenSpec.ofChange Rows.parseAroundSpec).preRow enc Tryz.prog Tryz.f3 Rows.parseAroundRow.domain false Rows.parseAroundRow.laid) (((OpenSpec.ofChange Rows.parseAroundSpec).at F).post enc Tryz.prog Tryz.f3 false true false false):=by
 obtain ⟨d,l⟩:=reads os enc;refine returnsInHanded_of_row (C:=Tryz.checked) (s:=OpenSpec.ofChange Rows.parseAroundSpec) own a (by kernel_rfl) Tryz.func3
  (Z4C (enc:=enc) (C:=Tryz.checked) (s:=OpenSpec.ofChange Rows.parseAroundSpec) false (World.laidAll Tryz.prog os Rows.parseAroundRow.laid) #[(.string ByteArray.empty)] (World.laidAll_os _ _ _)
   (World.shaped_of_ZipB (by kernel_rfl) (by kernel_rfl)) (by kernel_rfl)
   (OpenSpec.preRow_of_cond 8 l (by kernel_rfl) (fun k hk=>by cases hk) (by kernel_rfl)
    (by rw[MakeChecks.laidMetH_plain _ _ _ (by kernel_rfl)]; exact laidMet_laidAll _ (by kernel_rfl) (by kernel_rfl)))) ?_
 intro W base args g h b c j _ e f i _ _;exact contract H enc W base args g h b c j i f
theorem band {a b:Bool} (c:a=true) (d:b=true): (a&&b)=true:=by rw[c,d]; rfl
theorem facts:joinedFacts Tryz.prog 3 Tryz.f3 (OpenSpec.ofChange Rows.parseAroundSpec).bare Rows.parseAroundRow=true:=by
 unfold joinedFacts
 repeat' (with_reducible refine band ?_ ?_)
 all_goals as_aux_lemma=>kernel_rfl
theorem proved:Rows.ParseAroundSaid:=
 OpenClaim.holds_of_cond 3 Tryz.f3 rfl rfl rfl rfl rfl rfl rfl ⟨rfl,rfl,rfl,rfl,rfl⟩ rfl rfl rfl rfl rfl (by as_aux_lemma=>kernel_rfl) Tryz.func3 facts
  (of_decide_eq_true (by as_aux_lemma=>kernel_rfl)) (by unfold Func.isWrapper; first | (rw[if_pos (by decide+kernel)]; kernel_rfl) | (rw[if_neg (by decide+kernel)]; exact ⟨rfl,rfl⟩))
  (fun os started H enc _ F=>by rw[OpenClaim.pre_eq_preRow]; exact lifted os started H enc F)
theorem card:Rows.ParseAroundCardSaid:=
 Claim7.holds_tied_plain_at .later [] _ _ _ _ proved (fun _ h=>by cases h) (by as_aux_lemma=>kernel_rfl) (fun _ h=>by cases h) parseAround_row_tie rfl ⟨rfl,rfl⟩ (by as_aux_lemma=>kernel_rfl) rfl
  (fun f fn hf hfn=>by
   obtain rfl:f=3:=Option.some.inj ((show Tryz.prog.funcNamed "pandect/pandectlaw09.ParseAround" =some 3 by kernel_rfl).symm.trans hf) |>.symm;obtain rfl:fn=Tryz.f3:=(Option.some.inj (Tryz.func3.symm.trans hfn)).symm;exact ⟨by kernel_rfl,fun j t ht=>by
    rw[Tryz.params3] at ht;have b:t∈ [9]:=by simpa using Array.mem_of_getElem? ht
    have a: ([9].all fun u=> !Tryz.prog.wantsStandIn u)=true:=by kernel_rfl
    exact (show Tryz.prog.wantsStandIn t=false by simpa using List.all_eq_true.1 a t b)⟩)
  (by as_aux_lemma=>kernel_rfl)
end
end Go.Proofs.YtkncdbaoaeeoiaaGreatDoor.parseAround
