/- What the proofs of ParseTypes want, part 12. -/
import Derived.Shelf.Strings.Builder1
import Derived.Test.YtgndehppmaacaaaGreatDoorK0n11
set_option linter.unusedVariables false
set_option linter.unusedSimpArgs false
set_option linter.unusedSectionVars false
set_option maxRecDepth 100000
set_option maxHeartbeats 16000000
namespace Lex
theorem Zfe: ∀(k:Nat) (a:List UInt8) (i:Nat) (l:List (Tok×Nat)),a.length<=k->toks a i= .ok l->l.length<=a.length
 | _,[],i,l,_,h=>by obtain rfl:=Except.ok.inj h; exact Nat.le_refl _
 | 0,c::r,_,_,h,_=>by simp at h
 | k+1,c::r,i,l,hk,h=>by
  rw[List.length_cons] at hk;by_cases e:blank c=true
  {rw[Z0s e] at h;have:=Zfe k r (i+1) l (by omega) h;rw[List.length_cons]; omega}
  {have b:=ZfM (l:=c::r) (by simp) (fun x hx=>by
    obtain rfl:c=x:=by simpa using hx
    simpa using e) i
   cases f:piece (c::r) with
   | error x=>
    obtain ⟨x,j⟩:=x;rw[f] at b;simp only at b;rw[b] at h; cases h
   | ok x=>
    obtain ⟨ts,n⟩:=x;rw[f] at b;simp only at b;obtain ⟨g,h2,h3,o⟩:=b;rw[g] at h;cases d:toks ((c::r).drop n) (i+n) with
    | error x=>rw[d] at h; cases h
    | ok m=>
     rw[d] at h;obtain rfl:=Except.ok.inj h;have:=Zfe k _ _ m (by rw[List.length_drop,List.length_cons]; omega) d;rw[List.length_drop] at this;rw[List.length_append,List.length_map]; omega}
theorem Zjk {s:List UInt8} {m:List (Tok×Nat)} (h:scanR s= .ok m):s.length<=4096/\ ∃l,toks s 0= .ok l/\m=l++ [(endTok,s.length)]:=by
 unfold scanR at h;split at h
 {cases h}
 {refine ⟨by omega, ?_⟩;cases a:toks s 0 with
  | error x=>rw[a] at h; cases h
  | ok l=>rw[a] at h; obtain rfl:=Except.ok.inj h; exact ⟨l,rfl,rfl⟩}
theorem Zn0: ∀l:List UInt8,l.length<=(l.flatMap escB).length
 | []=>Nat.le_refl _
 | c::r=>by
  have a:=Zn0 r;have b:1<=(escB c).length:=by
   unfold escB; repeat (split; simp)
   simp
  rw[List.flatMap_cons,List.length_append,List.length_cons]; omega
theorem ZiD (t:Tok):t.text.length<=(written t).length:=by
 unfold written;split
 {have:=Zn0 t.text;simp only[List.length_cons,List.length_append,List.length_nil]; omega}
 {exact Nat.le_refl _}
theorem Zff {s:List UInt8}: ∀(m:List (Tok×Nat)) (a:Nat),Placed s a m-> ∀x∈m,x.2<=s.length
 | [],_,_,x,b=>by simp at b
 | (t,p)::r,a,h,x,b=>by
  obtain ⟨_,d,_,_,e,f⟩:=h;rcases List.mem_cons.1 b with rfl | b
  {exact d}
  {by_cases c:t.kind=4
   {exact Zff r _ (e c) x b}
   {exact Zff r _ (f c).2.2 x b}}
end Lex
namespace Go.Proofs.YtgndehppmaacaaaGreatDoor
open Go.RowKit
section
variable {s : List UInt8} {w w' : World} {e : Ending} (h : ScanV s w e w')
include s w w' e h
theorem Zif {m:List (Lex.Tok×Nat)} (n:Lex.scanR s= .ok m):
 ∃A cap,e= .returned (.tuple #[.slice A (tkOf m).length cap,.agg #[.int .i64 0,.int .i64 0]])/\Tks w' w'.heap.size A (tkOf m)/\w'.ownsRow w.heap.size 46 3 (.slice A (tkOf m).length cap) (tkOf m).length (cellsT (tkOf m))/\Below w.heap.size w w':=by
 obtain ⟨A,cap,l,a,b,rfl,f,k,d⟩:=h;rw[n] at d;obtain ⟨rfl,rfl,rfl⟩:=d;obtain ⟨i,c,g,_,o⟩:=ZfC f;have j:A=i:=by simp at g; exact g.1
 subst j;exact ⟨A,cap,rfl,o,f,k⟩
theorem Zhr {x:Int} {k:Nat} (f:Lex.scanR s= .error (x,k)):
 ∃A cap,e= .returned (.tuple #[.slice A 0 cap,.agg #[.int .i64 x,.int .i64 (k:Int)]])/\Below w.heap.size w w':=by
 obtain ⟨A,cap,l,a,b,rfl,g,d,c⟩:=h;rw[f] at c;obtain ⟨rfl,rfl,rfl⟩:=c;exact ⟨A,cap,rfl,d⟩
end
structure Scanned (l:List Tk):Prop where
 len:l.length<=4097
 tok: ∀b∈l,b.t.text.length<=4096/\0<=b.at_/\b.at_<=4096
 ends:Pse.Ends l
theorem scanned {s:List UInt8} {m:List (Lex.Tok×Nat)} (h:Lex.scanR s= .ok m):Scanned (tkOf m):=by
 obtain ⟨g,l,d,rfl⟩:=Lex.Zjk h;have k:=Lex.Zfe s.length s 0 l (Nat.le_refl _) d;have c: (tkOf (l++ [(Lex.endTok,s.length)])).length=l.length+1:=by rw[ZdG]; simp
 refine ⟨by omega,fun b hb=> ?_,by omega,fun i hi=> ?_⟩
 {unfold tkOf at hb;obtain ⟨x,a,rfl⟩:=List.mem_map.1 hb;rcases List.mem_append.1 a with a | a
  {have j:=(Lex.Z3T s.length s 0 l (Nat.le_refl _) g d x a).1;have n:=Lex.Zff l 0 (Lex.Z2M s s.length 0 l (by omega) (Nat.zero_le _) d) x a;exact ⟨Nat.le_trans (Lex.ZiD x.1) (Lex.ZgS (Or.inr j)),by show (0:Int)<=(x.2:Int); omega,by show (x.2:Int)<=4096; omega⟩}
  {obtain rfl:x=(Lex.endTok,s.length):=by simpa using a
   exact ⟨by show (0:Nat)<=4096; omega,by show (0:Int)<=(s.length:Int); omega,by show (s.length:Int)<=4096; omega⟩}}
 {rw[c] at hi;rcases Nat.lt_or_ge i (l.length+1) with f | f
  {obtain rfl:i=l.length:=by omega
   unfold Prs.look tkOf;simp[Lex.endTok]}
  {by_cases e: (Prs.look (tkOf (l++ [(Lex.endTok,s.length)])) i).t.kind=0
   {exact e}
   {have:=Pso.kind_lt e;omega}}}
end Go.Proofs.YtgndehppmaacaaaGreatDoor
namespace Lex
def sow (l:List UInt8) (n:Nat):List UInt8:=34::(l.take n).flatMap escB
theorem Zoi (c:UInt8): (escB c).length<=2:=by
 unfold escB; repeat (split; simp)
 simp
theorem Zjl: ∀l:List UInt8,(l.flatMap escB).length<=2 * l.length
 | []=>by simp
 | c::r=>by
  have:=Zoi c;have:=Zjl r;rw[List.flatMap_cons,List.length_append,List.length_cons]; omega
theorem Zpg (l:List UInt8) (n:Nat): (sow l n).length<=1+2 * n:=by
 have a:=Zjl (l.take n);have b:=List.length_take_le n l;unfold sow; rw[List.length_cons]; omega
theorem Zoj {l:List UInt8} {n:Nat} (h:n < l.length):sow l (n+1)=sow l n++escB (l[n]'h):=by
 unfold sow;rw[List.take_succ_eq_append_getElem h,List.flatMap_append]; simp
end Lex
namespace Go.Proofs.YtgndehppmaacaaaGreatDoor
open Go.RowKit
def BoxT (W:World) (g:Nat) (k:Int) (l:List UInt8):Prop:=W.cell? ⟨g,0,none⟩=some (.int .i64 k)/\W.cell? ⟨g,1,none⟩=some (.string ⟨l.toArray⟩)
end Go.Proofs.YtgndehppmaacaaaGreatDoor
namespace Go.Proofs.YtgndehppmaacaaaGreatDoor
section
open Go.RowKit
theorem Zkg (c:UInt8): (∃(j:Nat) (x:UInt8),j < 4/\Lib.indexByte [10,9,34,92] c=(j:Int)/\Lex.escB c= [92,x]/\(∀W,(Instr.index 9 (.string ⟨#[110,116,34,92]⟩) (.int .i64 (j:Int))).run Tryz.prog W= .ok (.int .u8 x.toNat) W))\/(Lib.indexByte [10,9,34,92] c= -1/\Lex.escB c= [c]):=by
 have a: ∀(j:Nat) (hj:j < 4) (W:World),(Instr.index 9 (.string ⟨#[110,116,34,92]⟩) (.int .i64 (j:Int))).run Tryz.prog W= .ok (.int .u8 ((⟨#[110,116,34,92]⟩:ByteArray)[j]'hj).toNat) W:=fun j hj W=>Z4P ⟨#[110,116,34,92]⟩ j hj W;by_cases b:c=10
 {subst b; exact Or.inl ⟨0,110,by decide,by decide,rfl,a 0 (by decide)⟩}
 by_cases d:c=9
 {subst d; exact Or.inl ⟨1,116,by decide,by decide,rfl,a 1 (by decide)⟩}
 by_cases e:c=34
 {subst e; exact Or.inl ⟨2,34,by decide,by decide,rfl,a 2 (by decide)⟩}
 by_cases f:c=92
 {subst f; exact Or.inl ⟨3,92,by decide,by decide,rfl,a 3 (by decide)⟩}
 {refine Or.inr ⟨?_, ?_⟩
  {have g1: ((10:UInt8)==c)=false:=beq_eq_false_iff_ne.2 (Ne.symm b);have g2: ((9:UInt8)==c)=false:=beq_eq_false_iff_ne.2 (Ne.symm d);have g3: ((34:UInt8)==c)=false:=beq_eq_false_iff_ne.2 (Ne.symm e);have g: ((92:UInt8)==c)=false:=beq_eq_false_iff_ne.2 (Ne.symm f);simp[Lib.indexByte,g1,g2,g3,g]}
  {unfold Lex.escB; rw[if_neg b,if_neg d,if_neg (by rintro (h | h); exact e h; exact f h)]}}
theorem ZiE (p:List UInt8) (a b:UInt8):Lib.byteCells (p++ [a,b])=Lib.byteCells p++ [.int .u8 (a.toNat:Int),.int .u8 (b.toNat:Int)]:=by simp[Lib.byteCells]
def Enq (l:List UInt8) (w wr:World) (v:Value) (n:Nat):Prop:=wr.ownsRow w.heap.size 5 1 v (Lex.sow l n).length (Lib.byteCells (Lex.sow l n))/\Below w.heap.size w wr
theorem Zjm (l:List UInt8) (Z:l.length<=1000000) (w:World):
 Y9 238 #[.string ⟨l.toArray⟩] w (.string ⟨(34::(l.flatMap Lex.escB++ [34])).toArray⟩):=by
 obtain ⟨L,I,r,s,t⟩:=info_parts (P:=Tryz.prog) (e:=5) (z:= .int .u8 0) (size:=1) (bytes:=1) (by kernel_rfl);have hz: (⟨l.toArray⟩:ByteArray).size=l.length:=Z0J _;have B: ∀n,(Lex.sow l n).length<=1+2 * n:=Lex.Zpg l;have G:Hid (Enq l w (w.alloc (.cells #[.int .u8 34] 5)) (.slice (some ⟨w.heap.size,0,none⟩) 1 1) 0):=Y1
  ⟨World.ownsRow_lit (base:=w.heap.size) (e:=5) (size:=1) w #[Value.int .u8 34] 1 (Nat.le_refl _) (by simp[maxLen]) rfl,Z01 _ _⟩
 go_enter Tryz.func238,Tryz.ntmps238
 go_wp2_with fail
 go_loopw [3,9] (fun v ii wr=> ∃n:Nat,ii= .int .i64 n/\n<=l.length/\Hid (Enq l w wr v n))
  (fun _ ii _=>l.length - (intOf ii).toNat)
 case atStart=>exact ⟨0,rfl,Nat.zero_le _,G⟩
 case round=>
  obtain ⟨n,rfl,hn,h⟩:=hrel;have V:=B n;have q:=h.out.2.size;by_cases A:n < l.length
  {have J: (n:Int) < (l.length:Int):=by omega
   obtain ⟨c,H⟩: ∃c,c=l[n]'A:=⟨_,rfl⟩;have M: ∀W,(Instr.index 9 (.string ⟨l.toArray⟩) (.int .i64 (n:Int))).run Tryz.prog W= .ok (.int .u8 c.toNat) W:=fun W=>by
    rw[H]; exact Z4P ⟨l.toArray⟩ n (by omega) W
   have E:Hid (Lex.sow l (n+1)=Lex.sow l n++Lex.escB c):=Y1 (by rw[H]; exact Lex.Zoj A);clear H;rcases Zkg c with ⟨j,x,Y,g,f,U⟩ | ⟨g,f⟩
   {have o:=Y1 g;have p:Hid (Lex.sow l (n+1)=Lex.sow l n++ [92,x]):=Y1 (by rw[E.out,f]);have S: (0:Int)<=(j:Int):=by omega
    have T: (j:Int) < 4:=by omega
    have K:=x.toNat_lt;clear g f E
    go_wp2_with fail
    refine (ZhO [10,9,34,92] c _).mono ?_;rintro e X ⟨y,rfl⟩;rw[o.out] at y;subst y
    go_wp2_with (at_builtin; refine wpList_append_own _ rfl _ _ 131 rfl w.heap.size 5 L (.int .u8 0) 1 1 Tryz.underlying131 I r s t rfl (by decide) _ _ _ rfl (h.out.1.alloc _) ⟨wr.heap.size,0,none⟩ 2 2 [.int .u8 92,.int .u8 (x.toNat:Int)] rfl rfl (World.news_of_block (heap_alloc_new wr _)) (by intro u i; simp at i; rcases i with rfl | rfl <;> rfl) (by unfold maxLen; omega) (by omega) (by simp; omega) ?_)
    intro C D b a _;have d:=(h.out.2.alloc q (.cells #[.int .u8 92,.int .u8 (x.toNat:Int)] 5)).grown a (by simp; omega) (fun k hk=>(h.out.1.lt k hk).1);have m:Hid (Enq l w D C (n+1)):=Y1 ⟨by rw[p.out,ZiE,List.length_append]; exact b,d⟩;clear b a d;go_wp2
    go_roundw
    case rel=>exact ⟨n+1,by go_num,by omega,m⟩
    case measure=>simp[intOf]; omega}
   {have o:=Y1 g;have p:Hid (Lex.sow l (n+1)=Lex.sow l n++ [c]):=Y1 (by rw[E.out,f]);have K:=c.toNat_lt;clear g f E
    go_wp2_with fail
    refine (ZhO [10,9,34,92] c _).mono ?_;rintro e X ⟨y,rfl⟩;rw[o.out] at y;subst y
    go_wp2_with (at_builtin; refine wpList_append_own _ rfl _ _ 131 rfl w.heap.size 5 L (.int .u8 0) 1 1 Tryz.underlying131 I r s t rfl (by decide) _ _ _ rfl (h.out.1.alloc _) ⟨wr.heap.size,0,none⟩ 1 1 [.int .u8 (c.toNat:Int)] rfl rfl (World.news_of_block (heap_alloc_new wr _)) (by intro u i; simp at i; subst i; rfl) (by unfold maxLen; omega) (by omega) (by simp; omega) ?_)
    intro C D b a _;have d:=(h.out.2.alloc q (.cells #[.int .u8 (c.toNat:Int)] 5)).grown a (by simp; omega) (fun k hk=>(h.out.1.lt k hk).1);have m:Hid (Enq l w D C (n+1)):=Y1 ⟨by rw[p.out,ZdN,List.length_append]; exact b,d⟩;clear b a d;go_wp2
    go_roundw
    case rel=>exact ⟨n+1,by go_num,by omega,m⟩
    case measure=>simp[intOf]; omega}}
  {have J: ¬(n:Int) < (l.length:Int):=by omega
   have O:Hid (Lex.sow l n++ [34]=34::(l.flatMap Lex.escB++ [34])):=Y1 (by unfold Lex.sow; rw[List.take_of_length_le (by omega)]; rfl)
   go_wp2_with (at_builtin; refine wpList_append_own _ rfl _ _ 131 rfl w.heap.size 5 L (.int .u8 0) 1 1 Tryz.underlying131 I r s t rfl (by decide) _ _ _ rfl (h.out.1.alloc _) ⟨wr.heap.size,0,none⟩ 1 1 [.int .u8 34] rfl rfl (World.news_of_block (heap_alloc_new wr _)) (by intro u i; simp at i; subst i; rfl) (by unfold maxLen; omega) (by omega) (by simp; omega) ?_)
   intro C D b a _;have d:=(h.out.2.alloc q (.cells #[.int .u8 34] 5)).grown a (by simp; omega) (fun k hk=>(h.out.1.lt k hk).1);have N:D.ownsRow w.heap.size 5 1 C ((Lex.sow l n).length+1) (Lib.byteCells (34::(l.flatMap Lex.escB++ [34]))):=by rw[<-O.out,ZdN]; exact b
   have Q:=ZeO N;have F:=Y1 d;clear b a d N;go_wp2;go_ret;exact ⟨rfl,F.out⟩}
theorem ZiF (k:Int) (l:List UInt8) (h:l.length<=1000000) (a:Int) (w:World):
 Y9 225 #[.agg #[.int .i64 k,.string ⟨l.toArray⟩,.int .i64 a]] w (.string ⟨(Lex.written ⟨k,l⟩).toArray⟩):=by
 have b:=Y1 (Z01 w (.cells #[.int .i64 k,.string ⟨l.toArray⟩,.int .i64 a] 46));have c:Hid (BoxT (w.alloc (.cells #[.int .i64 k,.string ⟨l.toArray⟩,.int .i64 a] 46)) w.heap.size k l):=Y1 ⟨by simp[go_sem],by simp[go_sem]⟩;by_cases f:k=4
 {subst f;have d:Hid (Lex.written ⟨4,l⟩=34::(l.flatMap Lex.escB++ [34])):=Y1 (by unfold Lex.written; rw[if_pos rfl]);go_enter Tryz.func225,Tryz.ntmps225
  go_wp2_with fail
  generalize hW:w.alloc (.cells #[.int .i64 4,.string ⟨l.toArray⟩,.int .i64 a] 46)=W0 at c b ⊢;clear hW;obtain ⟨x0,x1⟩:=c.out
  go_wp2_with fail
  refine (Zjm l h _).mono ?_;rintro e j ⟨rfl,g⟩;go_wp2;go_ret;exact ⟨by rw[d.out]; rfl,Z03 b.out g⟩}
 {have i: (k==4)=false:=by simp[f]
  have d:Hid (Lex.written ⟨k,l⟩=l):=Y1 (by unfold Lex.written; rw[if_neg f]);go_enter Tryz.func225,Tryz.ntmps225
  go_wp2_with fail
  generalize hW:w.alloc (.cells #[.int .i64 k,.string ⟨l.toArray⟩,.int .i64 a] 46)=W0 at c b ⊢;clear hW;obtain ⟨x0,x1⟩:=c.out;go_wp2;go_ret;exact ⟨by rw[d.out]; rfl,b.out⟩}
end
end Go.Proofs.YtgndehppmaacaaaGreatDoor
namespace Go.Proofs
open Go.Shelf
def Tryz.lays166_ren:Go.Shelf.Ren:=⟨fun | 166=>228 | 240=>239 | 276=>248 | n=>n,fun | 0=>0 | 3=>3 | 4=>4 | 9=>9 | 20=>20 | 37=>131 | 70=>198 | 72=>200 | 75=>171 | 164=>227 | 5=>5 | 80=>83 | n=>n,fun | n=>n⟩
theorem Tryz.lays166:Go.Proofs.Lays.n166 Tryz.prog Tryz.lays166_ren:= {
 mixed:=by kernel_rfl
 f166:=Tryz.func228.trans (congrArg some (by kernel_rfl))
 f240:=Tryz.func239.trans (congrArg some (by kernel_rfl))
 f276:=Tryz.func248.trans (congrArg some (by kernel_rfl))
 t0:=Tryz.underlying0
 a0:=Tryz.isAgg0
 z0:=Tryz.sizeOf0
 v0:=Tryz.zeroValue0
 t3:=Tryz.underlying3
 a3:=Tryz.isAgg3
 z3:=Tryz.sizeOf3
 v3:=Tryz.zeroValue3
 t4:=Tryz.underlying4
 a4:=Tryz.isAgg4
 z4:=Tryz.sizeOf4
 v4:=Tryz.zeroValue4
 t9:=Tryz.underlying9
 a9:=Tryz.isAgg9
 z9:=Tryz.sizeOf9
 v9:=Tryz.zeroValue9
 t20:=Tryz.underlying20
 a20:=Tryz.isAgg20
 z20:=Tryz.sizeOf20
 v20:=Tryz.zeroValue20
 t37:=Tryz.underlying131
 a37:=Tryz.isAgg131
 z37:=Tryz.sizeOf131
 v37:=Tryz.zeroValue131
 t70:=Tryz.underlying198
 a70:=Tryz.isAgg198
 z70:=Tryz.sizeOf198
 v70:=Tryz.zeroValue198
 t72:=Tryz.underlying200
 a72:=Tryz.isAgg200
 z72:=Tryz.sizeOf200
 v72:=Tryz.zeroValue200
 t75:=Tryz.underlying171
 a75:=Tryz.isAgg171
 z75:=Tryz.sizeOf171
 v75:=Tryz.zeroValue171
 t164:=Tryz.underlying227
 a164:=Tryz.isAgg227
 z164:=Tryz.sizeOf227
 v164:=Tryz.zeroValue227 }
theorem Tryz.x166:Builder.Extra Tryz.prog Tryz.lays166_ren:= {
 sizeBuilder:=by kernel_rfl
 liesBuilder:=by kernel_rfl
 t5:=Tryz.underlying5
 a5:=Tryz.isAgg5
 z5:=Tryz.sizeOf5
 v5:=Tryz.zeroValue5
 infoByte:=by kernel_rfl
 cellsByte:=by kernel_rfl
 sizeByte:=by kernel_rfl
 neB5:=by decide }
def Tryz.lays169_ren:Go.Shelf.Ren:=⟨fun | 169=>229 | n=>n,fun | 0=>0 | 3=>3 | 9=>9 | 37=>131 | 70=>198 | 72=>200 | 127=>177 | 5=>5 | n=>n,fun | n=>n⟩
theorem Tryz.lays169:Go.Proofs.Lays.n169 Tryz.prog Tryz.lays169_ren:= {
 mixed:=by kernel_rfl
 f169:=Tryz.func229.trans (congrArg some (by kernel_rfl))
 t0:=Tryz.underlying0
 a0:=Tryz.isAgg0
 z0:=Tryz.sizeOf0
 v0:=Tryz.zeroValue0
 t3:=Tryz.underlying3
 a3:=Tryz.isAgg3
 z3:=Tryz.sizeOf3
 v3:=Tryz.zeroValue3
 t9:=Tryz.underlying9
 a9:=Tryz.isAgg9
 z9:=Tryz.sizeOf9
 v9:=Tryz.zeroValue9
 t37:=Tryz.underlying131
 a37:=Tryz.isAgg131
 z37:=Tryz.sizeOf131
 v37:=Tryz.zeroValue131
 t70:=Tryz.underlying198
 a70:=Tryz.isAgg198
 z70:=Tryz.sizeOf198
 v70:=Tryz.zeroValue198
 t72:=Tryz.underlying200
 a72:=Tryz.isAgg200
 z72:=Tryz.sizeOf200
 v72:=Tryz.zeroValue200
 t127:=Tryz.underlying177
 a127:=Tryz.isAgg177
 z127:=Tryz.sizeOf177
 v127:=Tryz.zeroValue177 }
theorem Tryz.x169:Builder.Extra Tryz.prog Tryz.lays169_ren:= {
 sizeBuilder:=by kernel_rfl
 liesBuilder:=by kernel_rfl
 t5:=Tryz.underlying5
 a5:=Tryz.isAgg5
 z5:=Tryz.sizeOf5
 v5:=Tryz.zeroValue5
 infoByte:=by kernel_rfl
 cellsByte:=by kernel_rfl
 sizeByte:=by kernel_rfl
 neB5:=by decide }
def Tryz.lays170_ren:Go.Shelf.Ren:=⟨fun | 170=>227 | n=>n,fun | 70=>198 | 3=>3 | 0=>0 | 72=>200 | 37=>131 | 5=>5 | n=>n,fun | n=>n⟩
theorem Tryz.lays170:Go.Proofs.Lays.n170 Tryz.prog Tryz.lays170_ren:= {
 mixed:=by kernel_rfl
 f170:=Tryz.func227.trans (congrArg some (by kernel_rfl))
 t0:=Tryz.underlying0
 a0:=Tryz.isAgg0
 z0:=Tryz.sizeOf0
 v0:=Tryz.zeroValue0
 t3:=Tryz.underlying3
 a3:=Tryz.isAgg3
 z3:=Tryz.sizeOf3
 v3:=Tryz.zeroValue3
 t37:=Tryz.underlying131
 a37:=Tryz.isAgg131
 z37:=Tryz.sizeOf131
 v37:=Tryz.zeroValue131
 t70:=Tryz.underlying198
 a70:=Tryz.isAgg198
 z70:=Tryz.sizeOf198
 v70:=Tryz.zeroValue198
 t72:=Tryz.underlying200
 a72:=Tryz.isAgg200
 z72:=Tryz.sizeOf200
 v72:=Tryz.zeroValue200 }
section
open Go.RowKit
theorem Tryz.builder_write (B b:Nat) (c:List Value) (s:ByteArray) (w:World) (h:Lib.IsBuilder 200 5 B b c w) (a:c.length+s.size<=140737488355328) (d:B<=w.heap.size):
 Calls Tryz.prog 228 #[.pointer (some ⟨b,0,none⟩),.string s] w fun e w'=>e= .returned (.tuple #[.int .i64 s.size,.nilIface])/\(Lib.BuilderAt 200 5 B b (.pointer (some ⟨b,0,none⟩)) (c++Lib.strCells s) w'/\Below B w w'):=
 Any.Builder_WriteString Tryz.lays166 Tryz.x166 B b c s w h a d
theorem Tryz.builder_text (B b:Nat) (l:List UInt8) (w:World) (h:Lib.IsBuilder 200 5 B b (Lib.byteCells l) w) (a:B<=w.heap.size):
 Calls Tryz.prog 229 #[.pointer (some ⟨b,0,none⟩)] w fun e w'=>e= .returned (.string ⟨l.toArray⟩)/\Below B w w':=
 Any.Builder_String_any Tryz.lays169 Tryz.x169 B b l w h a
theorem Tryz.builder_len (B b:Nat) (a:List Value) (w:World) (h:Lib.IsBuilder 200 5 B b a w):
 Calls Tryz.prog 227 #[.pointer (some ⟨b,0,none⟩)] w fun e w'=>e= .returned (.int .i64 a.length)/\w'=w:=
 Any.Builder_Len Tryz.lays170 B b a w h
end
end Go.Proofs
namespace Lex
theorem Zgm {s:List UInt8} {x:Int} {k:Nat} (h:scanR s= .error (x,k)):x≠0:=by
 unfold scanR at h;split at h
 {obtain ⟨rfl,_⟩:=Prod.mk.inj (Except.error.inj h); decide}
 {split at h
  {rename_i y a
   obtain ⟨e,j⟩:=y;obtain ⟨rfl,_⟩:=Prod.mk.inj (Except.error.inj h);rcases (Z4C _ _ _ _ _ (Nat.le_refl _) a).2 with h | h <;> rw[h] <;> decide}
  {cases h}}
theorem Zgn (t:Tok): (written t).length<=2 * t.text.length+2:=by
 unfold written;split
 {have:=Zjl t.text;simp only[List.length_cons,List.length_append,List.length_nil]; omega}
 {omega}
theorem Zok {t:Tok} (h:t=endTok\/good t): ∃x m,scanR (written t)= .ok (x::m)/\x.1=t:=by
 rcases h with rfl | h
 {exact ⟨_,_,Zoe,rfl⟩}
 {exact ⟨_,_,ZmV h,rfl⟩}
end Lex
namespace Go.Proofs.YtgndehppmaacaaaGreatDoor
open Go.RowKit
theorem Zn1 (W:World) (b:Tk):TkAt (W.alloc (.cells #[.int .i64 b.t.kind,.string ⟨b.t.text.toArray⟩,.int .i64 b.at_] 46)) W.heap.size 0 b:=
 ⟨by simp[go_sem],by simp[go_sem],by simp[go_sem]⟩
theorem Zkh (t:Lex.Tok) (a:Int) (ht:t.text.length<=1000000) (b:Bool) (X:b=true ↔ (t=Lex.endTok\/Lex.good t)) (w:World) (Z:Globs w):
 Y9 226 #[.string ⟨(Lex.written t).toArray⟩,.agg #[.int .i64 t.kind,.string ⟨t.text.toArray⟩,.int .i64 a]] w (.bool b):=by
 have S:=Lex.Zgn t;have hb0:=Z01 w (.cells #[.int .i64 t.kind,.string ⟨t.text.toArray⟩,.int .i64 a] 46);have K:=Y1 (Zn1 w ⟨t,a⟩);have u:Hid (w.heap.size < (w.alloc (.cells #[.int .i64 t.kind,.string ⟨t.text.toArray⟩,.int .i64 a] 46)).heap.size):=Y1 (by simp);have V:=Y1 (Z.next hb0);have p:=Y1 hb0;have n:=Y1 X;have W:=Y1 (Zfd (Lex.written t) (by omega));have N:=fun h=>Lex.Zok (t:=t) h;have O:=fun x m h1 v=>Lex.Zjj (t:=t) (x:=x) (m:=m) h1 v;have P:=fun x k h=>Lex.Zgm (s:=Lex.written t) (x:=x) (k:=k) h;have B:Lex.scanR (Lex.written t)≠ .ok []:=fun h=>by
  unfold Lex.scanR at h;split at h
  {cases h}
  {split at h
   {cases h}
   {simp at h}}
 obtain ⟨s,Q⟩: ∃s,s=Lex.written t:=⟨_,rfl⟩;rw[<-Q] at W N O P B;rw[<-Q];clear Q hb0 X Z S;go_enter Tryz.func226,Tryz.ntmps226
 go_wp2_with fail
 generalize hW:w.alloc (.cells #[.int .i64 t.kind,.string ⟨t.text.toArray⟩,.int .i64 a] 46)=W0 at K u V p ⊢;clear hW;have r:=Y1 N;have H:=Y1 O;have I:=Y1 P;have J:=Y1 B;clear N O P B
 go_wp2_with fail
 refine (W.out _ V.out).mono ?_;rintro e U ⟨A,cap,l,a1,b1,rfl,d,o,f⟩;have i:=Y1 (Z03 p.out o);have L:=Y1 (K.out.keep u.out o);have T:=o.size;have a0:w.heap.size < U.heap.size:=Nat.lt_of_lt_of_le u.out T;clear o K p;cases g:Lex.scanR s with
 | error x=>
  obtain ⟨x,k⟩:=x;rw[g] at f;obtain ⟨rfl,rfl,rfl⟩:=f;have G:=I.out _ _ g;have a7: (a1==0)=false:=by simpa using G
  have q:Hid (b=false):=Y1 (by
   cases b with
   | false=>rfl
   | true=>
    obtain ⟨y,m,h,_⟩:=r.out (n.out.1 rfl);rw[g] at h; cases h)
  clear g G d
  go_wp2_with fail
  go_quiet (fail)
  go_wp2;go_ret;exact ⟨by rw[q.out]; rfl,Z0Q (Z0h i.out _) _⟩
 | ok m=>
  cases m with
  | nil=>exact absurd g J.out
  | cons y m=>
   rw[g] at f;obtain ⟨rfl,rfl,rfl⟩:=f;obtain ⟨y,j⟩:=y;have c: (tkOf ((y,j)::m)).length=m.length+1:=by rw[ZdG]; rfl
   obtain ⟨M,C,F,_,a4⟩:=d.form (by rw[c]; omega);obtain ⟨hA,Y⟩:A=some ⟨M,0,none⟩/\cap=C:=by
    simp at F;exact F
   subst hA;have k0:U.cell? ⟨M,0,none⟩=some (.int .i64 y.kind):=(d.cellAt 0 (by rw[c]; omega)).trans rfl;have k1:U.cell? ⟨M,1,none⟩=some (.string ⟨y.text.toArray⟩):=(d.cellAt 1 (by rw[c]; omega)).trans rfl;obtain ⟨x0,x1,_⟩:=L.out;simp only[Nat.zero_add] at x1;rw[c];have a5: (0:Int) < ((m.length+1:Nat):Int):=by omega
   have a6:0 < m.length+1:=by omega
   cases D: (y.kind==t.kind)
   {have q:Hid (b=false):=Y1 (by
     cases b with
     | false=>rfl
     | true=>
      obtain ⟨z,m2,h,v⟩:=r.out (n.out.1 rfl);rw[g] at h;obtain ⟨rfl,_⟩:=List.cons.inj (Except.ok.inj h);simp only at v;rw[v] at D; simp at D)
    clear g d F c
    go_wp2_with fail
    go_quiet (fail)
    go_wp2;go_ret;exact ⟨by rw[q.out]; rfl,Z0Q (Z0h i.out _) _⟩}
   {cases E: (y.text==t.text)
    {have q:Hid (b=false):=Y1 (by
      cases b with
      | false=>rfl
      | true=>
       obtain ⟨z,m2,h,v⟩:=r.out (n.out.1 rfl);rw[g] at h;obtain ⟨rfl,_⟩:=List.cons.inj (Except.ok.inj h);simp only at v;rw[v] at E; simp at E)
     clear g d F c
     go_wp2_with fail
     go_quiet (fail)
     go_wp2;go_ret;exact ⟨by rw[q.out]; rfl,Z0Q (Z0h i.out _) _⟩}
    {have q:Hid (b=true):=Y1 (n.out.2 (H.out (y,j) m g (by
      simp only[beq_iff_eq] at D E;cases t; cases y;simp only at D E;rw[D,E])))
     clear g d F c
     go_wp2_with fail
     go_quiet (fail)
     go_wp2;go_ret;exact ⟨by rw[q.out]; rfl,Z0Q (Z0h i.out _) _⟩}}
end Go.Proofs.YtgndehppmaacaaaGreatDoor
namespace Pso
open Go.Proofs.YtgndehppmaacaaaGreatDoor (Tk tkOf)
open Prs (Flt R)
def close {α:Type} (l:List Tk) (r:R α):Except Flt α:=match r with
 | .error f=> .error f
 | .ok y=>if y.2+1=l.length then .ok y.1 else .error (90,(Prs.look l y.2).at_)
def rdText {α:Type} (s:List UInt8) (whole:List Tk->St->α×St):Except Flt α:=
 match Lex.scanR s with
 | .error x=> .error (x.1,(x.2:Int))
 | .ok m=>close (tkOf m) (rd (tkOf m) 0 (whole (tkOf m)))
section
variable {α : Type} {s : List UInt8} {whole : List Tk -> St -> α × St}
include α s whole
theorem rdText_err {x:Int} {k:Nat} (h:Lex.scanR s= .error (x,k)):rdText s whole= .error (x,(k:Int)):=by
 unfold rdText; rw[h]
theorem rdText_ok {m:List (Lex.Tok×Nat)} (h:Lex.scanR s= .ok m):rdText s whole=close (tkOf m) (rd (tkOf m) 0 (whole (tkOf m))):=by
 unfold rdText; rw[h]
end
section
variable {α : Type} {l : List Tk} {whole : List Tk -> St -> α × St}
include α l whole
theorem rd_lt (c: ∀σ,Pse.Ok l σ->Pse.To l σ (whole l σ).2) (a:Pse.Ends l) {y:α×Nat} (h:rd l 0 (whole l)= .ok y):y.2 < l.length:=by
 have b:=(c (0,(0,0)) ⟨a,Nat.zero_le _,fun h=>absurd rfl h,fun _=>a.1⟩).1;unfold rd at h;split at h
 {cases h}
 {split at h
  {cases h}
  {split at h
   {next hf=>
    cases h;exact b.2.2.2 hf}
   {cases h}}}
theorem rd_err {a:Int} {f:Flt} (h:rd l a (whole l)= .error f):f.1≠0:=by
 unfold rd at h;split at h
 {cases h; decide}
 {split at h
  {cases h; decide}
  {split at h
   {cases h}
   {next hf=>cases h; exact hf}}}
end
end Pso
namespace Go.Proofs.YtgndehppmaacaaaGreatDoor
open Go.RowKit Tms
open Shp (Sh)
open Pso (St Ok)
open Prs (sign R Flt)
def TySaid (r:Except Flt Sh) (w:World) (e:Ending) (w':World):Prop:=
 Below w.heap.size w w'/\match r with
 | .ok y=> ∃x:ES,e= .returned (.tuple #[valS x,.agg #[.int .i64 0,.int .i64 0]])/\x.Is w'/\w.heap.size<=x.lo/\x.t=y
 | .error f=>e= .returned (.tuple #[.agg #[.int .i64 0,.string ⟨#[]⟩,.string ⟨#[]⟩,.slice none 0 0,.slice none 0 0],.agg #[.int .i64 f.1,.int .i64 f.2]])
def RdFn (fn:Nat) (whole:List Tk->St->Sh×St):Prop:= ∀(A:Option Addr) (c:Nat) (l:List Tk),Scanned l-> ∀(w:World),Tks w w.heap.size A l->Gl w->
 Calls Tryz.prog fn #[.slice A l.length c,.int .i64 0] w (TyOut (Pso.rd l 0 (whole l)) w)
theorem Zek {F:List Nat} {w V E:World} (a:Below w.heap.size w V) (c: ∀b∈F,w.heap.size<=b) (d:UpT F V E):Below w.heap.size w E:=((ZcF (F:=F) a).trans d).low c
theorem Zph {F:List Nat} {V E:World} {x:ES} (d:x.Is V) (a: ∀b∈F,b < x.lo) (c:UpT F V E):x.Is E:=New.up d c (fun b hb=>Or.inl (a b hb))
theorem ZhQ (s:List UInt8) (hs:s.length<=9223372036854775807) (fn:Nat) (i5: ∀args W,(callFunc fn args).run Tryz.prog W= .ok (.enter fn args) W) (whole:List Tk->St->Sh×St) (hR:RdFn fn whole) (hw: ∀l σ,Pse.Ok l σ->Pse.To l σ (whole l σ).2) (w:World) (hG:Gl w):
 Calls Tryz.prog 21 #[.string ⟨s.toArray⟩,.func (.func fn) #[] #[]] w (TySaid (Pso.rdText s whole) w):=by
 have S:=Y1 (show Below w.heap.size w (bW w) from Z0h (ZcH w) _);have HZ:=Y1 (show ZcD (bW w) w.heap.size from (Zd3 w).next (Z01 _ _));have HX:=Y1 (show Box2 (bW w) (w.heap.size+1) 0 0 from (Zdg w).next (Z01 _ _));have J:=Y1 (ZkN w);have Y:=Y1 (hG.next S.out);have HS:=Y1 (Zfd s hs (bW w) Y.out.g);have K:=Y1 hR;have N:=Y1 hw;clear hR hw hG;cases P:Lex.scanR s with
 | error xk=>
  obtain ⟨xx,k⟩:=xk;rw[Pso.rdText_err P];have e1: (xx !=0)=true:=by simpa using Lex.Zgm P
  have HM:=Y1 P;clear P;go_enter Tryz.func21,Tryz.ntmps21
  go_wp2_with fail
  change Calls _ _ _ (bW w) _;refine HS.out.mono ?_;generalize bW w=W0 at S HZ HX J Y HS ⊢;rintro e d hv;obtain ⟨A,cap,rfl,h⟩:=Zhr hv HM.out;have a:=Z01 d (.cells #[.int .i64 xx,.int .i64 (k:Int)] 31);have e6:=Y1 (Z03 (Z03 S.out h) a);obtain ⟨z0,⟨z1,z2,z3,z4,z5⟩,d5,d6,d7,d8,d9⟩:=(HZ.out.next h).next a;obtain ⟨x0,x1,x2,d3,d4⟩:=(HX.out.next h).next a;obtain ⟨n0,⟨n1,n2,n3,n4,n5⟩,c8,c9,d0,d1,d2⟩:=(J.out.next h).next a;obtain ⟨b0,b1,b2,C,D⟩:=ZcG d xx (k:Int);have X:=J.out.1;have o:=h.size;have g1:w.heap.size≠d.heap.size:=by omega
  have g2:w.heap.size+1≠d.heap.size:=by omega
  have g3:w.heap.size+1+1≠d.heap.size:=by omega
  clear X o;clear hv h a S HZ HX J Y HS HM K N
  go_wp2_with fail
  go_region
  all_goals go_wp2
  all_goals refine bodyPost_ret (v:= .tuple #[.agg #[.int .i64 0,.string ⟨#[]⟩,.string ⟨#[]⟩,.slice none 0 0,.slice none 0 0],.agg #[.int .i64 xx,.int .i64 (k:Int)]]) (by simp[results,Tryz.results21,go_sem,z0,x0,z1,z2,z3,z4,z5,x1,x2]) rfl ?_
  all_goals refine ⟨Zd6 e6.out ?_,rfl⟩
  all_goals repeat' (with_reducible first | refine UpT.drew ?_ | refine UpT.set ?_ _ (Or.inr ?_) _ | exact UpT.refl _ _)
  all_goals simp
 | ok m=>
  rw[Pso.rdText_ok P];have t:=Y1 (scanned P);have HM:=Y1 P;clear P;obtain ⟨r,hr⟩: ∃r,r=Pso.rd (tkOf m) 0 (whole (tkOf m)):=⟨_,rfl⟩;have L:=Y1 hr;rw[<-hr];have I:Hid (∀y,r= .ok y->y.2 < (tkOf m).length):=Y1 (fun y hy=>Pso.rd_lt (N.out (tkOf m)) t.out.ends (by rw[<-hr]; exact hy));have U:Hid (∀f,r= .error f->f.1≠0):=Y1 (fun f hf=>Pso.rd_err (by rw[<-hr]; exact hf));clear hr;have a3:=Y1 t.out.len;obtain ⟨q,hq⟩: ∃q:Except Flt Sh,q=Pso.close (tkOf m) r:=⟨_,rfl⟩;have Z:=Y1 hq;rw[<-hq];clear hq;obtain ⟨l,hl⟩: ∃l,l=tkOf m:=⟨_,rfl⟩;rw[<-hl] at t L I Z a3;have e8:=Y1 hl;have i7:=a3.out;clear hl;go_enter Tryz.func21,Tryz.ntmps21
  go_wp2_with fail
  change Calls _ _ _ (bW w) _;refine HS.out.mono ?_;generalize bW w=W0 at S HZ HX J Y HS ⊢;rintro e d hv;obtain ⟨A,cap,rfl,O,Q,h⟩:=Zif hv HM.out;rw[<-e8.out] at O ⊢;have a:=Z01 d (.cells Yc 31);have u:=Y1 (Z03 (Z03 S.out h) a);have B:=Y1 ((HZ.out.next h).next a);have z:=Y1 ((HX.out.next h).next a);have n:=Y1 ((J.out.next h).next a);have i:=Y1 (ZcG d 0 0);have M:=Y1 (O.on a);have a8:=Y1 O;have T:=Y1 a;have a6:Hid (∀g off,A=some ⟨g,off,none⟩->W0.heap.size<=g):=Y1 (fun g off hA=>(Ze3 Q g (by rw[hA]; rfl)).1);have V:Hid (w.heap.size+1+1 < W0.heap.size):=Y1 J.out.1;have H:=Y1 ((Y.out.next h).next a);obtain ⟨b0,b1,b2,C,D⟩:=i.out;have X:=J.out.1;have o:=h.size;have g1:w.heap.size≠d.heap.size:=by omega
  have g2:w.heap.size+1≠d.heap.size:=by omega
  have g3:w.heap.size+1+1≠d.heap.size:=by omega
  have HF:Hid (∀b∈ [w.heap.size,w.heap.size+1,d.heap.size],w.heap.size<=b):=Y1 (by intro b h; simp at h; omega);clear X o hv O Q h a S HZ HX J Y HS HM
  go_wp2_with fail
  generalize d.alloc (.cells Yc 31)=W2 at u B z n i M H T b0 b1 b2 C D ⊢;refine (K.out A cap l t.out W2 M.out H.out).mono ?_;rw[<-L.out];rintro e E ⟨c,ho⟩;clear b0 b1 b2 C D;cases r with
  | error f=>
   obtain rfl:=ho;have i6: (f.1 !=0)=true:=by simpa using U.out f rfl
   have p:Hid (q= .error f):=Y1 Z.out;have a:=Z01 E (.cells Yb 28);have G:=Y1 (Z03 (Z03 u.out c) a);obtain ⟨z0,⟨z1,z2,z3,z4,z5⟩,d5,d6,d7,d8,d9⟩:=(B.out.next c).next a;obtain ⟨x0,x1,x2,d3,d4⟩:=(z.out.next c).next a;obtain ⟨n0,⟨n1,n2,n3,n4,n5⟩,c8,c9,d0,d1,d2⟩:=(n.out.next c).next a;obtain ⟨b0,b1,b2,C,D⟩:=(i.out.next c).next a;have X:=n.out.1;have o:=c.size;have hK:=i.out.1;have g4:w.heap.size≠E.heap.size:=by omega
   have g5:w.heap.size+1≠E.heap.size:=by omega
   have g6:w.heap.size+1+1≠E.heap.size:=by omega
   have g7:d.heap.size≠E.heap.size:=by omega
   clear X o hK;clear c a K N t L I U Z u B z n i M H
   go_wp2_with fail
   go_region
   all_goals go_wp2
   all_goals refine bodyPost_ret (v:= .tuple #[.agg #[.int .i64 0,.string ⟨#[]⟩,.string ⟨#[]⟩,.slice none 0 0,.slice none 0 0],.agg #[.int .i64 f.1,.int .i64 f.2]]) (by simp[results,Tryz.results21,go_sem,valS,z0,x0,z1,z2,z3,z4,z5,x1,x2,g1,g2,g3]) rfl ?_
   all_goals rw[p.out]
   all_goals refine ⟨Zek (F:= [w.heap.size,w.heap.size+1,d.heap.size]) G.out HF.out ?_,rfl⟩
   all_goals repeat' (with_reducible first | refine UpT.drew ?_ | refine UpT.set ?_ _ (Or.inr ?_) _ | exact UpT.refl _ _)
   all_goals simp
  | ok y=>
   obtain ⟨x,rfl,hi,f1,ht⟩:=ho;obtain ⟨ys,j⟩:=y;have hj:j < l.length:=I.out _ rfl;simp only[valS];dsimp only at ht ⊢;have a:=Z01 E (.cells (Y8 x.t x.q) 28);have G:=Y1 (Z03 (Z03 u.out c) a);obtain ⟨z0,⟨z1,z2,z3,z4,z5⟩,d5,d6,d7,d8,d9⟩:=(B.out.next c).next a;obtain ⟨x0,x1,x2,d3,d4⟩:=(z.out.next c).next a;obtain ⟨n0,⟨n1,n2,n3,n4,n5⟩,c8,c9,d0,d1,d2⟩:=(n.out.next c).next a;obtain ⟨b0,b1,b2,C,D⟩:=(i.out.next c).next a;have X:=n.out.1;have o:=c.size;have hK:=i.out.1;have g4:w.heap.size≠E.heap.size:=by omega
   have g5:w.heap.size+1≠E.heap.size:=by omega
   have g6:w.heap.size+1+1≠E.heap.size:=by omega
   have g7:d.heap.size≠E.heap.size:=by omega
   clear X o hK;have HI:=Y1 (show x.Is _ from New.below hi a);have a4:Hid (∀b∈ [w.heap.size,w.heap.size+1,d.heap.size],b < x.lo):=Y1 (by have h1:=i.out.1; have h2:=n.out.1; intro b h; simp at h; omega);have a9:Hid (w.heap.size<=x.lo):=Y1 (by have h2:=n.out.1; omega);have HT:=Y1 ht;have a7:=Y1 (a8.out.same (fun b h=>(ZcF (F:= []) (Z03 (Z03 T.out c) a)).same h (by simp)));clear c a hi f1 ht K N t L I U u B z n i M H;by_cases b7:j+1=l.length
   {have p:Hid (q= .ok ys):=Y1 (by rw[Z.out]; exact if_pos b7);have e5: ((j:Int) !=(l.length:Int) - 1)=false:=by simp; omega
    go_wp2_with fail
    all_goals refine bodyPost_ret (v:= .tuple #[valS x,.agg #[.int .i64 0,.int .i64 0]]) (by simp[results,Tryz.results21,go_sem,valS,z0,x0,z1,z2,z3,z4,z5,x1,x2,g1,g2,g3]) rfl ?_
    all_goals rw[p.out]
    all_goals refine ⟨Zek (F:= [w.heap.size,w.heap.size+1,d.heap.size]) G.out HF.out ?_,x,rfl,Zph HI.out a4.out ?_,a9.out,HT.out⟩
    all_goals repeat' (with_reducible first | refine UpT.drew ?_ | refine UpT.set ?_ _ (Or.inr ?_) _ | exact UpT.refl _ _)
    all_goals simp}
   {have p:Hid (q= .error (90,(Prs.look l j).at_)):=Y1 (by rw[Z.out]; exact if_neg b7);have e5: ((j:Int) !=(l.length:Int) - 1)=true:=by simp; omega
    rcases a7.out with h0 | ⟨g,off,hA,f2,hc⟩
    {omega}
    {have k1:g≠d.heap.size:=by omega
     have k0:=a6.out g off hA;have k2:g≠w.heap.size:=by have:=V.out; omega
     have k3:g≠w.heap.size+1:=by have:=V.out; omega
     obtain ⟨_,_,t2⟩:=hc j hj;rw[hA];have b8: (Prs.look l j).at_=(l[j]'hj).at_:=by rw[Prs.look_in hj]
     rw[b8] at p;clear hc a7 a8 T a6 V k0 f2 hA HI a4 a9 HT Z b8
     go_wp2_with fail
     go_region
     all_goals go_wp2
     all_goals refine bodyPost_ret (v:= .tuple #[.agg #[.int .i64 0,.string ⟨#[]⟩,.string ⟨#[]⟩,.slice none 0 0,.slice none 0 0],.agg #[.int .i64 90,.int .i64 (l[j]'hj).at_]]) (by simp[results,Tryz.results21,go_sem,valS,z0,x0,z1,z2,z3,z4,z5,x1,x2,g1,g2,g3]) rfl ?_
     all_goals rw[p.out]
     all_goals refine ⟨Zek (F:= [w.heap.size,w.heap.size+1,d.heap.size]) G.out HF.out ?_,rfl⟩
     all_goals repeat' (with_reducible first | refine UpT.drew ?_ | refine UpT.set ?_ _ (Or.inr ?_) _ | exact UpT.refl _ _)
     all_goals simp}}
end Go.Proofs.YtgndehppmaacaaaGreatDoor
namespace Go.Proofs.YtgndehppmaacaaaGreatDoor
section
open Go.RowKit Tms
open Shp (Sh)
open Pso (St Ok)
open Prs (R)
theorem Zn2:RdFn 8 Pso.wholeT:=fun A c l hl w ht hg=>Zhh A c l 0 (fun b hb=>by have:=(hl.tok b hb).1; omega) (by omega) (by have:=hl.len; omega) w ht hg
theorem Zfr (s:List UInt8) (E:s.length<=9223372036854775807) (w:World) (k:Gl w):
 Calls Tryz.prog 11 #[.string ⟨s.toArray⟩] w (TySaid (Pso.rdText s Pso.wholeT) w):=by
 have h:=Y1 (ZcH w);have d:=Y1 (Zd3 w);have c:=Y1 (Zdg w);have i:=Y1 (ZhQ s E 8 (fun _ _=>rfl) Pso.wholeT Zn2 (fun l=>Pse.to_wholeT (l:=l)) (aW w) (k.next (ZcH w)));obtain ⟨r,o⟩: ∃r,r=Pso.rdText s Pso.wholeT:=⟨_,rfl⟩;rw[<-o] at i ⊢;clear k o;go_enter Tryz.func11,Tryz.ntmps11
 go_wp2_with fail
 change Calls _ _ _ (aW w) _;refine i.out.mono ?_;generalize aW w=W0 at h d c ⊢;rintro e N ⟨g,n⟩;have a:=Y1 (Z03 h.out g);have O:=d.out.1;have F:=c.out.1;obtain ⟨q,⟨t,u,z,A,B⟩,I,J,K,L,M⟩:=d.out.next g;obtain ⟨x0,x1,x2,G,H⟩:=c.out.next g;cases r with
 | ok y=>
  obtain ⟨x,rfl,m,j,p⟩:=n;have C:=Y1 m;have b:Hid (w.heap.size+1+1<=x.lo):=Y1 (by omega);have D:=Y1 p;clear m j p g h d c i;simp only[valS]
  go_wp2_with fail
  all_goals refine bodyPost_ret (v:= .tuple #[valS x,.agg #[.int .i64 0,.int .i64 0]]) (by simp[results,Tryz.results11,go_sem,valS,q,x0,t,u,z,A,B,x1,x2]) rfl ?_
  all_goals refine ⟨Zd6 a.out ?_,x,rfl,Zjc C.out b.out ?_,by have:=b.out; omega,D.out⟩
  all_goals repeat' (with_reducible first | refine UpT.drew ?_ | refine UpT.set ?_ _ (Or.inr ?_) _ | exact UpT.refl _ _)
  all_goals simp
 | error f=>
  obtain rfl:=n;clear g h d c i
  go_wp2_with fail
  all_goals refine bodyPost_ret (v:= .tuple #[.agg #[.int .i64 0,.string ⟨#[]⟩,.string ⟨#[]⟩,.slice none 0 0,.slice none 0 0],.agg #[.int .i64 f.1,.int .i64 f.2]]) (by simp[results,Tryz.results11,go_sem,q,x0,t,u,z,A,B,x1,x2]) rfl ?_
  all_goals refine ⟨Zd6 a.out ?_,rfl⟩
  all_goals repeat' (with_reducible first | refine UpT.drew ?_ | refine UpT.set ?_ _ (Or.inr ?_) _ | exact UpT.refl _ _)
  all_goals simp
end
section
open Go.RowKit Tms
open Shp (Sh)
open Pso (St)
def valT (x:ET):Value:= .agg (Y7 x.t x.q)
def zerosT:List Value:= [.int .i64 0,.string ⟨#[]⟩,.string ⟨#[]⟩,.int .i64 0,.slice none 0 0,.slice none 0 0,.slice none 0 0,.slice none 0 0,.int .i64 0]
theorem Zjn: (Tryz.prog.info? 40).map (fun i=>(i.zero,i.size,i.bytes))=some (some (.agg #[.int .i64 0,.string ByteArray.empty,.string ByteArray.empty,.int .i64 0,.slice none 0 0,.slice none 0 0,.slice none 0 0,.slice none 0 0,.int .i64 0]),9,152):=by kernel_rfl
def oT0 (pos:String) (b s tC fi:Nat):Oper:=
 { dst:=some b,op:= .fieldAddr tC (.tmp s) fi,type:=0,pos:=pos,after:=#[],guard:=none }
def oT1 (pos:String) (b:Nat):Oper:=
 { dst:=some (b+1),op:= .load 38 (.tmp b),type:=38,pos:=pos,after:=#[{ on:=0,ground:= .data }],guard:=none }
def oT2 (pos:String) (b p:Nat):Oper:=
 { dst:=some (b+2),op:= .load 52 (.tmp p),type:=52,pos:=pos,after:=#[],guard:=none }
def oT3 (pos:String) (b fn:Nat):Oper:=
 { dst:=some (b+3),op:= .call { callee:= .value (.func fn),args:=#[.tmp (b+2)],argTypes:=#[52] },type:=40,pos:=pos,after:=#[{ on:=2,ground:= .data }],guard:=none }
def oT4 (pos:String) (b:Nat):Oper:=
 { dst:=some (b+4),op:= .call { callee:= .builtin .len,args:=#[.tmp (b+1)],argTypes:=#[38] },type:=3,pos:=pos,after:=#[{ on:=1,ground:= .data }],guard:=none }
def oT5 (pos:String) (b:Nat):Oper:=
 { dst:=some (b+5),op:= .buildSlice 38 1 #[(0,.const (.agg #[.int .i64 0,.string ⟨#[]⟩,.string ⟨#[]⟩,.int .i64 0,.slice none 0 0,.slice none 0 0,.slice none 0 0,.slice none 0 0,.int .i64 0]))],type:=38,pos:=pos,after:=#[],guard:=none }
def oT6 (pos:String) (b:Nat):Oper:=
 { dst:=some (b+6),op:= .call { callee:= .builtin .append,args:=#[.tmp (b+1),.tmp (b+5)],argTypes:=#[38,38] },type:=38,pos:=pos,after:=#[{ on:=1,ground:= .data },{ on:=5,ground:= .data },{ on:=3,ground:= .chain },{ on:=0,ground:= .phase },{ on:=1,ground:= .phase },{ on:=2,ground:= .phase },{ on:=3,ground:= .phase },{ on:=4,ground:= .phase },{ on:=5,ground:= .phase }],guard:=none }
def oT7 (pos:String) (b:Nat):Oper:=
 { dst:=some (b+7),op:= .indexAddr 38 (.tmp (b+6)) (.tmp (b+4)),type:=0,pos:=pos,after:=#[{ on:=6,ground:= .data },{ on:=4,ground:= .data },{ on:=0,ground:= .phase },{ on:=1,ground:= .phase },{ on:=2,ground:= .phase },{ on:=3,ground:= .phase },{ on:=4,ground:= .phase },{ on:=5,ground:= .phase },{ on:=6,ground:= .phase },{ on:=10,ground:= .gcOnly .appendInPlace }],guard:=none }
def oT8 (pos:String) (b:Nat):Oper:=
 { dst:=none,op:= .store 40 (.tmp (b+7)) (.tmp (b+3)),type:=0,pos:=pos,after:=#[{ on:=7,ground:= .data },{ on:=3,ground:= .data },{ on:=6,ground:= .chain },{ on:=0,ground:= .phase },{ on:=1,ground:= .phase },{ on:=2,ground:= .phase },{ on:=3,ground:= .phase },{ on:=4,ground:= .phase },{ on:=5,ground:= .phase },{ on:=6,ground:= .phase },{ on:=10,ground:= .gcOnly .appendInPlace }],guard:=none }
def oT9 (pos:String) (b s tC fi:Nat):Oper:=
 { dst:=some (b+8),op:= .fieldAddr tC (.tmp s) fi,type:=0,pos:=pos,after:=#[{ on:=0,ground:= .phase },{ on:=1,ground:= .phase },{ on:=2,ground:= .phase },{ on:=3,ground:= .phase },{ on:=4,ground:= .phase },{ on:=5,ground:= .phase },{ on:=6,ground:= .phase },{ on:=7,ground:= .textOnly .appendInPlace },{ on:=8,ground:= .textOnly .appendInPlace }],guard:=none }
def oT10 (pos:String) (b:Nat):Oper:=
 { dst:=none,op:= .store 38 (.tmp (b+8)) (.tmp (b+6)),type:=0,pos:=pos,after:=#[{ on:=9,ground:= .data },{ on:=6,ground:= .data },{ on:=6,ground:= .chain },{ on:=8,ground:= .textOnly .appendInPlace },{ on:=0,ground:= .phase },{ on:=1,ground:= .phase },{ on:=2,ground:= .phase },{ on:=3,ground:= .phase },{ on:=4,ground:= .phase },{ on:=5,ground:= .phase },{ on:=6,ground:= .phase },{ on:=7,ground:= .textOnly .appendInPlace },{ on:=8,ground:= .textOnly .appendInPlace }],guard:=none }
def opsT (pos:String) (b s p tC fi fn:Nat):Array Oper:=
 #[oT0 pos b s tC fi,oT1 pos b,oT2 pos b p,oT3 pos b fn,oT4 pos b,oT5 pos b,oT6 pos b,oT7 pos b,oT8 pos b,oT9 pos b s tC fi,oT10 pos b]
structure CtxT where
 w:World
 bp:Nat
 A:Option Addr
 c:Nat
 l:List Tk
 τ:St
 ob:Nat
 fo:Nat
 B:Nat
 AR:Option Addr
 cap:Nat
 xs:List ET
 R:ET->Prop
namespace CtxT
variable (X : CtxT)
def val (j:Nat):Option Value:=match j with
 | 0=>some (.pointer (some ⟨X.ob,X.fo,none⟩))
 | 1=>some (.slice X.AR X.xs.length X.cap)
 | 2=>some (.pointer (some ⟨X.bp,0,none⟩))
 | 4=>some (.int .i64 (X.xs.length:Int))
 | 9=>some (.pointer (some ⟨X.ob,X.fo,none⟩))
 | _=>none
structure Good:Prop where
 cell:X.w.cell? ⟨X.ob,X.fo,none⟩=some (.slice X.AR X.xs.length X.cap)
 fz:X.w.frozen? ⟨X.ob,X.fo,none⟩=false
 oblt:X.ob < X.w.heap.size
 bpob:X.bp < X.ob
 row:Row X.w X.B 40 9 cT X.AR X.cap X.xs
 obB:X.ob < X.B
 bpB:X.bp < X.B
 Bw:X.B<=X.w.heap.size
 len:X.xs.length<=900000
structure Pre (d:Nat->Bool) (u:Nat->Value) (W:World):Prop where
 up:UpT [X.bp] X.w W
 b3:d 3=false->Below X.w.heap.size X.w W
 a3:d 3=true-> ∃x:ET,u 3=valT x/\PAt W X.bp X.A X.c X.l X.τ/\x.Is W/\X.w.heap.size<=x.lo/\X.R x
 a5:d 5=true-> ∃z0,u 5= .slice (some ⟨z0,0,none⟩) 1 1/\X.w.heap.size<=z0/\z0 < W.heap.size/\ ∀(j:Nat) v,zerosT[j]? =some v->W.cell? ⟨z0,j,none⟩=some v
structure PostX (d:Nat->Bool) (u:Nat->Value) (W:World) (x:ET) (g cp:Nat):Prop where
 u3:u 3=valT x
 u6:u 6= .slice (some ⟨g,0,none⟩) (X.xs.length+1) cp
 u7:d 7=true->u 7= .pointer (some ⟨g,X.xs.length * 9,none⟩)
 par:PAt W X.bp X.A X.c X.l X.τ
 is:x.Is W
 r:X.R x
 lo:X.w.heap.size<=x.lo
 far:g < x.lo\/x.hi<=g
 new:rowT X.AR=some g\/X.w.heap.size<=g
 up:UpT (X.bp::X.ob::(rowT X.AR).toList) X.w W
 row:W.ownsRow X.B 40 9 (.slice (some ⟨g,0,none⟩) (X.xs.length+1) cp) (X.xs.length+1) (X.xs.flatMap cT++if d 8=true then cT x else zerosT)
 cell:W.cell? ⟨X.ob,X.fo,none⟩=some (if d 10=true then .slice (some ⟨g,0,none⟩) (X.xs.length+1) cp else .slice X.AR X.xs.length X.cap)
 rest: ∀j,j≠X.fo->W.cell? ⟨X.ob,j,none⟩=X.w.cell? ⟨X.ob,j,none⟩
 fz: ∀j,W.frozen? ⟨X.ob,j,none⟩=X.w.frozen? ⟨X.ob,j,none⟩
structure Inv (d:Nat->Bool) (u:Nat->Value) (W:World):Prop where
 vals: ∀j,d j=true-> ∀v,X.val j=some v->u j=v
 e6:d 6=true-> ∀k,k < 6->d k=true
 e7:d 7=true->d 6=true
 e8:d 8=true->d 6=true
 e10:d 10=true->d 6=true
 pre:d 6=false->X.Pre d u W
 post:d 6=true-> ∃x g cp,X.PostX d u W x g cp
variable {X : CtxT} {d : Nat -> Bool} {u : Nat -> Value} {W W' : World}
theorem Good.obne (h:X.Good):X.ob≠X.bp:=by have:=h.bpob; omega
theorem Good.start (h:X.Good):X.Inv (fun _=>false) u X.w.drew:=
 ⟨nofun,nofun,nofun,nofun,nofun,fun _=>⟨(UpT.refl _ _).drew,fun _=>Y2.drew,nofun,nofun⟩,nofun⟩
theorem mono9 {d:Nat->Bool} (i:Nat) {k:Nat} (h:d k=true):also d i k=true:=by
 by_cases e:k=i
 {subst e; unfold also; rw[Nat.beq_refl]; rfl}
 {unfold also;have:Nat.beq k i=false:=by cases a:Nat.beq k i <;> first | rfl | exact absurd (Nat.eq_of_beq_eq_true a) e
  rw[this]; exact h}
theorem ne9 (d:Nat->Bool) {i j:Nat} (h:j≠i):also d i j=d j:=by
 unfold also;have:Nat.beq j i=false:=by cases a:Nat.beq j i <;> first | rfl | exact absurd (Nat.eq_of_beq_eq_true a) h
 rw[this]; rfl
theorem self9 (d:Nat->Bool) (i:Nat):also d i i=true:=by unfold also; rw[Nat.beq_refl]; rfl
section
variable (h : X.Inv d u W) {i : Nat}
include h i
theorem Inv.vals' {v:Value} (b: ∀v',X.val i=some v'->v=v'): ∀j,also d i j=true-> ∀v',X.val j=some v'->upd u i v j=v':=fun j hj v' hv'=>by
 by_cases a:j=i
 {subst a; rw[Z06]; exact b v' hv'}
 {rw[ne9 d a] at hj; rw[Z02 u v a]; exact h.vals j hj v' hv'}
theorem Inv.pure (f:i=0\/i=1\/i=2\/i=4\/i=9) {v:Value} (e: ∀v',X.val i=some v'->v=v'):X.Inv (also d i) (upd u i v) W:=by
 have k: ∀j,j=3\/j=5\/j=6\/j=7\/j=8\/j=10->also d i j=d j/\upd u i v j=u j:=fun j hj=>⟨ne9 d (by omega),Z02 u v (by omega)⟩;refine ⟨h.vals' e, ?_, ?_, ?_, ?_, ?_, ?_⟩
 {rw[(k 6 (by omega)).1]; exact fun c k hk=>mono9 i (h.e6 c k hk)}
 {rw[(k 7 (by omega)).1,(k 6 (by omega)).1]; exact h.e7}
 {rw[(k 8 (by omega)).1,(k 6 (by omega)).1]; exact h.e8}
 {rw[(k 10 (by omega)).1,(k 6 (by omega)).1]; exact h.e10}
 {rw[(k 6 (by omega)).1];intro c;obtain ⟨a,b,c3,c5⟩:=h.pre c;refine ⟨a, ?_, ?_, ?_⟩
  {rw[(k 3 (by omega)).1]; exact b}
  {rw[(k 3 (by omega)).1,(k 3 (by omega)).2]; exact c3}
  {rw[(k 5 (by omega)).1,(k 5 (by omega)).2]; exact c5}}
 {rw[(k 6 (by omega)).1];intro c;obtain ⟨x,g,cp,p⟩:=h.post c;refine ⟨x,g,cp, ?_, ?_, ?_,p.par,p.is,p.r,p.lo,p.far,p.new,p.up, ?_, ?_,p.rest,p.fz⟩
  {rw[(k 3 (by omega)).2]; exact p.u3}
  {rw[(k 6 (by omega)).2]; exact p.u6}
  {rw[(k 7 (by omega)).1,(k 7 (by omega)).2]; exact p.u7}
  {rw[(k 8 (by omega)).1]; exact p.row}
  {rw[(k 10 (by omega)).1]; exact p.cell}}
theorem Inv.early (c:i < 6) (b:d i=false):d 6=false:=by
 cases a:d 6 with
 | false=>rfl
 | true=>have:=h.e6 a i c; rw[b] at this; cases this
theorem Inv.first (b:i < 6) (a:d i=false):UpT [X.bp] X.w W:=(h.pre (h.early b a)).up
end
theorem Inv.cell (h:X.Inv d u W) (a:X.Good) {i:Nat} (e:i < 6) (c:d i=false):W.cell? ⟨X.ob,X.fo,none⟩=some (.slice X.AR X.xs.length X.cap)/\X.ob < W.heap.size:=by
 have b:=h.first e c;exact ⟨((b.same a.oblt (by simp[a.obne])).1 _).trans a.cell,Nat.lt_of_lt_of_le a.oblt b.size⟩
section
variable (h : X.Inv d u W)
include h
theorem Inv.s3 (n:d 3=false) {x:ET} (p:PAt W' X.bp X.A X.c X.l X.τ) (f:UpT [X.bp] W W') (t:x.Is W') (o:W.heap.size<=x.lo) (q:X.R x) (i:X.Good):X.Inv (also d 3) (upd u 3 (valT x)) W':=by
 have c:=h.early (by omega) n;obtain ⟨a,b,c3,c5⟩:=h.pre c;have k: ∀j,j≠3->also d 3 j=d j/\upd u 3 (valT x) j=u j:=fun j hj=>⟨ne9 d hj,Z02 u _ hj⟩;refine ⟨h.vals' (by intro A g; cases g), ?_, ?_, ?_, ?_, ?_, ?_⟩
 {rw[(k 6 (by omega)).1,c]; intro e; cases e}
 {rw[(k 7 (by omega)).1,(k 6 (by omega)).1]; exact h.e7}
 {rw[(k 8 (by omega)).1,(k 6 (by omega)).1]; exact h.e8}
 {rw[(k 10 (by omega)).1,(k 6 (by omega)).1]; exact h.e10}
 {intro _;have s:=a.size;refine ⟨a.trans f, ?_,fun _=>⟨x,Z06 _ _ _,p,t,by omega,q⟩, ?_⟩
  {rw[self9]; intro e; cases e}
  {rw[(k 5 (by omega)).1,(k 5 (by omega)).2];intro m;obtain ⟨w,e1,e2,e3,l⟩:=c5 m;have y:=i.bpB;have z:=i.Bw;have r:=f.same e3 (by simp; omega);exact ⟨w,e1,e2,Nat.lt_of_lt_of_le e3 f.size,fun j v hv=>(r.1 j).trans (l j v hv)⟩}}
 {rw[(k 6 (by omega)).1,c]; intro e; cases e}
theorem Inv.s5 (m:d 5=false) (n:X.Good) (t:TypeId):X.Inv (also d 5) (upd u 5 (.slice (some ⟨W.heap.size,0,none⟩) 1 1)) (W.alloc (.cells Ya t)):=by
 have f:=h.early (by omega) m;obtain ⟨a,b,c3,c5⟩:=h.pre f;have k: ∀j,j≠5->also d 5 j=d j/\upd u 5 (.slice (some ⟨W.heap.size,0,none⟩) 1 1) j=u j:=fun j hj=>⟨ne9 d hj,Z02 u _ hj⟩;have c:=Z01 W (.cells Ya t);refine ⟨h.vals' (by intro o g; cases g), ?_, ?_, ?_, ?_, ?_, ?_⟩
 {rw[(k 6 (by omega)).1,f]; intro e; cases e}
 {rw[(k 7 (by omega)).1,(k 6 (by omega)).1]; exact h.e7}
 {rw[(k 8 (by omega)).1,(k 6 (by omega)).1]; exact h.e8}
 {rw[(k 10 (by omega)).1,(k 6 (by omega)).1]; exact h.e10}
 {intro _;refine ⟨a.below c, ?_, ?_,fun _=>⟨W.heap.size,Z06 _ _ _,a.size,by simp,fun j v hv=> ?_⟩⟩
  {rw[(k 3 (by omega)).1]; exact fun e=>Z03 (b e) c}
  {rw[(k 3 (by omega)).1,(k 3 (by omega)).2];intro l;obtain ⟨x,e1,e2,e3,e4,i⟩:=c3 l;exact ⟨x,e1,e2.below c,New.below e3 c,e4,i⟩}
  {rw[World.cell?_alloc_at _ _ _ _ rfl];simpa[zerosT] using hv}}
 {rw[(k 6 (by omega)).1,f]; intro e; cases e}
theorem Inv.s6 (o:d 6=false) (w: ∀k,k < 6->d k=true) {g cp:Nat} (i:X.Good) (n:W'.ownsRow X.B 40 9 (.slice (some ⟨g,0,none⟩) (X.xs.length+1) cp) (X.xs.length+1) (X.xs.flatMap cT++zerosT))
 (l:W.grownBy W' (rowT X.AR)) (m:rowT X.AR=some g\/g=W.heap.size):X.Inv (also d 6) (upd u 6 (.slice (some ⟨g,0,none⟩) (X.xs.length+1) cp)) W':=by
 obtain ⟨a,b,c3,c5⟩:=h.pre o;obtain ⟨x,B,C,v,D,E⟩:=c3 (w 3 (by omega));have k: ∀j,j≠6->also d 6 j=d j/\upd u 6 (.slice (some ⟨g,0,none⟩) (X.xs.length+1) cp) j=u j:=fun j hj=>⟨ne9 d hj,Z02 u _ hj⟩;have z:d 7=false:=by cases e:d 7 with | false=>rfl | true=>have:=h.e7 e; rw[o] at this; cases this
 have A:d 8=false:=by cases e:d 8 with | false=>rfl | true=>have:=h.e8 e; rw[o] at this; cases this
 have p:d 10=false:=by cases e:d 10 with | false=>rfl | true=>have:=h.e10 e; rw[o] at this; cases this
 have r:=a.size;have f: ∀k,rowT X.AR=some k->X.B<=k/\k < X.w.heap.size:=fun k hk=>i.row.lt k hk;have F:=i.Bw;have t:UpT (rowT X.AR).toList W W':=⟨l.os,l.tape,l.output,l.size,fun x c h2=>l.block x c (fun e=>h2 (by rw[<-e]; simp))⟩;have q:SameT X.w W' X.ob:=(a.same i.oblt (by simp[i.obne])).trans (t.same (Nat.lt_of_lt_of_le i.oblt r) (by
  intro G;have c:rowT X.AR=some X.ob:=by simpa using G
  have:=f _ c; have:=i.obB; omega))
 refine ⟨h.vals' (by intro H s; cases s),fun _ j hj=>mono9 6 (w j hj), ?_, ?_, ?_, ?_, ?_⟩
 {intro _; exact self9 _ _}
 {intro _; exact self9 _ _}
 {intro _; exact self9 _ _}
 {rw[self9]; intro e; cases e}
 {intro _;refine ⟨x,g,cp, ?_,Z06 _ _ _, ?_,C.keep t (fun k hk=> ?_),New.grown v l (fun k hk=>Or.inl ?_),E,D, ?_, ?_, ?_, ?_, ?_,fun j hj=>q.1 j,fun j=>q.2 j⟩
  {rw[(k 3 (by omega)).2]; exact B}
  {rw[(k 7 (by omega)).1,z]; intro e; cases e}
  {have c:rowT X.AR=some k:=by simpa using hk
   have:=f _ c; have:=i.bpB; omega}
  {have:=f _ hk; omega}
  {rcases m with c | c
   {left; have:=f _ c; omega}
   {right; have:=v.hi_; omega}}
  {rcases m with c | c
   {exact Or.inl c}
   {exact Or.inr (by omega)}}
  {exact (a.mono (fun y hy _=>by simp at hy; simp[hy])).trans (t.mono (fun y hy _=>by simp at hy; simp[hy]))}
  {rw[(k 8 (by omega)).1,A]; simpa using n}
  {rw[(k 10 (by omega)).1,p]; exact (q.1 _).trans i.cell}}
theorem Inv.s7 (a:d 6=true) {v:Value} (c: ∀x g cp,X.PostX d u W x g cp->v= .pointer (some ⟨g,X.xs.length * 9,none⟩)):X.Inv (also d 7) (upd u 7 v) W:=by
 have k: ∀j,j≠7->also d 7 j=d j/\upd u 7 v j=u j:=fun j hj=>⟨ne9 d hj,Z02 u _ hj⟩;refine ⟨h.vals' (by intro f b; cases b), ?_, ?_, ?_, ?_, ?_, ?_⟩
 {rw[(k 6 (by omega)).1]; exact fun a j hj=>mono9 7 (h.e6 a j hj)}
 {rw[(k 6 (by omega)).1]; exact fun _=>a}
 {rw[(k 8 (by omega)).1,(k 6 (by omega)).1]; exact h.e8}
 {rw[(k 10 (by omega)).1,(k 6 (by omega)).1]; exact h.e10}
 {rw[(k 6 (by omega)).1,a]; intro e; cases e}
 {intro _;obtain ⟨x,g,cp,p⟩:=h.post a;refine ⟨x,g,cp, ?_, ?_,fun _=> ?_,p.par,p.is,p.r,p.lo,p.far,p.new,p.up, ?_, ?_,p.rest,p.fz⟩
  {rw[(k 3 (by omega)).2]; exact p.u3}
  {rw[(k 6 (by omega)).2]; exact p.u6}
  {rw[Z06]; exact c x g cp p}
  {rw[(k 8 (by omega)).1]; exact p.row}
  {rw[(k 10 (by omega)).1]; exact p.cell}}
end
theorem grown_trans9 {a b c:World} {r:Option Nat} (h:a.grownBy b r) (k:b.grownBy c r):a.grownBy c r:=
 ⟨k.os.trans h.os,k.tape.trans h.tape,k.output.trans h.output,Nat.le_trans h.size k.size,fun i hi hn=>(k.block i (Nat.lt_of_lt_of_le hi h.size) hn).trans (h.block i hi hn)⟩
def putT (W:World) (g i:Nat) (x:ET):World:=(((((((((W).setCell ⟨g,i+0,none⟩ (.int .i64 x.t.kind)).setCell ⟨g,i+1,none⟩ (.string ⟨x.t.of_.toArray⟩)).setCell ⟨g,i+2,none⟩ (.string ⟨x.t.name.toArray⟩)).setCell ⟨g,i+3,none⟩ (.int .i64 x.t.n)).setCell ⟨g,i+4,none⟩ (.slice x.q.A x.t.names.length x.q.c)).setCell ⟨g,i+5,none⟩ (.slice x.q.V x.t.vars.length x.q.e)).setCell ⟨g,i+6,none⟩ (.slice x.q.S x.t.shapes.length x.q.s)).setCell ⟨g,i+7,none⟩ (.slice x.q.P x.t.parts.length x.q.d)).setCell ⟨g,i+8,none⟩ (.int .i64 x.t.at_)
section
variable (x : ET) {g cp n B : Nat} {ys : List Value} (hn : ys.length = n * 9) (h : W.ownsRow B 40 9 (.slice (some ⟨g, 0, none⟩) (n + 1) cp) (n + 1) (ys ++ zerosT))
include x g cp n B ys hn h
theorem put_row:
 (putT W g (n * 9) x).ownsRow B 40 9 (.slice (some ⟨g,0,none⟩) (n+1) cp) (n+1) (ys++cT x)/\W.grownBy (putT W g (n * 9) x) (some g):=by
 obtain ⟨q,c⟩:=World.ownsRow.stored h (n * 9+0) (.int .i64 x.t.kind);obtain ⟨r,e⟩:=World.ownsRow.stored q (n * 9+1) (.string ⟨x.t.of_.toArray⟩);obtain ⟨s,f⟩:=World.ownsRow.stored r (n * 9+2) (.string ⟨x.t.name.toArray⟩);obtain ⟨t,i⟩:=World.ownsRow.stored s (n * 9+3) (.int .i64 x.t.n);obtain ⟨w,j⟩:=World.ownsRow.stored t (n * 9+4) (.slice x.q.A x.t.names.length x.q.c);obtain ⟨y,l⟩:=World.ownsRow.stored w (n * 9+5) (.slice x.q.V x.t.vars.length x.q.e);obtain ⟨z,m⟩:=World.ownsRow.stored y (n * 9+6) (.slice x.q.S x.t.shapes.length x.q.s);obtain ⟨A,o⟩:=World.ownsRow.stored z (n * 9+7) (.slice x.q.P x.t.parts.length x.q.d);obtain ⟨b,p⟩:=World.ownsRow.stored A (n * 9+8) (.int .i64 x.t.at_);refine ⟨?_,(grown_trans9 (grown_trans9 (grown_trans9 (grown_trans9 (grown_trans9 (grown_trans9 (grown_trans9 (grown_trans9 c e) f) i) j) l) m) o) p)⟩;have a: ∀(zs:List Value) (k:Nat) (v:Value),(ys++zs).set (n * 9+k) v=ys++zs.set k v:=fun zs k v=>by rw[<-hn,List.set_append_right _ _ (by omega),Nat.add_sub_cancel_left]
 rw[a,a,a,a,a,a,a,a,a] at b;exact b
theorem put_zero (k:Nat) (c:k < 9): ∃v,W.cell? ⟨g,n * 9+k,none⟩=some v/\W.frozen? ⟨g,n * 9+k,none⟩=false:=by
 have a:=h.cellAt (n * 9+k) (by rw[Nat.add_mul]; omega);rw[List.getElem?_append_right (by omega),hn,Nat.add_sub_cancel_left] at a;have b:k < zerosT.length:=c;rw[List.getElem?_eq_getElem b] at a;exact ⟨_,a,h.frozenAt _⟩
end
theorem Inv.s8 (h:X.Inv d u W) (s:d 8=false) (l:d 6=true) (f:X.Good) {x:ET} {g cp:Nat} (p:X.PostX d u W x g cp) (v:Value):X.Inv (also d 8) (upd u 8 v) (putT W g (X.xs.length * 9) x):=by
 have k: ∀j,j≠8->also d 8 j=d j/\upd u 8 v j=u j:=fun j hj=>⟨ne9 d hj,Z02 u _ hj⟩;have b:=p.row;rw[s] at b;simp only[Bool.false_eq_true,if_false] at b;obtain ⟨m,a⟩:=put_row x (by rw[ZbH Zfm]) b;have t:X.B<=g/\g < W.heap.size:=b.lt g rfl;have r:=f.bpB;have A:=f.obB;have z:=p.lo;have q:=f.Bw;have c:SameT W (putT W g (X.xs.length * 9) x) X.ob:=⟨fun j=>World.cell?_of_block (w:=W) (a.block X.ob (Nat.lt_of_lt_of_le f.oblt p.up.size) (fun e=>by have:=Option.some.inj e; omega)),fun j=>World.frozen?_of_block (w:=W) (a.block X.ob (Nat.lt_of_lt_of_le f.oblt p.up.size) (fun e=>by have:=Option.some.inj e; omega))⟩;refine ⟨h.vals' (by intro B n; cases n), ?_, ?_, ?_, ?_, ?_, ?_⟩
 {rw[(k 6 (by omega)).1]; exact fun l j hj=>mono9 8 (h.e6 l j hj)}
 {rw[(k 7 (by omega)).1,(k 6 (by omega)).1]; exact h.e7}
 {rw[(k 6 (by omega)).1]; exact fun _=>l}
 {rw[(k 10 (by omega)).1,(k 6 (by omega)).1]; exact h.e10}
 {rw[(k 6 (by omega)).1,l]; intro e; cases e}
 {intro _;refine ⟨x,g,cp, ?_, ?_, ?_, ?_,New.grown p.is a (fun j hj=> ?_),p.r,p.lo,p.far,p.new, ?_, ?_, ?_,fun j hj=>(c.1 j).trans (p.rest j hj),fun j=>(c.2 j).trans (p.fz j)⟩
  {rw[(k 3 (by omega)).2]; exact p.u3}
  {rw[(k 6 (by omega)).2]; exact p.u6}
  {rw[(k 7 (by omega)).1,(k 7 (by omega)).2]; exact p.u7}
  {refine p.par.keep (F:= [g]) ⟨a.os,a.tape,a.output,a.size,fun y h1 h2=>a.block y h1 (fun e=>h2 (by rw[Option.some.inj e]; simp))⟩ (by simp; omega)}
  {obtain rfl:=Option.some.inj hj; exact p.far}
  {have i:UpT [g] W (putT W g (X.xs.length * 9) x):=⟨a.os,a.tape,a.output,a.size,fun y h1 h2=>a.block y h1 (fun e=>h2 (by rw[Option.some.inj e]; simp))⟩;refine ⟨i.os.trans p.up.os,i.tape.trans p.up.tape,i.output.trans p.up.output,Nat.le_trans p.up.size i.size,fun y h1 h2=> ?_⟩;rw[i.block y (Nat.lt_of_lt_of_le h1 p.up.size) (fun e=> ?_)]
   {exact p.up.block y h1 h2}
   {obtain rfl:y=g:=by simpa using e
    rcases p.new with o | o
    {exact h2 (by rw[o]; simp)}
    {omega}}}
  {rw[self9]; simpa using m}
  {rw[(k 10 (by omega)).1]; exact (c.1 _).trans p.cell}}
theorem Inv.s10 (h:X.Inv d u W) (A:d 10=false) (f:d 6=true) (c:X.Good) {x:ET} {g cp:Nat} (p:X.PostX d u W x g cp) (v:Value):X.Inv (also d 10) (upd u 10 v) (W.setCell ⟨X.ob,X.fo,none⟩ (.slice (some ⟨g,0,none⟩) (X.xs.length+1) cp)):=by
 have k: ∀j,j≠10->also d 10 j=d j/\upd u 10 v j=u j:=fun j hj=>⟨ne9 d hj,Z02 u _ hj⟩;have t:X.B<=g/\g < W.heap.size:=p.row.lt g rfl;have s:=c.bpB;have z:=c.obB;have w:=p.lo;have r:=c.Bw;have l:=c.obne;have o:=c.bpob;have i:UpT [X.ob] W (W.setCell ⟨X.ob,X.fo,none⟩ (.slice (some ⟨g,0,none⟩) (X.xs.length+1) cp)):=(UpT.refl _ _).set _ (Or.inr (by simp)) _;refine ⟨h.vals' (by intro B n; cases n), ?_, ?_, ?_, ?_, ?_, ?_⟩
 {rw[(k 6 (by omega)).1]; exact fun f j hj=>mono9 10 (h.e6 f j hj)}
 {rw[(k 7 (by omega)).1,(k 6 (by omega)).1]; exact h.e7}
 {rw[(k 8 (by omega)).1,(k 6 (by omega)).1]; exact h.e8}
 {rw[(k 6 (by omega)).1]; exact fun _=>f}
 {rw[(k 6 (by omega)).1,f]; intro e; cases e}
 {intro _;have m:PAt (W.setCell ⟨X.ob,X.fo,none⟩ (.slice (some ⟨g,0,none⟩) (X.xs.length+1) cp)) X.bp X.A X.c X.l X.τ:=by
   have q: ∀b,b≠X.ob->SameT W (W.setCell ⟨X.ob,X.fo,none⟩ (.slice (some ⟨g,0,none⟩) (X.xs.length+1) cp)) b:=fun b a=>ZdC _ _ _ (fun e=>a (by simpa using e.symm));have a:=q X.bp (fun e=>l e.symm);exact ⟨Nat.lt_of_lt_of_le p.par.lt i.size,(a.1 0).trans p.par.c0,(a.1 1).trans p.par.c1,(a.1 2).trans p.par.c2,(a.1 3).trans p.par.c3,fun k=>(a.2 k).trans (p.par.fz k),p.par.tk.same (fun b hb2=>q b (by omega)),p.par.gs.up i (by simp; omega),p.par.tx⟩
  refine ⟨x,g,cp, ?_, ?_, ?_,m,New.up p.is i (by simp; omega),p.r,p.lo,p.far,p.new, ?_, ?_, ?_,fun j hj=> ?_,fun j=> ?_⟩
  {rw[(k 3 (by omega)).2]; exact p.u3}
  {rw[(k 6 (by omega)).2]; exact p.u6}
  {rw[(k 7 (by omega)).1,(k 7 (by omega)).2]; exact p.u7}
  {exact p.up.trans (i.mono (fun y hy _=>by simp at hy; simp[hy]))}
  {rw[(k 8 (by omega)).1]; exact Zdt p.row (by intro e; have:=Option.some.inj e; simp at this; omega) _}
  {rw[self9,if_pos rfl]; exact World.cell?_setCell_same _ _ _ p.cell}
  {rw[World.cell?_setCell_other _ _ _ _ (fun e=>hj (by have:=congrArg Addr.off e; simpa using this.symm))]; exact p.rest j hj}
  {rw[World.frozen?_setCell]; exact p.fz j}}
end CtxT
structure FrameT (pos:String) (b s p:Nat) (tC fi fn:Nat) (A: (Nat->Value)->Act) (vs vp:Value):Prop where
 put: ∀(i:Nat) o,(opsT pos b s p tC fi fn)[i]? =some o-> ∀u v,(A u).put o.dst v=A (upd u i v)
 es: ∀u,(A u).eval (.tmp s)=vs
 ep: ∀u,(A u).eval (.tmp p)=vp
 e0: ∀u,(A u).eval (.tmp b)=u 0
 e1: ∀u,(A u).eval (.tmp (b+1))=u 1
 e2: ∀u,(A u).eval (.tmp (b+2))=u 2
 e3: ∀u,(A u).eval (.tmp (b+3))=u 3
 e4: ∀u,(A u).eval (.tmp (b+4))=u 4
 e5: ∀u,(A u).eval (.tmp (b+5))=u 5
 e6: ∀u,(A u).eval (.tmp (b+6))=u 6
 e7: ∀u,(A u).eval (.tmp (b+7))=u 7
 e9: ∀u,(A u).eval (.tmp (b+8))=u 9
theorem regT {Q:Exit->Act->World->Prop} {id:Nat} (pos:String) (b s p:Nat) (w r n:Nat) (X:CtxT) (l:X.Good) (y:Nat) (I:X.w.cell? ⟨y,0,none⟩=some (.pointer (some ⟨X.bp,0,none⟩))) (D:y < X.w.heap.size) (J:y≠X.bp)
 (A: (Nat->Value)->Act) (S:Nat->Value) (i:FrameT pos b s p w r n A (.pointer (some ⟨X.ob,0,none⟩)) (.pointer (some ⟨y,0,none⟩)))
 (hfa: ∀W,(Instr.fieldAt w (.pointer (some ⟨X.ob,0,none⟩)) r).run Tryz.prog W= .ok (.pointer (some ⟨X.ob,X.fo,none⟩)) W)
 (a8: ∀args W,(callFunc n args).run Tryz.prog W= .ok (.enter n args) W)
 (t: ∀W,Below X.w.heap.size X.w W->Calls Tryz.prog n #[.pointer (some ⟨X.bp,0,none⟩)] W fun e W'=> ∃x:ET,e= .returned (valT x)/\PAt W' X.bp X.A X.c X.l X.τ/\UpT [X.bp] W W'/\x.Is W'/\W.heap.size<=x.lo/\X.R x)
 (hQ: ∀u W x g cp,X.PostX (fun _=>true) u W x g cp->Q .normal (A u) W):
 (Code.region id (opsT pos b s p w r n) true).wp Tryz.prog Q (A S) X.w:=by
 obtain ⟨i0,H,K,L,M⟩:=ZcW Zjn;have O:=i.es;have U:=i.ep;have a6:Tryz.prog.cellsOf 38=1:=by kernel_rfl
 have a7:Tryz.prog.cellsOf 52=1:=by kernel_rfl
 refine Z3a (rs:= [0,1,2,3,4,5,6,7,8,9,10]) A S X.Inv (by kernel_rfl) (by kernel_rfl) (by kernel_rfl) l.start ?_ ?_;refine StepsInv.cons (oT0 pos b s w r) rfl (fun d u W K' a c hw hK=> ?_) ?_
 {refine Z00 (v:= .pointer (some ⟨X.ob,X.fo,none⟩)) (W':=W) rfl ?_ (by rw[i.put 0 (oT0 pos b s w r) rfl u _]; exact hK.out _ _ (a.pure (by decide) (fun v' h=>by cases h; rfl)));simp only[execOp,oT0,O u,hfa,Sem.run_bind,Result.andThen_ok,Sem.run_pure]}
 refine StepsInv.cons (oT1 pos b) rfl (fun d u W K' a c hw hK=> ?_) ?_
 {have e0:=i.e0 u;rw[a.vals 0 (hw 0 (by kernel_rfl)) _ rfl] at e0;obtain ⟨E,B⟩:=a.cell l (by decide) c;refine Z00 (v:= .slice X.AR X.xs.length X.cap) (W':=W) rfl ?_ (by rw[i.put 1 (oT1 pos b) rfl u _]; exact hK.out _ _ (a.pure (by decide) (fun v' h=>by cases h; rfl)));simp only[execOp,oT1,e0,Sem.run_bind,Result.andThen_ok,Sem.run_pure];go_simp}
 refine StepsInv.cons (oT2 pos b p) rfl (fun d u W K' a c hw hK=> ?_) ?_
 {obtain ⟨E,B⟩:W.cell? ⟨y,0,none⟩=some (.pointer (some ⟨X.bp,0,none⟩))/\y < W.heap.size:=⟨(((a.first (by decide) c).same D (by simp[J])).1 _).trans I,Nat.lt_of_lt_of_le D (a.first (by decide) c).size⟩;refine Z00 (v:= .pointer (some ⟨X.bp,0,none⟩)) (W':=W) rfl ?_ (by rw[i.put 2 (oT2 pos b p) rfl u _]; exact hK.out _ _ (a.pure (by decide) (fun v' h=>by cases h; rfl)));simp only[execOp,oT2,U u,Sem.run_bind,Result.andThen_ok,Sem.run_pure];go_simp}
 refine StepsInv.cons (oT3 pos b n) rfl (fun d u W K' a c hw hK=> ?_) ?_
 {have e2:=i.e2 u;rw[a.vals 2 (hw 2 (by kernel_rfl)) _ rfl] at e2;have G:=(a.pre (a.early (by decide) c)).b3 c;refine Z1n (f:=n) (args:=#[.pointer (some ⟨X.bp,0,none⟩)]) (W':=W) rfl ?_ ((t W G).mono ?_)
  {simp only[execOp,oT3,e2,Sem.run_bind,Result.andThen_ok,Sem.run_pure,resolve,invoke,List.map_toArray,List.map_cons,List.map_nil];have T: (A u).eval (.func n)= .func (.func n) #[] #[]:=rfl;rw[T];go_simp}
  {rintro e W' ⟨x,rfl,Y,Z,h3,h4,h5⟩;exact ⟨_,rfl,by rw[i.put 3 (oT3 pos b n) rfl u _]; exact hK.out _ _ (a.s3 c Y Z h3 h4 h5 l)⟩}}
 refine StepsInv.cons (oT4 pos b) rfl (fun d u W K' a c hw hK=> ?_) ?_
 {have e1:=i.e1 u;rw[a.vals 1 (hw 1 (by kernel_rfl)) _ rfl] at e1;refine Z00 (v:= .int .i64 (X.xs.length:Int)) (W':=W) rfl ?_ (by rw[i.put 4 (oT4 pos b) rfl u _]; exact hK.out _ _ (a.pure (by decide) (fun v' h=>by cases h; rfl)));simp only[execOp,oT4,e1,Sem.run_bind,Result.andThen_ok,Sem.run_pure,resolve,invoke,List.map_toArray,List.map_cons,List.map_nil];go_simp}
 refine StepsInv.cons (oT5 pos b) rfl (fun d u W K' a c hw hK=> ?_) ?_
 {refine Z00 (v:= .slice (some ⟨W.heap.size,0,none⟩) 1 1) (W':=W.alloc (.cells Ya 40)) rfl ?_ (by rw[i.put 5 (oT5 pos b) rfl u _]; exact hK.out _ _ (a.s5 c l _));simp only[execOp,oT5,Sem.run_bind,Result.andThen_ok,Sem.run_pure];go_simp}
 refine StepsInv.cons (oT6 pos b) rfl (fun d u W K' a c hw hK=> ?_) ?_
 {have e1:=i.e1 u;rw[a.vals 1 (hw 1 (by kernel_rfl)) _ rfl] at e1;obtain ⟨z0,u5,z1,z2,z3⟩:=(a.pre c).a5 (hw 5 (by kernel_rfl));have N:=i.e5 u;rw[u5] at N;have a5:=l.bpB;have F:=l.row.up (a.pre c).up (fun x hx=>by simp at hx; subst hx; intro e; have:=l.row.lt _ e; omega);have b1:=l.len;have a3:=l.Bw;have b4:=(a.pre c).up.size;refine step_append_lies W rfl _ _ 38 rfl X.B 40 i0 (.agg #[.int .i64 0,.string ByteArray.empty,.string ByteArray.empty,.int .i64 0,.slice none 0 0,.slice none 0 0,.slice none 0 0,.slice none 0 0,.int .i64 0]) 9 152 Tryz.underlying38 H K L M rfl (by decide) _ _ _ e1 F ⟨z0,0,none⟩ 1 1 zerosT N rfl (fun j v hv=>by rw[Z0d,Nat.zero_add]; exact z3 j v hv) (by decide) (by decide) (by unfold maxLen; omega) (by omega) (by omega) _ rfl ?_;intro g cp W' C P z B;rw[i.put 6 (oT6 pos b) rfl u _];exact hK.out _ _ (a.s6 c (fun k hk=>hw k (by
   rcases k with _ | _ | _ | _ | _ | _ | k
   {kernel_rfl}
   {kernel_rfl}
   {kernel_rfl}
   {kernel_rfl}
   {kernel_rfl}
   {kernel_rfl}
   · omega)) l C (by rw[ZcQ] at P; exact P) (by rw[ZcQ] at z; exact z))}
 refine StepsInv.cons (oT7 pos b) rfl (fun d u W K' a c hw hK=> ?_) ?_
 {have q:=hw 6 (by kernel_rfl);obtain ⟨x,g,cp,p⟩:=a.post q;have e6:=i.e6 u;rw[p.u6] at e6;have e4:=i.e4 u;rw[a.vals 4 (hw 4 (by kernel_rfl)) _ rfl] at e4;refine Z00 (v:= .pointer (some ⟨g,X.xs.length * 9,none⟩)) (W':=W) rfl ?_ (by rw[i.put 7 (oT7 pos b) rfl u _]; exact hK.out _ _ (a.s7 q (fun x' g' cp' p'=>by
   have:=p.u6.symm.trans p'.u6;simp only[Value.slice.injEq,Option.some.injEq,Addr.mk.injEq,and_true] at this;rw[this.1])))
  simp only[execOp,oT7,e6,e4,Sem.run_bind,Result.andThen_ok,Sem.run_pure];go_simp;intro h; omega}
 refine StepsInv.cons (oT8 pos b) rfl (fun d u W K' a c hw hK=> ?_) ?_
 {have q:=a.e7 (hw 7 (by kernel_rfl));obtain ⟨x,g,cp,p⟩:=a.post q;have e7:=i.e7 u;rw[p.u7 (hw 7 (by kernel_rfl))] at e7;have e3:=i.e3 u;rw[p.u3] at e3;have m:=p.row;rw[c] at m;simp only[Bool.false_eq_true,if_false] at m;have o:=CtxT.put_zero x (by rw[ZbH Zfm]) m;have b0:=(m.lt g rfl).2;have hs:=a.s8 c q l p undef;refine Z2E (W':=CtxT.putT W g (X.xs.length * 9) x) rfl ?_ (by rw[i.put 8 (oT8 pos b) rfl u _]; exact hK.out _ _ hs);simp only[execOp,oT8,e7,e3,Sem.run_bind,Result.andThen_ok,Sem.run_pure,valT];obtain ⟨y0,c0,V⟩:=o 0 (by decide);obtain ⟨y1,c1,f1⟩:=o 1 (by decide);obtain ⟨y2,c2,f2⟩:=o 2 (by decide);obtain ⟨y3,c3,f3⟩:=o 3 (by decide);obtain ⟨y4,c4,f4⟩:=o 4 (by decide);obtain ⟨y5,c5,f5⟩:=o 5 (by decide);obtain ⟨y6,c6,f6⟩:=o 6 (by decide);obtain ⟨y7,c7,f7⟩:=o 7 (by decide);obtain ⟨y8,c8,f8⟩:=o 8 (by decide);simp only[Nat.add_zero] at c0 V;go_simp;rfl}
 refine StepsInv.cons (oT9 pos b s w r) rfl (fun d u W K' a c hw hK=> ?_) ?_
 {refine Z00 (v:= .pointer (some ⟨X.ob,X.fo,none⟩)) (W':=W) rfl ?_ (by rw[i.put 9 (oT9 pos b s w r) rfl u _]; exact hK.out _ _ (a.pure (by decide) (fun v' h=>by cases h; rfl)));simp only[execOp,oT9,O u,hfa,Sem.run_bind,Result.andThen_ok,Sem.run_pure]}
 refine StepsInv.cons (oT10 pos b) rfl (fun d u W K' a c hw hK=> ?_) StepsInv.nil
 {have q:=hw 6 (by kernel_rfl);obtain ⟨x,g,cp,p⟩:=a.post q;have e6:=i.e6 u;rw[p.u6] at e6;have e9:=i.e9 u;rw[a.vals 9 (hw 9 (by kernel_rfl)) _ rfl] at e9;have E:=p.cell;rw[c] at E;simp only[Bool.false_eq_true,if_false] at E;have a9:=(p.fz X.fo).trans l.fz;have b2:=Nat.lt_of_lt_of_le l.oblt p.up.size;refine Z2E (W':=W.setCell ⟨X.ob,X.fo,none⟩ (.slice (some ⟨g,0,none⟩) (X.xs.length+1) cp)) rfl ?_ (by rw[i.put 10 (oT10 pos b) rfl u _]; exact hK.out _ _ (a.s10 c q l p undef));simp only[execOp,oT10,e9,e6,Sem.run_bind,Result.andThen_ok,Sem.run_pure];go_simp}
 {intro d u W a c;obtain ⟨x,g,cp,p⟩:=a.post (c 6 (by show 6 < 11; omega));refine hQ u W x g cp ⟨p.u3,p.u6,fun _=>p.u7 (c 7 (by show 7 < 11; omega)),p.par,p.is,p.r,p.lo,p.far,p.new,p.up, ?_, ?_,p.rest,p.fz⟩
  {have:=p.row; rw[c 8 (by show 8 < 11; omega)] at this; exact this}
  {have:=p.cell; rw[c 10 (by show 10 < 11; omega)] at this; exact this}}
end
end Go.Proofs.YtgndehppmaacaaaGreatDoor
namespace Go.Proofs.YtgndehppmaacaaaGreatDoor
open Go.RowKit Tms
open Shp (Sh)
open Pso (St)
structure PtxS where
 w:World
 bp:Nat
 A:Option Addr
 c:Nat
 l:List Tk
 τ:St
 ob:Nat
 fo:Nat
 B:Nat
 AR:Option Addr
 cap:Nat
 xs:List ES
 R:ES->Prop
namespace PtxS
variable (X : PtxS)
def val (j:Nat):Option Value:=match j with
 | 0=>some (.pointer (some ⟨X.ob,X.fo,none⟩))
 | 1=>some (.slice X.AR X.xs.length X.cap)
 | 2=>some (.pointer (some ⟨X.bp,0,none⟩))
 | 6=>some (.pointer (some ⟨X.ob,X.fo,none⟩))
 | _=>none
structure Good:Prop where
 cell:X.w.cell? ⟨X.ob,X.fo,none⟩=some (.slice X.AR X.xs.length X.cap)
 fz:X.w.frozen? ⟨X.ob,X.fo,none⟩=false
 oblt:X.ob < X.w.heap.size
 bpob:X.bp < X.ob
 row:Row X.w X.B 28 5 cS X.AR X.cap X.xs
 obB:X.ob < X.B
 bpB:X.bp < X.B
 Bw:X.B<=X.w.heap.size
 len:X.xs.length<=900000
structure Mid (d:Nat->Bool) (u:Nat->Value) (W:World) (x:ES):Prop where
 u3:u 3=valS x
 par:PAt W X.bp X.A X.c X.l X.τ
 up:UpT [X.bp] X.w W
 is:x.Is W
 r:X.R x
 lo:X.w.heap.size<=x.lo
 a4:d 4=true-> ∃z0,u 4= .slice (some ⟨z0,0,none⟩) 1 1/\X.w.heap.size<=z0/\z0 < W.heap.size/\ ∀(j:Nat) v,(cS x)[j]? =some v->W.cell? ⟨z0,j,none⟩=some v
structure Post (d:Nat->Bool) (u:Nat->Value) (W:World) (x:ES) (g cp:Nat):Prop where
 u5:u 5= .slice (some ⟨g,0,none⟩) (X.xs.length+1) cp
 par:PAt W X.bp X.A X.c X.l X.τ
 is:x.Is W
 r:X.R x
 lo:X.w.heap.size<=x.lo
 far:g < x.lo\/x.hi<=g
 new:rowT X.AR=some g\/X.w.heap.size<=g
 up:UpT (X.bp::X.ob::(rowT X.AR).toList) X.w W
 row:W.ownsRow X.B 28 5 (.slice (some ⟨g,0,none⟩) (X.xs.length+1) cp) (X.xs.length+1) (X.xs.flatMap cS++cS x)
 cell:W.cell? ⟨X.ob,X.fo,none⟩=some (if d 7=true then .slice (some ⟨g,0,none⟩) (X.xs.length+1) cp else .slice X.AR X.xs.length X.cap)
 rest: ∀j,j≠X.fo->W.cell? ⟨X.ob,j,none⟩=X.w.cell? ⟨X.ob,j,none⟩
 fz: ∀j,W.frozen? ⟨X.ob,j,none⟩=X.w.frozen? ⟨X.ob,j,none⟩
structure Inv (d:Nat->Bool) (u:Nat->Value) (W:World):Prop where
 vals: ∀j,d j=true-> ∀v,X.val j=some v->u j=v
 e3:d 3=true->d 2=true
 e4:d 4=true->d 3=true
 e5:d 5=true->d 4=true/\d 1=true
 e7:d 7=true->d 5=true
 pre:d 3=false->Below X.w.heap.size X.w W
 mid:d 3=true->d 5=false-> ∃x,X.Mid d u W x
 post:d 5=true-> ∃x g cp,X.Post d u W x g cp
variable {X : PtxS} {d : Nat -> Bool} {u : Nat -> Value} {W W' : World}
theorem Good.start (h:X.Good):X.Inv (fun _=>false) u X.w.drew:=⟨nofun,nofun,nofun,nofun,nofun,fun _=>Y2.drew,nofun,nofun⟩
theorem ne9 (d:Nat->Bool) {i j:Nat} (h:j≠i):also d i j=d j:=by
 unfold also;have:Nat.beq j i=false:=by cases a:Nat.beq j i <;> first | rfl | exact absurd (Nat.eq_of_beq_eq_true a) h
 rw[this]; rfl
theorem self9 (d:Nat->Bool) (i:Nat):also d i i=true:=by unfold also; rw[Nat.beq_refl]; rfl
section
variable (h : X.Inv d u W)
include h
theorem Inv.vals' {i:Nat} {v:Value} (b: ∀v',X.val i=some v'->v=v'): ∀j,also d i j=true-> ∀v',X.val j=some v'->upd u i v j=v':=fun j hj v' hv'=>by
 by_cases a:j=i
 {subst a; rw[Z06]; exact b v' hv'}
 {rw[ne9 d a] at hj; rw[Z02 u v a]; exact h.vals j hj v' hv'}
theorem Inv.pure {i:Nat} (f:i=0\/i=1\/i=2\/i=6) {v:Value} (c: ∀v',X.val i=some v'->v=v'):X.Inv (also d i) (upd u i v) W:=by
 have k: ∀j,j=3\/j=4\/j=5\/j=7->also d i j=d j/\upd u i v j=u j:=fun j hj=>⟨ne9 d (by omega),Z02 u v (by omega)⟩;refine ⟨h.vals' c, ?_, ?_, ?_, ?_, ?_, ?_, ?_⟩
 {rw[(k 3 (by omega)).1];intro b;by_cases e: (2:Nat)=i
  {rw[e]; exact self9 d i}
  {rw[ne9 d e]; exact h.e3 b}}
 {rw[(k 4 (by omega)).1,(k 3 (by omega)).1]; exact h.e4}
 {rw[(k 5 (by omega)).1,(k 4 (by omega)).1];intro a;refine ⟨(h.e5 a).1, ?_⟩;by_cases e: (1:Nat)=i
  {rw[e]; exact self9 d i}
  {rw[ne9 d e]; exact (h.e5 a).2}}
 {rw[(k 7 (by omega)).1,(k 5 (by omega)).1]; exact h.e7}
 {rw[(k 3 (by omega)).1]; exact h.pre}
 {rw[(k 3 (by omega)).1,(k 5 (by omega)).1];intro b a;obtain ⟨x,p⟩:=h.mid b a;refine ⟨x, ?_,p.par,p.up,p.is,p.r,p.lo, ?_⟩
  {rw[(k 3 (by omega)).2]; exact p.u3}
  {rw[(k 4 (by omega)).1,(k 4 (by omega)).2]; exact p.a4}}
 {rw[(k 5 (by omega)).1];intro a;obtain ⟨x,g,cp,p⟩:=h.post a;refine ⟨x,g,cp, ?_,p.par,p.is,p.r,p.lo,p.far,p.new,p.up,p.row, ?_,p.rest,p.fz⟩
  {rw[(k 5 (by omega)).2]; exact p.u5}
  {rw[(k 7 (by omega)).1]; exact p.cell}}
theorem Inv.not5 {i:Nat} (f:i=1\/i=3\/i=4\/i=5) (b:d i=false):d 5=false:=by
 cases c:d 5 with
 | false=>rfl
 | true=>
  have a:=h.e5 c;have e:=h.e4 a.1;rcases f with rfl | rfl | rfl | rfl
  {rw[b] at a; cases a.2}
  {rw[b] at e; cases e}
  {rw[b] at a; cases a.1}
  {rw[b] at c; cases c}
theorem Inv.first (b:d 5=false):UpT [X.bp] X.w W:=by
 cases a:d 3 with
 | false=>exact ZcF (h.pre a)
 | true=>obtain ⟨x,p⟩:=h.mid a b; exact p.up
theorem Inv.s3 (a:d 3=false) (g:d 2=true) {x:ES} (m:PAt W' X.bp X.A X.c X.l X.τ) (o:UpT [X.bp] W W') (p:x.Is W') (b:W.heap.size<=x.lo) (n:X.R x):X.Inv (also d 3) (upd u 3 (valS x)) W':=by
 have l:=h.not5 (by omega) a;have i:d 4=false:=by cases e:d 4 with | false=>rfl | true=>have:=h.e4 e; rw[a] at this; cases this
 have k: ∀j,j≠3->also d 3 j=d j/\upd u 3 (valS x) j=u j:=fun j hj=>⟨ne9 d hj,Z02 u _ hj⟩;have f:=h.pre a;refine ⟨h.vals' (by intro q c; cases c),fun _=>by rw[(k 2 (by omega)).1]; exact g,fun _=>self9 _ _, ?_, ?_, ?_,fun _ _=>⟨x,Z06 _ _ _,m,(ZcF f).trans o,p,n,Nat.le_trans f.size b, ?_⟩, ?_⟩
 {rw[(k 5 (by omega)).1,(k 4 (by omega)).1,(k 1 (by omega)).1]; exact h.e5}
 {rw[(k 7 (by omega)).1,(k 5 (by omega)).1]; exact h.e7}
 {rw[self9]; intro e; cases e}
 {rw[(k 4 (by omega)).1,i]; intro e; cases e}
 {rw[(k 5 (by omega)).1,l]; intro e; cases e}
theorem Inv.s4 (g:d 4=false) (c:d 3=true) {x:ES} (p:X.Mid d u W x) (t:TypeId):X.Inv (also d 4) (upd u 4 (.slice (some ⟨W.heap.size,0,none⟩) 1 1)) (W.alloc (.cells (Y8 x.t x.q) t)):=by
 have f:=h.not5 (by omega) g;have k: ∀j,j≠4->also d 4 j=d j/\upd u 4 (.slice (some ⟨W.heap.size,0,none⟩) 1 1) j=u j:=fun j hj=>⟨ne9 d hj,Z02 u _ hj⟩;have a:=Z01 W (.cells (Y8 x.t x.q) t);refine ⟨h.vals' (by intro i b; cases b),(by rw[(k 3 (by omega)).1,(k 2 (by omega)).1]; exact h.e3), ?_, ?_, ?_, ?_,fun _ _=>⟨x, ?_,p.par.below a,p.up.below a,New.below p.is a,p.r,p.lo,fun _=>⟨W.heap.size,Z06 _ _ _,p.up.size,by simp,fun j v hv=> ?_⟩⟩, ?_⟩
 {rw[(k 3 (by omega)).1]; exact fun _=>c}
 {rw[(k 5 (by omega)).1,f]; intro e; cases e}
 {rw[(k 7 (by omega)).1,(k 5 (by omega)).1]; exact h.e7}
 {rw[(k 3 (by omega)).1,c]; intro e; cases e}
 {rw[(k 3 (by omega)).2]; exact p.u3}
 {rw[World.cell?_alloc_at _ _ _ _ rfl];simpa[cS] using hv}
 {rw[(k 5 (by omega)).1,f]; intro e; cases e}
theorem Inv.s5 (w:d 5=false) (a:d 1=true) (r:d 4=true) {x:ES} (p:X.Mid d u W x) {g cp:Nat} (c:X.Good) (l:W'.ownsRow X.B 28 5 (.slice (some ⟨g,0,none⟩) (X.xs.length+1) cp) (X.xs.length+1) (X.xs.flatMap cS++cS x))
 (f:W.grownBy W' (rowT X.AR)) (i:rowT X.AR=some g\/g=W.heap.size):X.Inv (also d 5) (upd u 5 (.slice (some ⟨g,0,none⟩) (X.xs.length+1) cp)) W':=by
 have k: ∀j,j≠5->also d 5 j=d j/\upd u 5 (.slice (some ⟨g,0,none⟩) (X.xs.length+1) cp) j=u j:=fun j hj=>⟨ne9 d hj,Z02 u _ hj⟩;have s:d 7=false:=by cases e:d 7 with | false=>rfl | true=>have:=h.e7 e; rw[w] at this; cases this
 have n:=p.up.size;have b: ∀k,rowT X.AR=some k->X.B<=k/\k < X.w.heap.size:=fun k hk=>c.row.lt k hk;have t:=c.Bw;have v:=c.bpob;have q:UpT (rowT X.AR).toList W W':=⟨f.os,f.tape,f.output,f.size,fun x a h2=>f.block x a (fun e=>h2 (by rw[<-e]; simp))⟩;have m:SameT X.w W' X.ob:=(p.up.same c.oblt (by simp; omega)).trans (q.same (Nat.lt_of_lt_of_le c.oblt n) (by
  intro z;have a:rowT X.AR=some X.ob:=by simpa using z
  have:=b _ a; have:=c.obB; omega))
 refine ⟨h.vals' (by intro A o; cases o),(by rw[(k 3 (by omega)).1,(k 2 (by omega)).1]; exact h.e3), ?_, ?_,fun _=>self9 _ _, ?_, ?_,fun _=>⟨x,g,cp,Z06 _ _ _,p.par.keep q (fun k hk=> ?_),New.grown p.is f (fun k hk=>Or.inl ?_),p.r,p.lo, ?_, ?_, ?_,l, ?_,fun j hj=>m.1 j,fun j=>m.2 j⟩⟩
 {rw[(k 4 (by omega)).1,(k 3 (by omega)).1]; exact h.e4}
 {rw[(k 4 (by omega)).1,(k 1 (by omega)).1]; exact fun _=>⟨r,a⟩}
 {rw[(k 3 (by omega)).1]; intro e; rw[h.e4 r] at e; cases e}
 {rw[self9]; intro _ e; cases e}
 {have a:rowT X.AR=some k:=by simpa using hk
  have:=b _ a; have:=c.bpB; omega}
 {have:=b _ hk; have:=p.lo; omega}
 {rcases i with a | a
  {left; have:=b _ a; have:=p.lo; omega}
  {right; have:=p.is.hi_; omega}}
 {rcases i with a | a
  {exact Or.inl a}
  {exact Or.inr (by omega)}}
 {exact (p.up.mono (fun y hy _=>by simp at hy; simp[hy])).trans (q.mono (fun y hy _=>by simp at hy; simp[hy]))}
 {rw[(k 7 (by omega)).1,s]; exact (m.1 _).trans c.cell}
theorem Inv.s7 (r:d 7=false) (b:d 5=true) (a:X.Good) {x:ES} {g cp:Nat} (p:X.Post d u W x g cp) (v:Value):X.Inv (also d 7) (upd u 7 v) (W.setCell ⟨X.ob,X.fo,none⟩ (.slice (some ⟨g,0,none⟩) (X.xs.length+1) cp)):=by
 have k: ∀j,j≠7->also d 7 j=d j/\upd u 7 v j=u j:=fun j hj=>⟨ne9 d hj,Z02 u _ hj⟩;have n:X.B<=g/\g < W.heap.size:=p.row.lt g rfl;have m:=a.bpB;have q:=a.obB;have o:=p.lo;have l:=a.Bw;have i:=a.bpob;have f:UpT [X.ob] W (W.setCell ⟨X.ob,X.fo,none⟩ (.slice (some ⟨g,0,none⟩) (X.xs.length+1) cp)):=(UpT.refl _ _).set _ (Or.inr (by simp)) _;refine ⟨h.vals' (by intro s c; cases c),(by rw[(k 3 (by omega)).1,(k 2 (by omega)).1]; exact h.e3), ?_, ?_, ?_, ?_, ?_,fun _=>⟨x,g,cp, ?_,p.par.keep f (by simp; omega),New.up p.is f (by simp; omega),p.r,p.lo,p.far,p.new, ?_, ?_, ?_,fun j hj=> ?_,fun j=> ?_⟩⟩
 {rw[(k 4 (by omega)).1,(k 3 (by omega)).1]; exact h.e4}
 {rw[(k 5 (by omega)).1,(k 4 (by omega)).1,(k 1 (by omega)).1]; exact h.e5}
 {rw[(k 5 (by omega)).1]; exact fun _=>b}
 {rw[(k 3 (by omega)).1]; intro e; rw[h.e4 (h.e5 b).1] at e; cases e}
 {rw[(k 5 (by omega)).1,b]; intro _ e; cases e}
 {rw[(k 5 (by omega)).2]; exact p.u5}
 {exact p.up.trans (f.mono (fun y hy _=>by simp at hy; simp[hy]))}
 {exact Zdt p.row (by intro e; have:=Option.some.inj e; simp at this; omega) _}
 {rw[self9,if_pos rfl]; exact World.cell?_setCell_same _ _ _ p.cell}
 {rw[World.cell?_setCell_other _ _ _ _ (fun e=>hj (by have:=congrArg Addr.off e; simpa using this.symm))]; exact p.rest j hj}
 {rw[World.frozen?_setCell]; exact p.fz j}
end
end PtxS
end Go.Proofs.YtgndehppmaacaaaGreatDoor
