/- What the proofs of ParseTypes want, part 11. -/
import Derived.Test.YtgndehppmaacaaaGreatDoorK0n10
set_option linter.unusedVariables false
set_option linter.unusedSimpArgs false
set_option linter.unusedSectionVars false
set_option maxRecDepth 100000
set_option maxHeartbeats 16000000
namespace Lex
theorem Zo9 (l:List UInt8): (Sem.cut 10 l).1=l.takeWhile (· !=10):=by
 induction l with
 | nil=>rfl
 | cons c r ih=>
  rw[Sem.cut];by_cases h:c=10
  {subst h; rfl}
  {have a: (c !=10)=true:=by simpa using h
   rw[if_neg h,List.takeWhile_cons,if_pos a, <-ih]}
def piece (l:List UInt8):Except (Int×Nat) (List Tok×Nat):=if hasRemark l then (match remark l.length l with
 | .error k=> .error (30,k)
 | .ok n=> .ok ([],n)) else match token l with
 | .error x=> .error x
 | .ok (t,n)=> .ok ([t],n)
def joinR (pre:List (Tok×Nat)):Except (Int×Nat) (List (Tok×Nat))->Except (Int×Nat) (List (Tok×Nat))
 | .error x=> .error x
 | .ok m=> .ok (pre++m)
theorem ZgQ (a b:List (Tok×Nat)) (r:Except (Int×Nat) (List (Tok×Nat))):joinR a (joinR b r)=joinR (a++b) r:=by cases r <;> simp[joinR]
theorem Zgi (r:Except (Int×Nat) (List (Tok×Nat))):joinR [] r=r:=by cases r <;> simp[joinR]
theorem ZfM {l:List UInt8} (g:l≠ []) (f: ∀c∈l.head?,blank c=false) (i:Nat):match piece l with
 | .error (x,k)=>toks l i= .error (x,i+k)
 | .ok (ts,n)=>toks l i=joinR (ts.map fun t=>(t,i)) (toks (l.drop n) (i+n))/\1<=n/\n<=l.length/\ts.length<=1:=by
 unfold piece;cases e:hasRemark l with
 | true=>
  rw[Z0B f e];obtain ⟨k,h⟩: ∃k,l.length=k+1:=⟨l.length - 1,by have:=List.length_pos_iff.2 g; omega⟩;cases d:remark l.length l with
  | error k=>simp
  | ok n=>
   have a:=Z2f _ _ _ d;rw[h] at d;have b:=Z11 e d;simp only[if_true,List.map_nil,Zgi];exact ⟨trivial,b,a,Nat.zero_le _⟩
 | false=>
  rw[Z0W g f e];cases j:token l with
  | error x=>obtain ⟨x,k⟩:=x; simp
  | ok x=>
   obtain ⟨t,n⟩:=x;obtain ⟨a,b,_⟩:=Z10 j;simp only[Bool.false_eq_true,if_false,List.map_cons,List.map_nil];refine ⟨?_,a,b,by simp⟩;cases toks (l.drop n) (i+n) <;> rfl
end Lex
namespace Go.Proofs.YtgndehppmaacaaaGreatDoor
open Go.RowKit
theorem UpdT.of {g:Nat} {v:Value} {w w':World} (h:Below w.heap.size w w') (a:g<=w.heap.size):UpdT g v w w':=
 ⟨h.mono a,fun b o hb _ _=>⟨h.cell (p:=⟨b,o,none⟩) hb,h.frozen (p:=⟨b,o,none⟩) hb⟩⟩
theorem UpdT.trans {g:Nat} {v:Value} {a b c:World} (h:UpdT g v a b) (k:UpdT g v b c):UpdT g v a c:=
 ⟨h.1.trans k.1,fun x o hx h1 h2=>⟨(k.2 x o (Nat.lt_of_lt_of_le hx h.1.size) h1 h2).1.trans (h.2 x o hx h1 h2).1,(k.2 x o (Nat.lt_of_lt_of_le hx h.1.size) h1 h2).2.trans (h.2 x o hx h1 h2).2⟩⟩
theorem ScanT.keep {w w':World} {g B i:Nat} {s:List UInt8} {v:Value} {l:List Tk} (h:ScanT w g B s i v l) (a:Below w.heap.size w w'):ScanT w' g B s i v l:=
 ⟨h.at_.keep h.at_.lt a,(a.cell (p:=⟨g,2,none⟩) h.at_.lt).trans h.c2,h.own.kept (Z36 a (Nat.le_refl _) none) (by
  rcases b:v.ownBlock with _ | x
  {exact Or.inl rfl}
  · exact Or.inr (by simp)),Nat.le_trans h.le a.size⟩
def UpdB (g B:Nat) (w w':World):Prop:=Below g w w'/\ ∀b o,b < B->b≠g->w'.cell? ⟨b,o,none⟩=w.cell? ⟨b,o,none⟩/\w'.frozen? ⟨b,o,none⟩=w.frozen? ⟨b,o,none⟩
theorem UpdT.toB {w w':World} {g B i:Nat} {s:List UInt8} {v:Value} {l:List Tk} (h:ScanT w g B s i v l) (u:UpdT g v w w'):UpdB g B w w':=
 ⟨u.1,fun b o hb hne=>u.2 b o (Nat.lt_of_lt_of_le hb h.le) hne (fun e=>by have:=(h.own.lt b e.symm).1; omega)⟩
def StepE (g B:Nat) (s:List UInt8) (i:Nat) (v:Value) (l:List Tk) (r:Except (Int×Nat) (List Lex.Tok×Nat)) (w:World) (e:Ending) (w':World):Prop:=
 UpdT g v w w'/\match r with
 | .error (x,k)=>e= .returned (.agg #[.int .i64 x,.int .i64 ((i+k:Nat):Int)])
 | .ok (ts,n)=>e= .returned (.agg #[.int .i64 0,.int .i64 0])/\ ∃v',ScanT w' g B s (i+n) v' (l++ts.map fun t=>⟨t,(i:Int)⟩)/\ ∀x,v'.ownBlock=some x->v.ownBlock=some x\/w.heap.size<=x
theorem ScanAt.draw {w:World} {g i:Nat} {s:List UInt8} (h:ScanAt w g s i) (n:Nat):ScanAt (w.drewN n) g s i:=h.keep h.lt (ZcN w n)
theorem Zjg {s:List UInt8} {i:Nat} (a:i < s.length):Lex.longest (s.drop i)=if Lex.letter (s[i]'a) then (s.drop i).takeWhile Lex.nameB else if Lex.digit (s[i]'a) then (s.drop i).takeWhile Lex.lumpB else if Lex.isSign ((s.drop i).take 2) then (s.drop i).take 2 else (s.drop i).take 1:=by
 have h:=List.drop_eq_getElem_cons a;have b: (s.drop i).take 1= [s[i]'a]:=by rw[h]; rfl
 rw[b]
 conv=>lhs; rw[h,Lex.Z6m, <-h]
 rfl
theorem Zjh (g:Nat) (s:List UInt8) (i:Nat) (f:i < s.length) (k:s.length<=1000000) (w:World) (h:ScanAt w g s i):
 Y9 162 #[.pointer (some ⟨g,0,none⟩)] w (.string ⟨(Lex.longest (s.drop i)).toArray⟩):=by
 have d:=Y1 (Zjg f);have l:=Y1 (Zfc g s i f);obtain ⟨c,n⟩: ∃c,c=s[i]'f:=⟨_,rfl⟩;rw[<-n] at d l;clear n;have b:=Y1 h;clear h;cases h1:Lex.letter c
 {cases h2:Lex.digit c
  {cases m:Lex.isSign ((s.drop i).take 2)
   {have j:Hid (Lex.longest (s.drop i)=(s.drop i).take 1):=Y1 (by rw[d.out,h1,h2,m]; rfl);clear d;go_enter Tryz.func162,Tryz.ntmps162
    go_wp2_with fail
    refine (l.out _ b.out).mono ?_;rintro e a ⟨rfl,n1,rfl⟩
    go_wp2_with fail
    refine (Z1O c _).mono ?_;rintro e a ⟨rfl,rfl⟩;rw[h1]
    go_wp2_with fail
    refine (Z2O c _).mono ?_;rintro e a ⟨rfl,rfl⟩;rw[h2]
    go_wp2_with fail
    refine (ZdM g s i 2 (Nat.le_of_lt f) k (by decide) _ (b.out.draw _)).mono ?_;rintro e a ⟨rfl,n2,rfl⟩
    go_wp2_with fail
    refine (ZdJ _ _).mono ?_;rintro e a ⟨rfl,rfl⟩;rw[m]
    go_wp2_with fail
    refine (ZdM g s i 1 (Nat.le_of_lt f) k (by decide) _ (b.out.draw _)).mono ?_;rintro e a ⟨rfl,n3,rfl⟩;go_wp2;go_ret;exact ⟨by rw[j.out]; rfl,ZcN _ _⟩}
   {have j:Hid (Lex.longest (s.drop i)=(s.drop i).take 2):=Y1 (by rw[d.out,h1,h2,m]; rfl);clear d;go_enter Tryz.func162,Tryz.ntmps162
    go_wp2_with fail
    refine (l.out _ b.out).mono ?_;rintro e a ⟨rfl,n1,rfl⟩
    go_wp2_with fail
    refine (Z1O c _).mono ?_;rintro e a ⟨rfl,rfl⟩;rw[h1]
    go_wp2_with fail
    refine (Z2O c _).mono ?_;rintro e a ⟨rfl,rfl⟩;rw[h2]
    go_wp2_with fail
    refine (ZdM g s i 2 (Nat.le_of_lt f) k (by decide) _ (b.out.draw _)).mono ?_;rintro e a ⟨rfl,n2,rfl⟩
    go_wp2_with fail
    refine (ZdJ _ _).mono ?_;rintro e a ⟨rfl,rfl⟩;rw[m]
    go_wp2_with fail
    refine (ZdM g s i 2 (Nat.le_of_lt f) k (by decide) _ (b.out.draw _)).mono ?_;rintro e a ⟨rfl,n3,rfl⟩;go_wp2;go_ret;exact ⟨by rw[j.out]; rfl,ZcN _ _⟩}}
  {have j:Hid (Lex.longest (s.drop i)=(s.drop i).takeWhile Lex.lumpB):=Y1 (by rw[d.out,h1,h2]; rfl);clear d;go_enter Tryz.func162,Tryz.ntmps162
   go_wp2_with fail
   refine (l.out _ b.out).mono ?_;rintro e a ⟨rfl,n1,rfl⟩
   go_wp2_with fail
   refine (Z1O c _).mono ?_;rintro e a ⟨rfl,rfl⟩;rw[h1]
   go_wp2_with fail
   refine (Z2O c _).mono ?_;rintro e a ⟨rfl,rfl⟩;rw[h2]
   go_wp2_with fail
   refine (ZlB g s i (Nat.le_of_lt f) k _ (b.out.draw _)).mono ?_;rintro e a ⟨rfl,n2,rfl⟩;go_wp2;go_ret;exact ⟨by rw[j.out]; rfl,ZcN _ _⟩}}
 {have j:Hid (Lex.longest (s.drop i)=(s.drop i).takeWhile Lex.nameB):=Y1 (by rw[d.out,h1]; rfl);clear d;go_enter Tryz.func162,Tryz.ntmps162
  go_wp2_with fail
  refine (l.out _ b.out).mono ?_;rintro e a ⟨rfl,n1,rfl⟩
  go_wp2_with fail
  refine (Z1O c _).mono ?_;rintro e a ⟨rfl,rfl⟩;rw[h1]
  go_wp2_with fail
  refine (ZlA g s i (Nat.le_of_lt f) k _ (b.out.draw _)).mono ?_;rintro e a ⟨rfl,n2,rfl⟩;go_wp2;go_ret;exact ⟨by rw[j.out]; rfl,ZcN _ _⟩}
theorem ZdF {g:Nat} {v:Value} {w w':World} (h:UpdT g v w w') (c:Nat) (i:w.heap.size<=c) (d:g<=c) (a b:Value):UpdT g v w ((w'.setCell ⟨c,0,none⟩ a).setCell ⟨c,1,none⟩ b):=
 ⟨(h.1.setCell (p:=⟨c,0,none⟩) d _).setCell (p:=⟨c,1,none⟩) d _,fun x o hx h1 h2=>by
  have f: ∀k,(⟨c,k,none⟩:Addr)≠⟨x,o,none⟩:=fun k e=>by have:=congrArg Addr.block e; simp at this; omega
  refine ⟨?_, ?_⟩
  {rw[World.cell?_setCell_other _ _ _ _ (f 1),World.cell?_setCell_other _ _ _ _ (f 0)]; exact (h.2 x o hx h1 h2).1}
  · have:=(h.2 x o hx h1 h2).2
    simpa[go_sem] using this⟩
theorem ScanT.box {w:World} {g B i:Nat} {s:List UInt8} {v:Value} {l:List Tk} (h:ScanT w g B s i v l) (b:Nat) (n:g≠b) (p:v.ownBlock≠some b) (a:Value) (j:Nat):ScanT (w.setCell ⟨b,j,none⟩ a) g B s i v l:=by
 have d: ∀o,(⟨b,j,none⟩:Addr)≠⟨g,o,none⟩:=fun o e=>n (congrArg Addr.block e).symm;obtain ⟨⟨c,f,c1,k,m⟩,c2,own,q⟩:=h;refine ⟨⟨by simpa using c, ?_, ?_,by simpa[go_sem] using k,by simpa[go_sem] using m⟩, ?_, ?_,by simpa using q⟩
 {rw[World.cell?_setCell_other _ _ _ _ (d 0)]; exact f}
 {rw[World.cell?_setCell_other _ _ _ _ (d 1)]; exact c1}
 {rw[World.cell?_setCell_other _ _ _ _ (d 2)]; exact c2}
 {exact ownsRow_setCell_other own p _}
theorem Box2.updT {W W':World} {g c:Nat} {v:Value} {a b:Int} (h:Box2 W c a b) (e:UpdT g v W W') (m:c≠g) (n:some c≠v.ownBlock):Box2 W' c a b:=by
 obtain ⟨d,f,i,j,l⟩:=h;have k:=fun o=>e.2 c o d m n;exact ⟨Nat.lt_of_lt_of_le d e.1.size,(k 0).1.trans f,(k 1).1.trans i,(k 0).2.trans j,(k 1).2.trans l⟩
theorem ZlC {s:List UInt8} {i:Nat} (b:i < s.length) (a:s[i]'b≠34):Lex.token (s.drop i)=match Lex.kindR (Lex.longest (s.drop i)) with
 | some k=> .ok (⟨k,Lex.longest (s.drop i)⟩,(Lex.longest (s.drop i)).length)
 | none=> .error (60,0):=by
 rw[List.drop_eq_getElem_cons b];exact Lex.Zmi a
theorem Zkc (l:List UInt8): (Lex.longest l).length<=l.length:=by
 cases l with
 | nil=>exact Nat.le_refl _
 | cons c r=>
  rw[Lex.Z6m];split
  {exact (Lex.Z3S _ _).1}
  split
  {exact (Lex.Z3S _ _).1}
  split
  {rw[List.length_take]; omega}
  {simp}
theorem ZlD (g B:Nat) (Y:g < B) (s:List UInt8) (i:Nat) (Z:i < s.length) (hs:s.length<=4096) (J:s[i]'Z≠34) (hr:Lex.hasRemark (s.drop i)=false) (v:Value) (l:List Tk) (hl:l.length<=i) (w:World) (h:ScanT w g B s i v l) (hg:Globs w):
 Calls Tryz.prog 134 #[.pointer (some ⟨g,0,none⟩)] w (StepE g B s i v l (Lex.piece (s.drop i)) w):=by
 have H:=Y1 (ZlC Z J);have M:Hid (Lex.piece (s.drop i)=match Lex.token (s.drop i) with | .error x=> .error x | .ok (t,n)=> .ok ([t],n)):=Y1 (by unfold Lex.piece; rw[hr]; rfl);have a0: (Lex.longest (s.drop i)).length<=s.length - i:=by have:=Zkc (s.drop i); rw[List.length_drop] at this; exact this
 obtain ⟨t,ht⟩: ∃t,t=Lex.longest (s.drop i):=⟨_,rfl⟩;have q:=Y1 (Zjh g s i Z (by omega));rw[<-ht] at H a0 q;have hb0:=Z01 w (.cells Yc 31);have O:=Y1 (ZcG w 0 0);have N:=Y1 (h.keep hb0);have Q:=Y1 (hg.next hb0);have o:=Y1 hb0;have a3:=h.at_.lt;have a7:=h.le;have y:w.heap.size≠g:=by omega
 have L:some w.heap.size≠v.ownBlock:=fun e=>by have:=(h.own.lt _ e.symm).2; omega
 have F:=Y1 L;have hz: (⟨t.toArray⟩:ByteArray).size=t.length:=Z0J _;clear hb0 J h L hg hr;go_enter Tryz.func134,Tryz.ntmps134
 go_wp2_with fail
 generalize hW:w.alloc (.cells Yc 31)=W0 at O o N Q ⊢;clear hW
 go_wp2_with fail
 refine (q.out _ N.out.at_).mono ?_;rintro e w2 ⟨rfl,c⟩;have G:=Y1 (N.out.keep c);have u:=Y1 (O.out.keep (B:=W0.heap.size) O.out.1 c);have E:=Y1 (Q.out.next c);have D:=Y1 (Z03 o.out c);clear c N O Q o q ht
 go_wp2_with fail
 refine (Zlz t (by omega) _ E.out).mono ?_;rintro e w3 ⟨P,m⟩;have r:=Y1 (G.out.keep m);have b:=Y1 (u.out.keep (B:=w2.heap.size) u.out.1 m);have p:=Y1 (Z03 D.out m);clear m G u E D;cases C:Lex.kindR t with
 | none=>
  have d:kindV t= .tuple #[.int .i64 0,.bool false]:=by unfold kindV; rw[C]
  rw[d] at P;subst P;have S:Hid (Lex.piece (s.drop i)= .error (60,0)):=Y1 (by rw[M.out,H.out,C]);clear C d H M
  go_wp2_with fail
  refine (Zgf g s i _ r.out.at_).mono ?_;rintro e w4 ⟨rfl,a⟩;have j:=Y1 (b.out.keep (B:=w3.heap.size) b.out.1 a);have f:=Y1 (Z03 p.out a);obtain ⟨q0,x0,x1,y0,y1⟩:=j.out;clear a;go_wp2;refine bodyPost_ret (v:= .agg #[.int .i64 60,.int .i64 (i:Int)]) (by simp[results,Tryz.results134,go_sem,x0,x1]) rfl ?_;refine ⟨ZdF (UpdT.of f.out (by omega)) _ (by omega) (by omega) _ _, ?_⟩;rw[S.out];simp
 | some k=>
  have d:kindV t= .tuple #[.int .i64 k,.bool true]:=by unfold kindV; rw[C]
  rw[d] at P;subst P;have S:Hid (Lex.piece (s.drop i)= .ok ([⟨k,t⟩],t.length)):=Y1 (by rw[M.out,H.out,C]);clear C d H M
  go_wp2_with fail
  refine (ZfG t (by omega) _).mono ?_;rintro e w4 ⟨rfl,a⟩;have T:=Y1 (r.out.keep a);have j:=Y1 (b.out.keep (B:=w3.heap.size) b.out.1 a);have f:=Y1 (Z03 p.out a);clear a b p r
  go_wp2_with fail
  refine (Zgh g B Y s i v l (by omega) k t t.length (by omega) _ T.out).mono ?_;rintro e w5 ⟨rfl,⟨v',K,A⟩,z⟩;have I:Hid (v'.ownBlock≠some w.heap.size):=Y1 (fun e=>by
   rcases A _ e with h | h
   {exact F.out h.symm}
   · have:=j.out.1; omega)
  have W:Hid (∀x,v'.ownBlock=some x->v.ownBlock=some x\/w.heap.size<=x):=Y1 (fun x hx=>by
   rcases A x hx with h | h
   {exact Or.inl h}
   · right; have:=f.out.size; omega)
  clear A;have X:=Y1 (j.out.updT z y F.out);have V:=Y1 ((UpdT.of f.out (by omega)).trans z);have U:=Y1 K;clear K z;obtain ⟨q0,x0,x1,y0,y1⟩:=X.out;go_wp2;refine bodyPost_ret (v:= .agg #[.int .i64 0,.int .i64 0]) (by simp[results,Tryz.results134,go_sem,x0,x1]) rfl ?_;refine ⟨ZdF V.out _ (by omega) (by omega) _ _, ?_⟩;rw[S.out];exact ⟨rfl,v',(U.out.box _ (Ne.symm y) I.out _ _).box _ (Ne.symm y) I.out _ _,W.out⟩
end Go.Proofs.YtgndehppmaacaaaGreatDoor
namespace Go.Proofs.YtgndehppmaacaaaGreatDoor
section
open Go.RowKit
theorem ScanT.move {w:World} {g B i:Nat} {s:List UInt8} {v:Value} {l:List Tk} (h:ScanT w g B s i v l) (b:g < B) (j:Nat):ScanT (w.setCell ⟨g,1,none⟩ (.int .i64 (j:Int))) g B s j v l:=by
 obtain ⟨⟨c,d,c1,e,f⟩,c2,own,k⟩:=h;refine ⟨⟨by simpa using c, ?_, ?_,by simpa[go_sem] using e,by simpa[go_sem] using f⟩, ?_, ?_,by simpa using k⟩
 {simp[go_sem,d]}
 {simp[go_sem,c1]}
 {simp[go_sem,c2]}
 {exact ownsRow_setCell_below (a:=⟨g,1,none⟩) own b _}
theorem ZmR {g:Nat} {v:Value} {w w':World} (h:UpdT g v w w') (a:Value) (j:Nat):UpdT g v w (w'.setCell ⟨g,j,none⟩ a):=
 ⟨h.1.setCell (p:=⟨g,j,none⟩) (Nat.le_refl _) _,fun x o hx h1 h2=>by
  refine ⟨?_, ?_⟩
  {rw[World.cell?_setCell_other _ _ _ _ (fun e=>h1 (congrArg Addr.block e).symm)]; exact (h.2 x o hx h1 h2).1}
  · have:=(h.2 x o hx h1 h2).2
    simpa[go_sem] using this⟩
theorem Zkd (g B:Nat) (S:g < B) (s:List UInt8) (i:Nat) (hi:i < s.length) (hs:s.length<=4096) (U:Lex.hasRemark (s.drop i)=true) (v:Value) (l:List Tk) (w:World) (h:ScanT w g B s i v l):
 Calls Tryz.prog 132 #[.pointer (some ⟨g,0,none⟩)] w (StepE g B s i v l (Lex.piece (s.drop i)) w):=by
 obtain ⟨ps,rest,Q,Z⟩:=Lex.Z8Q (s.drop i).length (s.drop i) (Nat.le_refl _);have D:Hid (Lex.piece (s.drop i)=match Lex.remark (s.drop i).length (s.drop i) with | .error k=> .error (30,k) | .ok n=> .ok ([],n)):=Y1 (by unfold Lex.piece; first | (rw[if_pos U]; done) | (rw[if_pos U]; rfl));rw[Z] at D;have f:=Lex.Zo9 (s.drop i);obtain ⟨q,C⟩:=Lex.Z3S (· !=10) (s.drop i)
 obtain ⟨t,ht⟩: ∃t,t=(s.drop i).takeWhile (· !=10):=⟨_,rfl⟩
 rw[<-ht] at Q D f q C;have a8:t.length<=s.length - i:=by rw[List.length_drop] at q; exact q
 have Y:=Y1 (Zgg g s i t.length (Nat.le_of_lt hi) (by omega) (by omega) ps rest (by rw[C]; exact Q));have N:Hid (cutR 10 (s.drop i)= .tuple #[.string ⟨t.toArray⟩,.string ⟨(Sem.cut 10 (s.drop i)).2.1.toArray⟩,.bool (Sem.cut 10 (s.drop i)).2.2]):=Y1 (by unfold cutR; rw[f]);obtain ⟨c2,H⟩: ∃x,x=(Sem.cut 10 (s.drop i)).2.1:=⟨_,rfl⟩;obtain ⟨c3,I⟩: ∃x,x=(Sem.cut 10 (s.drop i)).2.2:=⟨_,rfl⟩;rw[<-H, <-I] at N;have hb0:=Z01 w (.cells Yc 31);have M:=Y1 (ZcG w 0 0);have L:=Y1 (h.keep hb0);have r:=Y1 hb0;have a0:=h.at_.lt;have a7:=h.le;have J:w.heap.size≠g:=by omega
 have F:Hid (v.ownBlock≠some w.heap.size):=Y1 (fun e=>by have:=(h.own.lt _ e).2; omega);have hz: (⟨t.toArray⟩:ByteArray).size=t.length:=Z0J _;clear hb0 h U Q Z f q C ht H I;go_enter Tryz.func132,Tryz.ntmps132
 go_wp2_with fail
 generalize hW:w.alloc (.cells Yc 31)=W0 at M r L ⊢;clear hW
 go_wp2_with fail
 refine (Zhn g s i (Nat.le_of_lt hi) _ L.out.at_).mono ?_;rintro e w2 ⟨rfl,nq,rfl⟩
 go_wp2_with fail
 refine (Zj9 ⟨(s.drop i).toArray⟩ 10 (by rw[Z0J,List.length_drop]; omega) _).mono ?_;rintro e w3 ⟨A,G⟩;rw[show (⟨(s.drop i).toArray⟩:ByteArray).data.toList=s.drop i from rfl,N.out] at A;subst A;have b:Below W0.heap.size W0 w3:=(ZcN W0 nq).trans (G.mono (Nat.le_refl _));have u:=Y1 (L.out.keep b);have z:=Y1 (M.out.keep (B:=W0.heap.size) M.out.1 b);have E:=Y1 (Z03 r.out b);clear G b L M r N
 go_wp2_with fail
 refine (Y.out _ u.out.at_).mono ?_;rintro e X ⟨A,o⟩;have y:=Y1 (u.out.keep o);have d:=Y1 (z.out.keep (B:=w3.heap.size) z.out.1 o);have c:=Y1 (Z03 E.out o);clear o u z E Y;by_cases a:rest= []
 {have j:faultV ps rest i= .agg #[.int .i64 0,.int .i64 0]:=by unfold faultV; rw[if_pos a]
  rw[j] at A;subst A;have P:Hid (Lex.piece (s.drop i)= .ok ([],t.length)):=Y1 (by rw[D.out,if_neg (by rw[a]; simp)]);have p:=Z01 X (.cells Yc 31);have a5:=Y1 (y.out.keep p);have a6:=Y1 (d.out.keep (B:=X.heap.size) d.out.1 p);have a4:=Y1 (Z03 c.out p);have K:=d.out.1;have HQ:Hid (w.heap.size < X.heap.size):=Y1 K;clear a j D p K;obtain ⟨W,x0,x1,y0,y1⟩:=d.out;obtain ⟨⟨a9,c0,c1,f1,f2⟩,d2,_,_⟩:=y.out;go_wp2;refine bodyPost_ret (v:= .agg #[.int .i64 0,.int .i64 0]) (by simp[results,Tryz.results132,go_sem,x0,x1,W]) rfl ?_;have V:=c.out.size;refine ⟨(ZdF (ZmR (UpdT.of c.out (by omega)) _ 1) _ (by omega) (by omega) _ _).trans (UpdT.of (Z01 _ _) (by simp; omega)), ?_⟩;rw[P.out];exact ⟨rfl,v,by rw[List.map_nil,List.append_nil]; exact ((((y.out.move S (i+t.length)).box _ (Ne.symm J) F.out _ _).box _ (Ne.symm J) F.out _ _).keep (Z01 _ _)),fun x hx=>Or.inl hx⟩}
 {have j:faultV ps rest i= .agg #[.int .i64 30,.int .i64 ((i+(Utf.enc ps).length:Nat):Int)]:=by unfold faultV; rw[if_neg a]
  rw[j] at A;subst A;have P:Hid (Lex.piece (s.drop i)= .error (30,(Utf.enc ps).length)):=Y1 (by rw[D.out,if_pos a]);obtain ⟨m,T⟩: ∃m,m=i+(Utf.enc ps).length:=⟨_,rfl⟩;rw[<-T];have O:=Y1 T;clear a j D T;obtain ⟨W,x0,x1,y0,y1⟩:=d.out;go_wp2;refine bodyPost_ret (v:= .agg #[.int .i64 30,.int .i64 (m:Int)]) (by simp[results,Tryz.results132,go_sem,x0,x1,W]) rfl ?_;have V:=c.out.size;refine ⟨(ZdF (UpdT.of c.out (by omega)) _ (by omega) (by omega) _ _).trans (UpdT.of (Z01 _ _) (by simp; omega)), ?_⟩;rw[P.out];show _=Ending.returned (.agg #[.int .i64 30,.int .i64 ((i+(Utf.enc ps).length:Nat):Int)]);rw[<-O.out]}
end
end Go.Proofs.YtgndehppmaacaaaGreatDoor
namespace Go.Proofs
def Tryz.lays137_ren:Go.Shelf.Ren:=⟨fun | 137=>204 | 217=>211 | 266=>231 | n=>n,fun | 9=>9 | 5=>5 | 3=>3 | n=>n,fun | n=>n⟩
theorem Tryz.lays137:Go.Proofs.Lays.n137 Tryz.prog Tryz.lays137_ren:= {
 mixed:=by kernel_rfl
 f137:=Tryz.func204.trans (congrArg some (by kernel_rfl))
 f217:=Tryz.func211.trans (congrArg some (by kernel_rfl))
 f266:=Tryz.func231.trans (congrArg some (by kernel_rfl))
 t3:=Tryz.underlying3
 a3:=Tryz.isAgg3
 z3:=Tryz.sizeOf3
 v3:=Tryz.zeroValue3
 t5:=Tryz.underlying5
 a5:=Tryz.isAgg5
 z5:=Tryz.sizeOf5
 v5:=Tryz.zeroValue5
 t9:=Tryz.underlying9
 a9:=Tryz.isAgg9
 z9:=Tryz.sizeOf9
 v9:=Tryz.zeroValue9 }
end Go.Proofs
namespace Go.Proofs.YtgndehppmaacaaaGreatDoor
open Go.RowKit
theorem ZhO (s:List UInt8) (c:UInt8) (w:World):
 Calls Tryz.prog 204 #[.string ⟨s.toArray⟩,.int .u8 (c.toNat:Int)] w fun e w'=>e= .returned (.int .i64 (Lib.indexByte s c))/\w=w':=by
 have h:=Any.strings_IndexByte Tryz.lays137 ⟨s.toArray⟩ (c.toNat:Int) w;have e: ((c.toNat:Int)).toNat.toUInt8=c:=by simp
 rw[e] at h;refine h.mono ?_;rintro e w' ⟨rfl,rfl⟩;exact ⟨rfl,rfl⟩
def unescV:List UInt8->Value
 | []=> .tuple #[.int .u8 0,.bool false]
 | d::_=>match Lex.unesc d with
  | some x=> .tuple #[.int .u8 (x.toNat:Int),.bool true]
  | none=> .tuple #[.int .u8 0,.bool false]
theorem ZgR (d:UInt8) (q:List UInt8):unescV (d::q)=match Lex.unesc d with | some x=> .tuple #[.int .u8 (x.toNat:Int),.bool true] | none=> .tuple #[.int .u8 0,.bool false]:=rfl
theorem ZlE (d:UInt8): (Lib.indexByte [110,116,34,92] d=0/\Lex.unesc d=some 10)\/(Lib.indexByte [110,116,34,92] d=1/\Lex.unesc d=some 9)\/
 (Lib.indexByte [110,116,34,92] d=2/\Lex.unesc d=some 34)\/(Lib.indexByte [110,116,34,92] d=3/\Lex.unesc d=some 92)\/(Lib.indexByte [110,116,34,92] d= -1/\Lex.unesc d=none):=by
 by_cases a:d=110
 {subst a; exact Or.inl ⟨by decide,rfl⟩}
 by_cases b:d=116
 {subst b; exact Or.inr (Or.inl ⟨by decide,rfl⟩)}
 by_cases c:d=34
 {subst c; exact Or.inr (Or.inr (Or.inl ⟨by decide,rfl⟩))}
 by_cases e:d=92
 {subst e; exact Or.inr (Or.inr (Or.inr (Or.inl ⟨by decide,rfl⟩)))}
 {refine Or.inr (Or.inr (Or.inr (Or.inr ⟨?_, ?_⟩)))
  {have g1: ((110:UInt8)==d)=false:=beq_eq_false_iff_ne.2 (Ne.symm a);have g2: ((116:UInt8)==d)=false:=beq_eq_false_iff_ne.2 (Ne.symm b);have g3: ((34:UInt8)==d)=false:=beq_eq_false_iff_ne.2 (Ne.symm c);have f: ((92:UInt8)==d)=false:=beq_eq_false_iff_ne.2 (Ne.symm e);simp[Lib.indexByte,g1,g2,g3,f]}
  {unfold Lex.unesc; rw[if_neg a,if_neg b,if_neg c,if_neg e]}}
theorem ZeH (l:List UInt8) (w:World):
 Calls Tryz.prog 187 #[.string ⟨l.toArray⟩] w fun e w'=>e= .returned (unescV l)/\w=w':=by
 cases l with
 | nil=>
  have g:Hid (unescV []= .tuple #[.int .u8 0,.bool false]):=Y1 rfl;go_enter Tryz.func187,Tryz.ntmps187;go_wp2
  go_ret2
  exact ⟨by rw[g.out]; rfl,rfl⟩
 | cons d q=>
  have f:unescV (d::q)=match Lex.unesc d with | some x=> .tuple #[.int .u8 (x.toNat:Int),.bool true] | none=> .tuple #[.int .u8 0,.bool false]:=rfl
  obtain ⟨l,a⟩: ∃l:List UInt8,l=d::q:=⟨_,rfl⟩;rw[<-a] at f ⊢;have k: (⟨l.toArray⟩:ByteArray).size=l.length:=Z0J _;have j:l.isEmpty=false:=by rw[a]; rfl
  have i: (l== [])=false:=by rw[a]; rfl
  have h: ∀W,(Instr.index 9 (.string ⟨l.toArray⟩) (.int .i64 0)).run Tryz.prog W= .ok (.int .u8 d.toNat) W:=fun W=>by rw[a]; rfl
  clear a;rcases ZlE d with ⟨b,c⟩ | ⟨b,c⟩ | ⟨b,c⟩ | ⟨b,c⟩ | ⟨b,c⟩
  all_goals
   rw[c] at f;have g:=Y1 f;clear f c;go_enter Tryz.func187,Tryz.ntmps187
   go_wp2_with fail
   refine (ZhO [110,116,34,92] d _).mono ?_;rintro e m ⟨rfl,rfl⟩;rw[b];clear b;go_wp2
   go_ret2
   exact ⟨by rw[g.out]; rfl,rfl⟩
end Go.Proofs.YtgndehppmaacaaaGreatDoor
namespace Lex
theorem ZmS {r p:List UInt8} {a:Nat} (h:unq r=(p++(unq (r.drop a)).1,a+(unq (r.drop a)).2.1,(unq (r.drop a)).2.2)) {b:Nat} {m:List UInt8}
 (c:unq (r.drop a)=(m++(unq (r.drop (a+b))).1,(unq (r.drop (a+b))).2.1+b,(unq (r.drop (a+b))).2.2)):
 unq r=((p++m)++(unq (r.drop (a+b))).1,(a+b)+(unq (r.drop (a+b))).2.1,(unq (r.drop (a+b))).2.2):=by
 rw[h,c];simp only[List.append_assoc];congr 2;omega
theorem Zoa {r:List UInt8} {a:Nat} {c d:UInt8} {q:List UInt8} (h:r.drop a=c::d::q):r.drop (a+2)=q:=by
 rw[<-List.drop_drop,h]; rfl
end Lex
namespace Go.Proofs.YtgndehppmaacaaaGreatDoor
open Go.RowKit
def unqV (r:List UInt8):Value:=if (Lex.unq r).2.2 then .tuple #[.string ⟨(Lex.unq r).1.toArray⟩,.int .i64 ((1+(Lex.unq r).2.1:Nat):Int),.bool true] else .tuple #[.string ⟨#[]⟩,.int .i64 ((1+(Lex.unq r).2.1:Nat):Int),.bool false]
theorem Zgw {r:List UInt8} {n:Nat} (a: (Lex.unq r).2.1=n) (b: (Lex.unq r).2.2=false):unqV r= .tuple #[.string ⟨#[]⟩,.int .i64 ((1+n:Nat):Int),.bool false]:=by
 unfold unqV; rw[if_neg (by rw[b]; simp),a]
theorem Zob {r p:List UInt8} {n:Nat} (a: (Lex.unq r).1=p) (b: (Lex.unq r).2.1=n) (c: (Lex.unq r).2.2=true):unqV r= .tuple #[.string ⟨p.toArray⟩,.int .i64 ((1+n:Nat):Int),.bool true]:=by
 unfold unqV; rw[if_pos c,b,a]
theorem ZdN (p:List UInt8) (c:UInt8):Lib.byteCells (p++ [c])=Lib.byteCells p++ [.int .u8 (c.toNat:Int)]:=by simp[Lib.byteCells]
def Unq (r:List UInt8) (w wr:World) (v:Value) (a:Nat):Prop:= ∃p:List UInt8,Lex.unq r=(p++(Lex.unq (r.drop a)).1,a+(Lex.unq (r.drop a)).2.1,(Lex.unq (r.drop a)).2.2)/\p.length<=a/\wr.ownsRow w.heap.size 5 1 v p.length (Lib.byteCells p)/\Below w.heap.size w wr
theorem Zji (r:List UInt8) (hr:r.length<=1000000) (w:World):
 Y9 160 #[.string ⟨(34::r).toArray⟩] w (unqV r):=by
 obtain ⟨i0,hi,V,X,Y⟩:=info_parts (P:=Tryz.prog) (e:=5) (z:= .int .u8 0) (size:=1) (bytes:=1) (by kernel_rfl);obtain ⟨l,hl⟩: ∃l:List UInt8,l=34::r:=⟨_,rfl⟩;have U:l.length=r.length+1:=by rw[hl]; rfl
 have HL:=Y1 hl;have G:=Y1 U;have hz: (⟨l.toArray⟩:ByteArray).size=l.length:=Z0J _;have d0:l.length<=1000001:=by omega
 rw[<-hl];clear hl U;go_enter Tryz.func160,Tryz.ntmps160
 go_wp2_with fail
 go_loopw [5,6] (fun v ii wr=> ∃a:Nat,ii= .int .i64 ((1+a:Nat):Int)/\1+a<=l.length/\Hid (Unq r w wr v a))
  (fun _ ii _=>l.length - (intOf ii).toNat)
 case atStart=>exact ⟨0,rfl,by rw[G.out]; omega,Y1 ⟨[],by simp,Nat.le_refl _,World.ownsRow_nil _ _ _ _,Below.refl _ _⟩⟩
 case round=>
  obtain ⟨a,rfl,ha,HU⟩:=hrel;obtain ⟨p,E,d1,B,hb⟩:=HU.out;have f:=Y1 E;have HO:=Y1 B;have F:=Y1 hb;have O:=hb.size;have c8:=ZeO B;obtain ⟨n,hn⟩: ∃n,n=1+a:=⟨_,rfl⟩;rw[<-hn] at ha ⊢;have s:=Y1 hn;clear E B hb HU hn;by_cases a7:n < l.length
  {have a6: (n:Int) < (l.length:Int):=by omega
   have N:a < r.length:=by have:=s.out; have:=G.out; omega
   obtain ⟨c,hc⟩: ∃c,c=r[a]'N:=⟨_,rfl⟩;obtain ⟨q,hq⟩: ∃q,q=r.drop (a+1):=⟨_,rfl⟩;have T:r.drop a=c::q:=by rw[hc,hq]; exact List.drop_eq_getElem_cons N
   have Q:l[n]'a7=c:=by
    have e:=s.out;have e2:=HL.out;subst e2;subst e;rw[hc,List.getElem_cons];simp[Nat.add_comm 1 a]
   have b5: ∀W,(Instr.index 9 (.string ⟨l.toArray⟩) (.int .i64 (n:Int))).run Tryz.prog W= .ok (.int .u8 c.toNat) W:=fun W=>by
    rw[<-Q]; exact Z4P ⟨l.toArray⟩ n (by omega) W
   have S:l.drop (n+1)=q:=by rw[HL.out,s.out,hq,show 1+a+1=(a+1)+1 by omega,List.drop_succ_cons]
   have o:=Y1 T;have HQ:=Y1 hq;have K:=Y1 S;have Z: ((c.toNat:Int)==34)=(c==34):=ZcR c 34 (by decide);have I: ((c.toNat:Int)==92)=(c==92):=ZcR c 92 (by decide);have t:=Y1 (Lex.Z13 c q);clear hc hq T Q S;cases g: (c==34)
   {rw[g] at Z;have C:c≠34:=by simpa using g
    cases m: (c==92)
    {rw[m] at I;have j:c≠92:=by simpa using m
     by_cases M:c.toNat < 32
     {have a9: (c.toNat:Int) < 32:=by omega
      have b:Lex.unq (r.drop a)=([],0,false):=by rw[o.out,t.out,if_neg C,if_neg j,if_pos M]
      have y:Hid (unqV r= .tuple #[.string ⟨#[]⟩,.int .i64 (n:Int),.bool false]):=Y1 (by
       rw[Zgw (n:=a) (by rw[f.out,b]; rfl) (by rw[f.out,b]), <-s.out])
      clear b g m C j;go_wp2
      go_ret3
      exact ⟨by rw[y.out]; rfl,F.out⟩}
     {have a9: ¬(c.toNat:Int) < 32:=by omega
      have b:Lex.unq (r.drop a)=([c]++(Lex.unq (r.drop (a+1))).1,(Lex.unq (r.drop (a+1))).2.1+1,(Lex.unq (r.drop (a+1))).2.2):=by rw[<-HQ.out,o.out,t.out,if_neg C,if_neg j,if_neg M]; rfl
      have y:=Y1 (Lex.ZmS f.out b);have a5:=c.toNat_lt;clear b g m C j
      go_wp2_with (at_builtin; refine wpList_append_own _ rfl _ _ 131 rfl w.heap.size 5 i0 (.int .u8 0) 1 1 Tryz.underlying131 hi V X Y rfl (by decide) _ _ _ rfl (HO.out.alloc _) ⟨wr.heap.size,0,none⟩ 1 1 [.int .u8 (c.toNat:Int)] rfl rfl (World.news_of_block (heap_alloc_new wr _)) (by intro u E; simp at E; subst E; rfl) (by unfold maxLen; omega) (by omega) (by simp; omega) ?_)
      intro v' w3 i h _;have A:=(F.out.alloc O (.cells #[.int .u8 (c.toNat:Int)] 5)).grown h (by simp; omega) (fun k hk=>(HO.out.lt k hk).1);have H:Hid (Unq r w w3 v' (a+1)):=Y1 ⟨p++ [c],y.out,by rw[List.length_append]; simp; omega,by rw[ZdN,List.length_append]; exact i,A⟩;clear i h A;go_wp2
      go_roundw
      case rel=>exact ⟨a+1,by rw[s.out]; go_num,by have:=s.out; omega,H⟩
      case measure=>simp[intOf]; omega}}
    {rw[m] at I;have d2: ∀W,(Instr.slice 9 (.string ⟨l.toArray⟩) (some (.int .i64 ((n:Int)+1))) none none).run Tryz.prog W= .ok (.string ⟨q.toArray⟩) W:=fun W=>by
      have:=Z8E (W:=W) ⟨l.toArray⟩ (n+1) (by omega);rw[show (⟨l.toArray⟩:ByteArray).data.toList=l from rfl,K.out] at this;exact this
     have j:c=92:=by simpa using m
     cases q with
     | nil=>
      have b:Lex.unq (r.drop a)=([],0,false):=by rw[o.out,t.out,if_neg (by simpa using g),if_pos j]
      have y:Hid (unqV r= .tuple #[.string ⟨#[]⟩,.int .i64 (n:Int),.bool false]):=Y1 (by
       rw[Zgw (n:=a) (by rw[f.out,b]; rfl) (by rw[f.out,b]), <-s.out])
      have L:Hid (unescV []= .tuple #[.int .u8 0,.bool false]):=Y1 rfl;clear b g m j
      go_wp2_with fail
      refine (ZeH [] _).mono ?_;rintro e w2 ⟨D,rfl⟩;rw[L.out] at D;subst D;go_wp2
      go_ret3
      exact ⟨by rw[y.out]; rfl,F.out⟩
     | cons d q2=>
      have c9:n+2<=l.length:=by
       have:=congrArg List.length K.out;rw[List.length_drop,List.length_cons] at this; omega
      cases J:Lex.unesc d with
      | none=>
       have b:Lex.unq (r.drop a)=([],0,false):=by rw[o.out,t.out,if_neg (by simpa using g),if_pos j]; simp only; rw[J]
       have y:Hid (unqV r= .tuple #[.string ⟨#[]⟩,.int .i64 (n:Int),.bool false]):=Y1 (by
        rw[Zgw (n:=a) (by rw[f.out,b]; rfl) (by rw[f.out,b]), <-s.out])
       have L:Hid (unescV (d::q2)= .tuple #[.int .u8 0,.bool false]):=Y1 (by rw[ZgR,J]);clear b g m j J
       go_wp2_with fail
       refine (ZeH (d::q2) _).mono ?_;rintro e w2 ⟨D,rfl⟩;rw[L.out] at D;subst D;go_wp2
       go_ret3
       exact ⟨by rw[y.out]; rfl,F.out⟩
      | some x=>
       have b:Lex.unq (r.drop a)=([x]++(Lex.unq (r.drop (a+2))).1,(Lex.unq (r.drop (a+2))).2.1+2,(Lex.unq (r.drop (a+2))).2.2):=by
        rw[Lex.Zoa o.out,o.out,t.out,if_neg (by simpa using g),if_pos j]; simp only; rw[J]; rfl
       have y:=Y1 (Lex.ZmS f.out b);have L:Hid (unescV (d::q2)= .tuple #[.int .u8 (x.toNat:Int),.bool true]):=Y1 (by rw[ZgR,J]);have a5:=x.toNat_lt;clear b g m j J
       go_wp2_with fail
       refine (ZeH (d::q2) _).mono ?_;rintro e w2 ⟨D,rfl⟩;rw[L.out] at D;subst D
       go_wp2_with (at_builtin; refine wpList_append_own _ rfl _ _ 131 rfl w.heap.size 5 i0 (.int .u8 0) 1 1 Tryz.underlying131 hi V X Y rfl (by decide) _ _ _ rfl (HO.out.alloc _) ⟨wr.heap.size,0,none⟩ 1 1 [.int .u8 (x.toNat:Int)] rfl rfl (World.news_of_block (heap_alloc_new wr _)) (by intro u E; simp at E; subst E; rfl) (by unfold maxLen; omega) (by omega) (by simp; omega) ?_)
       intro v' w3 i h _;have A:=(F.out.alloc O (.cells #[.int .u8 (x.toNat:Int)] 5)).grown h (by simp; omega) (fun k hk=>(HO.out.lt k hk).1);have H:Hid (Unq r w w3 v' (a+2)):=Y1 ⟨p++ [x],y.out,by rw[List.length_append]; simp; omega,by rw[ZdN,List.length_append]; exact i,A⟩;clear i h A;go_wp2
       go_roundw
       case rel=>exact ⟨a+2,by rw[s.out]; go_num,by have:=s.out; omega,H⟩
       case measure=>simp[intOf]; omega}}
   {rw[g] at Z;have b:Lex.unq (r.drop a)=([],1,true):=by rw[o.out,t.out,if_pos (by simpa using g)]
    have y:Hid (unqV r= .tuple #[.string ⟨p.toArray⟩,.int .i64 ((n+1:Nat):Int),.bool true]):=Y1 (by
     rw[Zob (p:=p) (n:=a+1) (by rw[f.out,b]; simp) (by rw[f.out,b]) (by rw[f.out,b]),s.out]; rfl)
    clear b g I;go_wp2
    go_ret3
    exact ⟨by rw[y.out]; rfl,F.out⟩}}
  {have a6: ¬(n:Int) < (l.length:Int):=by omega
   have b:Lex.unq (r.drop a)=([],0,false):=by
    rw[List.drop_eq_nil_of_le (by have:=s.out; have:=G.out; omega)]; rfl
   have y:Hid (unqV r= .tuple #[.string ⟨#[]⟩,.int .i64 (n:Int),.bool false]):=Y1 (by
    rw[Zgw (n:=a) (by rw[f.out,b]; rfl) (by rw[f.out,b]), <-s.out])
   clear b;go_wp2
   go_ret3
   exact ⟨by rw[y.out]; rfl,F.out⟩}
end Go.Proofs.YtgndehppmaacaaaGreatDoor
namespace Go.Proofs.YtgndehppmaacaaaGreatDoor
section
open Go.RowKit
theorem ZmT (r:List UInt8):unqV r= .tuple #[.string ⟨(if (Lex.unq r).2.2 then (Lex.unq r).1 else []).toArray⟩,.int .i64 ((1+(Lex.unq r).2.1:Nat):Int),.bool (Lex.unq r).2.2]:=by
 unfold unqV;cases h: (Lex.unq r).2.2 <;> rfl
theorem Zke (g B:Nat) (b2:g < B) (s:List UInt8) (i:Nat) (hi:i < s.length) (hs:s.length<=4096) (S:s[i]'hi=34) (v:Value) (l:List Tk) (hl:l.length<=i) (w:World) (h:ScanT w g B s i v l):
 Calls Tryz.prog 133 #[.pointer (some ⟨g,0,none⟩)] w (StepE g B s i v l (Lex.piece (s.drop i)) w):=by
 have E:s.drop i=34::s.drop (i+1):=by rw[List.drop_eq_getElem_cons hi,S]
 obtain ⟨r,hr⟩: ∃r,r=s.drop (i+1):=⟨_,rfl⟩;rw[<-hr] at E;obtain ⟨ps,rest,hR,hQ⟩:=Lex.Zl9 r;have Z:Lex.piece (34::r)=match Lex.quoted (34::r) with | .error x=> .error x | .ok (t,n)=> .ok ([t],n):=rfl
 rw[hQ] at Z;have d7:r.length+1+i=s.length:=by have:=congrArg List.length E; rw[List.length_drop,List.length_cons] at this; omega
 obtain ⟨b4,b5⟩:=Lex.Z8m r.length r (Nat.le_refl _);have hV:=ZmT r;have HW:=Y1 (Zji r (by omega));obtain ⟨K,hK⟩: ∃K,K=(Lex.unq r).2.2:=⟨_,rfl⟩;obtain ⟨n,hn⟩: ∃n,n=1+(Lex.unq r).2.1:=⟨_,rfl⟩;obtain ⟨T,hT⟩: ∃T,T=(Lex.unq r).1:=⟨_,rfl⟩;rw[<-hK, <-hn, <-hT] at hV;rw[<-hK, <-hn, <-hT] at Z;rw[<-hn] at hR;have d6:n<=r.length+1:=by omega
 have HD:=Y1 (Zgg g s i n (Nat.le_of_lt hi) (by omega) (by omega) ps rest (by rw[E]; exact hR));have HV:=Y1 hV;have J:=Y1 Z;have d3:=Y1 E;have hb0:=Z01 w (.cells Yc 31);have X:=Y1 (ZcG w 0 0);have W:=Y1 (h.keep hb0);have o:=Y1 hb0;have c9:=h.at_.lt;have d5:=h.le;have G:w.heap.size≠g:=by omega
 have M:Hid (some w.heap.size≠v.ownBlock):=Y1 (fun e=>by have:=(h.own.lt _ e.symm).2; omega);have u:=Y1 (Zhn g s i (Nat.le_of_lt hi));rw[E] at u;rw[E];clear hb0 h S hR hQ Z hV hK hn hT b4 b5 E hr;go_enter Tryz.func133,Tryz.ntmps133
 go_wp2_with fail
 generalize hW:w.alloc (.cells Yc 31)=W0 at X o W ⊢;clear hW
 go_wp2_with fail
 refine (u.out _ W.out.at_).mono ?_;rintro e w2 ⟨rfl,nq,rfl⟩
 go_wp2_with fail
 refine (HW.out _).mono ?_;rintro e w3 ⟨F,V⟩;rw[HV.out] at F;subst F;have b:Below W0.heap.size W0 w3:=(ZcN W0 nq).trans (V.mono (Nat.le_refl _));have y:=Y1 (W.out.keep b);have z:=Y1 (X.out.keep (B:=W0.heap.size) X.out.1 b);have L:=Y1 (Z03 o.out b);clear V b W X o HW u;obtain ⟨Y,C⟩: ∃Y:List UInt8,Y=if K then T else []:=⟨_,rfl⟩;rw[<-C];have a5:=Y1 C;clear C
 go_wp2_with fail
 refine (HD.out _ y.out.at_).mono ?_;rintro e w4 ⟨F,j⟩;have O:=Y1 (y.out.keep j);have d:=Y1 (z.out.keep (B:=w3.heap.size) z.out.1 j);have p:=Y1 (Z03 L.out j);clear j y z L HD;by_cases a:rest= []
 {have c:faultV ps rest i= .agg #[.int .i64 0,.int .i64 0]:=by unfold faultV; rw[if_pos a]
  rw[c] at F;subst F;have k:=Z01 w4 (.cells Yc 31);have P:=Y1 (O.out.keep k);have f:=Y1 (d.out.keep (B:=w4.heap.size) d.out.1 k);have q:=Y1 (Z03 p.out k);clear c k d O;cases K with
  | false=>
   have N:Hid (Lex.piece (34::r)= .error (60,0)):=Y1 (by rw[J.out,if_neg (by rw[a]; simp)]; rfl);clear a J
   go_wp2_with fail
   refine (Zgf g s i _ P.out.at_).mono ?_;rintro e w5 ⟨rfl,D⟩;have A:=Y1 (f.out.keep (B:=(w4.alloc (.cells Yc 31)).heap.size) f.out.1 D);have a2:=Y1 (Z03 q.out D);clear D;obtain ⟨q0,x0,x1,y0,y1⟩:=A.out;go_wp2;refine bodyPost_ret (v:= .agg #[.int .i64 60,.int .i64 (i:Int)]) (by simp[results,Tryz.results133,go_sem,x0,x1]) rfl ?_;refine ⟨ZdF (UpdT.of a2.out (by omega)) _ (by omega) (by omega) _ _, ?_⟩;rw[N.out];simp
  | true=>
   have N:Hid (Lex.piece (34::r)= .ok ([⟨4,T⟩],n)):=Y1 (by rw[J.out,if_neg (by rw[a]; simp)]; rfl);obtain rfl:Y=T:=by rw[a5.out]; rfl
   clear a J
   go_wp2_with fail
   refine (Zgh g B b2 s i v l (by omega) 4 Y n (by omega) _ P.out).mono ?_;rintro e w5 ⟨rfl,⟨v',U,I⟩,H⟩;have Q:Hid (v'.ownBlock≠some w.heap.size):=Y1 (fun e=>by
    rcases I _ e with h | h
    {exact M.out h.symm}
    · have:=f.out.1; omega)
   have a7:Hid (∀x,v'.ownBlock=some x->v.ownBlock=some x\/w.heap.size<=x):=Y1 (fun x hx=>by
    rcases I x hx with h | h
    {exact Or.inl h}
    · right; have:=q.out.size; omega)
   have A:=Y1 (f.out.updT H G M.out);have a6:=Y1 ((UpdT.of q.out (by omega)).trans H);have a4:=Y1 U;clear U H I;obtain ⟨q0,x0,x1,y0,y1⟩:=A.out;go_wp2;refine bodyPost_ret (v:= .agg #[.int .i64 0,.int .i64 0]) (by simp[results,Tryz.results133,go_sem,x0,x1]) rfl ?_;refine ⟨ZdF a6.out _ (by omega) (by omega) _ _, ?_⟩;rw[N.out];exact ⟨rfl,v',(a4.out.box _ (Ne.symm G) Q.out _ _).box _ (Ne.symm G) Q.out _ _,a7.out⟩}
 {have c:faultV ps rest i= .agg #[.int .i64 30,.int .i64 ((i+(Utf.enc ps).length:Nat):Int)]:=by unfold faultV; rw[if_neg a]
  rw[c] at F;subst F;have N:Hid (Lex.piece (34::r)= .error (30,(Utf.enc ps).length)):=Y1 (by rw[J.out,if_pos a]);obtain ⟨m,hm⟩: ∃m,m=i+(Utf.enc ps).length:=⟨_,rfl⟩;rw[<-hm];have a3:=Y1 hm;clear a c J hm;obtain ⟨q0,x0,x1,y0,y1⟩:=d.out;go_wp2;refine bodyPost_ret (v:= .agg #[.int .i64 30,.int .i64 (m:Int)]) (by simp[results,Tryz.results133,go_sem,x0,x1,q0]) rfl ?_;have d8:=p.out.size;refine ⟨(ZdF (UpdT.of p.out (by omega)) _ (by omega) (by omega) _ _).trans (UpdT.of (Z01 _ _) (by simp; omega)), ?_⟩;rw[N.out];show _=Ending.returned (.agg #[.int .i64 30,.int .i64 ((i+(Utf.enc ps).length:Nat):Int)]);rw[<-a3.out]}
end
end Go.Proofs.YtgndehppmaacaaaGreatDoor
namespace Lex
theorem ZhP (l:List UInt8): (l.take 2== [45,45])=hasRemark l:=by
 match l with
 | []=>rfl
 | [x]=>simp[hasRemark]
 | x::y::q=>
  rw[ZfV];show ([x,y]== [45,45])=_;simp
end Lex
namespace Go.Proofs.YtgndehppmaacaaaGreatDoor
open Go.RowKit
section
variable {g B : Nat} {s : List UInt8} {i : Nat} {v : Value} {l : List Tk} {r : Except (Int × Nat) (List Lex.Tok × Nat)}
include g B s i v l r
theorem StepE.form {w:World} {e:Ending} {w':World} (h:StepE g B s i v l r w e w'): ∃a b:Int,e= .returned (.agg #[.int .i64 a,.int .i64 b]):=by
 obtain ⟨_,h⟩:=h
 match r,h with
 | .error (x,k),h=>exact ⟨_,_,h⟩
 | .ok (ts,n),h=>exact ⟨_,_,h.1⟩
theorem StepE.lift {w W0:World} {e:Ending} {w':World} (h:StepE g B s i v l r W0 e w') (o:Below w.heap.size w W0) (q:w.heap.size < W0.heap.size)
 (f:g < w.heap.size) (u:v.ownBlock≠some w.heap.size) (a b:Value):StepE g B s i v l r w e ((w'.setCell ⟨w.heap.size,0,none⟩ a).setCell ⟨w.heap.size,1,none⟩ b):=by
 obtain ⟨t,h⟩:=h;refine ⟨ZdF ((UpdT.of o (Nat.le_of_lt f)).trans t) _ (Nat.le_refl _) (Nat.le_of_lt f) _ _, ?_⟩
 match r,h with
 | .error (x,k),h=>exact h
 | .ok (ts,n),h=>
  obtain ⟨p,j,m,d⟩:=h;have c:j.ownBlock≠some w.heap.size:=fun e=>by
   rcases d _ e with h | h
   {exact u h}
   {omega}
  exact ⟨p,j,(m.box _ (by omega) c _ _).box _ (by omega) c _ _,fun x hx=>by
   rcases d x hx with h | h
   {exact Or.inl h}
   · right; omega⟩
end
theorem Zoc (g B:Nat) (E:g < B) (s:List UInt8) (i:Nat) (H:i < s.length) (Q:s.length<=4096) (v:Value) (l:List Tk) (T:l.length<=i) (w:World) (h:ScanT w g B s i v l) (S:Globs w):
 Calls Tryz.prog 103 #[.pointer (some ⟨g,0,none⟩)] w (StepE g B s i v l (Lex.piece (s.drop i)) w):=by
 have hb0:=Z01 w (.cells Yc 31);have C:=Y1 (ZcG w 0 0);have q:=Y1 (h.keep hb0);have M:=Y1 (S.next hb0);have k:=Y1 hb0;have y:=h.at_.lt;have Y:=h.le;have F:w.heap.size≠g:=by omega
 have m:Hid (v.ownBlock≠some w.heap.size):=Y1 (fun e=>by have:=(h.own.lt _ e).2; omega);have O:=Y1 (Zfc g s i H);have D:=Y1 (Lex.ZhP (s.drop i));have A:=Y1 (ZdM g s i 2 (Nat.le_of_lt H) (by omega) (by decide));obtain ⟨p2,K⟩: ∃p2,p2=(s.drop i).take 2:=⟨_,rfl⟩;rw[<-K] at D A;clear hb0 h S K;cases G:Lex.hasRemark (s.drop i) with
 | true=>
  have Z: (p2== [45,45])=true:=by rw[D.out]; exact G
  have I:=Y1 (Zkd g B E s i H Q G v l);clear G;go_enter Tryz.func103,Tryz.ntmps103
  go_wp2_with fail
  generalize hW:w.alloc (.cells Yc 31)=W0 at C k q M ⊢;clear hW
  go_wp2_with fail
  refine (A.out _ q.out.at_).mono ?_;rintro e N ⟨rfl,f,rfl⟩;have r:=Y1 (q.out.keep (ZcN W0 f));have o:=Y1 (Z03 k.out (ZcN W0 f));have d:Hid (w.heap.size < (W0.drewN f).heap.size):=Y1 C.out.1;have t:Hid (Box2 (W0.drewN f) w.heap.size 0 0):=C
  go_wp2_with fail
  refine (I.out _ r.out).mono ?_;rintro e V j;have u:=Y1 (t.out.updT j.1 F (fun e=>m.out e.symm));have p:=Y1 (fun a b=>j.lift o.out d.out y m.out a b);obtain ⟨a,b,rfl⟩:=j.form;obtain ⟨U,x0,x1,W,X⟩:=u.out;clear j;go_wp2;refine bodyPost_ret (v:= .agg #[.int .i64 a,.int .i64 b]) (by simp[results,Tryz.results103,go_sem,x0,x1]) rfl ?_;exact p.out _ _
 | false=>
  have Z: (p2== [45,45])=false:=by rw[D.out]; exact G
  obtain ⟨c,J⟩: ∃c,c=s[i]'H:=⟨_,rfl⟩;rw[<-J] at O;have L: ((c.toNat:Int)==34)=(c==34):=ZcR c 34 (by decide);cases n: (c==34) with
  | true=>
   rw[n] at L;have I:=Y1 (Zke g B E s i H Q (by rw[<-J]; simpa using n) v l T);clear G n J;go_enter Tryz.func103,Tryz.ntmps103
   go_wp2_with fail
   generalize hW:w.alloc (.cells Yc 31)=W0 at C k q M ⊢;clear hW
   go_wp2_with fail
   refine (A.out _ q.out.at_).mono ?_;rintro e N ⟨rfl,f,rfl⟩
   go_wp2_with fail
   refine (O.out _ (q.out.at_.draw _)).mono ?_;rintro e N ⟨rfl,z,rfl⟩;have r:=Y1 (q.out.keep (ZcN W0 (f+z)));have o:=Y1 (Z03 k.out (ZcN W0 (f+z)));have d:Hid (w.heap.size < (W0.drewN (f+z)).heap.size):=Y1 C.out.1;have t:Hid (Box2 (W0.drewN (f+z)) w.heap.size 0 0):=C
   go_wp2_with fail
   refine (I.out _ r.out).mono ?_;rintro e V j;have u:=Y1 (t.out.updT j.1 F (fun e=>m.out e.symm));have p:=Y1 (fun a b=>j.lift o.out d.out y m.out a b);obtain ⟨a,b,rfl⟩:=j.form;obtain ⟨U,x0,x1,W,X⟩:=u.out;clear j;go_wp2;refine bodyPost_ret (v:= .agg #[.int .i64 a,.int .i64 b]) (by simp[results,Tryz.results103,go_sem,x0,x1]) rfl ?_;exact p.out _ _
  | false=>
   rw[n] at L;have I:=Y1 (ZlD g B E s i H Q (by rw[<-J]; simpa using n) G v l T);clear G n J;go_enter Tryz.func103,Tryz.ntmps103
   go_wp2_with fail
   generalize hW:w.alloc (.cells Yc 31)=W0 at C k q M ⊢;clear hW
   go_wp2_with fail
   refine (A.out _ q.out.at_).mono ?_;rintro e N ⟨rfl,f,rfl⟩
   go_wp2_with fail
   refine (O.out _ (q.out.at_.draw _)).mono ?_;rintro e N ⟨rfl,z,rfl⟩;have r:=Y1 (q.out.keep (ZcN W0 (f+z)));have P:=Y1 (M.out.next (ZcN W0 (f+z)));have o:=Y1 (Z03 k.out (ZcN W0 (f+z)));have d:Hid (w.heap.size < (W0.drewN (f+z)).heap.size):=Y1 C.out.1;have t:Hid (Box2 (W0.drewN (f+z)) w.heap.size 0 0):=C
   go_wp2_with fail
   refine (I.out _ r.out P.out).mono ?_;rintro e V j;have u:=Y1 (t.out.updT j.1 F (fun e=>m.out e.symm));have p:=Y1 (fun a b=>j.lift o.out d.out y m.out a b);obtain ⟨a,b,rfl⟩:=j.form;obtain ⟨U,x0,x1,W,X⟩:=u.out;clear j;go_wp2;refine bodyPost_ret (v:= .agg #[.int .i64 a,.int .i64 b]) (by simp[results,Tryz.results103,go_sem,x0,x1]) rfl ?_;exact p.out _ _
end Go.Proofs.YtgndehppmaacaaaGreatDoor
namespace Lex
section
def endTok:Tok:=⟨0,[]⟩
theorem Zgj: ∀(k:Nat) (a:List UInt8) (i:Nat) (t:Tok) (j:Nat) (l:List (Tok×Nat)),a.length<=k->toks a i= .ok ((t,j)::l)-> ∃n,i<=j/\token (a.drop (j - i))= .ok (t,n)/\j - i+n<=a.length/\ ∀c∈(a.drop (j - i)).head?,blank c=false
 | _,[],i,t,j,l,_,h=>by cases Except.ok.inj h
 | 0,c::r,_,_,_,_,h,_=>by simp at h
 | k+1,c::r,i,t,j,l,hk,h=>by
  rw[List.length_cons] at hk;by_cases u:blank c=true
  {rw[Z0s u] at h;obtain ⟨n,s,h2,z,w⟩:=Zgj k r (i+1) t j l (by omega) h;have e:j - i=(j - (i+1))+1:=by omega
   refine ⟨n,by omega, ?_, ?_, ?_⟩
   {rw[e,List.drop_succ_cons]; exact h2}
   {rw[List.length_cons]; omega}
   {rw[e,List.drop_succ_cons]; exact w}}
  {have o:blank c=false:=by simpa using u
   have b: ∀x∈(c::r).head?,blank x=false:=fun x hx=>by
    obtain rfl:c=x:=by simpa using hx
    exact o
   cases p:hasRemark (c::r) with
   | true=>
    rw[Z0B b p] at h;cases d:remark (c::r).length (c::r) with
    | error j=>rw[d] at h; cases h
    | ok m=>
     rw[d] at h;have s:=Z11 p (f:=r.length) d;have h2:=Z2f _ _ _ d;obtain ⟨n,g1,g2,g3,q⟩:=Zgj k _ (i+m) t j l (by rw[List.length_drop,List.length_cons]; omega) h;rw[List.drop_drop,show m+(j - (i+m))=j - i by omega] at g2 q;rw[List.length_drop] at g3;exact ⟨n,by omega,g2,by omega,q⟩
   | false=>
    rw[Z0W (by simp) b p] at h;cases g:token (c::r) with
    | error x=>rw[g] at h; cases h
    | ok x=>
     obtain ⟨A,n⟩:=x;rw[g] at h;simp only at h;obtain ⟨s,h2,_⟩:=Z10 g;cases v:toks ((c::r).drop n) (i+n) with
     | error e=>rw[v] at h; cases h
     | ok m=>
      rw[v] at h;obtain ⟨y,rfl⟩:=List.cons.inj (Except.ok.inj h);obtain ⟨rfl,rfl⟩:=Prod.mk.inj y;exact ⟨n,Nat.le_refl _,by rw[Nat.sub_self]; exact g,by rw[Nat.sub_self]; omega,by rw[Nat.sub_self]; exact b⟩}
section
variable {t : Tok} (h : good t)
include t h
theorem Zgk:1<=t.kind/\t.kind<=7:=by
 obtain ⟨c,r,_,_,_,a⟩:=h;exact (Z10 a).2.2.2
theorem ZmU:toks (written t) 0= .ok [(t,0)]:=by
 obtain ⟨c,r,d,e,b,a⟩:=h;rw[d,Z0W (by simp) (fun x hx=>by
  obtain rfl:c=x:=by simpa using hx
  exact b) (Z5w a),a]
 simp only[List.drop_length,Z6h];rfl
theorem ZmV:scanR (written t)= .ok [(t,0),(endTok,(written t).length)]:=by
 have a:=ZmU h;obtain ⟨c,r,b,e,d,f⟩:=h;unfold scanR;rw[if_neg (by rw[b]; omega),a]; rfl
end
theorem Zoe:scanR (written endTok)= .ok [(endTok,0)]:=rfl
theorem Zjj {t:Tok} {x:Tok×Nat} {m:List (Tok×Nat)} (h:scanR (written t)= .ok (x::m)) (f:x.1=t):t=endTok\/good t:=by
 unfold scanR at h;by_cases b:4096 < (written t).length
 {rw[if_pos b] at h; cases h}
 {rw[if_neg b] at h;cases d:toks (written t) 0 with
  | error e=>rw[d] at h; cases h
  | ok l=>
   rw[d] at h;have h:=Except.ok.inj h;cases l with
   | nil=>
    obtain ⟨rfl,_⟩:=List.cons.inj h;exact Or.inl f.symm
   | cons y l=>
    rw[List.cons_append] at h;obtain ⟨rfl,_⟩:=List.cons.inj h;obtain ⟨p,j⟩:=y;simp only at f;subst f;obtain ⟨n,h1,h2,h3,a⟩:=Zgj _ _ _ _ _ _ (Nat.le_refl _) d;rw[Nat.sub_zero] at h2 h3 a;obtain ⟨_,k⟩:=Z4S h2;have g:=congrArg List.length k;rw[List.length_take,List.length_drop] at g;obtain ⟨p1,p2,_⟩:=Z10 h2;have o:j=0:=by omega
    subst o;rw[List.drop_zero] at h2 a p2;refine Or.inr ?_;unfold good;cases i:written p with
    | nil=>rw[i] at p2; simp at p2; omega
    | cons c r=>
     rw[i] at h2 a b h3 g;refine ⟨c,r,rfl,by omega,a c (by simp), ?_⟩;rw[h2];have:n=(c::r).length:=by omega
     rw[this]}
def kept (l:List Tok):List Tok:=l.filter (fun t=>decide (t≠endTok))
theorem ZmW (l:List Tok) (t:Tok):kept (l++ [t])=if t=endTok then kept l else kept l++ [t]:=by
 unfold kept;rw[List.filter_append];by_cases h:t=endTok
 {rw[if_pos h]; simp[h]}
 {rw[if_neg h]; simp[h]}
def shown (l:List Tok):List UInt8:=join ((kept l).map written)
def mayShow (l:List Tok):Prop:= ∀t∈l,t=endTok\/good t
theorem Zie: ∀(a:List (List UInt8)) (p:List UInt8),join (a++ [p])=if a= [] then p else join a++32::p
 | [],p=>rfl
 | [q],p=>rfl
 | q::r::a,p=>by
  rw[if_neg (by simp)];show q++32::join ((r::a)++ [p])=(q++32::join (r::a))++32::p;rw[Zie (r::a) p,if_neg (by simp)];simp
theorem Zpe: ∀(a:List (List UInt8)),a≠ []->(∀p∈a,p≠ [])->join a≠ []
 | [],h,_=>absurd rfl h
 | [q],_,h=>h q (by simp)
 | q::r::a,_,h=>by
  show q++32::join (r::a)≠ [];simp
theorem ZlF (l:List Tok) (t:Tok):shown (l++ [t])=if t=endTok then shown l else if kept l= [] then written t else shown l++32::written t:=by
 unfold shown;rw[ZmW];split
 {rfl}
 {rw[List.map_append,List.map_cons,List.map_nil,Zie];simp}
theorem Zgl {l:List Tok} (h:mayShow l):shown l= [] ↔ kept l= []:=by
 constructor
 {intro a;by_cases b:kept l= []
  {exact b}
  {exfalso;refine Zpe _ (by simpa using b) (fun p hp=> ?_) a;obtain ⟨t,g,rfl⟩:=List.mem_map.1 hp;obtain ⟨d,e⟩:=List.mem_filter.1 g;rcases h t d with rfl | f
   {simp at e}
   {obtain ⟨c,r,hw,_⟩:=f;rw[hw]; simp}}}
 {intro a; unfold shown; rw[a]; rfl}
theorem ZgS {t:Tok} (h:t=endTok\/good t): (written t).length<=4096:=by
 rcases h with rfl | ⟨c,r,b,a,_⟩
 {decide}
 {rw[b]; exact a}
theorem join_len: ∀(a:List (List UInt8)),(∀p∈a,p.length<=4096)->(join a).length<=4097 * a.length
 | [],_=>Nat.zero_le _
 | [q],h=>by have:=h q (by simp); simp only[join,List.length_cons,List.length_nil]; omega
 | q::r::a,h=>by
  have b:=h q (by simp);have c:=join_len (r::a) (fun p hp=>h p (List.mem_cons_of_mem _ hp));show (q++32::join (r::a)).length<=_;rw[List.length_append,List.length_cons,List.length_cons (a:=q)];omega
theorem ZmX (l:List Tok) (h:mayShow l): (shown l).length<=4097 * l.length:=by
 have a:=join_len ((kept l).map written) (fun p hp=>by
  obtain ⟨t,c,rfl⟩:=List.mem_map.1 hp;exact ZgS (h t (List.mem_filter.1 c).1))
 have b: (kept l).length<=l.length:=List.length_filter_le _ _;rw[List.length_map] at a;unfold shown;exact Nat.le_trans a (Nat.mul_le_mul_left _ b)
end
end Lex
namespace Lex
def bl (j:Nat):UInt8:= [9,10,13,32].getD j 0
theorem Zof (c:UInt8) (h: ∀j,j < 4->c≠bl j):blank c=false:=by
 have a:=h 0 (by decide);have b:=h 1 (by decide);have d:=h 2 (by decide);have e:=h 3 (by decide);have f:bl 0=9:=rfl;have g:bl 1=10:=rfl;have i:bl 2=13:=rfl;have k:bl 3=32:=rfl;rw[f] at a; rw[g] at b; rw[i] at d; rw[k] at e;unfold blank;simp[a,b,d,e]
theorem Zog (j:Nat) (h:j < 4):blank (bl j)=true:=by
 have:j=0\/j=1\/j=2\/j=3:=by omega
 rcases this with rfl | rfl | rfl | rfl <;> rfl
end Lex
namespace Go.Proofs.YtgndehppmaacaaaGreatDoor
open Go.RowKit
theorem UpdB.refl (g B:Nat) (w:World):UpdB g B w w:=⟨Below.refl _ _,fun _ _ _ _=>⟨rfl,rfl⟩⟩
theorem UpdB.of {g B:Nat} {w w':World} (h:Below w.heap.size w w') (c:g<=w.heap.size) (a:B<=w.heap.size):UpdB g B w w':=
 ⟨h.mono c,fun b o hb _=>⟨h.cell (p:=⟨b,o,none⟩) (Nat.lt_of_lt_of_le hb a),h.frozen (p:=⟨b,o,none⟩) (Nat.lt_of_lt_of_le hb a)⟩⟩
theorem UpdB.trans {g B:Nat} {a b c:World} (h:UpdB g B a b) (k:UpdB g B b c):UpdB g B a c:=
 ⟨h.1.trans k.1,fun x o hx hne=>⟨(k.2 x o hx hne).1.trans (h.2 x o hx hne).1,(k.2 x o hx hne).2.trans (h.2 x o hx hne).2⟩⟩
theorem UpdB.move {g B:Nat} {w w':World} (h:UpdB g B w w') (a:Value) (j:Nat):UpdB g B w (w'.setCell ⟨g,j,none⟩ a):=
 ⟨h.1.setCell (p:=⟨g,j,none⟩) (Nat.le_refl _) _,fun x o hx hne=>by
  refine ⟨?_, ?_⟩
  {rw[World.cell?_setCell_other _ _ _ _ (fun e=>hne (congrArg Addr.block e).symm)]; exact (h.2 x o hx hne).1}
  · have:=(h.2 x o hx hne).2
    simpa[go_sem] using this⟩
theorem Box2.updB {W W':World} {g B c:Nat} {a b:Int} (h:Box2 W c a b) (d:UpdB g B W W') (n:c≠g) (m:c < B):Box2 W' c a b:=by
 obtain ⟨e,f,i,j,l⟩:=h;have k:=fun o=>d.2 c o m n;exact ⟨Nat.lt_of_lt_of_le e d.1.size,(k 0).1.trans f,(k 1).1.trans i,(k 0).2.trans j,(k 1).2.trans l⟩
def tkOf (l:List (Lex.Tok×Nat)):List Tk:=l.map fun x=>⟨x.1,(x.2:Int)⟩
theorem ZdG (l:List (Lex.Tok×Nat)): (tkOf l).length=l.length:=by simp[tkOf]
theorem Zey (a b:List (Lex.Tok×Nat)):tkOf (a++b)=tkOf a++tkOf b:=by simp[tkOf]
theorem Zpf (ts:List Lex.Tok) (i:Nat):tkOf (ts.map fun t=>(t,i))=ts.map fun t=>⟨t,(i:Int)⟩:=by simp[tkOf]
structure Scan1 (g B:Nat) (s:List UInt8) (W0 wr:World) (i:Nat) (v:Value) (pre:List (Lex.Tok×Nat)):Prop where
 t:ScanT wr g B s i v (tkOf pre)
 u:UpdB g B W0 wr
 le:i<=s.length
 len:pre.length<=i
 eq:Lex.toks s 0=Lex.joinR pre (Lex.toks (s.drop i) i)
def ScanE (g:Nat) (s:List UInt8) (w:World) (e:Ending) (w':World):Prop:=Below g w w'/\match Lex.toks s 0 with
 | .error (x,k)=>e= .returned (.agg #[.int .i64 x,.int .i64 (k:Int)])
 | .ok m=>e= .returned (.agg #[.int .i64 0,.int .i64 0])/\ ∃v',w'.cell? ⟨g,2,none⟩=some v'/\w'.ownsRow (w.heap.size+1) 46 3 v' (m.length+1) (cellsT (tkOf (m++ [(Lex.endTok,s.length)])))
theorem Zqn (a b:UInt8): ((a.toNat:Int)==(b.toNat:Int))=(a==b):=by
 rw[Bool.eq_iff_iff,beq_iff_eq,beq_iff_eq];exact ⟨fun h=>UInt8.toNat_inj.1 (by omega),fun h=>by rw[h]⟩
theorem Scan1.blank {g B:Nat} {s:List UInt8} {W0 d:World} {i:Nat} {v:Value} {a:List (Lex.Tok×Nat)} (h:Scan1 g B s W0 d i v a) (b:g < B) (c:i < s.length) (e:Lex.blank (s[i]'c)=true):
 Scan1 g B s W0 (d.setCell ⟨g,1,none⟩ (.int .i64 ((i+1:Nat):Int))) (i+1) v a:=
 ⟨h.t.move b (i+1),h.u.move _ 1,c,by have:=h.len; omega,by rw[h.eq,List.drop_eq_getElem_cons c,Lex.Z0s e]⟩
section
variable {g B : Nat} {s : List UInt8} {W0 wr : World} {i : Nat} {v : Value} {pre : List (Lex.Tok × Nat)} (h : Scan1 g B s W0 wr i v pre)
include g B s W0 wr i v pre h
theorem Scan1.draw (a:g < B) (n:Nat):Scan1 g B s W0 (wr.drewN n) i v pre:=
 ⟨h.t.keep (ZcN wr n),h.u.trans (UpdB.of (ZcN wr n) (Nat.le_of_lt h.t.at_.lt) h.t.le),h.le,h.len,h.eq⟩
theorem Scan1.step (f:i < s.length) (y:Lex.blank (s[i]'f)=false) {e:Ending} {w':World} (z:StepE g B s i v (tkOf pre) (Lex.piece (s.drop i)) wr e w'):
 UpdB g B W0 w'/\((∃x k,e= .returned (.agg #[.int .i64 x,.int .i64 ((k:Nat):Int)])/\Lex.toks s 0= .error (x,k)/\x≠0)\/(e= .returned (.agg #[.int .i64 0,.int .i64 0])/\ ∃p j pre',i < j/\Scan1 g B s W0 w' j p pre')):=by
 obtain ⟨C,b⟩:=z;have q:=h.u.trans (C.toB h.t);refine ⟨q, ?_⟩;have a:=Lex.ZfM (l:=s.drop i) (by intro e; have:=congrArg List.length e; rw[List.length_drop] at this; simp at this; omega) (fun c hc=>by
  obtain rfl:s[i]'f=c:=by simpa[List.getElem?_eq_getElem f] using hc
  exact y) i
 have d:=h.eq;cases r:Lex.piece (s.drop i) with
 | error x=>
  obtain ⟨x,k⟩:=x;rw[r] at b a;simp only at b a;refine Or.inl ⟨x,i+k,b,by rw[d,a]; rfl, ?_⟩;have A:Lex.toks s 0= .error (x,i+k):=by rw[d,a]; rfl
  have:=(Lex.Z4C _ _ _ _ _ (Nat.le_refl _) A).2;rcases this with h | h <;> rw[h] <;> decide
 | ok x=>
  obtain ⟨ts,n⟩:=x;rw[r] at b a;simp only at b a;obtain ⟨u,D,w,E⟩:=a;obtain ⟨m,p,o,_⟩:=b;rw[List.length_drop] at w;refine Or.inr ⟨m,p,i+n,pre++ts.map (fun t=>(t,i)),by omega,⟨by rw[Zey,Zpf]; exact o,q,by omega,by rw[List.length_append,List.length_map]; have:=h.len; omega, ?_⟩⟩;rw[d,u,Lex.ZgQ,List.drop_drop]
end
theorem Globs.upd {a w w':World} {g:Nat} (h:Globs a) (b:Below a.heap.size a w) (d:Below g w w') (c:a.heap.size<=g):Globs w':=h.next (b.trans (d.mono c))
theorem ZmY (g:Nat) (s:List UInt8) (hs:s.length<=4096) (V:World) (hg:Globs V) (w:World) (hb0:Below V.heap.size V w) (P:V.heap.size<=g) (h:ScanAt w g s 0) (N:w.cell? ⟨g,2,none⟩=some (.slice none 0 0)):
 Calls Tryz.prog 62 #[.pointer (some ⟨g,0,none⟩)] w (ScanE g s w):=by
 have u:=Z01 w (.cells Yc 31);have HX:=Y1 (ZcG w 0 0);have HG:=Y1 hg;have I:=Y1 (hb0.trans (u.mono (Nat.le_trans P (Nat.le_of_lt h.lt))));have f:=h.lt;have q:g < w.heap.size+1:=by omega
 have B:=Y1 u;have HS:Hid (Scan1 g (w.heap.size+1) s (w.alloc (.cells Yc 31)) (w.alloc (.cells Yc 31)) 0 (.slice none 0 0) []):=Y1
  ⟨⟨h.keep h.lt u,(u.cell (p:=⟨g,2,none⟩) h.lt).trans N,World.ownsRow_nil _ _ _ _,by simp⟩,UpdB.refl _ _ _,Nat.zero_le _,Nat.le_refl _,by rw[Lex.Zgi]; rfl⟩
 clear hb0 u h N hg;go_enter Tryz.func62,Tryz.ntmps62
 go_wp2_with fail
 generalize hW:w.alloc (.cells Yc 31)=W0 at HX I HS B ⊢;clear hW
 go_step3
 go_wp2_with fail
 go_step3
 go_wp2_with fail
 go_loopw [4] (fun _ wr=> ∃(i:Nat) (v:Value) (pre:List (Lex.Tok×Nat)),Hid (Scan1 g (w.heap.size+1) s W0 wr i v pre))
  (fun _ wr=>s.length - (match wr.cell? ⟨g,1,none⟩ with | some (.int _ n)=>n.toNat | _=>0))
 case atStart=>exact ⟨0,_,_,HS⟩
 case round=>
  obtain ⟨i,v,pre,b⟩:=hrel;have O:=b.out.t.at_.c1;have J:=Y1 O;clear O;by_cases y:i < s.length
  {have G: ((i:Int)==(s.length:Int))=false:=by rw[beq_eq_false_iff_ne]; omega
   have X:=Y1 (Zfc g s i y);obtain ⟨c,hc⟩: ∃c,c=s[i]'y:=⟨_,rfl⟩;rw[<-hc] at X;have HC:=Y1 hc;clear hc
   go_wp2_with fail
   refine (Zhm g s i _ b.out.t.at_).mono ?_;rintro e w2 ⟨rfl,U,rfl⟩;rw[G];have o:=Y1 (b.out.draw q U);generalize wr.drewN U=wr1 at o ⊢
   go_wp2_with fail
   go_loopw [10] (fun kk wx=> ∃k:Nat,kk= .int .i64 k/\k<=4/\Hid (∀j,j < k->c≠Lex.bl j)/\Hid (Scan1 g (w.heap.size+1) s W0 wx i v pre))
    (fun kk _=>4 - (intOf kk).toNat)
   case atStart=>exact ⟨0,rfl,by omega,Y1 (fun j hj=>absurd hj (by omega)),o⟩
   case round=>
    obtain ⟨k,rfl,hk,HN,l⟩:=hrel;clear o;by_cases S:k < 4
    {have a7: (k:Int) < 4:=by omega
     obtain ⟨d,hd⟩: ∃d,d=Lex.bl k:=⟨_,rfl⟩;have b6: ∀W,(Instr.index 9 (.string ⟨#[9,10,13,32]⟩) (.int .i64 (k:Int))).run Tryz.prog W= .ok (.int .u8 d.toNat) W:=fun W=>by
      have:=Z4P ⟨#[9,10,13,32]⟩ k S W;rw[this,hd];have:k=0\/k=1\/k=2\/k=3:=by omega
      rcases this with rfl | rfl | rfl | rfl <;> rfl
     have kd:=Zqn c d;have HD:=Y1 hd;clear hd;cases r: (c==d)
     {rw[r] at kd;have a0:Hid (∀j,j < k+1->c≠Lex.bl j):=Y1 (fun j hj=>by
       rcases Nat.lt_succ_iff_lt_or_eq.1 hj with h' | rfl
       {exact HN.out j h'}
       · rw[<-HD.out]; simpa using r)
      clear r
      go_wp2_with fail
      go_quiet ((go_at_call 102; exact Calls.quiet_of (X.out _ (l.out.t.at_.draw _))))
      go_wp2
      go_roundw
      case rel=>exact ⟨k+1,by go_num,by omega,a0,Y1 (l.out.draw q _)⟩
      case measure=>simp[intOf]; omega}
     {rw[r] at kd;have M:Lex.blank (s[i]'y)=true:=by
       rw[<-HC.out,beq_iff_eq.1 r,HD.out]; exact Lex.Zog k S
      have z:=Y1 M;obtain ⟨q1,q2,q3,q4,q5⟩:=l.out.t.at_;clear r M
      go_wp2_with fail
      go_quiet ((go_at_call 102; exact Calls.quiet_of (X.out _ (l.out.t.at_.draw _))))
      go_wp2
      go_roundw
      case rel=>exact ⟨i+1,v,pre,Y1 ((l.out.draw q _).blank q y z.out)⟩
      case measure=>
       rw[J.out];simp[go_sem,q3];exact Nat.sub_lt_sub_left y (Nat.lt_succ_self i)}}
    {have z:Hid (Lex.blank (s[i]'y)=false):=Y1 (by rw[<-HC.out]; exact Lex.Zof c (fun j hj=>HN.out j (by omega)));have a7: ¬(k:Int) < 4:=by omega
     have Y:=Y1 (HG.out.upd I.out l.out.u.1 P)
     go_wp2_with fail
     refine (Zoc g (w.heap.size+1) q s i y hs v (tkOf pre) (by rw[ZdG]; exact l.out.len) _ l.out.t Y.out).mono ?_;rintro e w3 h3;obtain ⟨C,F⟩:=l.out.step y z.out h3;have a3:=Y1 (HX.out.updB C (by omega) (by omega));have a1:=Y1 C;clear h3 C;rcases F with ⟨x,k2,rfl,ht,H⟩ | ⟨rfl,v',j,pre',d3,m⟩
     {have d6: (x==0)=false:=by simpa using H
      have d7: (x !=0)=true:=by simpa using H
      have A:=Y1 ht;clear ht H;obtain ⟨q0,x0,x1,y0,y1⟩:=a3.out;go_wp2;rw[Exit.noGoto_ret];refine bodyPost_ret (v:= .agg #[.int .i64 x,.int .i64 (k2:Int)]) (by simp[results,Tryz.results62,go_sem,x0,x1,q0]) rfl ?_;have E:Below g w w3:=(B.out.mono (Nat.le_of_lt f)).trans a1.out.1;refine ⟨(((E.setCell (p:=⟨w.heap.size,0,none⟩) (Nat.le_of_lt f) _).setCell (p:=⟨w.heap.size,1,none⟩) (Nat.le_of_lt f) _).alloc (by simp; omega) _), ?_⟩;rw[A.out]}
     {have d1:=Y1 m;have D:=Z01 w3 (.cells Yc 31);have t:Hid (Scan1 g (w.heap.size+1) s W0 (w3.alloc (.cells Yc 31)) j v' pre'):=Y1 ⟨m.t.keep D,m.u.trans (UpdB.of D (Nat.le_of_lt m.t.at_.lt) m.t.le),m.le,m.len,m.eq⟩;clear m D;go_wp2
      go_roundw
      case rel=>exact ⟨j,v',pre',t⟩
      case measure=>
       rw[J.out,t.out.t.at_.c1];simp;omega}}}
  {have G: ((i:Int)==(s.length:Int))=true:=by rw[beq_iff_eq]; have:=b.out.le; omega
   have Q:i=s.length:=by have:=b.out.le; omega
   have A:Hid (Lex.toks s 0= .ok pre):=Y1 (by rw[b.out.eq,List.drop_eq_nil_of_le (by omega),Lex.Z6h]; simp[Lex.joinR]);have Z:=Y1 Q;have d4:=b.out.len;have b7:i<=s.length:=b.out.le;clear Q
   go_wp2_with fail
   refine (Zhm g s i _ b.out.t.at_).mono ?_;rintro e w2 ⟨rfl,U,rfl⟩;rw[G];have o:=Y1 (b.out.draw q U);generalize wr.drewN U=wr1 at o ⊢
   go_wp2_with fail
   refine (Zgh g (w.heap.size+1) q s i v (tkOf pre) (by rw[ZdG]; omega) 0 [] 0 (by omega) _ o.out.t).mono ?_;rintro e w5 ⟨rfl,⟨v',L,a8⟩,T⟩;have K:=Y1 (o.out.u.trans (T.toB o.out.t));have a4:=Y1 (HX.out.updB K.out (by omega) (by omega));have t:=Y1 L;clear L a8 T;obtain ⟨q0,x0,x1,y0,y1⟩:=a4.out;go_wp2;rw[Exit.noGoto_ret];refine bodyPost_ret (v:= .agg #[.int .i64 0,.int .i64 0]) (by simp[results,Tryz.results62,go_sem,x0,x1]) rfl ?_;have E:Below g w w5:=(B.out.mono (Nat.le_of_lt f)).trans K.out.1;refine ⟨(E.setCell (p:=⟨w.heap.size,0,none⟩) (Nat.le_of_lt f) _).setCell (p:=⟨w.heap.size,1,none⟩) (Nat.le_of_lt f) _, ?_⟩;rw[A.out];have hn: ∀k,(⟨w.heap.size,k,none⟩:Addr)≠⟨g,2,none⟩:=fun k e=>by have:=congrArg Addr.block e; simp at this; omega
   refine ⟨rfl,v', ?_, ?_⟩
   {rw[World.cell?_setCell_other _ _ _ _ (hn 1),World.cell?_setCell_other _ _ _ _ (hn 0)]; exact t.out.c2}
   {have ho:=t.out.own;rw[List.length_append,ZdG] at ho;rw[Zey];have e:tkOf [(Lex.endTok,s.length)]= [⟨⟨0,[]⟩,(i:Int)⟩]:=by rw[<-Z.out]; rfl
    rw[e];exact ownsRow_setCell_below (a:=⟨w.heap.size,1,none⟩) (ownsRow_setCell_below (a:=⟨w.heap.size,0,none⟩) ho (Nat.lt_succ_self _) _) (Nat.lt_succ_self _) _}}
end Go.Proofs.YtgndehppmaacaaaGreatDoor
namespace Go.Proofs.YtgndehppmaacaaaGreatDoor
section
open Go.RowKit
def ScanV (s:List UInt8) (w:World) (e:Ending) (w':World):Prop:= ∃(A:Option Addr) (cap:Nat) (l:List Tk) (a b:Int),e= .returned (.tuple #[.slice A l.length cap,.agg #[.int .i64 a,.int .i64 b]])/\
 w'.ownsRow w.heap.size 46 3 (.slice A l.length cap) l.length (cellsT l)/\Below w.heap.size w w'/\match Lex.scanR s with
 | .error (x,k)=>l= []/\a=x/\b=(k:Int)
 | .ok m=>l=tkOf m/\a=0/\b=0
theorem Zhp {s:List UInt8} (h:4096 < s.length):Lex.scanR s= .error (3,4096):=by unfold Lex.scanR; rw[if_pos h]
theorem Zhq {s:List UInt8} (h:s.length<=4096):Lex.scanR s=match Lex.toks s 0 with
 | .error x=> .error x
 | .ok l=> .ok (l++ [(Lex.endTok,s.length)]):=by unfold Lex.scanR; rw[if_neg (by omega)]; rfl
theorem ZlG (s:List UInt8) (a:4096 < s.length) (d:s.length<=9223372036854775807) (w:World):
 Calls Tryz.prog 35 #[.string ⟨s.toArray⟩] w (ScanV s w):=by
 have e: (⟨s.toArray⟩:ByteArray).size=s.length:=Z0J _;have c: (4096:Int) < (s.length:Int):=by omega
 have b:=Y1 (Zhp a);clear a;go_enter Tryz.func35,Tryz.ntmps35;go_wp2;refine bodyPost_ret (v:= .tuple #[.slice none 0 0,.agg #[.int .i64 3,.int .i64 4096]]) (by simp[results,Tryz.results35,go_sem]) rfl ?_;refine ⟨none,0,[],3,4096,rfl,World.ownsRow_nil _ _ _ _,Z01 _ _, ?_⟩;rw[b.out];exact ⟨rfl,rfl,rfl⟩
theorem Zoh (W:World) (s:List UInt8):ScanAt (W.alloc (.cells #[.string ⟨s.toArray⟩,.int .i64 0,.slice none 0 0] 97)) W.heap.size s 0:=
 ⟨by simp,by simp[go_sem],by simp[go_sem],by simp[go_sem],by simp[go_sem]⟩
theorem ZmZ (W:World) (s:List UInt8): (W.alloc (.cells #[.string ⟨s.toArray⟩,.int .i64 0,.slice none 0 0] 97)).cell? ⟨W.heap.size,2,none⟩=some (.slice none 0 0):=by simp[go_sem]
theorem Zkf (s:List UInt8) (T:s.length<=4096) (w:World) (U:Globs w):
 Calls Tryz.prog 35 #[.string ⟨s.toArray⟩] w (ScanV s w):=by
 have hz: (⟨s.toArray⟩:ByteArray).size=s.length:=Z0J _;have h1: ¬(4096:Int) < (s.length:Int):=by omega
 have q:=Y1 (Zhq T);have hb0:=Z01 w (.cells Yc 31);have y:=Y1 (ZcG w 0 0);have F:=Y1 (U.next hb0);have t:=Y1 hb0;clear hb0 U;go_enter Tryz.func35,Tryz.ntmps35
 go_wp2_with fail
 have r:Hid ((w.alloc (.cells Yc 31)).heap.size=w.heap.size+1):=Y1 (by simp);generalize hW:w.alloc (.cells Yc 31)=W0 at y F t r ⊢;clear hW;have M:=Zoh W0 s;have K:=ZmZ W0 s;rw[r.out] at M K;have D:=Y1 M;have E:=Y1 K;clear M K;have d:=Y1 (Z01 W0 (.cells #[.string ⟨s.toArray⟩,.int .i64 0,.slice none 0 0] 97))
 go_wp2_with fail
 generalize hW:W0.alloc (.cells #[.string ⟨s.toArray⟩,.int .i64 0,.slice none 0 0] 97)=W1 at D E d ⊢;clear hW;refine (ZmY (w.heap.size+1) s T W0 F.out W1 d.out (Nat.le_of_eq r.out) D.out E.out).mono ?_;rintro e X ⟨i,b⟩;have u:Hid (Below W0.heap.size W0 X):=Y1 (d.out.trans (i.mono (Nat.le_of_eq r.out)));have f:=Y1 (Z03 t.out u.out);have z:=Y1 (y.out.keep (B:=W0.heap.size) y.out.1 u.out);have I:=y.out.1;have J:=D.out.lt;have n:=i.size;have N:=r.out;have V:w.heap.size+1 < X.heap.size:=by omega
 clear i y F D E N J I n;cases C:Lex.toks s 0 with
 | error x=>
  obtain ⟨x,k⟩:=x;rw[C] at b q;simp only at b q;subst b;have o:x≠0:=by
   rcases (Lex.Z4C _ _ _ _ _ (Nat.le_refl _) C).2 with h | h <;> rw[h] <;> decide
  have a0: (x==0)=false:=by simpa using o
  have a1: (x !=0)=true:=by simpa using o
  obtain ⟨P,x0,x1,y0,y1⟩:=z.out;clear C o
  go_wp2_with fail
  go_region
  all_goals
   go_wp2;refine bodyPost_ret (v:= .tuple #[.slice none 0 0,.agg #[.int .i64 x,.int .i64 (k:Int)]]) (by simp[results,Tryz.results35,go_sem,x0,x1,P]) rfl ?_;refine ⟨none,0,[],x,(k:Int),rfl,World.ownsRow_nil _ _ _ _,(((f.out.setCell (p:=⟨w.heap.size,0,none⟩) (Nat.le_refl _) _).setCell (p:=⟨w.heap.size,1,none⟩) (Nat.le_refl _) _).alloc (by have:=f.out.size; simp; omega) _).drew, ?_⟩;rw[q.out];exact ⟨rfl,rfl,rfl⟩
 | ok m=>
  rw[C] at b q;simp only at b q;obtain ⟨rfl,Q,Z,g⟩:=b;have S:=Y1 g;obtain ⟨P,x0,x1,y0,y1⟩:=z.out;clear C g;obtain ⟨H,cap,l,_,L⟩:=S.out.form (Nat.succ_pos _);have c: (tkOf (m++ [(Lex.endTok,s.length)])).length=m.length+1:=by rw[ZdG,List.length_append]; rfl
  have A:=d.out.size;have O:=r.out;have G:Hid (∀W:World,(∃B,W.ownsRow B 46 3 Q (m.length+1) (cellsT (tkOf (m++ [(Lex.endTok,s.length)])))/\w.heap.size<=B)->W.ownsRow w.heap.size 46 3 (.slice (some ⟨H,0,none⟩) (tkOf (m++ [(Lex.endTok,s.length)])).length cap) (tkOf (m++ [(Lex.endTok,s.length)])).length (cellsT (tkOf (m++ [(Lex.endTok,s.length)])))):=Y1 (fun W ⟨B,h,hB⟩=>by rw[c, <-l]; exact Zec h hB);have Y:Hid (Q= .slice (some ⟨H,0,none⟩) (tkOf (m++ [(Lex.endTok,s.length)])).length cap):=Y1 (by rw[c]; exact l);have j:Hid (w.heap.size < W1.heap.size+1):=Y1 (by omega);clear l c A O L;go_wp2;refine bodyPost_ret (v:= .tuple #[Q,.agg #[.int .i64 0,.int .i64 0]]) (by simp[results,Tryz.results35,go_sem,x0,x1,P]) rfl ?_;refine ⟨some ⟨H,0,none⟩,cap,tkOf (m++ [(Lex.endTok,s.length)]),0,0,by rw[Y.out],G.out _ ⟨W1.heap.size+1, ?_,Nat.le_of_lt j.out⟩,((f.out.setCell (p:=⟨w.heap.size,0,none⟩) (Nat.le_refl _) _).setCell (p:=⟨w.heap.size,1,none⟩) (Nat.le_refl _) _).alloc (by have:=f.out.size; simp; omega) _, ?_⟩
  {exact Z0K (ownsRow_setCell_below (a:=⟨w.heap.size,1,none⟩) (ownsRow_setCell_below (a:=⟨w.heap.size,0,none⟩) S.out j.out _) j.out _) (Z01 _ _)}
  {rw[q.out];exact ⟨rfl,rfl,rfl⟩}
theorem Zfd (s:List UInt8) (c:s.length<=9223372036854775807) (w:World) (b:Globs w):
 Calls Tryz.prog 35 #[.string ⟨s.toArray⟩] w (ScanV s w):=by
 by_cases a:s.length<=4096
 {exact Zkf s a w b}
 {exact ZlG s (by omega) c w}
end
end Go.Proofs.YtgndehppmaacaaaGreatDoor
namespace Pse
section
open Pso
open Prs (look sign no Flt upper tm num)
open Go.Proofs.YtgndehppmaacaaaGreatDoor (Tk)
open Shp (Sh)
open Tms (Tm)
def Ends (l:List Tk):Prop:=0 < l.length/\ ∀i,l.length - 1<=i->(look l i).t.kind=0
theorem sign_lt {l:List Tk} {i:Nat} {s:List UInt8} (h:sign l i s=true): (look l i).t.kind≠0:=by
 unfold sign at h;simp only[Bool.and_eq_true,Bool.or_eq_true,decide_eq_true_eq] at h;rcases h.2 with h | h <;> rw[h] <;> decide
theorem kind_lt {l:List Tk} {i:Nat} (h: (look l i).t.kind≠0): (look l i).t.kind≠0:=h
def Ok (l:List Tk) (σ:St):Prop:=Ends l/\σ.1<=l.length/\(σ.2.1≠0->σ.1=l.length)/\(σ.2.1=0->σ.1 < l.length)
def To (l:List Tk) (σ τ:St):Prop:=Ok l τ/\σ.1<=τ.1/\(σ.2.1≠0->τ.2=σ.2)
section
variable {l : List Tk}
include l
theorem To.trans {a b c:St} (h:To l a b) (k:To l b c):To l a c:=
 ⟨k.1,Nat.le_trans h.2.1 k.2.1,fun hf=>by have:=h.2.2 hf; rw[k.2.2 (by rw[this]; exact hf),this]⟩
theorem To.refl {a:St} (h:Ok l a):To l a a:=⟨h,Nat.le_refl _,fun _=>rfl⟩
theorem to_fail {σ:St} (h:Ok l σ) {e:Int} (d:e≠0) (a:Int):To l σ (fail l σ e a):=by
 have c: (fail l σ e a).2.1≠0:=by
  unfold fail;by_cases b:σ.2.1=0
  {rw[if_pos b]; exact d}
  {rw[if_neg b]; exact b}
 refine ⟨⟨h.1,Nat.le_refl _,fun _=>rfl,fun h0=>absurd h0 c⟩,h.2.1,fun b=> ?_⟩;unfold fail; rw[if_neg b]
theorem to_misfit {σ:St} (h:Ok l σ):To l σ (misfit l σ):=to_fail h (by decide) _
theorem to_next {σ:St} (h:Ok l σ) (b: (look l σ.1).t.kind≠0):To l σ (σ.1+1,σ.2):=by
 have a:σ.1+1 < l.length:=by
  rcases Nat.lt_or_ge σ.1 (l.length - 1) with a | a
  {omega}
  {exact absurd (h.1.2 _ a) b}
 exact ⟨⟨h.1,Nat.le_of_lt a,fun hf=>absurd (h.2.2.1 hf) (by omega),fun _=>a⟩,Nat.le_succ _,fun _=>rfl⟩
theorem to_want {σ:St} (h:Ok l σ) (s:List UInt8):To l σ (want l σ s):=by
 unfold want;split
 {next hs=>exact to_next h (sign_lt hs)}
 {exact to_misfit h}
theorem to_text {σ:St} (h:Ok l σ) {k:Int} (a:k≠0) (b:List UInt8->Bool):To l σ (textOf l σ k b).2:=by
 unfold textOf;split
 {next hs=>
  simp only[Bool.and_eq_true,decide_eq_true_eq] at hs;exact to_next h (kind_lt (by rw[hs.1]; exact a))}
 {exact to_misfit h}
theorem to_name {σ:St} (h:Ok l σ):To l σ (name l σ).2:=to_text h (by decide) _
theorem to_upper {σ:St} (h:Ok l σ):To l σ (upperN l σ).2:=to_text h (by decide) _
theorem to_another {σ:St} (h:Ok l σ) (ns:List (List UInt8)):To l σ (another l σ ns).2:=by
 unfold another;simp only;split
 {exact (to_name h).trans (to_fail (to_name h).1 (by decide) _)}
 {exact to_name h}
end
section
variable {α : Type} {l : List Tk}
def Goes (l:List Tk) (f:St->α->St×α):Prop:= ∀σ a,Ok l σ->To l σ (f σ a).1
theorem to_loop {s:List UInt8} {f:St->α->St×α} (d:Goes l f): ∀n σ a,Ok l σ->To l σ (loop l s f n σ a).1
 | 0,σ,a,h=>To.refl h
 | n+1,σ,a,h=>by
  unfold loop;split
  {next hs=>
   have b:=to_next h (sign_lt hs);have c:=d _ a b.1;exact (b.trans c).trans (to_loop d n _ _ c.1)}
  {exact To.refl h}
theorem to_betw {o s e:List UInt8} {f:St->α->St×α} (g:Goes l f) {σ:St} (a:α) (h:Ok l σ):To l σ (betw l o s e f σ a).1:=by
 unfold betw;have b:=to_want h o;simp only;split
 {next hs=>exact b.trans (to_next b.1 (sign_lt hs))}
 {have c:=g _ a b.1;have d:=to_loop (s:=s) g (l.length+1) _ (f (want l σ o) a).2 c.1;exact ((b.trans c).trans d).trans (to_want d.1 e)}
end
def Ty (l:List Tk) {α:Type} (ty:St->α×St):Prop:= ∀σ,Ok l σ->To l σ (ty σ).2
variable {l : List Tk} {ty : St -> Sh × St} {ex : St -> Tm × St}
theorem goes_fields (h:Ty l ty):Goes l (fieldsR l ty):=fun σ a hs=>by
 have b:=to_another hs a.1;have c:=to_want b.1 [58];exact (b.trans c).trans (h _ c.1)
theorem goes_parts (h:Ty l ty):Goes l (partsR l ty):=fun σ a hs=>h σ hs
theorem to_bodyT (h:Ty l ty):Ty l (bodyT l ty):=fun σ hs=>by
 unfold bodyT;split
 {next hx=>
  have a:=to_next hs (sign_lt hx);have b:=h _ a.1;exact (a.trans b).trans (to_want b.1 _)}
 {split
  {exact to_betw (goes_fields h) _ hs}
  {split
   {exact to_betw (goes_fields h) _ hs}
   {split
    {unfold funT;have a:=to_betw (o:= [40]) (s:= [44]) (e:= [41]) (goes_parts h) [] hs;have b:=to_want a.1 [45,62];exact (a.trans b).trans (h _ b.1)}
    {split
     {unfold othersT;have a:=to_name hs;have b:=to_want a.1 [47];exact (a.trans b).trans (to_upper b.1)}
     {exact to_upper hs}}}}}
theorem to_anyT: ∀n,Ty l (anyT l n)
 | 0=>fun σ h=>to_misfit h
 | n+1=>to_bodyT (to_anyT n)
theorem to_wholeT:Ty l (wholeT l):=fun σ h=>by
 have a:=to_anyT (l.length+1) σ h;unfold wholeT;simp only;split
 {exact a}
 {next hc=>exact a.trans (to_fail a.1 hc _)}
theorem to_begin {σ:St} (h:Ok l σ):To l σ (begin_ l σ):=by
 unfold begin_;split
 {exact to_misfit h}
 {exact To.refl h}
theorem goes_binds:Goes l (bindsR l):=fun σ a hs=>by
 have b:=to_another hs a.1;have c:=to_want b.1 [58];exact (b.trans c).trans (to_wholeT _ c.1)
section
variable (h : Ty l ex)
include h
theorem goes_args:Goes l (argsR l ex):=fun σ a hs=>h σ hs
theorem goes_rec:Goes l (recR l ex):=fun σ a hs=>by
 have b:=to_another hs a.1;have c:=to_want b.1 [61];exact (b.trans c).trans (h _ c.1)
theorem goes_way:Goes l (wayR l ex):=fun σ a hs=>by
 have b:=to_another hs a.names;have c:=to_want b.1 [40];have d:=to_name c.1;have e:=to_want d.1 [58];have f:=to_wholeT _ e.1;have g:=to_want f.1 [41];have i:=to_want g.1 [45,62];exact ((((((b.trans c).trans d).trans e).trans f).trans g).trans i).trans (h _ i.1)
theorem to_fun (a:Int):Ty l (fun σ=>funE l ex σ a):=fun σ hs=>by
 have b:=to_betw (o:= [40]) (s:= [44]) (e:= [41]) (goes_binds (l:=l)) ([],[]) hs;have c:=to_want b.1 [45,62];exact (b.trans c).trans (h _ c.1)
theorem to_let (a:Int):Ty l (fun σ=>letE l ex σ a):=fun σ hs=>by
 have b:=to_name hs;have c:=to_want b.1 [61];have d:=h _ c.1;have e:=to_want d.1 [105,110];exact (((b.trans c).trans d).trans e).trans (h _ e.1)
theorem to_choice (a:Int):Ty l (fun σ=>choiceE l ex σ a):=fun σ hs=>by
 have b:=h _ hs;have c:=to_want b.1 [116,104,101,110];have d:=h _ c.1;have e:=to_want d.1 [101,108,115,101];have f:=h _ e.1;have g:=to_want f.1 [97,115];exact (((((b.trans c).trans d).trans e).trans f).trans g).trans (to_wholeT _ g.1)
theorem to_match (a:Int):Ty l (fun σ=>matchE l ex σ a):=fun σ hs=>by
 have b:=h _ hs;have c:=to_want b.1 [111,102];have d:=to_betw (o:= [123]) (s:= [124]) (e:= [125]) (goes_way h) ⟨[],[],[],[(ex σ).1]⟩ c.1;have f:=to_want d.1 [97,115];exact (((b.trans c).trans d).trans f).trans (to_wholeT _ f.1)
theorem to_list (a:Int):Ty l (fun σ=>listE l ex σ a):=fun σ hs=>by
 have b:=to_betw (o:= [91]) (s:= [44]) (e:= [93]) (goes_args h) [] hs;have c:=to_want b.1 [111,102];exact (b.trans c).trans (to_wholeT _ c.1)
theorem to_of (k:Int) (d:List UInt8) (a:Int):Ty l (fun σ=>ofE l ex k d σ a):=fun σ hs=>by
 have b:=to_want hs [40];have c:=h _ b.1;exact (b.trans c).trans (to_want c.1 _)
theorem to_enclosed (a:Int):Ty l (fun σ=>enclosedE l ex σ a):=fun σ hs=>by
 have b:=h _ hs;show To l σ (enclosedE l ex σ a).2;unfold enclosedE;simp only;split
 {next hx=>
  have c:=to_next b.1 (sign_lt hx);have d:=to_wholeT _ c.1;exact ((b.trans c).trans d).trans (to_want d.1 _)}
 {exact b.trans (to_want b.1 _)}
end
theorem to_value (a:Int):Ty l (fun σ=>valueE l σ a):=fun σ hs=>by
 have b:=to_name hs;show To l σ (valueE l σ a).2;unfold valueE;simp only;split
 {next hx=>
  have c:=to_next b.1 (sign_lt hx);exact (b.trans c).trans (to_name c.1)}
 {exact b}
theorem to_atom (h:Ty l ex) (a:Int):Ty l (fun σ=>atomE l ex σ a):=fun σ hs=>by
 show To l σ (atomE l ex σ a).2;unfold atomE;simp only;split
 {next hx=>exact to_next hs (sign_lt hx)}
 split
 {next hx=>exact to_next hs (sign_lt hx)}
 split
 {next hx=>
  have b:=to_next hs (sign_lt hx);exact b.trans (to_enclosed h a _ b.1)}
 split
 {exact to_betw (goes_rec h) ([],[]) hs}
 split
 {next hx=>
  have b:=to_next hs (sign_lt hx);have c:=to_name b.1;exact (b.trans c).trans (to_of h _ _ a _ c.1)}
 split
 {next hx=>
  have b:=to_next hs (sign_lt hx);have c:=to_upper b.1;exact (b.trans c).trans (to_of h _ _ a _ c.1)}
 split
 {next hx=>
  have b:=to_next hs (sign_lt hx);have c:=to_upper b.1;exact (b.trans c).trans (to_of h _ _ a _ c.1)}
 split
 {exact to_text hs (by decide) _}
 split
 {exact to_text hs (by decide) _}
 {exact to_value a _ hs}
theorem to_chainL (h:Ty l ex) (a:Int): ∀n σ t,Ok l σ->To l σ (chainL l ex a n σ t).2
 | 0,σ,t,hs=>To.refl hs
 | n+1,σ,t,hs=>by
  unfold chainL;split
  {have b:=to_betw (o:= [40]) (s:= [44]) (e:= [41]) (goes_args h) [t] hs;exact b.trans (to_chainL h a n _ _ b.1)}
  {split
   {next hx=>
    have b:=to_next hs (sign_lt hx);have c:=to_name b.1;exact (b.trans c).trans (to_chainL h a n _ _ c.1)}
   {exact To.refl hs}}
theorem to_chain (h:Ty l ex) (a:Int):Ty l (fun σ=>chainE l ex σ a):=fun σ hs=>by
 have b:=to_atom h a _ hs;exact b.trans (to_chainL h a _ _ _ b.1)
theorem to_bodyE (h:Ty l ex):Ty l (bodyE l ex):=fun σ hs=>by
 have a:=to_begin hs;unfold bodyE;simp only;split
 {next hx=>
  have b:=to_next a.1 (sign_lt hx);exact (a.trans b).trans (to_fun h _ _ b.1)}
 split
 {next hx=>
  have b:=to_next a.1 (sign_lt hx);exact (a.trans b).trans (to_let h _ _ b.1)}
 split
 {next hx=>
  have b:=to_next a.1 (sign_lt hx);exact (a.trans b).trans (to_choice h _ _ b.1)}
 split
 {next hx=>
  have b:=to_next a.1 (sign_lt hx);exact (a.trans b).trans (to_match h _ _ b.1)}
 split
 {exact a.trans (to_list h _ _ a.1)}
 {exact a.trans (to_chain h _ _ a.1)}
theorem to_expr: ∀n,Ty l (expr l n)
 | 0=>fun σ h=>to_misfit h
 | n+1=>to_bodyE (to_expr n)
end
end Pse
