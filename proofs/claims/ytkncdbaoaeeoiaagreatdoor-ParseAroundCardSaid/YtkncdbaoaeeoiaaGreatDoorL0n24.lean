/- What the proofs of ParseAround want, part 24. -/
import Derived.Test.YtkncdbaoaeeoiaaGreatDoorL0n16
import Derived.Test.YtkncdbaoaeeoiaaGreatDoorL0n23
set_option linter.unusedVariables false
set_option linter.unusedSimpArgs false
set_option linter.unusedSectionVars false
set_option maxRecDepth 100000
set_option maxHeartbeats 16000000
namespace Go.Proofs.YtkncdbaoaeeoiaaGreatDoor
section
open Go.RowKit
def ShowV (l:List Lex.Tok) (e:Ending):Prop:=(Lex.mayShow l/\e= .returned (.tuple #[.string ⟨(Lex.shown l).toArray⟩,.int .i64 0]))\/(¬Lex.mayShow l/\e= .returned (.tuple #[.string ⟨#[]⟩,.int .i64 60]))
theorem Z8V {l:List Lex.Tok} {t:Lex.Tok} (h:Lex.mayShow l) (b:t=Lex.endTok\/Lex.good t):Lex.mayShow (l++ [t]):=fun x a=>by
 rcases List.mem_append.1 a with a | a
 {exact h x a}
 {obtain rfl:x=t:=by simpa using a
  exact b}
theorem Z7I {l:List Tk} {k:Nat} (h:k < l.length): (l.map (·.t)).take (k+1)=(l.map (·.t)).take k++ [(l[k]'h).t]:=by
 rw[List.take_succ_eq_append_getElem (by simpa using h)]; simp
theorem ZbV (A:Option Addr) (cap:Nat) (l:List Tk) (w:World) (hA:Tks w w.heap.size A l) (hl:l.length<=10000) (hs: ∀b∈l,b.t.text.length<=100000) (hg:Globs w):
 Calls Tryz.prog 181 #[.slice A l.length cap] w fun e w'=>ShowV (l.map (·.t)) e/\Below w.heap.size w w':=by
 have HA:=Y1 hA;have HS:=Y1 hs;have HG:=Y1 hg;have HF:=Y1 (Lib.fresh_isBuilder 218 5 w);obtain ⟨ts,F⟩: ∃ts,ts=l.map (·.t):=⟨_,rfl⟩;have a1:ts.length=l.length:=by rw[F]; simp
 have V:=Y1 F;have U:=Y1 a1;rw[<-F];clear hA hs hg F a1;go_enter Tryz.func181,Tryz.ntmps181
 go_wp2_with fail
 go_loopw [10] (fun ii wr=> ∃k:Nat,ii= .int .i64 k/\k<=l.length/\Hid (Lex.mayShow (ts.take k))/\Hid (Lib.IsBuilder 218 5 w.heap.size w.heap.size (Lib.byteCells (Lex.shown (ts.take k))) wr)/\Hid (Below w.heap.size w wr))
  (fun ii _=>l.length - (intOf ii).toNat)
 case atStart=>exact ⟨0,rfl,Nat.zero_le _,Y1 (fun x I=>by rw[List.take_zero] at I; cases I),Y1 (by rw[List.take_zero]; exact HF.out),Y1 (Z01 _ _)⟩
 case round=>
  obtain ⟨k,rfl,hk,Q,HU,HB⟩:=hrel;clear HF;have O:=Lex.Zdk _ Q.out;rw[List.length_take,U.out] at O;have d2: (Lex.shown (ts.take k)).length<=4097 * 10000:=Nat.le_trans O (Nat.mul_le_mul_left _ (by omega));clear O;by_cases E:k < l.length
  {have b5: (k:Int) < (l.length:Int):=by omega
   rcases HA.out.keep HB.out (Nat.le_refl _) with h0 | ⟨g,off,rfl,d6,hc⟩
   {omega}
   {obtain ⟨p0,p1,p2⟩:=hc k E;obtain ⟨x,I⟩: ∃x,x=l[k]'E:=⟨_,rfl⟩;rw[<-I] at p0 p1 p2;have d7:x.t.text.length<=100000:=by rw[I]; exact HS.out _ (List.getElem_mem _)
    have S:Hid (ts.take (k+1)=ts.take k++ [x.t]):=Y1 (by rw[V.out,I]; exact Z7I E);have a3:x.t∈ts:=by rw[V.out,I]; exact List.mem_map.2 ⟨_,List.getElem_mem E,rfl⟩
    have b3:=Y1 a3;have HN:=Y1 (Zdo wr x);have C:Hid (wr.heap.size < (wr.alloc (.cells #[.int .i64 x.t.kind,.string ⟨x.t.text.toArray⟩,.int .i64 x.at_] 54)).heap.size):=Y1 (by simp);have N:=Z01 wr (.cells #[.int .i64 x.t.kind,.string ⟨x.t.text.toArray⟩,.int .i64 x.at_] 54);have K:=Y1 (Z1p HU.out N);have J:=Y1 (Z00 HB.out N);clear I hc a3 N
    go_wp2_with fail
    generalize hW:wr.alloc (.cells #[.int .i64 x.t.kind,.string ⟨x.t.text.toArray⟩,.int .i64 x.at_] 54)=W1 at HN C K J ⊢;clear hW p0 p1 p2;obtain ⟨H,q1,v⟩:=HN.out;simp only[Nat.zero_add] at q1 v
    try go_wp2_with fail
    refine (Z7B x.t.kind x.t.text (by omega) x.at_ _).mono ?_;rintro e w2 ⟨rfl,j⟩;clear H q1 v;have W: (⟨x.t.kind,x.t.text⟩:Lex.Tok)=x.t:=rfl;rw[W];have B:=Y1 (HN.out.keep C.out j);have r:Hid (wr.heap.size < w2.heap.size):=Y1 (Nat.lt_of_lt_of_le C.out j.size);have f:=Y1 (Z1p K.out j);have p:=Y1 (Z00 J.out j);have L:=Y1 (Lex.Z4Y x.t);have M:=Y1 (fun (b:Bool) (hb:b=true ↔ (x.t=Lex.endTok\/Lex.good x.t))=>Z9Z x.t x.at_ (by omega) b hb w2 (HG.out.next p.out));have D:=Y1 (Lex.ZbJ (ts.take k) x.t);obtain ⟨s,hs⟩: ∃s,s=Lex.written x.t:=⟨_,rfl⟩;rw[<-hs] at M L D ⊢;clear hs j HN C K J W;obtain ⟨H,q1,v⟩:=B.out;simp only[Nat.zero_add] at q1 v;by_cases m:x.t=Lex.endTok\/Lex.good x.t
    {have T:=Y1 (M.out true (by simp[m]));have HM2:Hid (Lex.mayShow (ts.take (k+1))):=Y1 (by rw[S.out]; exact Z8V Q.out m);have a8:=Y1 m;clear m;by_cases c:x.t=Lex.endTok
     {have b6: (x.t.kind==0)=true:=by rw[c]; rfl
      have t:Hid (Lex.shown (ts.take (k+1))=Lex.shown (ts.take k)):=Y1 (by rw[S.out,D.out,if_pos c]);clear c
      go_wp2_with fail
      refine T.out.mono ?_;rintro e w3 ⟨rfl,a⟩;have q:=Y1 (B.out.keep r.out a);have i:=Y1 (Z1p f.out a);have d:=Y1 (Z00 p.out a);clear H q1 v a;obtain ⟨H,q1,v⟩:=q.out;go_wp2
      go_roundw
      case rel=>exact ⟨k+1,by go_num,by omega,HM2,Y1 (by rw[t.out]; exact i.out),d⟩
      case measure=>simp[intOf]; omega}
     {have n:Lex.good x.t:=by
       rcases a8.out with h | h
       {exact absurd h c}
       {exact h}
      have b6: (x.t.kind==0)=false:=by rw[beq_eq_false_iff_ne]; have:=(Lex.Z4T n).1; omega
      by_cases o:Lex.kept (ts.take k)= []
      {have G: (Lex.shown (ts.take k)).length=0:=by rw[(Lex.Z4U Q.out).2 o]; rfl
       have t:Hid (Lex.shown (ts.take (k+1))=Lex.shown (ts.take k)++s):=Y1 (by rw[S.out,D.out,if_neg c,if_pos o,(Lex.Z4U Q.out).2 o]; rfl);have Y: ((Lib.byteCells (Lex.shown (ts.take k))).length:Int)=0:=by rw[Lib.byteCells_length,G]; rfl
       have a7:=Y1 Y;clear c n o G Y
       go_wp2_with fail
       refine T.out.mono ?_;rintro e w3 ⟨rfl,a⟩;have q:=Y1 (B.out.keep r.out a);have i:=Y1 (Z1p f.out a);have d:=Y1 (Z00 p.out a);clear H q1 v a;obtain ⟨H,q1,v⟩:=q.out
       go_wp2_with fail
       refine (Tryz.builder_len _ _ _ _ i.out).mono ?_;rintro e w4 ⟨Z,rfl⟩;rw[a7.out] at Z;subst Z
       go_wp2_with fail
       refine (Tryz.builder_write _ _ _ _ _ i.out (by rw[Z07,Lib.byteCells_length]; have:=L.out; omega) d.out.size).mono ?_;rintro e w5 ⟨rfl,hu5,u⟩;have HU5:Hid (Lib.IsBuilder 218 5 w.heap.size w.heap.size (Lib.byteCells (Lex.shown (ts.take (k+1)))) w5):=Y1 (Or.inr (by rw[t.out,Lib.byteCells_append]; exact hu5));have y:=Y1 (d.out.trans u);clear hu5 u;go_wp2
       go_roundw
       case rel=>exact ⟨k+1,by go_num,by omega,HM2,HU5,y⟩
       case measure=>simp[intOf]; omega}
      {have G:0 < (Lex.shown (ts.take k)).length:=by
        rcases Nat.eq_zero_or_pos (Lex.shown (ts.take k)).length with h | h
        {exact absurd ((Lex.Z4U Q.out).1 (List.eq_nil_of_length_eq_zero h)) o}
        {exact h}
       have t:Hid (Lex.shown (ts.take (k+1))=(Lex.shown (ts.take k)++ [32])++s):=Y1 (by rw[S.out,D.out,if_neg c,if_neg o]; simp);obtain ⟨z,P⟩: ∃z:Nat,z=(Lib.byteCells (Lex.shown (ts.take k))).length:=⟨_,rfl⟩;have d8: (0:Int) < (z:Int):=by rw[P,Lib.byteCells_length]; omega
       have b4:=Y1 P;clear c n o G P
       go_wp2_with fail
       refine T.out.mono ?_;rintro e w3 ⟨rfl,a⟩;have q:=Y1 (B.out.keep r.out a);have i:=Y1 (Z1p f.out a);have d:=Y1 (Z00 p.out a);clear H q1 v a;obtain ⟨H,q1,v⟩:=q.out
       go_wp2_with fail
       refine (Tryz.builder_len _ _ _ _ i.out).mono ?_;rintro e w4 ⟨Z,rfl⟩;rw[<-b4.out] at Z;subst Z
       go_wp2_with fail
       refine (Tryz.builder_write _ _ _ ⟨#[32]⟩ _ i.out (by rw[show (⟨#[32]⟩:ByteArray).size=1 from rfl,Lib.byteCells_length]; omega) d.out.size).mono ?_;rintro e w5 ⟨rfl,hu5,u⟩;have HU5:Hid (Lib.IsBuilder 218 5 w.heap.size w.heap.size (Lib.byteCells (Lex.shown (ts.take k)++ [32])) w5):=Y1 (Or.inr (by rw[Lib.byteCells_append]; exact hu5));have y:=Y1 (d.out.trans u);clear hu5 u H q1 v
       go_wp2_with fail
       refine (Tryz.builder_write _ _ _ _ _ HU5.out (by rw[Z07,Lib.byteCells_length,List.length_append]; simp; have:=L.out; omega) y.out.size).mono ?_;rintro e w6 ⟨rfl,a2,X⟩;have b1:Hid (Lib.IsBuilder 218 5 w.heap.size w.heap.size (Lib.byteCells (Lex.shown (ts.take (k+1)))) w6):=Y1 (Or.inr (by rw[t.out,Lib.byteCells_append]; exact a2));have a6:=Y1 (y.out.trans X);clear a2 X;go_wp2
       go_roundw
       case rel=>exact ⟨k+1,by go_num,by omega,HM2,b1,a6⟩
       case measure=>simp[intOf]; omega}}}
    {have T:=Y1 (M.out false (by simp[m]));have b0:Hid (¬Lex.mayShow ts):=Y1 (fun h=>m (h _ b3.out));clear m
     go_wp2_with fail
     refine T.out.mono ?_;rintro e w3 ⟨rfl,a⟩;have d:=Y1 (Z00 p.out a);go_wp2
     go_ret2
     exact ⟨Or.inr ⟨b0.out,rfl⟩,d.out⟩}}}
  {have b5: ¬(k:Int) < (l.length:Int):=by omega
   have S:Hid (ts.take k=ts):=Y1 (List.take_of_length_le (by rw[U.out]; omega));have f:=HU.out;have HM2:=Q.out;rw[S.out] at f HM2;have b2:=Y1 f;have a9:=Y1 HM2;clear f HM2
   go_wp2_with fail
   refine (Tryz.builder_text _ _ _ _ b2.out HB.out.size).mono ?_;rintro e w2 ⟨rfl,j⟩;go_wp2
   go_ret2
   exact ⟨Or.inl ⟨a9.out,rfl⟩,HB.out.trans j⟩}
end
section
open Go.RowKit Tms
open Shp (Sh)
open Pso (St Ok Goes betw loop want)
theorem Z6L (s:List UInt8) (o:s.length<=100000) (w:World) (n:Gl w):
 Y9 166 #[.string ⟨s.toArray⟩] w (.bool (Lex.number s)):=by
 have hb0:=Z01 w (.cells #[.int .i64 3,.string ⟨s.toArray⟩,.int .i64 0] 54);obtain ⟨k,c1,c2⟩:=ZaE w ⟨⟨3,s⟩,0⟩;have l:Tks (w.alloc (.cells #[.int .i64 3,.string ⟨s.toArray⟩,.int .i64 0] 54)) (w.alloc (.cells #[.int .i64 3,.string ⟨s.toArray⟩,.int .i64 0] 54)).heap.size (some ⟨w.heap.size,0,none⟩) [⟨⟨3,s⟩,0⟩]:=by
  refine Or.inr ⟨w.heap.size,0,rfl,by simp,fun i hi=> ?_⟩;have m:i=0:=by simpa using hi
  subst m;exact ⟨k,c1,c2⟩
 have d:=Y1 (ZbV (some ⟨w.heap.size,0,none⟩) 1 [⟨⟨3,s⟩,0⟩] _ l (by simp) (by simp; exact o) (n.next hb0).g);have b:=Y1 hb0;have j:=Y1 (Lex.Zab s);clear hb0 k c1 c2 l;go_enter Tryz.func166,Tryz.ntmps166
 go_wp2_with fail
 refine d.out.mono ?_;rintro e q ⟨p,f⟩;have c:=Y1 (Z00 b.out f);clear f d b;rcases p with ⟨g,rfl⟩ | ⟨g,rfl⟩
 {have a:Lex.number s=true:=j.out.1 g;have h:=Y1 a;clear g a;go_wp2;go_ret;exact ⟨by rw[h.out]; rfl,c.out⟩}
 {have a:Lex.number s=false:=by
   cases e:Lex.number s with
   | false=>rfl
   | true=>exact absurd (j.out.2 e) g
  have h:=Y1 a;clear g a;go_wp2;go_ret;exact ⟨by rw[h.out]; rfl,c.out⟩}
theorem Zdx (l:List Tk) (σ:St) (w:World) (f:Gl w) (j: ∀b∈l,b.t.text.length<=1000000):Calls Tryz.prog 165 #[.string ⟨(Pso.textOf l σ 3 Lex.number).1.toArray⟩] w fun e w'=>(∃v1,e= .returned (.tuple #[.int .i64 (Prs.num (Pso.textOf l σ 3 Lex.number).1 0),v1]))/\Below w.heap.size w w':=by
 unfold Pso.textOf;split
 {next h=>
  simp only[Bool.and_eq_true,decide_eq_true_eq] at h;have a:=Pso.kind_lt (l:=l) (i:=σ.1) (by rw[h.1]; decide);have m: (Prs.look l σ.1).t.text.length<=1000000:=by rw[Prs.look_in a]; exact j _ (List.getElem_mem _)
  exact (Z53 _ (by omega) _ (Prs.atoi_number h.2) w).mono (fun e w' h=>⟨⟨_,h.1⟩,h.2⟩)}
 {obtain ⟨k,pe,a⟩:=f.g.syn;have c:Lib.atoiAll ([]:List UInt8)= .syntax:=by rfl
  have g:=Any.strconv_Atoi_syntax Tryz.lays172 ⟨([]:List UInt8).toArray⟩ (by simp[ByteArray.size]) c _ w a (Or.inr ⟨k,pe,rfl⟩);refine Calls.mono g ?_;rintro e w' ⟨N,rfl,_,_,d⟩;exact ⟨⟨_,rfl⟩,d⟩}
section
variable (bp : Nat) (A : Option Addr) (c : Nat) (l : List Tk)
include bp A c l
theorem Zac (σ:St) (a:Int) (u:TokOk l) (M: -9223372036854775808<=a/\a<=9223372036854775807) (U:Ok l σ) (w:World) (h:PAt w bp A c l σ):
 Calls Tryz.prog 132 #[.pointer (some ⟨bp,0,none⟩),.int .i64 a] w (TmIs bp A c l ({ Prs.tm 1 a with n:=Prs.num (Pso.textOf l σ 3 Lex.number).1 0 },(Pso.textOf l σ 3 Lex.number).2) w):=by
 have I:=h.lt;have K:=u.len;have hb0:=Z01 w (.cells Ya 26);have B:=Z0h w (.int .i64 0) (.string ⟨#[]⟩) (.string ⟨#[]⟩) (.int .i64 0) (.slice none 0 0) (.slice none 0 0) (.slice none 0 0) (.slice none 0 0) (.int .i64 0) 26;have p:=h.below hb0;have E:=Y1 (Z2A bp A c l σ 3 (by decide) 166 (enters_of Tryz.func166 (by kernel_rfl) rfl) Lex.number (by omega) U.1 u.txt _ p (fun W hW C=>Z6L _ (by
  have L:=Pso.kind_lt (l:=l) (i:=σ.1) (by rw[C]; decide);rw[Prs.look_in L]; exact u.t2 _ (List.getElem_mem L)) W (p.gs.gl.next hW)))
 have f:=Y1 (fun (w:World) (hg:Gl w)=>Zdx l σ w hg u.txt);have j: -9223372036854775808<=Prs.num (Pso.textOf l σ 3 Lex.number).1 0/\Prs.num (Pso.textOf l σ 3 Lex.number).1 0<=9223372036854775807:=by
  unfold Pso.textOf;split
  {next h=>
   simp only[Bool.and_eq_true,decide_eq_true_eq] at h;obtain ⟨e,Q⟩:=Prs.num_number h.2;simp only[e]; omega}
  {exact ⟨show (-9223372036854775808:Int)<=0 by decide,show (0:Int)<=9223372036854775807 by decide⟩}
 have q:=Y1 hb0;have s:=Y1 B;have m:=Y1 j;obtain ⟨y,N⟩: ∃y,y=Pso.textOf l σ 3 Lex.number:=⟨_,rfl⟩;rw[<-N] at E f m ⊢;obtain ⟨k,C⟩: ∃k,k=Prs.num y.1 0:=⟨_,rfl⟩;rw[<-C] at f m ⊢;have P:=Y1 M;clear h hb0 B p j N C u M;go_enter Tryz.func132,Tryz.ntmps132
 go_wp2_with fail
 refine E.out.mono ?_;rintro e O ⟨rfl,z,g⟩;have S:w.heap.size+1<=O.heap.size:=by have:=g.size; simpa using this
 have o:=Y1 z;have r:=Y1 ((Z05 (F:= [bp]) q.out).trans g);have t:=Y1 (s.out.up g (by simp; omega));clear z g E q s
 go_wp2_with fail
 refine (f.out O o.out.gs.gl).mono ?_;rintro e J ⟨⟨v1,rfl⟩,b⟩;have T:=b.size;have D:=Y1 (o.out.below b);have G:=Y1 (r.out.below b);obtain ⟨V,X,Y,Z,r4,r5,r6,r7,r8,d,rl⟩:=t.out.below b;have f0:=d 0;have f1:=d 1;have f2:=d 2;have f3:=d 3;have f4:=d 4;have f5:=d 5;have f6:=d 6;have f7:=d 7;have f8:=d 8;clear b f o r t d;go_wp2;refine bodyPost_ret (v:=valT ⟨mkT ⟨1,[],[],k,a⟩ TR.none_,mkQ TR.none_,J.heap.size,J.heap.size⟩) (by simp[results,Tryz.results132,go_sem,valT,mkT,mkQ,TR.none_,V,X,Y,Z,r4,r5,r6,r7,r8,rl]) rfl ?_;have H:=end9 D.out G.out (Z2p J ⟨1,[],[],k,a⟩ ⟨by simp,by simp,m.out,P.out,by simp⟩) (rb:=w.heap.size) (Nat.le_refl _) (Or.inl (by simp only; omega)) I;exact ⟨_,rfl,(H _ _ _ _ _ _ _ _ _).1,(H _ _ _ _ _ _ _ _ _).2.1,(H _ _ _ _ _ _ _ _ _).2.2,by simp only; omega,rfl,Z1Y _⟩
theorem Zdy (m:Nat) (σ:St) (a:Int) (M:TokOk l) (P: -9223372036854775808<=a/\a<=9223372036854775807) (f:Ok l σ) (g:ExC bp A c l m) (X:l.length - σ.1 < m+1) (w:World) (h:PAt w bp A c l σ):
 Calls Tryz.prog 97 #[.pointer (some ⟨bp,0,none⟩),.int .i64 a] w (TmIs bp A c l (Pso.atomE l (Pso.expr l m) σ a) w):=by
 have z:=h.lt;have d:=M.len;have hb0:=Z01 w (.cells Ya 26);have HP:=Y1 (h.below hb0);have u:=Y1 hb0;have b:=Y1 (UpT.refl [bp] (w.alloc (.cells Ya 26)));have y:=Y1 (Z0h w (.int .i64 0) (.string ⟨#[]⟩) (.string ⟨#[]⟩) (.int .i64 0) (.slice none 0 0) (.slice none 0 0) (.slice none 0 0) (.slice none 0 0) (.int .i64 0) 26);have j:=Y1 M;have s:=Y1 P;have G:=Y1 g;have T:=Z6x (Prs.look l σ.1).t.kind ⟨(Prs.look l σ.1).t.text.toArray⟩ (Prs.look l σ.1).at_;clear h hb0 M P g;go_enter Tryz.func97,Tryz.ntmps97
 go_wp2_with fail
 rcases Bool.eq_false_or_eq_true (Prs.sign l σ.1 [116,114,117,101]) with p | p
 rotate_left
 refine (hidC (Z0C p d f.1 _ HP.out) b).mono ?_;rintro e W ⟨rfl,HP,b⟩
 go_wp2_with fail
 rcases Bool.eq_false_or_eq_true (Prs.sign l σ.1 [102,97,108,115,101]) with r | r
 rotate_left
 refine (hidC (Z0C r d f.1 _ HP.out) b).mono ?_;rintro e W ⟨rfl,HP,b⟩
 go_wp2_with fail
 rcases Bool.eq_false_or_eq_true (Prs.sign l σ.1 [40]) with q | q
 rotate_left
 refine (hidC (Z0C q d f.1 _ HP.out) b).mono ?_;rintro e W ⟨rfl,HP,b⟩
 go_wp2_with fail
 rcases Bool.eq_false_or_eq_true (Prs.sign l σ.1 [123]) with s3 | s3
 rotate_left
 refine (hidC (Z0A s3 d f.1 _ HP.out) b).mono ?_;rintro e W ⟨rfl,HP,b⟩
 go_wp2_with fail
 rcases Bool.eq_false_or_eq_true (Prs.sign l σ.1 [64]) with s4 | s4
 rotate_left
 refine (hidC (Z0C s4 d f.1 _ HP.out) b).mono ?_;rintro e W ⟨rfl,HP,b⟩
 go_wp2_with fail
 rcases Bool.eq_false_or_eq_true (Prs.sign l σ.1 [110,101,119]) with s5 | s5
 rotate_left
 refine (hidC (Z0C s5 d f.1 _ HP.out) b).mono ?_;rintro e W ⟨rfl,HP,b⟩
 go_wp2_with fail
 rcases Bool.eq_false_or_eq_true (Prs.sign l σ.1 [114,97,119]) with s6 | s6
 rotate_left
 refine (hidC (Z0C s6 d f.1 _ HP.out) b).mono ?_;rintro e W ⟨rfl,HP,b⟩
 go_wp2_with fail
 refine (hidC (Z1A d f.1 _ HP.out) b).mono ?_;rintro e W ⟨rfl,HP,b⟩;by_cases E: (Prs.look l σ.1).t.kind=3;have o:Hid (Pso.atomE l (Pso.expr l m) σ a=({ Prs.tm 1 a with n:=Prs.num (Pso.textOf l σ 3 Lex.number).1 0 },(Pso.textOf l σ 3 Lex.number).2)):=Y1 (by unfold Pso.atomE; simp only; rw[if_neg (by rw[p]; simp),if_neg (by rw[r]; simp),if_neg (by rw[q]; simp),if_neg (by rw[s3]; simp),if_neg (by rw[s4]; simp),if_neg (by rw[s5]; simp),if_neg (by rw[s6]; simp),if_pos E]);have K: ((Prs.look l σ.1).t.kind==3)=true:=by simpa using E
 clear E
 rotate_left
 have K: ((Prs.look l σ.1).t.kind==3)=false:=by simpa using E
 have N:=Y1 E;clear E
 go_wp2_with fail
 refine (hidC (Z1A d f.1 _ HP.out) b).mono ?_;rintro e W ⟨rfl,HP,b⟩;by_cases C: (Prs.look l σ.1).t.kind=4;have o:Hid (Pso.atomE l (Pso.expr l m) σ a=({ Prs.tm 2 a with name:=(Pso.textOf l σ 4 Pso.isText).1 },(Pso.textOf l σ 4 Pso.isText).2)):=Y1 (by unfold Pso.atomE; simp only; rw[if_neg (by rw[p]; simp),if_neg (by rw[r]; simp),if_neg (by rw[q]; simp),if_neg (by rw[s3]; simp),if_neg (by rw[s4]; simp),if_neg (by rw[s5]; simp),if_neg (by rw[s6]; simp),if_neg N.out,if_pos C]);have L: ((Prs.look l σ.1).t.kind==4)=true:=by simpa using C
 have V:=Y1 C;clear C
 rotate_left
 have o:Hid (Pso.atomE l (Pso.expr l m) σ a=Pso.valueE l σ a):=Y1 (by unfold Pso.atomE; simp only; rw[if_neg (by rw[p]; simp),if_neg (by rw[r]; simp),if_neg (by rw[q]; simp),if_neg (by rw[s3]; simp),if_neg (by rw[s4]; simp),if_neg (by rw[s5]; simp),if_neg (by rw[s6]; simp),if_neg N.out,if_neg C]);have L: ((Prs.look l σ.1).t.kind==4)=false:=by simpa using C
 clear C
 go_wp2_with fail
 refine (hidT (w.heap.size+1) (ZbT bp A c l σ a j.out s.out f _ HP.out) b (by simp)).mono ?_
 rotate_left
 {have o:Hid (Pso.atomE l (Pso.expr l m) σ a=(Prs.tm 3 a,(σ.1+1,σ.2))):=Y1 (by unfold Pso.atomE; simp only; rw[if_pos p]);refine (hidC (Z0N p d f.1 _ HP.out) b).mono ?_;rintro e W ⟨rfl,HP,b⟩;have Q:w.heap.size+1<=W.heap.size:=by have:=b.out.size; simpa using this
  obtain ⟨r0,r1,r2,r3,r4,r5,r6,r7,r8,f0,f1,f2,f3,f4,f5,f6,f7,f8,D⟩:=y.out.upf b.out (by simp; omega);go_wp2;refine bodyPost_ret (v:=valT ⟨mkT ⟨3,[],[],0,a⟩ TR.none_,mkQ TR.none_,W.heap.size,W.heap.size⟩) (by simp[results,Tryz.results97,go_sem,valT,mkT,mkQ,TR.none_,r0,r1,r2,r3,r4,r5,r6,r7,r8,D]) rfl ?_;have g:=end9 HP.out ((Z05 (F:= [bp]) u.out).trans b.out) (Z2p W ⟨3,[],[],0,a⟩ ⟨by simp,by simp,by simp,s.out,by simp⟩) (rb:=w.heap.size) (Nat.le_refl _) (Or.inl (by simp only; omega)) z;rw[o.out];exact ⟨_,rfl,(g _ _ _ _ _ _ _ _ _).1,(g _ _ _ _ _ _ _ _ _).2.1,(g _ _ _ _ _ _ _ _ _).2.2,by simp only; omega,rfl,Z1Y _⟩}
 {have o:Hid (Pso.atomE l (Pso.expr l m) σ a=(Prs.tm 4 a,(σ.1+1,σ.2))):=Y1 (by unfold Pso.atomE; simp only; rw[if_neg (by rw[p]; simp),if_pos r]);refine (hidC (Z0N r d f.1 _ HP.out) b).mono ?_;rintro e W ⟨rfl,HP,b⟩;have Q:w.heap.size+1<=W.heap.size:=by have:=b.out.size; simpa using this
  obtain ⟨r0,r1,r2,r3,r4,r5,r6,r7,r8,f0,f1,f2,f3,f4,f5,f6,f7,f8,D⟩:=y.out.upf b.out (by simp; omega);go_wp2;refine bodyPost_ret (v:=valT ⟨mkT ⟨4,[],[],0,a⟩ TR.none_,mkQ TR.none_,W.heap.size,W.heap.size⟩) (by simp[results,Tryz.results97,go_sem,valT,mkT,mkQ,TR.none_,r0,r1,r2,r3,r4,r5,r6,r7,r8,D]) rfl ?_;have g:=end9 HP.out ((Z05 (F:= [bp]) u.out).trans b.out) (Z2p W ⟨4,[],[],0,a⟩ ⟨by simp,by simp,by simp,s.out,by simp⟩) (rb:=w.heap.size) (Nat.le_refl _) (Or.inl (by simp only; omega)) z;rw[o.out];exact ⟨_,rfl,(g _ _ _ _ _ _ _ _ _).1,(g _ _ _ _ _ _ _ _ _).2.1,(g _ _ _ _ _ _ _ _ _).2.2,by simp only; omega,rfl,Z1Y _⟩}
 have o:Hid (Pso.atomE l (Pso.expr l m) σ a=Pso.enclosedE l (Pso.expr l m) (σ.1+1,σ.2) a):=Y1 (by unfold Pso.atomE; simp only; rw[if_neg (by rw[p]; simp),if_neg (by rw[r]; simp),if_pos q]);refine (hidC (Z0N q d f.1 _ HP.out) b).mono ?_;rintro e W ⟨rfl,HP,b⟩;have t:=(Pso.to_next f (Pso.sign_lt q)).1
 go_wp2_with fail
 refine (hidT (w.heap.size+1) (Z7H bp A c l m (σ.1+1,σ.2) a j.out s.out t G.out (by have:=Pso.sign_lt q; simp only; omega) _ HP.out) b (by simp)).mono ?_
 rotate_left
 have o:Hid (Pso.atomE l (Pso.expr l m) σ a=Pso.recordE l (Pso.expr l m) σ a):=Y1 (by unfold Pso.atomE; simp only; rw[if_neg (by rw[p]; simp),if_neg (by rw[r]; simp),if_neg (by rw[q]; simp),if_pos s3]);refine (hidC (Z0A s3 d f.1 _ HP.out) b).mono ?_;rintro e W ⟨rfl,HP,b⟩
 go_wp2_with fail
 refine (hidT (w.heap.size+1) (Z8M bp A c l m σ a j.out s.out f G.out (by have:=Pso.sign_lt s3; rw[Z2k s3]; simp only; omega) _ HP.out) b (by simp)).mono ?_
 rotate_left
 have o:Hid (Pso.atomE l (Pso.expr l m) σ a=Pso.ofE l (Pso.expr l m) 10 (Pso.name l (σ.1+1,σ.2)).1 (Pso.name l (σ.1+1,σ.2)).2 a):=Y1 (by unfold Pso.atomE; simp only; rw[if_neg (by rw[p]; simp),if_neg (by rw[r]; simp),if_neg (by rw[q]; simp),if_neg (by rw[s3]; simp),if_pos s4]);refine (hidC (Z0N s4 d f.1 _ HP.out) b).mono ?_;rintro e W ⟨rfl,HP,b⟩;have t:=(Pso.to_next f (Pso.sign_lt s4)).1;have B:=Pso.to_name t;have k:=Y1 (Z0q j.out.txt (σ.1+1,σ.2) 1 (by decide) Lex.isName);have H:=Pso.sign_lt s4
 go_wp2_with fail
 refine (hidC (Z1a bp A c l (σ.1+1,σ.2) (by omega) t.1 j.out.txt _ HP.out) b).mono ?_;rintro e W ⟨rfl,HP,b⟩
 go_wp2_with fail
 refine (hidT (w.heap.size+1) (Z6K bp A c l m (Pso.name l (σ.1+1,σ.2)).2 10 (Pso.name l (σ.1+1,σ.2)).1 a j.out s.out (by omega) k.out B.1 G.out (by have:=B.2.1; simp only at *; omega) _ HP.out) b (by simp)).mono ?_
 rotate_left
 have o:Hid (Pso.atomE l (Pso.expr l m) σ a=Pso.ofE l (Pso.expr l m) 16 (Pso.upperN l (σ.1+1,σ.2)).1 (Pso.upperN l (σ.1+1,σ.2)).2 a):=Y1 (by unfold Pso.atomE; simp only; rw[if_neg (by rw[p]; simp),if_neg (by rw[r]; simp),if_neg (by rw[q]; simp),if_neg (by rw[s3]; simp),if_neg (by rw[s4]; simp),if_pos s5]);refine (hidC (Z0N s5 d f.1 _ HP.out) b).mono ?_;rintro e W ⟨rfl,HP,b⟩;have t:=(Pso.to_next f (Pso.sign_lt s5)).1;have B:=Pso.to_upper t;have k:=Y1 (Z0q j.out.txt (σ.1+1,σ.2) 2 (by decide) Lex.isUpper);have H:=Pso.sign_lt s5
 go_wp2_with fail
 refine (hidC (Z2B bp A c l (σ.1+1,σ.2) (by omega) t.1 j.out.txt _ HP.out) b).mono ?_;rintro e W ⟨rfl,HP,b⟩
 go_wp2_with fail
 refine (hidT (w.heap.size+1) (Z6K bp A c l m (Pso.upperN l (σ.1+1,σ.2)).2 16 (Pso.upperN l (σ.1+1,σ.2)).1 a j.out s.out (by omega) k.out B.1 G.out (by have:=B.2.1; simp only at *; omega) _ HP.out) b (by simp)).mono ?_
 rotate_left
 have o:Hid (Pso.atomE l (Pso.expr l m) σ a=Pso.ofE l (Pso.expr l m) 17 (Pso.upperN l (σ.1+1,σ.2)).1 (Pso.upperN l (σ.1+1,σ.2)).2 a):=Y1 (by unfold Pso.atomE; simp only; rw[if_neg (by rw[p]; simp),if_neg (by rw[r]; simp),if_neg (by rw[q]; simp),if_neg (by rw[s3]; simp),if_neg (by rw[s4]; simp),if_neg (by rw[s5]; simp),if_pos s6]);refine (hidC (Z0N s6 d f.1 _ HP.out) b).mono ?_;rintro e W ⟨rfl,HP,b⟩;have t:=(Pso.to_next f (Pso.sign_lt s6)).1;have B:=Pso.to_upper t;have k:=Y1 (Z0q j.out.txt (σ.1+1,σ.2) 2 (by decide) Lex.isUpper);have H:=Pso.sign_lt s6
 go_wp2_with fail
 refine (hidC (Z2B bp A c l (σ.1+1,σ.2) (by omega) t.1 j.out.txt _ HP.out) b).mono ?_;rintro e W ⟨rfl,HP,b⟩
 go_wp2_with fail
 refine (hidT (w.heap.size+1) (Z6K bp A c l m (Pso.upperN l (σ.1+1,σ.2)).2 17 (Pso.upperN l (σ.1+1,σ.2)).1 a j.out s.out (by omega) k.out B.1 G.out (by have:=B.2.1; simp only at *; omega) _ HP.out) b (by simp)).mono ?_
 rotate_left
 go_wp2_with fail
 refine (hidT (w.heap.size+1) (Zac bp A c l σ a j.out s.out f _ HP.out) b (by simp)).mono ?_
 rotate_left
 {have I:=Y1 (fun (w':World) (hg:Gl w') (hk: (Prs.look l σ.1).t.kind=4)=>Za6 (Prs.look l σ.1).t.text (by
  have O:=Pso.kind_lt (l:=l) (i:=σ.1) (by rw[hk]; decide);rw[Prs.look_in O]; exact j.out.txt _ (List.getElem_mem O)) w' hg)
  have k:=Y1 (Z0q j.out.txt σ 4 (by decide) Pso.isText)
  go_wp2_with fail
  refine (hidC (Z2A bp A c l σ 4 (by decide) 133 (enters_of Tryz.func133 (by kernel_rfl) rfl) Pso.isText (by omega) f.1 j.out.txt _ HP.out (fun W hW hk=>I.out W (HP.out.gs.gl.next hW) hk)) b).mono ?_;rintro e W ⟨rfl,HP,b⟩;have Q:w.heap.size+1<=W.heap.size:=by have:=b.out.size; simpa using this
  obtain ⟨r0,r1,r2,r3,r4,r5,r6,r7,r8,f0,f1,f2,f3,f4,f5,f6,f7,f8,D⟩:=y.out.upf b.out (by simp; omega);go_wp2;refine bodyPost_ret (v:=valT ⟨mkT ⟨2,[],(Pso.textOf l σ 4 Pso.isText).1,0,a⟩ TR.none_,mkQ TR.none_,W.heap.size,W.heap.size⟩) (by simp[results,Tryz.results97,go_sem,valT,mkT,mkQ,TR.none_,r0,r1,r2,r3,r4,r5,r6,r7,r8,D]) rfl ?_;have g:=end9 HP.out ((Z05 (F:= [bp]) u.out).trans b.out) (Z2p W ⟨2,[],(Pso.textOf l σ 4 Pso.isText).1,0,a⟩ ⟨by simp,k.out,by simp,s.out,by simp⟩) (rb:=w.heap.size) (Nat.le_refl _) (Or.inl (by simp only; omega)) z;rw[o.out];exact ⟨_,rfl,(g _ _ _ _ _ _ _ _ _).1,(g _ _ _ _ _ _ _ _ _).2.1,(g _ _ _ _ _ _ _ _ _).2.2,by simp only; omega,rfl,Z1Y _⟩}
 all_goals
  rintro e W ⟨x,rfl,HP,b,S,U,J⟩;simp only[valT];obtain ⟨r0,r1,r2,r3,r4,r5,r6,r7,r8,f0,f1,f2,f3,f4,f5,f6,f7,f8,D⟩:=y.out.upf b.out (by simp; omega);go_wp2;refine bodyPost_ret (v:=valT x) (by simp[results,Tryz.results97,go_sem,valT,r0,r1,r2,r3,r4,r5,r6,r7,r8,D]) rfl ?_;have g:=end9 HP.out ((Z05 (F:= [bp]) u.out).trans b.out) S.out (rb:=w.heap.size) (Nat.le_refl _) (Or.inl (by omega)) z;rw[o.out];exact ⟨x,rfl,(g _ _ _ _ _ _ _ _ _).1,(g _ _ _ _ _ _ _ _ _).2.1,(g _ _ _ _ _ _ _ _ _).2.2,by omega,J.out⟩
end
end
end Go.Proofs.YtkncdbaoaeeoiaaGreatDoor
