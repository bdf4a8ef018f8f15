import Derived.Test.YtgndehppmaacaaaGreatDoorTie
import Derived.Test.YtgndehppmaacaaaGreatDoorCards
import Derived.LaidMore
import Derived.Lay
import Derived.Test.YtgndehppmaacaaaGreatDoorK0n20
set_option linter.unusedVariables false
set_option linter.unusedSimpArgs false
set_option maxRecDepth 100000
set_option maxHeartbeats 16000000
namespace Go.Proofs.YtgndehppmaacaaaGreatDoor
section
open Go.RowKit Shp
theorem Zch {l m:List Sh} (a:l.length=m.length) (h: ∀j (hj:j < l.length),eqB (l[j]'hj) (m[j]'(by omega))=true):eqs l m=true:=
 (Z8h l m).2 (List.ext_getElem a (fun j h1 h2=>(eqB_iff _ _).1 (h j h1)))
def headB (t u:Sh):Bool:=t.kind==u.kind&&t.of_==u.of_&&t.name==u.name&&decide (t.names.length=u.names.length)&&decide (t.parts.length=u.parts.length)
theorem ZbO {t u:Sh} (h:headB t u=false):eqB t u=false:=by
 apply Z5n;rintro rfl;simp[headB] at h
theorem Zb3 {t u:Sh} {i:Nat} (a:i < t.names.length) (b:i < u.names.length) (h:t.names[i]'a≠u.names[i]'b):eqB t u=false:=by
 apply Z5n;rintro rfl;exact h rfl
theorem Zb4 {t u:Sh} {i:Nat} (a:i < t.parts.length) (b:i < u.parts.length) (h:eqB (t.parts[i]'a) (u.parts[i]'b)=false):eqB t u=false:=by
 apply Z5n;rintro rfl;rw[eqB_refl] at h; cases h
theorem Zci {t u:Sh} (h:headB t u=true) (i: ∀j (hj:j < t.names.length) (hj':j < u.names.length),t.names[j]'hj=u.names[j]'hj') (k: ∀j (hj:j < t.parts.length) (hj':j < u.parts.length),eqB (t.parts[j]'hj) (u.parts[j]'hj')=true):eqB t u=true:=by
 simp only[headB,Bool.and_eq_true,beq_iff_eq,decide_eq_true_eq] at h;obtain ⟨⟨⟨⟨c,d⟩,e⟩,f⟩,g⟩:=h;rw[eqB_eq,c,d,e];simp only[beq_self_eq_true,Bool.true_and,Bool.and_eq_true];exact ⟨beq_iff_eq.2 (List.ext_getElem f (fun j a b=>i j a b)),Zch g (fun j hj=>k j hj (by omega))⟩
theorem Z8f (t u:Sh) (q r:Ptr) (w:World) (E:ShAt w w.heap.size q t) (F:ShAt w w.heap.size r u) (i:headB t u=false):
 Y9 10 #[.agg (Y8 t q),.agg (Y8 u r)] w (.bool (eqB t u)):=by
 have c:=Y1 (ZbO i);have hb0:=Z01 w (.cells (Y8 t q) 28);have d:=Z0h hb0 (.cells (Y8 u r) 28);have a:=Y1 d;have v:=(Z07 w t q).next (Z01 _ (.cells (Y8 u r) 28));have y:=Z07 (w.alloc (.cells (Y8 t q) 28)) u r;obtain ⟨_,⟨D,c1,c2,c3,c4⟩,_⟩:=v;obtain ⟨_,⟨l,m,n,o,p⟩,_⟩:=y;clear hb0 d;rw[World.size_alloc] at l m n o p;have b:=Y1 i;clear i;have j: ((t.names.length:Int)==(u.names.length:Int))=decide (t.names.length=u.names.length):=by rw[Bool.eq_iff_iff,beq_iff_eq,decide_eq_true_eq]; omega
 have k: ((t.parts.length:Int)==(u.parts.length:Int))=decide (t.parts.length=u.parts.length):=by rw[Bool.eq_iff_iff,beq_iff_eq,decide_eq_true_eq]; omega
 unfold headB at b;rw[<-j, <-k] at b;clear j k;cases e: (t.kind==u.kind)
 {have z: (t.kind !=u.kind)=true:=by unfold bne; rw[e]; rfl
  go_enter Tryz.func10,Tryz.ntmps10;go_wp2;go_ret;exact ⟨by rw[c.out]; rfl,a.out⟩}
 {have z: (t.kind !=u.kind)=false:=by unfold bne; rw[e]; rfl
  rw[e,Bool.true_and] at b;cases f: (t.of_==u.of_)
  {have A: (t.of_ !=u.of_)=true:=by unfold bne; rw[f]; rfl
   go_enter Tryz.func10,Tryz.ntmps10;go_wp2;go_ret;exact ⟨by rw[c.out]; rfl,a.out⟩}
  {have A: (t.of_ !=u.of_)=false:=by unfold bne; rw[f]; rfl
   rw[f,Bool.true_and] at b;cases g: (t.name==u.name)
   {have B: (t.name !=u.name)=true:=by unfold bne; rw[g]; rfl
    go_enter Tryz.func10,Tryz.ntmps10;go_wp2;go_ret;exact ⟨by rw[c.out]; rfl,a.out⟩}
   {have B: (t.name !=u.name)=false:=by unfold bne; rw[g]; rfl
    rw[g,Bool.true_and] at b;cases h: ((t.names.length:Int)==(u.names.length:Int))
    {have C: ((t.names.length:Int) !=(u.names.length:Int))=true:=by unfold bne; rw[h]; rfl
     go_enter Tryz.func10,Tryz.ntmps10;go_wp2;go_ret;exact ⟨by rw[c.out]; rfl,a.out⟩}
    {have C: ((t.names.length:Int) !=(u.names.length:Int))=false:=by unfold bne; rw[h]; rfl
     rw[h,Bool.true_and] at b;have s:=b.out;have G: ((t.parts.length:Int) !=(u.parts.length:Int))=true:=by unfold bne; rw[s]; rfl
     go_enter Tryz.func10,Tryz.ntmps10;go_wp2;go_ret;exact ⟨by rw[c.out]; rfl,a.out⟩}}}}
theorem Z4v (t:Sh): ∀(u:Sh) (q r:Ptr) (w:World),ShAt w w.heap.size q t->ShAt w w.heap.size r u->
 Y9 10 #[.agg (Y8 t q),.agg (Y8 u r)] w (.bool (eqB t u)):=by
 induction t using Sh.ind with
 | h t ih=>
 intro u q r w D hr;cases hh:headB t u with
 | false=>exact Z8f t u q r w D hr hh
 | true=>
 have HH:=Y1 hh;have hs:=hh;simp only[headB,Bool.and_eq_true,beq_iff_eq,decide_eq_true_eq] at hs;obtain ⟨⟨⟨⟨g1,g2⟩,g3⟩,Y⟩,Z⟩:=hs;have a7:=Y1 Y;have a8:=Y1 Z;have HL:=Y1 D.small.l;have HM:=Y1 D.small.m;have HP:=Y1 D.part;have HR:=Y1 hr.part;have b1:=Y1 D.strs;have b0:=Y1 hr.strs;have hb0:=Z01 w (.cells (Y8 t q) 28);have K:=Z0h hb0 (.cells (Y8 u r) 28);have f:=Y1 K;have hB:=(Z07 w t q).next (Z01 _ (.cells (Y8 u r) 28));have hC:=Z07 (w.alloc (.cells (Y8 t q) 28)) u r;rw[World.size_alloc] at hC;have HB:=Y1 hB;have HC:=Y1 hC;obtain ⟨_,⟨W,c1,c2,c3,c4⟩,_⟩:=hB;obtain ⟨_,⟨X,d1,d2,H,I⟩,_⟩:=hC;have n1: (t.kind !=u.kind)=false:=by rw[g1]; simp
 have n2: (t.of_ !=u.of_)=false:=by rw[g2]; simp
 have n3: (t.name !=u.name)=false:=by rw[g3]; simp
 have n4: ((t.names.length:Int) !=(u.names.length:Int))=false:=by rw[Y]; simp
 have n5: ((t.parts.length:Int) !=(u.parts.length:Int))=false:=by rw[Z]; simp
 have e1: (t.kind==u.kind)=true:=by rw[g1]; simp
 have e2: (t.of_==u.of_)=true:=by rw[g2]; simp
 have e3: (t.name==u.name)=true:=by rw[g3]; simp
 have e4: ((t.names.length:Int)==(u.names.length:Int))=true:=by rw[Y]; simp
 have e5: ((t.parts.length:Int)==(u.parts.length:Int))=true:=by rw[Z]; simp
 clear hb0 K D hr hh g1 g2 g3 Y Z;go_enter Tryz.func10,Tryz.ntmps10
 go_wp2_with fail
 generalize hW0: (w.alloc (.cells (Y8 t q) 28)).alloc (.cells (Y8 u r) 28)=W0 at HB HC f ⊢;clear hW0 W c1 c2 c3 c4 X d1 d2 H I n1 n2 n3 n4 n5 e1 e2 e3 e4 e5
 go_loopw [5] (fun ii wr=> ∃i:Nat,ii= .int .i64 i/\i<=t.names.length/\Hid (∀j (h:j < t.names.length) (h':j < u.names.length),j < i->t.names[j]'h=u.names[j]'h')/\Below W0.heap.size W0 wr) (fun i _=>t.names.length - (intOf i).toNat)
 case atStart=>exact ⟨0,rfl,Nat.zero_le _,Y1 (fun j _ _ hj=>absurd hj (by omega)),Below.refl _ _⟩
 case round=>
  obtain ⟨i,rfl,hi,C,l⟩:=hrel;have b:Below w.heap.size w wr:=f.out.trans (l.mono f.out.size);have hl:=HL.out;obtain ⟨_,⟨W,_,_,c3,c4⟩,_⟩:=HB.out.next l;obtain ⟨_,⟨X,_,_,H,I⟩,_⟩:=HC.out.next l;by_cases n:i < t.names.length
  {have b7: (i:Int) < (t.names.length:Int):=by omega
   have b8: (i:Int) < (u.names.length:Int):=by have:=a7.out; omega
   have c:i < u.names.length:=by omega
   rcases (b1.out.next b).cell7 with h0 | ⟨g,off,N,hg,L⟩
   {omega}
   {rcases (b0.out.next b).cell7 with h0 | ⟨g',T,P,M,m⟩
    {omega}
    {have p:=L i n;have p':=m i c;obtain ⟨x,v⟩: ∃x,x=t.names[i]'n:=⟨_,rfl⟩;obtain ⟨y,z⟩: ∃y,y=u.names[i]'c:=⟨_,rfl⟩;rw[<-v] at p;rw[<-z] at p';have F:=Y1 v;have G:=Y1 z;rw[N] at c3;rw[P] at H;clear v z L m N P;cases a: (x==y)
     {have E:Hid (eqB t u=false):=Y1 (Zb3 n c (by rw[<-F.out, <-G.out]; intro h; rw[h] at a; simp at a));have n1: (x !=y)=true:=by unfold bne; rw[a]; rfl
      go_wp2_with fail
      go_quiet (fail)
      go_wp2;go_ret;exact ⟨by rw[E.out]; rfl,Z0Q b _⟩}
     {have n1: (x !=y)=false:=by unfold bne; rw[a]; rfl
      have HE:Hid (t.names[i]'n=u.names[i]'c):=Y1 (by rw[<-F.out, <-G.out]; simpa using a)
      go_wp2_with fail
      go_quiet (fail)
      go_wp2
      go_roundw
      case rel=>exact ⟨i+1,by go_num,by omega,Y1 (fun j hj hj' hji=>by
       rcases Nat.lt_succ_iff_lt_or_eq.1 hji with h | rfl
       {exact C.out j hj hj' h}
       · exact HE.out),Z0Q l _⟩
      case measure=>simp[intOf]; omega}}}}
  {have a9:Hid (∀j (h:j < t.names.length) (h':j < u.names.length),t.names[j]'h=u.names[j]'h'):=Y1 (fun j h h'=>C.out j h h' (by omega));have a3:=Y1 l;clear b l C
   go_wp2_with fail
   go_loopw [6] (fun ii wx=> ∃k:Nat,ii= .int .i64 k/\k<=t.parts.length/\Hid (∀j (h:j < t.parts.length) (h':j < u.parts.length),j < k->eqB (t.parts[j]'h) (u.parts[j]'h')=true)/\Hid (Below W0.heap.size W0 wx)) (fun i _=>t.parts.length - (intOf i).toNat)
   case atStart=>exact ⟨0,rfl,Nat.zero_le _,Y1 (fun j _ _ hj=>absurd hj (by omega)),a3⟩
   case round=>
    obtain ⟨k,rfl,hk,C,a4⟩:=hrel;have l:=a4.out;have b:Below w.heap.size w wr:=f.out.trans (l.mono f.out.size);have hm:=HM.out;clear W c3 c4 X H I;obtain ⟨_,⟨W,_,_,c3,c4⟩,_⟩:=HB.out.next l;obtain ⟨_,⟨X,_,_,H,I⟩,_⟩:=HC.out.next l;by_cases d:k < t.parts.length
    {have b7: (k:Int) < (t.parts.length:Int):=by omega
     have b8: (k:Int) < (u.parts.length:Int):=by have:=a8.out; omega
     have c:k < u.parts.length:=by omega
     rcases HP.out with h0 | ⟨g,off,qs,O,hg,L,S⟩
     {omega}
     {rcases HR.out with h0 | ⟨g',T,U,Q,M,m,s⟩
      {omega}
      {obtain ⟨x,v⟩: ∃x,x=t.parts[k]:=⟨_,rfl⟩;obtain ⟨y,z⟩: ∃y,y=u.parts[k]:=⟨_,rfl⟩;obtain ⟨p0,p1,p2,p3,p4⟩:=(L k d).keep hg b;obtain ⟨s0,s1,s2,s3,s4⟩:=(m k c).keep M b;have J:ShAt wr wr.heap.size (qs k) x:=by rw[v]; exact (S k d).next b
       have o:ShAt wr wr.heap.size (U k) y:=by rw[z]; exact (s k c).next b
       have B:=ih t.parts[k] (List.getElem_mem _) y (qs k) (U k) wr.drew;rw[<-v] at p0 p1 p2 p3 p4 B;rw[<-z] at s0 s1 s2 s3 s4;have V:=B (J.next Y2.drew) (o.next Y2.drew);rw[O] at c4;rw[Q] at I;have F:=Y1 v;have G:=Y1 z;clear v z L m S s J o B ih O Q
       go_wp2_with fail
       cases a:eqB x y
       {have E:Hid (eqB t u=false):=Y1 (Zb4 d c (by rw[<-F.out, <-G.out]; exact a));rw[a] at V;clear a
        go_still_tail 10,(by kernel_rfl)
        change wpList _ _ _ _ _ wr.drew
        go_wp2_with fail
        refine V.mono ?_;rintro e w2 ⟨rfl,A⟩;go_wp2;go_ret;exact ⟨by rw[E.out]; rfl,Z03 b.drew A⟩}
       {have HE:Hid (eqB (t.parts[k]'d) (u.parts[k]'c)=true):=Y1 (by rw[<-F.out, <-G.out]; exact a);rw[a] at V;clear a
        go_still_tail 10,(by kernel_rfl)
        change wpList _ _ _ _ _ wr.drew
        go_wp2_with fail
        refine V.mono ?_;rintro e w2 ⟨rfl,A⟩;go_wp2
        go_roundw
        case rel=>exact ⟨k+1,by go_num,by omega,Y1 (fun j hj hj' hji=>by
         rcases Nat.lt_succ_iff_lt_or_eq.1 hji with h | rfl
         {exact C.out j hj hj' h}
         · exact HE.out),Y1 (Z03 l.drew A)⟩
        case measure=>simp[intOf]; omega}}}}
    {have E:Hid (eqB t u=true):=Y1 (Zci HH.out a9.out (fun j hj hj'=>C.out j hj hj' (by omega)));go_wp2;go_ret;exact ⟨by rw[E.out]; rfl,b⟩}}
end
end Go.Proofs.YtgndehppmaacaaaGreatDoor
namespace Pre
open Prs (look sign no Flt R need kind fresh upper andThen shp opened)
open Go.Proofs.YtgndehppmaacaaaGreatDoor (Tk)
open Shp (Sh)
theorem rd_type {l:List Tk} (k:Scn l) (a:Int):Pso.rd l a (Pso.wholeT l)=Prs.type l a:=by
 unfold Pso.rd Prs.type opened;by_cases b:a < 0\/(l.length:Int) < a
 {rw[if_pos b,if_pos b]; rfl}
 {rw[if_neg b,if_neg b];by_cases c:4097 < l.length
  {rw[if_pos c,if_pos c]; rfl}
  {rw[if_neg c,if_neg c];have h:=ZhA k (i:=a.toNat) (by omega);show _=Prs.whole l a.toNat;cases e:Prs.whole l a.toNat with
   | ok y=>
    rw[e] at h;have d:Pso.wholeT l (a.toNat,(0,0))=(y.1,(y.2,(0,0))):=h;rw[d]; rfl
   | error f=>
    rw[e] at h;obtain ⟨j,d⟩:=h;have g: (Pso.wholeT l (a.toNat,(0,0))).2=(l.length,f):=d;rw[if_neg (by rw[g]; exact j),g]}}
end Pre
namespace Go.Proofs.YtgndehppmaacaaaGreatDoor
open Go.RowKit Prs Tms
open Shp (Sh)
theorem ZoQ {w:World} {B:Nat} {A:Option Addr} {l:List Tk} (h:Tks w B A l) (e:A=none):l.length=0:=by
 rcases h with b | ⟨g,off,a,_⟩
 {exact b}
 {rw[e] at a; cases a}
def rSh9 (r:R Sh):Sh:=match r with | .ok y=>y.1 | .error _=>⟨0,[],[],[],[]⟩
def rN9 (r:R Sh):Int:=match r with | .ok y=>(y.2:Int) | .error _=>0
def rF9 (r:R Sh):Flt:=match r with | .ok _=>(0,0) | .error f=>f
theorem Zip {r:R Sh} {w w':World} {e:Ending} (h:TyOut r w e w'):Below w.heap.size w w'/\ ∃x:ES,e= .returned (.tuple #[valS x,.int .i64 (rN9 r),.agg #[.int .i64 (rF9 r).1,.int .i64 (rF9 r).2]])/\x.Is w'/\x.t=rSh9 r:=by
 obtain ⟨a,h⟩:=h;cases r with
 | ok y=>obtain ⟨x,rfl,b,_,c⟩:=h; exact ⟨a,x,rfl,b,c⟩
 | error f=>exact ⟨a,⟨⟨0,[],[],[],[]⟩,⟨none,0,none,0⟩,w'.heap.size,w'.heap.size⟩,h,Ze4 w' 0 (by simp) (by simp),rfl⟩
theorem ZhG (A:Option Addr) (c:Nat) (l:List Tk) (a:Int) (hl:l.length<=9223372036854775807) (hc:l.length<=c) (hx: ∀b∈l,b.t.text.length<=9223372036854775807) (hz:A=none->c=0) (ha: -9223372036854775808<=a/\a<=9223372036854775807) (w:World) (h:Tks w w.heap.size A l) (hG:Gl w):
 Y9 3 #[.slice A l.length c,.int .i64 a] w (.bool true):=by
 have HG:=Y1 hG;have HT:=Y1 h;have HX:=Y1 hx;have HZ:=Y1 hz;have HF:=Y1 (Zng A c l hl hx w h);have HS:=Y1 (ZiQ A c l hl hx w h);clear hG h hx hz;go_enter Tryz.func3,Tryz.ntmps3
 go_wp2_with fail
 refine HF.out.mono ?_;rintro e w0 ⟨rfl,b,rfl,V⟩;cases b with
 | false=>
  go_wp2_with fail
  refine (Zfg w0 HG.out).mono ?_;rintro e U ⟨rfl,p⟩;go_wp2;refine bodyPost_ret (v:= .bool true) (by simp[results,Tryz.results3,go_sem]) rfl ?_;exact ⟨rfl,p⟩
 | true=>
  have HB:=Y1 (V rfl);clear V
  go_wp2_with fail
  refine HS.out.mono ?_;rintro e U ⟨p,b,rfl,hs⟩;have B:=Y1 p;cases b with
  | false=>
   clear hs p
   go_wp2_with fail
   refine (Zfg U (HG.out.next B.out)).mono ?_;rintro e w2 ⟨rfl,C⟩;go_wp2;refine bodyPost_ret (v:= .bool true) (by simp[results,Tryz.results3,go_sem]) rfl ?_;exact ⟨rfl,Z03 B.out C⟩
  | true=>
   have g3:Hid (Pre.Scn l):=Y1 ⟨fun i hk=>by
    have Q:=ZeY hk (by decide);rw[Prs.look_in Q] at hk ⊢;exact (hs rfl _ (List.getElem_mem _)).1 hk,fun i hk=>by
    have Q:=ZeY hk (by decide);rw[Prs.look_in Q] at hk ⊢;exact (hs rfl _ (List.getElem_mem _)).2 hk⟩
   clear hs p;obtain ⟨i0,d2,d9,e0,e1⟩:=ZcW ZnQ;have h1:l.length<=100000:=HB.out.1;have g4:=Y1 (HT.out.on B.out)
   go_wp2_with (at_builtin; refine Hid.out ?_)
   refine Y1 ?_;have J:Tks (U.alloc (.cells #[] 46)) U.heap.size A l:=g4.out.keep (Z01 _ _) (Nat.le_refl _);refine Z0I _ rfl _ _ 22 rfl U.heap.size 46 i0 (.agg #[.int .i64 0,.string ByteArray.empty,.int .i64 0]) 3 32 Tryz.underlying22 d2 d9 e0 e1 rfl (by decide) _ 0 [] rfl (World.ownsRow_made U #[] 0 (Nat.le_refl _) (Nat.zero_le _) rfl) A l.length c (cellsT l) rfl (fun e=>⟨ZoQ J e,HZ.out e⟩) (Zh9 l) (Zmn J) (ZjX l) (by unfold maxLen; omega) (by omega) (by simp) ?_;intro v2 w2 t C;rw[Nat.zero_add,List.nil_append] at t;obtain ⟨A2,c2,rfl,_,d3⟩:=ZfC t;have X:=Y1 (Z03 B.out ((Z01 U (.cells #[] 46)).trans C));have g5:=Y1 d3;clear t C d3 J d2 d9 e0 e1;have hO:=Zhh A2 c2 l a (fun b V=>by have:=HB.out.2 b V; omega) ha (by omega) w2 g5.out (HG.out.next X.out);rw[Pre.rd_type g3.out] at hO;obtain ⟨r,hr⟩: ∃r,r=Prs.type l a:=⟨_,rfl⟩;rw[<-hr] at hO;have HR:=Y1 hr;clear hr
   go_wp2_with fail
   refine hO.mono ?_;intro e z h3;obtain ⟨c9,x,rfl,d4,d6⟩:=Zip h3;have f6:=Y1 (Z03 X.out c9);have g0:=Y1 d4;have g6:=Y1 d6;clear h3 c9 d4 d6 hO;simp only[valS];obtain ⟨o,M⟩: ∃f,f=rF9 r:=⟨_,rfl⟩;have f9:=Y1 M;rw[<-M];clear M
   go_wp2_with fail
   have s:=Z01 z (.cells (Y8 x.t x.q) 28);have m:=Z01 (z.alloc (.cells (Y8 x.t x.q) 28)) (.cells #[.int .i64 o.1,.int .i64 o.2] 31);have d:=Z03 s m;have u: (z.alloc (.cells (Y8 x.t x.q) 28)).heap.size=z.heap.size+1:=by simp
   obtain ⟨k0,k1,k2,k3,k4,kf,kl⟩:=ZcK z (.int .i64 x.t.kind) (.string ⟨x.t.of_.toArray⟩) (.string ⟨x.t.name.toArray⟩) (.slice x.q.A x.t.names.length x.q.c) (.slice x.q.P x.t.parts.length x.q.d) 28;have k:YV5 (z.alloc (.cells (Y8 x.t x.q) 28)) z.heap.size x:=⟨kl,k0,k1,k2,k3,k4⟩;have n:=k.next m;have j:=ZcG (z.alloc (.cells (Y8 x.t x.q) 28)) o.1 o.2;rw[u] at j;have F:=Y1 (Z03 f6.out d);have H:=Y1 (show x.Is _ from New.below g0.out d);obtain ⟨g1,N⟩: ∃g,g=z.heap.size:=⟨_,rfl⟩;obtain ⟨g2,O⟩: ∃g,g=z.heap.size+1:=⟨_,rfl⟩;rw[<-N] at n;rw[<-O] at j;rw[<-O, <-N];have I:=Y1 n;have G:=Y1 j;clear s m u k0 k1 k2 k3 k4 kf kl k n j N O;clear d;generalize (z.alloc (.cells (Y8 x.t x.q) 28)).alloc (.cells #[.int .i64 o.1,.int .i64 o.2] 31)=V4 at I G F H ⊢;have hD:=Zm7 A c l a h1 (fun b V=>by have:=HB.out.2 b V; omega) V4 (HT.out.on F.out);rw[<-HR.out] at hD;refine hD.mono ?_;intro e E h5;obtain ⟨q,y,rfl,d7,d8⟩:=Zip h5;have f7:=Y1 (Z03 F.out q);have a8:=Y1 (show x.Is _ from New.below H.out q);have b6:=Y1 d7;have g7:=Y1 d8;have b8:=Y1 (I.out.next q);have Z:=Y1 (G.out.next q);clear h5 q d7 d8 hD I G H;simp only[valS];rw[<-f9.out];have s:=Z01 E (.cells (Y8 y.t y.q) 28);have m:=Z01 (E.alloc (.cells (Y8 y.t y.q) 28)) (.cells #[.int .i64 o.1,.int .i64 o.2] 31);have d:=Z03 s m;have u: (E.alloc (.cells (Y8 y.t y.q) 28)).heap.size=E.heap.size+1:=by simp
   obtain ⟨k0,k1,k2,k3,k4,kf,kl⟩:=ZcK E (.int .i64 y.t.kind) (.string ⟨y.t.of_.toArray⟩) (.string ⟨y.t.name.toArray⟩) (.slice y.q.A y.t.names.length y.q.c) (.slice y.q.P y.t.parts.length y.q.d) 28;have k:YV5 (E.alloc (.cells (Y8 y.t y.q) 28)) E.heap.size y:=⟨kl,k0,k1,k2,k3,k4⟩;have n:=k.next m;have j:=ZcG (E.alloc (.cells (Y8 y.t y.q) 28)) o.1 o.2;rw[u] at j;have K:=Z03 f7.out d;have P:x.Is _:=New.below a8.out d;have S:y.Is _:=New.below b6.out d;have T:=b8.out.next d;have L:=Z.out.next d;obtain ⟨V6,c8⟩: ∃W,(E.alloc (.cells (Y8 y.t y.q) 28)).alloc (.cells #[.int .i64 o.1,.int .i64 o.2] 31)=W:=⟨_,rfl⟩;rw[c8] at n j K P S T L;have b9:=Y1 n;have a6:=Y1 j;have f8:=Y1 K;have a9:=Y1 P;have b7:=Y1 S;have c0:=Y1 T;have a7:=Y1 L;clear s m u k0 k1 k2 k3 k4 kf kl k n j d K P S T L a8 b6 b8 Z;obtain ⟨a5,a0,a1,a2,a3,a4⟩:=c0.out;obtain ⟨b5,b0,b1,b2,b3,b4⟩:=b9.out;have hE:=Z4v x.t y.t x.q y.q V6 (New.here a9.out) (New.here b7.out);rw[show Shp.eqB x.t y.t=true from by rw[g6.out,g7.out]; exact Shp.eqB_refl _] at hE
   go_wp2_with fail
   refine hE.mono ?_;rintro e w7 ⟨rfl,D⟩;have Y:=Y1 (Z03 f8.out D);obtain ⟨f5,f0,f1,_,_⟩:=a7.out.next D;obtain ⟨d5,d0,d1,_,_⟩:=a6.out.next D;clear hE D a5 a0 a1 a2 a3 a4 b5 b0 b1 b2 b3 b4 c0 b9 a7 a6 a9 b7 c8;have hA:=Zfg w7 (HG.out.next Y.out)
   go_wp2_with fail
   refine hA.mono ?_;rintro e w8 ⟨rfl,h0⟩;go_wp2;refine bodyPost_ret (v:= .bool true) (by simp[results,Tryz.results3,go_sem]) rfl ?_;exact ⟨rfl,Z03 Y.out h0⟩
end Go.Proofs.YtgndehppmaacaaaGreatDoor
namespace Go.Proofs.YtgndehppmaacaaaGreatDoor.parseTypes
section
open Go.ChangeShapes Go.WideShapes Go.ChangeAt Go.RowKit
open Go.ChangeMaps (open_string shut_string)
theorem own:ownKnob Tryz.prog.godebug=none:=by kernel_rfl
theorem laidOut:laidOutB Tryz.prog=true:=by kernel_rfl
theorem contract (H:Type) (enc:TypeId×Value->H) (W:World) (base:Nat) (args:Array Value) (f n:List (DataW H)) (b:List MemPlace)
 (a: ∀(j:Nat) t v,Tryz.f3.params[j]? =some t->args[j]? =some v->Value.okWide Tryz.prog W .any base t v)
 (s:DataW.Whole enc Tryz.prog Tryz.f3.params.toList Rows.parseTypesSpec.vars false W args.toList f n b) (d:laidMetH Tryz.prog Rows.parseTypesRow.laid W)
 (k: (DataW.weightsEach Tryz.prog (Tryz.f3.params.toList++Rows.parseTypesSpec.plain.varTypes Tryz.prog) (f++n)).all (· <=reachBytes)=true):
 Calls Tryz.prog 3 args W fun e W'=> ∃v,e= .returned v/\Rows.parseTypesSpec.post enc Tryz.prog Tryz.f3 false true false false W args v W':=by
 have g:=s;obtain ⟨p,q,c,M,rfl,N,P⟩:=s;have r:DataW.TrodAll enc Tryz.prog W 0 (fun _=>true) true Tryz.f3.params.toList args.toList f p:=c;rw[Tryz.params3] at r a k;obtain ⟨w,V,d0,E,p0,q0,i,rfl,rfl,o,T⟩:=trodAll_cons r;obtain ⟨y,X,d1,F,p1,q1,rfl,rfl,rfl,L,U⟩:=trodAll_cons T;obtain ⟨rfl,rfl,rfl⟩:=trodAll_nil U;obtain rfl:args=#[w,y]:=by cases args; simp_all
 obtain ⟨rfl,rfl⟩:=trodVars_none M;have u:=o;have l: ∀x∈p0,x.block < W.heap.size:=by obtain ⟨m,O⟩:=u; exact DataW.trod_lt m _ _ _ O
 obtain ⟨A,n0,D,rfl⟩:=okWide_slice Tryz.underlying22 (a 0 22 w rfl rfl);obtain ⟨S,rfl,B,Q,G,Y,Z⟩:=Zmm o;obtain ⟨C,rfl,rfl,rfl,z⟩:=open_int Tryz.underlying3 (a 1 3 y rfl rfl) L;clear c;rw[MakeChecks.laidMetH_plain _ _ _ (by kernel_rfl)] at d;have I:Globs W:=ZnR d (List.Mem.tail _ (List.Mem.tail _ (List.Mem.tail _ (List.Mem.tail _ (List.Mem.tail _ (List.Mem.head _)))))) (List.Mem.tail _ (List.Mem.tail _ (List.Mem.tail _ (List.Mem.tail _ (List.Mem.head _))))) (List.Mem.tail _ (List.Mem.tail _ (List.Mem.head _)));have J:WGlobs W:=ZaD d (List.Mem.tail _ (List.Mem.tail _ (List.Mem.tail _ (List.Mem.tail _ (List.Mem.tail _ (List.Mem.tail _ (List.Mem.head _)))))));have K:Zd1 W:=Zlf d (List.Mem.tail _ (List.Mem.tail _ (List.Mem.tail _ (List.Mem.tail _ (List.Mem.tail _ (List.Mem.tail _ (List.Mem.tail _ (List.Mem.head _)))))))) (List.Mem.tail _ (List.Mem.tail _ (List.Mem.tail _ (List.Mem.head _))));refine (ZhG A D S C Q G Y Z (bounds_i64 z) W B ⟨I,J,K⟩).mono fun e W' ⟨he,bel⟩=> ?_;subst he;exact ⟨_,rfl,_,_,_,[],_,[],g,trodAll_mk1 (shut_bool Tryz.underlying4 _),(trodAll_cons_mk (Below.trod laidOut (by kernel_rfl) (of_decide_eq_true (by kernel_rfl)) u bel l) (trodAll_cons_mk (shut_int Tryz.underlying3 z) trodAll_mk0)),rfl,bel.frame _,fun h=>by cases h⟩
theorem reads (os:Os) {H:Type} (enc:TypeId×Value->H): ∃places,DataW.whole enc Tryz.prog ((World.laidAll Tryz.prog os Rows.parseTypesRow.laid).forCall (fun _ _=>0) ⟨#[], #[(.slice none 0 0),(.int .i64 0)],[]⟩).memory Tryz.f3.params.toList Rows.parseTypesSpec.vars false #[(.slice none 0 0),(.int .i64 0)].toList 8=some ([.nil,.lit (.int .i64 0)],[],places):=
 ⟨[],by kernel_rfl⟩
theorem lifted (os:Os) (a:os.Started) (H:Type) (enc:TypeId×Value->H) (F:Stop.Interp):
 ReturnsInHanded {} Tryz.checked os 3 .any ((OpenSpec.ofChange Rows.parseTypesSpec).preRow enc Tryz.prog Tryz.f3 Rows.parseTypesRow.domain false Rows.parseTypesRow.laid) (((OpenSpec.ofChange Rows.parseTypesSpec).at F).post enc Tryz.prog Tryz.f3 false true false false):=by
 obtain ⟨d,l⟩:=reads os enc;refine returnsInHanded_of_row (C:=Tryz.checked) (s:=OpenSpec.ofChange Rows.parseTypesSpec) own a (by kernel_rfl) Tryz.func3
  (Zg4 (enc:=enc) (C:=Tryz.checked) (s:=OpenSpec.ofChange Rows.parseTypesSpec) false (World.laidAll Tryz.prog os Rows.parseTypesRow.laid) #[(.slice none 0 0),(.int .i64 0)] (World.laidAll_os _ _ _)
   (World.shaped_of_ZipB (by kernel_rfl) (by kernel_rfl)) (by kernel_rfl)
   (OpenSpec.preRow_of_cond 8 l (by kernel_rfl) (fun k hk=>by cases hk) (by kernel_rfl)
    (by rw[MakeChecks.laidMetH_plain _ _ _ (by kernel_rfl)]; exact laidMet_laidAll _ (by kernel_rfl) (by kernel_rfl)))) ?_
 intro W base args g h b c j _ e f i _ _;exact contract H enc W base args g h b c j i f
theorem band {a b:Bool} (c:a=true) (d:b=true): (a&&b)=true:=by rw[c,d]; rfl
theorem facts:joinedFacts Tryz.prog 3 Tryz.f3 (OpenSpec.ofChange Rows.parseTypesSpec).bare Rows.parseTypesRow=true:=by
 unfold joinedFacts
 repeat' (with_reducible refine band ?_ ?_)
 all_goals as_aux_lemma=>kernel_rfl
theorem proved:Rows.ParseTypesSaid:=
 OpenClaim.holds_of_cond 3 Tryz.f3 rfl rfl rfl rfl rfl rfl rfl ⟨rfl,rfl,rfl,rfl,rfl⟩ rfl rfl rfl rfl rfl (by as_aux_lemma=>kernel_rfl) Tryz.func3 facts
  (of_decide_eq_true (by as_aux_lemma=>kernel_rfl)) (by unfold Func.isWrapper; first | (rw[if_pos (by decide+kernel)]; kernel_rfl) | (rw[if_neg (by decide+kernel)]; exact ⟨rfl,rfl⟩))
  (fun os started H enc _ F=>by rw[OpenClaim.pre_eq_preRow]; exact lifted os started H enc F)
theorem card:Rows.ParseTypesCardSaid:=
 Claim7.holds_tied_plain_at .later [] _ _ _ _ proved (fun _ h=>by cases h) (by as_aux_lemma=>kernel_rfl) (fun _ h=>by cases h) parseTypes_row_tie rfl ⟨rfl,rfl⟩ (by as_aux_lemma=>kernel_rfl) rfl
  (fun f fn hf hfn=>by
   obtain rfl:f=3:=Option.some.inj ((show Tryz.prog.funcNamed "pandect/pandectlaw09.ParseTypes" =some 3 by kernel_rfl).symm.trans hf) |>.symm;obtain rfl:fn=Tryz.f3:=(Option.some.inj (Tryz.func3.symm.trans hfn)).symm;exact ⟨by kernel_rfl,fun j t ht=>by
    rw[Tryz.params3] at ht;have b:t∈ [22,3]:=by simpa using Array.mem_of_getElem? ht
    have a: ([22,3].all fun u=> !Tryz.prog.wantsStandIn u)=true:=by kernel_rfl
    exact (show Tryz.prog.wantsStandIn t=false by simpa using List.all_eq_true.1 a t b)⟩)
  (by as_aux_lemma=>kernel_rfl)
