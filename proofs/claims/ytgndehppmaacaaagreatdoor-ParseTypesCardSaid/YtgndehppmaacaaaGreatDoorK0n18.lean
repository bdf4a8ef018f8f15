/- What the proofs of ParseTypes want, part 18. -/
import Derived.Test.YtgndehppmaacaaaGreatDoorK0n16
import Derived.Test.YtgndehppmaacaaaGreatDoorK0n17
set_option linter.unusedVariables false
set_option linter.unusedSimpArgs false
set_option linter.unusedSectionVars false
set_option maxRecDepth 100000
set_option maxHeartbeats 16000000
namespace Lex
theorem ZoJ {s:List UInt8} {x:Int×Nat} (h:scanR s= .error x):x.1≠0:=by
 unfold scanR at h;split at h
 {obtain rfl:=Except.error.inj h; decide}
 {cases a:toks s 0 with
  | error y=>
   rw[a] at h;obtain rfl:=Except.error.inj h;rcases (Z4C s.length s 0 y.1 y.2 (Nat.le_refl _) a).2 with b | b <;> rw[b] <;> decide
  | ok l=>rw[a] at h; cases h}
theorem ZjL {s:List UInt8} {q:List (Tok×Nat)} (h:scanR s= .ok q): ∀x∈q,x.1.kind=0\/Is x.1:=by
 unfold scanR at h;split at h
 {cases h}
 {next hl=>
  cases b:toks s 0 with
  | error y=>rw[b] at h; cases h
  | ok l=>
   rw[b] at h;obtain rfl:=Except.ok.inj h;intro x a;rcases List.mem_append.1 a with a | a
   {obtain ⟨⟨c,r,_,_,_,d⟩,_⟩:=Z3T s.length s 0 l (Nat.le_refl _) (by omega) b x a;exact Or.inr (ZoG d)}
   {rw[List.mem_singleton.1 a]; exact Or.inl rfl}}
end Lex
namespace Go.Proofs.YtgndehppmaacaaaGreatDoor
open Go.RowKit Prs Tms
open Shp (Sh)
def ScG (s:List UInt8) (w:World) (e:Ending) (w':World):Prop:= ∃(A:Option Addr) (cap:Nat) (m:List Tk) (bad:Bool),e= .returned (.tuple #[.slice A m.length cap,.bool bad])/\Tks w' w'.heap.size A m/\Below w.heap.size w w'/\
 (bad=false-> ∃q,Lex.scanR s= .ok q/\m=tkOf q)
def scanGT (s:List UInt8) (m:List Tk) (bad:Bool) (a:Int) (A:Option Addr) (cap:Nat) (w1:World):Nat->Want
 | 0=> .val (.slice A m.length cap)
 | 1=> .val (.pointer (some ⟨w1.heap.size,0,none⟩))
 | 2=> .val (.int .i64 a)
 | 3=> .val (.bool bad)
 | 4=> .val (.slice A m.length cap)
 | 5=> .val (.bool bad)
 | _=> .any
theorem ZhE (s:List UInt8) (I:s.length<=9223372036854775807) (w:World):
 Calls Tryz.prog 16 #[.string ⟨s.toArray⟩] w (ScG s w):=by
 go_enter Tryz.func16,Tryz.ntmps16
 go_wp2_with fail
 refine (ZkD s I w).mono ?_;intro e c k;obtain ⟨A,cap,m,a,b,rfl,y,u,g⟩:=k;have i:Tks c c.heap.size A m:=by
  obtain ⟨z,o,k,_,i⟩:=ZfC y;have G:A=z:=by simp at k; exact k.1
  subst G;exact i
 have D:=Y1 i;have B:=Y1 u;have C:=Y1 g;clear i u g y;have E:=Y1 (Z01 c (.cells #[.int .i64 a,.int .i64 b] 31))
 go_wp2_with fail
 have F: (c.alloc (.cells #[.int .i64 a,.int .i64 b] 31)).cell? ⟨c.heap.size,0,none⟩=some (.int .i64 a):=by simp[go_sem]
 have J: (c.alloc (.cells #[.int .i64 a,.int .i64 b] 31)).heap.size=c.heap.size+1:=by simp
 refine Zmz (rs:= [0,1,2,3,4,5])
  (fun d=> { tmps:=#[.string ⟨s.toArray⟩,undef,d 4,d 5,.slice A m.length cap,.pointer (some ⟨c.heap.size,0,none⟩),.tuple #[.slice A m.length cap,.agg #[.int .i64 a,.int .i64 b]],.string ⟨s.toArray⟩,.tuple #[.slice A m.length cap,.agg #[.int .i64 a,.int .i64 b]],.slice A m.length cap,.agg #[.int .i64 a,.int .i64 b],d 0,d 1,d 2,d 3],defers:= [] })
  (fun j=>([undef,undef,undef,undef,.slice none 0 0,.bool false]:List Value).getD j undef) (scanGT s m (a !=0) a A cap c) (fun W=>Below (c.alloc (.cells #[.int .i64 a,.int .i64 b] 31)).heap.size (c.alloc (.cells #[.int .i64 a,.int .i64 b] 31)) W) (by kernel_rfl) (by kernel_rfl) (by kernel_rfl) Y2.drew ?_ ?_
 refine StepsAt.cons _ rfl (fun d W K' hJ hd hK=> ?_) ?_
 {refine Y0 hK hJ rfl rfl rfl ?_
  try dsimp only
  go_simp}
 refine StepsAt.cons _ rfl (fun d W K' hJ hd hK=> ?_) ?_
 {refine Y0 hK hJ rfl rfl rfl ?_
  try dsimp only
  go_simp}
 refine StepsAt.cons _ rfl (fun d W K' hJ hd hK=> ?_) ?_
 {have L:_=_:=hd 1 (by kernel_rfl);have O:=(hJ.cell (p:=⟨c.heap.size,0,none⟩) (by rw[J]; show c.heap.size < c.heap.size+1; omega)).trans F;refine Y0 hK hJ rfl rfl rfl ?_
  try dsimp only
  go_simp}
 refine StepsAt.cons _ rfl (fun d W K' hJ hd hK=> ?_) ?_
 {have M:_=_:=hd 2 (by kernel_rfl);refine Y0 hK hJ rfl rfl rfl ?_
  try dsimp only
  go_simp}
 refine StepsAt.cons _ rfl (fun d W K' hJ hd hK=> ?_) ?_
 {have K:_=_:=hd 0 (by kernel_rfl);refine Y0 hK hJ rfl rfl rfl ?_
  try dsimp only
  go_simp}
 refine StepsAt.cons _ rfl (fun d W K' hJ hd hK=> ?_) StepsAt.nil
 {have N:_=_:=hd 3 (by kernel_rfl);refine Y0 hK hJ rfl rfl rfl ?_
  try dsimp only
  go_simp}
 intro d W' l h;have r:d 4= .slice A m.length cap:=h 4 (by decide);have t:d 5= .bool (a !=0):=h 5 (by decide);clear h
 try dsimp only
 rw[r,t];clear r t;go_wp2;have f:Below c.heap.size c W':=Z03 E.out l;refine bodyPost_ret (v:= .tuple #[.slice A m.length cap,.bool (a !=0)]) (by simp[results,Tryz.results16,go_sem]) rfl ?_;refine ⟨A,cap,m,(a !=0),rfl,(D.out.keep f (Nat.le_refl _)).more f.size,Z03 B.out f,fun hbad=> ?_⟩;have g:=C.out;have H:a=0:=by simpa using hbad
 cases n:Lex.scanR s with
 | ok q=>rw[n] at g; exact ⟨q,rfl,g.1⟩
 | error x=>
  rw[n] at g;obtain ⟨x1,x2⟩:=x;exact absurd (g.2.1.symm.trans H) (Lex.ZoJ n)
end Go.Proofs.YtgndehppmaacaaaGreatDoor
namespace Go.Proofs.YtgndehppmaacaaaGreatDoor
section
open Go.RowKit Prs Tms
open Shp (Sh)
def ScdV (l:List Tk) (w:World) (e:Ending) (w':World):Prop:=Below w.heap.size w w'/\ ∃b:Bool,e= .returned (.bool b)/\(b=true-> ∀t∈l,(t.t.kind=1->Lex.isName t.t.text=true)/\(t.t.kind=2->Lex.isUpper t.t.text=true))
theorem ZiQ (A:Option Addr) (c:Nat) (l:List Tk) (hl:l.length<=9223372036854775807) (X: ∀b∈l,b.t.text.length<=9223372036854775807) (w:World) (h:Tks w w.heap.size A l):
 Calls Tryz.prog 6 #[.slice A l.length c] w (ScdV l w):=by
 have HT:=Y1 h;have HL:=Y1 X;have Z:=Y1 (Below.refl w.heap.size w);clear h X;go_enter Tryz.func6,Tryz.ntmps6
 go_wp2_with fail
 go_loopw [3] (fun ii wr=> ∃i:Nat,ii= .int .i64 i/\i<=l.length/\Hid (Below w.heap.size w wr)/\Hid (∀j (h:j < l.length),j < i->((l[j]'h).t.kind=1->Lex.isName (l[j]'h).t.text=true)/\((l[j]'h).t.kind=2->Lex.isUpper (l[j]'h).t.text=true))) (fun ii _=>l.length - (intOf ii).toNat)
 case atStart=>exact ⟨0,rfl,Nat.zero_le _,Z,Y1 (fun j h hj=>absurd hj (Nat.not_lt_zero _))⟩
 case round=>
  obtain ⟨i,rfl,hi,E,W⟩:=hrel;by_cases T:i < l.length
  {have a6: (i:Int) < (l.length:Int):=by omega
   have a8:Tks wr wr.heap.size A l:=HT.out.on E.out;rcases a8 with h0 | ⟨g,off,rfl,M,hc⟩
   {omega}
   obtain ⟨x,Y⟩: ∃x,x=l[i]'T:=⟨_,rfl⟩;obtain ⟨N,c1,c2⟩:=hc i T;rw[<-Y] at N c1 c2;have D:x.t.text.length<=9223372036854775807:=by rw[Y]; exact HL.out _ (List.getElem_mem _)
   have HX:=Y1 Y;clear hc Y;by_cases n:x.t.kind=1
   {have S: (x.t.kind==1)=true:=by simp[n]
    clear n;have r:=Y1 (ZhE x.t.text D wr);clear D
    go_wp2_with fail
    refine r.out.mono ?_;rintro e w2 ⟨A2,cap,m,G,rfl,C,k,U⟩;have f:=Y1 (E.out.trans (k.mono E.out.size));have k0:=(k.cell (p:=⟨g,off+i * 3,none⟩) M).trans N;have k1:=(k.cell (p:=⟨g,off+i * 3+1,none⟩) M).trans c1;have HQ:=Y1 U;have F:=Y1 C;clear k C U N c1 c2 r M;cases G with
    | true=>
     go_wp2_with fail
     go_quiet (fail)
     go_wp2;refine bodyPost_ret (v:= .bool false) (by simp[results,Tryz.results6,go_sem]) rfl ?_;exact ⟨Z0Q f.out _,false,rfl,nofun⟩
    | false=>
     by_cases H:m.length=2
     {have e2: ((m.length:Int) !=2)=false:=by rw[H]; rfl
      rcases F.out with h0 | ⟨g2,V,rfl,a5,s⟩
      {omega}
      obtain ⟨y,J⟩: ∃y,y=m[0]'(by omega):=⟨_,rfl⟩;obtain ⟨O,P,Q⟩:=s 0 (by omega);rw[<-J] at O P Q;simp only[Nat.zero_mul,Nat.add_zero] at O P Q;have a7: (0:Int) < (m.length:Int):=by omega
      have HM:Hid (y∈m):=Y1 (by rw[J]; exact List.getElem_mem _);clear s J H;by_cases u:y.t.kind=x.t.kind
      {have n0: (y.t.kind !=x.t.kind)=false:=by simp[u]
       by_cases a:y.t.text=x.t.text
       {have n1: (y.t.text !=x.t.text)=false:=by simp[a]
        have n2: (y.t.text==x.t.text)=true:=by simp[a]
        have o:Hid (∀j (h:j < l.length),j < i+1->((l[j]'h).t.kind=1->Lex.isName (l[j]'h).t.text=true)/\((l[j]'h).t.kind=2->Lex.isUpper (l[j]'h).t.text=true)):=Y1 (fun j h hj=>by
         by_cases e:j=i
         {subst e;rw[<-HX.out];obtain ⟨q,I,rfl⟩:=HQ.out rfl;obtain ⟨z,K,L⟩:=List.mem_map.1 HM.out;have d:=Lex.ZjL I z K;have S:z.1=y.t:=by rw[<-L]
          rw[S] at d;rcases d with d | d
          {exact ⟨fun h=>by omega,fun h=>by omega⟩}
          {exact ⟨fun h=>by rw[<-a]; exact d.nm (by omega),fun h=>by rw[<-a]; exact d.up (by omega)⟩}}
         · exact W.out j h (by omega))
        clear u a
        go_wp2_with fail
        go_quiet (fail)
        go_wp2
        go_roundw
        case rel=>exact ⟨i+1,by go_num,by omega,Y1 (Z0Q f.out _),o⟩
        case measure=>simp[intOf]; omega}
       {have n1: (y.t.text !=x.t.text)=true:=by simpa using a
        have n2: (y.t.text==x.t.text)=false:=by simpa using a
        clear u a
        go_wp2_with fail
        go_quiet (fail)
        go_wp2;refine bodyPost_ret (v:= .bool false) (by simp[results,Tryz.results6,go_sem]) rfl ?_;exact ⟨Z0Q f.out _,false,rfl,nofun⟩}}
      {have n0: (y.t.kind !=x.t.kind)=true:=by simpa using u
       clear u
       go_wp2_with fail
       go_quiet (fail)
       go_wp2;refine bodyPost_ret (v:= .bool false) (by simp[results,Tryz.results6,go_sem]) rfl ?_;exact ⟨Z0Q f.out _,false,rfl,nofun⟩}}
     {have e2: ((m.length:Int) !=2)=true:=by simp; omega
      clear H
      go_wp2_with fail
      go_quiet (fail)
      go_wp2;refine bodyPost_ret (v:= .bool false) (by simp[results,Tryz.results6,go_sem]) rfl ?_;exact ⟨Z0Q f.out _,false,rfl,nofun⟩}}
   {have S: (x.t.kind==1)=false:=by simpa using n
    by_cases B:x.t.kind=2
    {have e3: (x.t.kind==2)=true:=by simp[B]
     clear n B;have r:=Y1 (ZhE x.t.text D wr);clear D
     go_wp2_with fail
     refine r.out.mono ?_;rintro e w2 ⟨A2,cap,m,G,rfl,C,k,U⟩;have f:=Y1 (E.out.trans (k.mono E.out.size));have k0:=(k.cell (p:=⟨g,off+i * 3,none⟩) M).trans N;have k1:=(k.cell (p:=⟨g,off+i * 3+1,none⟩) M).trans c1;have HQ:=Y1 U;have F:=Y1 C;clear k C U N c1 c2 r M;cases G with
     | true=>
      go_wp2_with fail
      go_quiet (fail)
      go_wp2;refine bodyPost_ret (v:= .bool false) (by simp[results,Tryz.results6,go_sem]) rfl ?_;exact ⟨Z0Q f.out _,false,rfl,nofun⟩
     | false=>
      by_cases H:m.length=2
      {have e2: ((m.length:Int) !=2)=false:=by rw[H]; rfl
       rcases F.out with h0 | ⟨g2,V,rfl,a5,s⟩
       {omega}
       obtain ⟨y,J⟩: ∃y,y=m[0]'(by omega):=⟨_,rfl⟩;obtain ⟨O,P,Q⟩:=s 0 (by omega);rw[<-J] at O P Q;simp only[Nat.zero_mul,Nat.add_zero] at O P Q;have a7: (0:Int) < (m.length:Int):=by omega
       have HM:Hid (y∈m):=Y1 (by rw[J]; exact List.getElem_mem _);clear s J H;by_cases u:y.t.kind=x.t.kind
       {have n0: (y.t.kind !=x.t.kind)=false:=by simp[u]
        by_cases a:y.t.text=x.t.text
        {have n1: (y.t.text !=x.t.text)=false:=by simp[a]
         have n2: (y.t.text==x.t.text)=true:=by simp[a]
         have o:Hid (∀j (h:j < l.length),j < i+1->((l[j]'h).t.kind=1->Lex.isName (l[j]'h).t.text=true)/\((l[j]'h).t.kind=2->Lex.isUpper (l[j]'h).t.text=true)):=Y1 (fun j h hj=>by
          by_cases e:j=i
          {subst e;rw[<-HX.out];obtain ⟨q,I,rfl⟩:=HQ.out rfl;obtain ⟨z,K,L⟩:=List.mem_map.1 HM.out;have d:=Lex.ZjL I z K;have S:z.1=y.t:=by rw[<-L]
           rw[S] at d;rcases d with d | d
           {exact ⟨fun h=>by omega,fun h=>by omega⟩}
           {exact ⟨fun h=>by rw[<-a]; exact d.nm (by omega),fun h=>by rw[<-a]; exact d.up (by omega)⟩}}
          · exact W.out j h (by omega))
         clear u a
         go_wp2_with fail
         go_quiet (fail)
         go_wp2
         go_roundw
         case rel=>exact ⟨i+1,by go_num,by omega,Y1 (Z0Q f.out _),o⟩
         case measure=>simp[intOf]; omega}
        {have n1: (y.t.text !=x.t.text)=true:=by simpa using a
         have n2: (y.t.text==x.t.text)=false:=by simpa using a
         clear u a
         go_wp2_with fail
         go_quiet (fail)
         go_wp2;refine bodyPost_ret (v:= .bool false) (by simp[results,Tryz.results6,go_sem]) rfl ?_;exact ⟨Z0Q f.out _,false,rfl,nofun⟩}}
       {have n0: (y.t.kind !=x.t.kind)=true:=by simpa using u
        clear u
        go_wp2_with fail
        go_quiet (fail)
        go_wp2;refine bodyPost_ret (v:= .bool false) (by simp[results,Tryz.results6,go_sem]) rfl ?_;exact ⟨Z0Q f.out _,false,rfl,nofun⟩}}
      {have e2: ((m.length:Int) !=2)=true:=by simp; omega
       clear H
       go_wp2_with fail
       go_quiet (fail)
       go_wp2;refine bodyPost_ret (v:= .bool false) (by simp[results,Tryz.results6,go_sem]) rfl ?_;exact ⟨Z0Q f.out _,false,rfl,nofun⟩}}
    {have e3: (x.t.kind==2)=false:=by simpa using B
     have o:Hid (∀j (h:j < l.length),j < i+1->((l[j]'h).t.kind=1->Lex.isName (l[j]'h).t.text=true)/\((l[j]'h).t.kind=2->Lex.isUpper (l[j]'h).t.text=true)):=Y1 (fun j h hj=>by
      by_cases e:j=i
      {subst e; rw[<-HX.out]; exact ⟨fun h=>absurd h n,fun h=>absurd h B⟩}
      · exact W.out j h (by omega))
     have a0:=E;clear n B;go_wp2
     go_roundw
     case rel=>exact ⟨i+1,by go_num,by omega,a0,o⟩
     case measure=>simp[intOf]; omega}}}
  {have a6: ¬(i:Int) < (l.length:Int):=by omega
   obtain rfl:i=l.length:=by omega
   go_wp2;refine bodyPost_ret (v:= .bool true) (by simp[results,Tryz.results6,go_sem]) rfl ?_;refine ⟨E.out,true,rfl,fun _ t X=> ?_⟩;obtain ⟨j,hj,rfl⟩:=List.getElem_of_mem X;exact W.out j hj hj}
end
end Go.Proofs.YtgndehppmaacaaaGreatDoor
namespace Prs
open Go.Proofs.YtgndehppmaacaaaGreatDoor (Tk)
theorem ZeW {l:List Tk} {m:Nat} (h: ∀b∈l,b.t.text.length<=m) (i:Nat): (look l i).t.text.length<=m:=by
 by_cases a:i < l.length
 {rw[look_in a]; exact h _ (List.getElem_mem _)}
 {rw[Zh1 a]; exact Nat.zero_le _}
theorem ZfU (o n:List UInt8): (upper o n).names= []/\(upper o n).parts= []/\(upper o n).of_.length<=o.length/\(upper o n).name.length<=n.length:=by
 unfold upper
 repeat' split
 all_goals exact ⟨rfl,rfl,by simp,by simp⟩
theorem Zim {l:List Tk} {i:Nat} (n:Nat) (h: (look l i).t.kind=2):shp (n+1) l i= .ok (upper [] (look l i).t.text,i+1):=by unfold shp; rw[if_pos h]
end Prs
namespace Go.Proofs.YtgndehppmaacaaaGreatDoor
open Go.RowKit Prs
open Shp (Sh)
end Go.Proofs.YtgndehppmaacaaaGreatDoor
namespace Go.Proofs.YtgndehppmaacaaaGreatDoor
open Go.RowKit Prs Tms
open Shp (Sh)
def DTy (W:World) (r:R Sh) (e:Ending) (W':World):Prop:=Below W.heap.size W W'/\match r with
 | .ok y=> ∃x:ES,e= .returned (.tuple #[valS x,.int .i64 (y.2:Int),.agg #[.int .i64 0,.int .i64 0]])/\x.t=y.1/\x.Is W'/\W.heap.size<=x.lo
 | .error f=> ∃(x:ES) (j:Int),e= .returned (.tuple #[valS x,.int .i64 j,.agg #[.int .i64 f.1,.int .i64 f.2]])/\f.1≠0
theorem ZjM {W W':World} {u:Sh} {j:Nat} (e:u.names= []) (d:u.parts= []) (c:u.of_.length<=1000000) (b:u.name.length<=1000000) (a:Below W.heap.size W W'):
 DTy W (.ok (u,j)) (.returned (.tuple #[.agg #[.int .i64 u.kind,.string ⟨u.of_.toArray⟩,.string ⟨u.name.toArray⟩,.slice none 0 0,.slice none 0 0],.int .i64 (j:Int),.agg #[.int .i64 0,.int .i64 0]])) W':=by
 obtain ⟨k,o,n,ns,ps⟩:=u;simp only at e d c b;subst e d;exact ⟨a,⟨⟨k,o,n,[],[]⟩,⟨none,0,none,0⟩,W'.heap.size,W'.heap.size⟩,rfl,rfl,Ze4 W' k c b,a.size⟩
theorem Zdo {W W':World} {f:Flt} (x:ES) (j:Int) (b:f.1≠0) (a:Below W.heap.size W W'):DTy W (.error f) (.returned (.tuple #[valS x,.int .i64 j,.agg #[.int .i64 f.1,.int .i64 f.2]])) W':=⟨a,x,j,rfl,b⟩
def es0:ES:=⟨⟨0,[],[],[],[]⟩,⟨none,0,none,0⟩,0,0⟩
theorem Zq8 (A:Option Addr) (c:Nat) (l:List Tk) (i:Nat) (n:Nat) (m:l.length<=1000000) (k:i<=2000000) (a:noShp l i=true) (w:World) (h:Tks w w.heap.size A l):
 Calls Tryz.prog 32 #[.slice A l.length c,.int .i64 (i:Int)] w (DTy w (shp n l i)):=by
 refine (ZmD A c l i n m k a w h).mono ?_;rintro e w' ⟨v,rfl,b,d⟩;rw[ZmC n a] at b ⊢;obtain ⟨s,q,F,j,f,rfl,rfl,g⟩:=b;exact ⟨d,⟨s,q,0,0⟩,j,rfl,g⟩
theorem ZcL {n:Nat} {w a b:World} {F:List Nat} (h:Below n w a) (c:UpT F a b) (d: ∀x∈F,n<=x) (e:n<=a.heap.size):Below n w b:=
 ⟨c.os.trans h.os,c.tape.trans h.tape,c.output.trans h.output,Nat.le_trans h.size c.size,fun k hk=>(c.block k (Nat.lt_of_lt_of_le hk e) (fun hx=>by have:=d k hx; omega)).trans (h.block k hk)⟩
structure UI (W0:World) (z x:Nat) (val:Nat->Option Value) (u:Sh) (q:Ptr) (f:Flt) (si fi:Nat) (d:Nat->Bool) (v:Nat->Value) (W:World):Prop where
 vals: ∀j,d j=true-> ∀v',val j=some v'->v j=v'
 up:UpT [z,x] W0 W
 bz: ∀k,k < 5->(∃c,W.cell? ⟨z,k,none⟩=some c)/\W.frozen? ⟨z,k,none⟩=false
 bx: ∀k,k < 2->(∃c,W.cell? ⟨x,k,none⟩=some c)/\W.frozen? ⟨x,k,none⟩=false
 cz:d si=true->Sh5 W z 0 u q
 cx:d fi=true->W.cell? ⟨x,0,none⟩=some (.int .i64 f.1)/\W.cell? ⟨x,1,none⟩=some (.int .i64 f.2)
section
variable {W0 W W' : World} {z x : Nat} {val : Nat -> Option Value} {u : Sh} {q : Ptr} {f : Flt} {si fi : Nat} {d : Nat -> Bool} {v : Nat -> Value}
theorem UI.vals' (h:UI W0 z x val u q f si fi d v W) {i:Nat} {a:Value} (c: ∀v',val i=some v'->a=v'): ∀j,also d i j=true-> ∀v',val j=some v'->upd v i a j=v':=fun j hj v' hv'=>by
 by_cases e:j=i
 {subst e; rw[show upd v j a j=a by simp[upd]]; exact c v' hv'}
 {have b:Nat.beq j i=false:=by cases b:Nat.beq j i <;> first | rfl | exact absurd (Nat.eq_of_beq_eq_true b) e
  rw[show upd v i a j=v j by unfold upd; rw[b]; rfl];refine h.vals j ?_ v' hv';unfold also at hj;have:Nat.beq j i=false:=by cases b:Nat.beq j i <;> first | rfl | exact absurd (Nat.eq_of_beq_eq_true b) e
  rw[this] at hj;exact hj}
theorem Z08 (d:Nat->Bool) {i j:Nat} (h:j≠i):also d i j=d j:=by
 unfold also;have:Nat.beq j i=false:=by cases a:Nat.beq j i <;> first | rfl | exact absurd (Nat.eq_of_beq_eq_true a) h
 rw[this]; rfl
section
variable (h : UI W0 z x val u q f si fi d v W)
include h
theorem UI.on (n:z < W.heap.size) (m:x < W.heap.size) {i:Nat} (w:i≠si/\i≠fi) {a:Value} (t: ∀v',val i=some v'->a=v') (e:Below W.heap.size W W'):UI W0 z x val u q f si fi (also d i) (upd v i a) W':=by
 have b:=fun k=>e.cell (p:=⟨z,k,none⟩) n;have s:=fun k=>e.frozen (p:=⟨z,k,none⟩) n;have j:=fun k=>e.cell (p:=⟨x,k,none⟩) m;have r:=fun k=>e.frozen (p:=⟨x,k,none⟩) m;refine ⟨h.vals' t,h.up.below e,fun k hk=>⟨?_,(s k).trans (h.bz k hk).2⟩,fun k hk=>⟨?_,(r k).trans (h.bx k hk).2⟩,fun hd=> ?_,fun hd=> ?_⟩
 {obtain ⟨c,l⟩:=(h.bz k hk).1; exact ⟨c,(b k).trans l⟩}
 {obtain ⟨c,l⟩:=(h.bx k hk).1; exact ⟨c,(j k).trans l⟩}
 {obtain ⟨g,a1,a2,a3,o⟩:=h.cz (by rw[Z08 d (by omega)] at hd; exact hd);exact ⟨(b _).trans g,(b _).trans a1,(b _).trans a2,(b _).trans a3,(b _).trans o⟩}
 {obtain ⟨g,a1⟩:=h.cx (by rw[Z08 d (by omega)] at hd; exact hd);exact ⟨(j _).trans g,(j _).trans a1⟩}
theorem UI.lt:z < W.heap.size/\x < W.heap.size:=by
 obtain ⟨c,b⟩:=(h.bz 0 (by decide)).1;obtain ⟨e,a⟩:=(h.bx 0 (by decide)).1;exact ⟨lt_of_cell b,lt_of_cell a⟩
theorem UI.pure {i:Nat} (c:i≠si/\i≠fi) {a:Value} (b: ∀v',val i=some v'->a=v'):UI W0 z x val u q f si fi (also d i) (upd v i a) W:=
 h.on h.lt.1 h.lt.2 c b Y2
end
def lay5 (W:World) (z:Nat) (u:Sh) (q:Ptr):World:=
 ((((W.setCell ⟨z,0,none⟩ (.int .i64 u.kind)).setCell ⟨z,1,none⟩ (.string ⟨u.of_.toArray⟩)).setCell ⟨z,2,none⟩ (.string ⟨u.name.toArray⟩)).setCell ⟨z,3,none⟩ (.slice q.A u.names.length q.c)).setCell ⟨z,4,none⟩ (.slice q.P u.parts.length q.d)
theorem soc9 {W:World} {b:Nat} {p q:Nat} {v:Value} {c:Nat} (h:b≠c\/p≠q): (W.setCell ⟨b,p,none⟩ v).cell? ⟨c,q,none⟩=W.cell? ⟨c,q,none⟩:=World.cell?_setCell_other _ _ _ _ (fun e=>by
 have a:=congrArg Addr.block e; have g:=congrArg Addr.off e; simp at a g; omega)
theorem ZeA {W:World} {b p:Nat} {v c:Value} (h:W.cell? ⟨b,p,none⟩=some c): (W.setCell ⟨b,p,none⟩ v).cell? ⟨b,p,none⟩=some v:=by
 simp[go_sem,h]
theorem fro9 {W:World} {a b:Addr} {v:Value}: (W.setCell a v).frozen? b=W.frozen? b:=by simp[go_sem]
theorem Zq9 {W:World} {z:Nat} {u:Sh} {q:Ptr} (h: ∀k,k < 5-> ∃c,W.cell? ⟨z,k,none⟩=some c):Sh5 (lay5 W z u q) z 0 u q:=by
 obtain ⟨j,a⟩:=h 0 (by decide);obtain ⟨c1,b⟩:=h 1 (by decide);obtain ⟨c2,e⟩:=h 2 (by decide);obtain ⟨c3,g⟩:=h 3 (by decide);obtain ⟨c4,i⟩:=h 4 (by decide);unfold lay5;refine ⟨?_, ?_, ?_, ?_, ?_⟩
 {show (((((W.setCell ⟨z,0,none⟩ _).setCell ⟨z,1,none⟩ _).setCell ⟨z,2,none⟩ _).setCell ⟨z,3,none⟩ _).setCell ⟨z,4,none⟩ _).cell? ⟨z,0,none⟩=_;rw[soc9 (Or.inr (by decide)),soc9 (Or.inr (by decide)),soc9 (Or.inr (by decide)),soc9 (Or.inr (by decide))];exact ZeA a}
 {simp only[Nat.zero_add];rw[soc9 (Or.inr (by decide)),soc9 (Or.inr (by decide)),soc9 (Or.inr (by decide))];exact ZeA (by rw[soc9 (Or.inr (by decide))]; exact b)}
 {simp only[Nat.zero_add];rw[soc9 (Or.inr (by decide)),soc9 (Or.inr (by decide))];exact ZeA (by rw[soc9 (Or.inr (by decide)),soc9 (Or.inr (by decide))]; exact e)}
 {simp only[Nat.zero_add];rw[soc9 (Or.inr (by decide))];exact ZeA (by rw[soc9 (Or.inr (by decide)),soc9 (Or.inr (by decide)),soc9 (Or.inr (by decide))]; exact g)}
 {simp only[Nat.zero_add];exact ZeA (by rw[soc9 (Or.inr (by decide)),soc9 (Or.inr (by decide)),soc9 (Or.inr (by decide)),soc9 (Or.inr (by decide))]; exact i)}
theorem ZjN {W:World} {z c k:Nat} {u:Sh} {q:Ptr} (h:z≠c): (lay5 W z u q).cell? ⟨c,k,none⟩=W.cell? ⟨c,k,none⟩:=by
 unfold lay5;rw[soc9 (Or.inl h),soc9 (Or.inl h),soc9 (Or.inl h),soc9 (Or.inl h),soc9 (Or.inl h)]
theorem Zns {W:World} {z:Nat} {u:Sh} {q:Ptr} (a:Addr): (lay5 W z u q).frozen? a=W.frozen? a:=by
 unfold lay5;rw[fro9,fro9,fro9,fro9,fro9]
section
variable (h : UI W0 z x val u q f si fi d v W) (hne : z ≠ x) (hsf : si ≠ fi)
include h hne hsf
theorem UI.sz (b:val si=none) (a:Value):UI W0 z x val u q f si fi (also d si) (upd v si a) (lay5 W z u q):=by
 have m:=Zq9 (u:=u) (q:=q) (fun k hk=>(h.bz k hk).1);have o:UpT [z,x] W0 (lay5 W z u q):=by
  unfold lay5;exact ((((h.up.set _ (Or.inr (by simp)) _).set _ (Or.inr (by simp)) _).set _ (Or.inr (by simp)) _).set _ (Or.inr (by simp)) _).set _ (Or.inr (by simp)) _
 refine ⟨h.vals' (fun v' hv=>by rw[b] at hv; cases hv),o,fun k hk=>⟨?_,(Zns _).trans (h.bz k hk).2⟩,fun k hk=>⟨?_,(Zns _).trans (h.bx k hk).2⟩,fun _=>m,fun hd=> ?_⟩
 {obtain ⟨e,g,i,j,l⟩:=m;simp only[Nat.zero_add] at e g i j l;rcases k with _ | _ | _ | _ | _ | k
  {exact ⟨_,e⟩}
  {exact ⟨_,g⟩}
  {exact ⟨_,i⟩}
  {exact ⟨_,j⟩}
  {exact ⟨_,l⟩}
  {omega}}
 {obtain ⟨c,n⟩:=(h.bx k hk).1; exact ⟨c,(ZjN hne).trans n⟩}
 {obtain ⟨e,g⟩:=h.cx (by rw[Z08 d (by omega)] at hd; exact hd);exact ⟨(ZjN hne).trans e,(ZjN hne).trans g⟩}
theorem UI.sx (e:val fi=none) (a:Value):UI W0 z x val u q f si fi (also d fi) (upd v fi a) ((W.setCell ⟨x,0,none⟩ (.int .i64 f.1)).setCell ⟨x,1,none⟩ (.int .i64 f.2)):=by
 obtain ⟨p,m⟩:=(h.bx 0 (by decide)).1;obtain ⟨c1,n⟩:=(h.bx 1 (by decide)).1;have g: ((W.setCell ⟨x,0,none⟩ (.int .i64 f.1)).setCell ⟨x,1,none⟩ (.int .i64 f.2)).cell? ⟨x,0,none⟩=some (.int .i64 f.1):=by rw[soc9 (Or.inr (by decide))]; exact ZeA m
 have i: ((W.setCell ⟨x,0,none⟩ (.int .i64 f.1)).setCell ⟨x,1,none⟩ (.int .i64 f.2)).cell? ⟨x,1,none⟩=some (.int .i64 f.2):=ZeA (by rw[soc9 (Or.inr (by decide))]; exact n);have b: ∀k,((W.setCell ⟨x,0,none⟩ (.int .i64 f.1)).setCell ⟨x,1,none⟩ (.int .i64 f.2)).cell? ⟨z,k,none⟩=W.cell? ⟨z,k,none⟩:=fun k=>by rw[soc9 (Or.inl hne.symm),soc9 (Or.inl hne.symm)]
 refine ⟨h.vals' (fun v' hv=>by rw[e] at hv; cases hv),(h.up.set _ (Or.inr (by simp)) _).set _ (Or.inr (by simp)) _,fun k hk=>⟨?_,by rw[fro9,fro9]; exact (h.bz k hk).2⟩,fun k hk=>⟨?_,by rw[fro9,fro9]; exact (h.bx k hk).2⟩,fun hd=> ?_,fun _=>⟨g,i⟩⟩
 {obtain ⟨c,o⟩:=(h.bz k hk).1; exact ⟨c,(b k).trans o⟩}
 {rcases k with _ | _ | k
  {exact ⟨_,g⟩}
  {exact ⟨_,i⟩}
  {omega}}
 {obtain ⟨j,a1,a2,a3,l⟩:=h.cz (by rw[Z08 d (by omega)] at hd; exact hd);exact ⟨(b _).trans j,(b _).trans a1,(b _).trans a2,(b _).trans a3,(b _).trans l⟩}
end
end
end Go.Proofs.YtgndehppmaacaaaGreatDoor
namespace Prs
open Go.Proofs.YtgndehppmaacaaaGreatDoor (Tk)
theorem ZoL {l:List Tk} {i:Nat} (n:Nat) (h: (look l i).t.kind=1):shp (n+1) l i=andThen (need l (i+1) [47]) fun j=>andThen (kind l j 2) fun s=> .ok (upper (look l i).t.text s.1,s.2):=by
 unfold shp; rw[if_neg (by rw[h]; decide),if_pos h]
end Prs
namespace Go.Proofs.YtgndehppmaacaaaGreatDoor
open Go.RowKit Prs
open Shp (Sh)
section
variable (A : Option Addr) (c : Nat) (l : List Tk) (i : Nat) (n : Nat) (hl : l.length <= 1000000)
include A c l i n hl
theorem Znt (S:i<=2000000) (M: ∀b∈l,b.t.text.length<=1000000) (s: (Prs.look l i).t.kind=2) (w:World) (h:Tks w w.heap.size A l):
 Calls Tryz.prog 32 #[.slice A l.length c,.int .i64 (i:Int)] w (DTy w (shp (n+1) l i)):=by
 have K:=Y1 (Zim n s);have t:=Y1 (ZcH w);have D:=Y1 (Zd3 w);have p:=Y1 (Zdg w);have B:=Y1 (h.on (ZcH w));have m:=Y1 (ZeW M i);obtain ⟨x,k⟩: ∃x,x=Prs.look l i:=⟨_,rfl⟩;have C:=Y1 k;rw[<-k] at s K m;have e2: (x.t.kind==2)=true:=by simpa using s
 clear h s M k;go_enter Tryz.func32,Tryz.ntmps32
 go_wp2_with fail
 change Calls _ _ _ (aW w) _;obtain ⟨q,o⟩: ∃q,q=w.heap.size+1:=⟨_,rfl⟩;rw[<-o] at p ⊢;have G:w.heap.size≠q:=by omega
 have z:Hid (w.heap.size<=q):=Y1 (by omega);generalize aW w=W0 at t D p B ⊢;clear o;have E:=ZcY A c l i hl S W0 B.out;rw[<-C.out] at E;refine E.mono ?_;rintro e J ⟨rfl,a⟩;have d:=Z01 J (.cells #[.int .i64 x.t.kind,.string ⟨x.t.text.toArray⟩,.int .i64 x.at_] 46);obtain ⟨N,O⟩:=Zdf J x;have f:=Y1 (Z03 (Z03 t.out a) d);have j:=Y1 ((D.out.next a).next d);have g:=Y1 ((p.out.next a).next d);clear E a d t D p B
 go_wp2_with fail
 generalize J.alloc (.cells #[.int .i64 x.t.kind,.string ⟨x.t.text.toArray⟩,.int .i64 x.at_] 46)=V1 at f j g N O ⊢;have F:=Zfa [] x.t.text V1;obtain ⟨u,H⟩: ∃u,u=upper [] x.t.text:=⟨_,rfl⟩;have L:=Y1 H;rw[<-H] at F;refine F.mono ?_;rintro e V2 ⟨rfl,r⟩;have y:=Y1 (Z03 f.out r);obtain ⟨U,⟨W,X,Y,Z,z4⟩,y0,y1,y2,y3,y4⟩:=j.out.next r;obtain ⟨p0,x0,x1,v0,v1⟩:=g.out.next r;clear F H r f j g N O;go_wp2;refine bodyPost_ret (v:= .tuple #[.agg #[.int .i64 u.kind,.string ⟨u.of_.toArray⟩,.string ⟨u.name.toArray⟩,.slice none 0 0,.slice none 0 0],.int .i64 ((i:Int)+1),.agg #[.int .i64 0,.int .i64 0]]) (by simp[results,Tryz.results32,go_sem,U,W,X,Y,Z,z4,p0,x0,x1,G]) rfl ?_;obtain ⟨P,Q,I,V⟩:=ZfU [] x.t.text;rw[<-L.out] at P Q I V;have T:=m.out;rw[K.out, <-L.out];exact ZjM P Q (by simp at I; rw[I]; simp) (by omega) (ZcI (ZcT y.out (Nat.le_refl _) _ _ _ _ _) z.out _ _)
theorem ZoM (hi:i<=1000000) (hx: ∀b∈l,b.t.text.length<=1000000) (hk: (Prs.look l i).t.kind=1) (w:World) (h:Tks w w.heap.size A l):
 Calls Tryz.prog 32 #[.slice A l.length c,.int .i64 (i:Int)] w (DTy w (shp (n+1) l i)):=by
 have HE:=Y1 (ZoL n hk);have HB:=Y1 (ZcH w);have HZ:=Y1 (Zd3 w);have HX:=Y1 (Zdg w);have HT:=Y1 (h.on (ZcH w));have g6:=Y1 (ZeW hx i);have j4:=Y1 hx;obtain ⟨x,e0⟩: ∃x,x=Prs.look l i:=⟨_,rfl⟩;have j6:=Y1 e0;rw[<-e0] at hk HE g6;have e2:=Y3 2 hk rfl;have e1:=Y4 1 hk rfl;clear h hk hx e0;go_enter Tryz.func32,Tryz.ntmps32
 go_wp2_with fail
 change Calls _ _ _ (aW w) _;obtain ⟨D,h4⟩: ∃D,D=w.heap.size+1:=⟨_,rfl⟩;rw[<-h4] at HX ⊢;have a6:w.heap.size≠D:=by omega
 have V:Hid (w.heap.size<=D):=Y1 (by omega);generalize aW w=W0 at HB HZ HX HT ⊢;clear h4;have hL:=ZcY A c l i hl (by omega) W0 HT.out;rw[<-j6.out] at hL;refine hL.mono ?_;rintro e T ⟨rfl,K⟩;have Q:=Z01 T (.cells #[.int .i64 x.t.kind,.string ⟨x.t.text.toArray⟩,.int .i64 x.at_] 46);have G:Hid ((T.alloc (.cells #[.int .i64 x.t.kind,.string ⟨x.t.text.toArray⟩,.int .i64 x.at_] 46)).cell? ⟨T.heap.size,1,none⟩=some (.string ⟨x.t.text.toArray⟩)/\T.heap.size < (T.alloc (.cells #[.int .i64 x.t.kind,.string ⟨x.t.text.toArray⟩,.int .i64 x.at_] 46)).heap.size):=Y1 ⟨(Zdf T x).2,by simp⟩;obtain ⟨t0,t1⟩:=Zdf T x;have M:=Y1 (Z03 (Z03 HB.out K) Q);have I:=Y1 ((HZ.out.next K).next Q);have H:=Y1 ((HX.out.next K).next Q);have O:=Y1 ((HT.out.on K).on Q);have h5:w.heap.size≠T.heap.size:=by have:=HZ.out.1; have:=K.size; omega
 have h6:D≠T.heap.size:=by have:=HX.out.1; have:=K.size; omega
 clear hL K Q HB HZ HX HT
 go_wp2_with fail
 generalize T.alloc (.cells #[.int .i64 x.t.kind,.string ⟨x.t.text.toArray⟩,.int .i64 x.at_] 46)=V1 at M I H O G t0 t1 ⊢;obtain ⟨tb,h8⟩: ∃tb,tb=T.heap.size:=⟨_,rfl⟩;rw[<-h8] at G t0 t1 h5 h6 ⊢;clear h8;have Z:=ZdK A c l (i+1) [47] hl (by omega) V1 O.out;rw[show ((i+1:Nat):Int)=(i:Int)+1 from rfl] at Z;cases q:need l (i+1) [47] with
 | error f=>
  have b3:Hid (shp (n+1) l i= .error f):=Y1 (by rw[HE.out,q]; rfl);have c8:f.1≠0:=by
   unfold need at q;split at q
   {cases q}
   {cases q; show (90:Int)≠0; decide}
  have m1: (f.1 !=0)=true:=by simpa using c8
  have j1:=Y1 c8;rw[q] at Z;clear q c8;simp only[needV] at Z;refine Z.mono ?_;rintro e J ⟨rfl,o⟩;have z:=Z01 J (.cells #[.int .i64 f.1,.int .i64 f.2] 31);have F:=Y1 (Z03 (Z03 M.out o) z);have C:=Y1 (ZcG J f.1 f.2);obtain ⟨q0,⟨z0,z1,z2,z3,z4⟩,y0,y1,y2,y3,y4⟩:=(I.out.next o).next z;obtain ⟨p0,x0,x1,v0,v1⟩:=(H.out.next o).next z;obtain ⟨r0,s0,s1,u0,u1⟩:=C.out;have g1:w.heap.size≠J.heap.size:=by have:=I.out.1; have:=o.size; omega
  have g2:D≠J.heap.size:=by have:=H.out.1; have:=o.size; omega
  clear Z o z M I H O t0 t1 C
  go_wp2_with fail
  go_region
  all_goals go_wp2
  all_goals refine bodyPost_ret (v:= .tuple #[.agg #[.int .i64 0,.string ⟨#[]⟩,.string ⟨#[]⟩,.slice none 0 0,.slice none 0 0],.int .i64 ((i:Int)+1),.agg #[.int .i64 f.1,.int .i64 f.2]]) (by simp[results,Tryz.results32,go_sem,q0,z0,z1,z2,z3,z4,p0,x0,x1,a6,s0,s1]) rfl ?_
  all_goals rw[b3.out]
  all_goals exact Zdo es0 _ j1.out (by first | exact (ZcI (ZcT F.out (Nat.le_refl _) _ _ _ _ _) V.out _ _).drew | exact (ZcT (ZcI F.out V.out _ _) (Nat.le_refl _) _ _ _ _ _).drew | exact ZcI (ZcT F.out (Nat.le_refl _) _ _ _ _ _) V.out _ _)
 | ok j=>
  have hj:j=i+1+1:=by
   unfold need at q;split at q
   {cases q; rfl}
   {cases q}
  have b3:Hid (shp (n+1) l i=andThen (Prs.kind l j 2) fun s=> .ok (upper x.t.text s.1,s.2)):=Y1 (by rw[HE.out,q]; rfl);rw[q] at Z;clear q;simp only[needV] at Z;refine Z.mono ?_;rintro e J ⟨rfl,o⟩;have z:=Z01 J (.cells Yc 31);have F:=Y1 (Z03 (Z03 M.out o) z);have C:=Y1 (ZcG J 0 0);have b7:=Y1 ((I.out.next o).next z);have b5:=Y1 ((H.out.next o).next z);have b4:=Y1 ((O.out.on o).on z);have B:Hid ((J.alloc (.cells Yc 31)).cell? ⟨tb,1,none⟩=some (.string ⟨x.t.text.toArray⟩)/\tb < (J.alloc (.cells Yc 31)).heap.size):=Y1 (by
   have h1:=Z03 o z;exact ⟨(h1.cell (p:=⟨tb,1,none⟩) G.out.2).trans G.out.1,Nat.lt_of_lt_of_le G.out.2 h1.size⟩)
  have g1:w.heap.size≠J.heap.size:=by have:=I.out.1; have:=o.size; omega
  have g2:D≠J.heap.size:=by have:=H.out.1; have:=o.size; omega
  have g3:tb≠J.heap.size:=by have:=G.out.2; have:=o.size; omega
  have j5:Hid (w.heap.size<=J.heap.size):=Y1 (by have:=M.out.size; have:=o.size; omega);obtain ⟨r0,s0,s1,u0,u1⟩:=C.out;clear Z o z M I H O t0 t1 G
  go_wp2_with fail
  generalize J.alloc (.cells Yc 31)=V3 at F C b7 b5 b4 B r0 s0 s1 u0 u1 ⊢;obtain ⟨t,c9⟩: ∃t,t=J.heap.size:=⟨_,rfl⟩;have j2:Hid (w.heap.size<=t):=Y1 (by rw[c9]; exact j5.out);rw[<-c9] at C g1 g2 g3 r0 s0 s1 u0 u1 ⊢;clear c9;have u:=Zhg A c l j 2 hl (by omega) V3 b4.out;rw[hj] at u;rw[show ((i+1+1:Nat):Int)=(i:Int)+1+1 from rfl] at u
  -- what Upper is called with,and what is told
  obtain ⟨s,m,f,h7,S⟩: ∃(s:List UInt8) (m:Int) (f:Flt),ZeE (i+1+1) (Prs.kind l (i+1+1) 2)= .tuple #[.string ⟨s.toArray⟩,.int .i64 m,.agg #[.int .i64 f.1,.int .i64 f.2]]/\s.length<=1000000/\
   ((Prs.kind l (i+1+1) 2= .ok (s,m.toNat)/\m=(m.toNat:Int)/\f=(0,0))\/(Prs.kind l (i+1+1) 2= .error f/\f.1≠0)):=by
   cases E:Prs.kind l (i+1+1) 2 with
   | ok y=>
    have hy:y=((Prs.look l (i+1+1)).t.text,i+1+1+1):=by
     unfold Prs.kind at E;split at E
     {cases E; rfl}
     {cases E}
    refine ⟨y.1,(y.2:Int),(0,0),rfl, ?_,Or.inl ⟨by simp,by simp,rfl⟩⟩;rw[hy]; exact ZeW j4.out _
   | error g=>
    refine ⟨[],((i+1+1:Nat):Int),g,rfl,by simp,Or.inr ⟨rfl, ?_⟩⟩;unfold Prs.kind at E;split at E
    {cases E}
    {cases E; show (90:Int)≠0; decide}
  rw[h7] at u;have b2:=Y1 S;have j3:=Y1 hj;clear h7 S hj;refine u.mono ?_;rintro e P ⟨rfl,o⟩;have g4:=Y1 (Z03 F.out o);have h0:=Y1 (C.out.next o);have b8:=Y1 (b7.out.next o);have g9:=Y1 (b5.out.next o);have a8:Hid (P.cell? ⟨tb,1,none⟩=some (.string ⟨x.t.text.toArray⟩)/\tb < P.heap.size):=Y1 ⟨(o.cell (p:=⟨tb,1,none⟩) B.out.2).trans B.out.1,Nat.lt_of_lt_of_le B.out.2 o.size⟩;obtain ⟨r0,s0,s1,u0,u1⟩:=h0.out;obtain ⟨t1,t2⟩:=a8.out;clear u o F C b7 b5 b4 B;obtain ⟨q0,⟨z0,z1,z2,z3,z4⟩,y0,y1,y2,y3,y4⟩:=b8.out;obtain ⟨p0,x0,x1,v0,v1⟩:=g9.out
  go_wp2_with fail
  obtain ⟨r,d9⟩: ∃r,r=upper x.t.text s:=⟨_,rfl⟩;have g7:=Y1 d9;have d7:=ZfU x.t.text s;rw[<-d9] at d7;have X:=Y1 d7;clear d9 d7;have N:UpT [t] P ((P.setCell ⟨t,0,none⟩ (.int .i64 f.1)).setCell ⟨t,1,none⟩ (.int .i64 f.2)):=((UpT.refl _ _).set _ (Or.inr (by simp)) _).set _ (Or.inr (by simp)) _;have U:=Y1 (ZcL g4.out N (fun b o=>by simp at o; rw[o]; exact j2.out) (Nat.le_of_lt b8.out.1));have Y:Hid (Box2 ((P.setCell ⟨t,0,none⟩ (.int .i64 f.1)).setCell ⟨t,1,none⟩ (.int .i64 f.2)) t f.1 f.2):=Y1 ⟨by simpa[World.setCell] using r0,by simp[go_sem,s0,s1],by simp[go_sem,s0,s1],by simp[go_sem,u0],by simp[go_sem,u1]⟩;have sg:=fun b (o:b < P.heap.size) (hn:b≠t)=>N.same (b:=b) o (by simpa using hn);have b9:Hid (ZcD ((P.setCell ⟨t,0,none⟩ (.int .i64 f.1)).setCell ⟨t,1,none⟩ (.int .i64 f.2)) w.heap.size):=Y1 (by
   have h:=sg w.heap.size q0 g1;exact ⟨Nat.lt_of_lt_of_le q0 N.size,⟨(h.1 0).trans z0,(h.1 1).trans z1,(h.1 2).trans z2,(h.1 3).trans z3,(h.1 4).trans z4⟩,(h.2 0).trans y0,(h.2 1).trans y1,(h.2 2).trans y2,(h.2 3).trans y3,(h.2 4).trans y4⟩)
  have b6:Hid (Box2 ((P.setCell ⟨t,0,none⟩ (.int .i64 f.1)).setCell ⟨t,1,none⟩ (.int .i64 f.2)) D 0 0):=Y1 (by
   have h:=sg D p0 g2;exact ⟨Nat.lt_of_lt_of_le p0 N.size,(h.1 0).trans x0,(h.1 1).trans x1,(h.2 0).trans v0,(h.2 1).trans v1⟩)
  have L:Hid (((P.setCell ⟨t,0,none⟩ (.int .i64 f.1)).setCell ⟨t,1,none⟩ (.int .i64 f.2)).cell? ⟨tb,1,none⟩=some (.string ⟨x.t.text.toArray⟩)/\tb < ((P.setCell ⟨t,0,none⟩ (.int .i64 f.1)).setCell ⟨t,1,none⟩ (.int .i64 f.2)).heap.size):=Y1 (by
   have h:=sg tb t2 g3;exact ⟨(h.1 1).trans t1,Nat.lt_of_lt_of_le t2 N.size⟩)
  generalize ((P.setCell ⟨t,0,none⟩ (.int .i64 f.1)).setCell ⟨t,1,none⟩ (.int .i64 f.2))=W9 at U Y b9 b6 L ⊢;clear N sg g4 h0 b8 g9 a8 r0 s0 s1 u0 u1 t1 t2 q0 z0 z1 z2 z3 z4 y0 y1 y2 y3 y4 p0 x0 x1 v0 v1;have h3:UI W9 w.heap.size D (fun jj=>match jj with | 0=>some (.pointer (some ⟨tb,1,none⟩)) | 1=>some (.string ⟨x.t.text.toArray⟩) | 2=>some (.string ⟨s.toArray⟩) | 3=>some (.agg #[.int .i64 r.kind,.string ⟨r.of_.toArray⟩,.string ⟨r.name.toArray⟩,.slice none 0 0,.slice none 0 0]) | 4=>some (.int .i64 m) | 5=>some (.agg #[.int .i64 f.1,.int .i64 f.2]) | 7=>some (.int .i64 m) | _=>none) r ZdU f 6 8 (fun _=>false) (fun j=>([undef,undef,undef,undef,undef,undef,undef,.int .i64 0,undef]:List Value).getD j undef) W9.drew:=by
   obtain ⟨q0,⟨z0,z1,z2,z3,z4⟩,y0,y1,y2,y3,y4⟩:=b9.out;obtain ⟨p0,x0,x1,v0,v1⟩:=b6.out;refine ⟨nofun,(UpT.refl _ _).drew,fun k hk=> ?_,fun k hk=> ?_,nofun,nofun⟩
   {rcases k with _ | _ | _ | _ | _ | k
    {exact ⟨⟨_,z0⟩,y0⟩}
    {exact ⟨⟨_,z1⟩,y1⟩}
    {exact ⟨⟨_,z2⟩,y2⟩}
    {exact ⟨⟨_,z3⟩,y3⟩}
    {exact ⟨⟨_,z4⟩,y4⟩}
    {omega}}
   {rcases k with _ | _ | k
    {exact ⟨⟨_,x0⟩,v0⟩}
    {exact ⟨⟨_,x1⟩,v1⟩}
    {omega}}
  refine Z1Z (rs:= [0,1,2,3,4,5,6,7,8])
   (fun u'=> { tmps:=#[.slice A l.length c,.int .i64 ↑i,undef,undef,.pointer (some { block:=w.heap.size,off:=0 }),u' 7,.pointer (some { block:=D,off:=0 }),.pointer (some { block:=tb,off:=0 }),.int .i64 m,.pointer (some { block:=t,off:=0 }),.string { data:=s.toArray },undef,undef,undef,.slice A l.length c,.int .i64 ↑i,.agg #[.int .i64 x.t.kind,.string { data:=x.t.text.toArray },.int .i64 x.at_],.pointer (some { block:=tb,off:=0 }),.int .i64 x.t.kind,.bool false,undef,undef,undef,undef,undef,undef,.pointer (some { block:=tb,off:=0 }),.int .i64 x.t.kind,.bool true,.tuple #[.int .i64 (↑i+1+1),.agg #[.int .i64 0,.int .i64 0]],.slice A l.length c,.int .i64 ↑i,.int .i64 (↑i+1),.tuple #[.int .i64 (↑i+1+1),.agg #[.int .i64 0,.int .i64 0]],.int .i64 (↑i+1+1),.agg #[.int .i64 0,.int .i64 0],.pointer (some { block:=t,off:=0 }),.int .i64 0,.bool false,undef,undef,undef,.tuple #[.string { data:=s.toArray },.int .i64 m,.agg #[.int .i64 f.1,.int .i64 f.2]],.slice A l.length c,.int .i64 (↑i+1+1),.tuple #[.string { data:=s.toArray },.int .i64 m,.agg #[.int .i64 f.1,.int .i64 f.2]],.string { data:=s.toArray },.int .i64 m,.agg #[.int .i64 f.1,.int .i64 f.2],u' 0,u' 1,u' 2,u' 3,u' 4,u' 5,undef,undef,undef,undef,undef,undef,undef,undef,undef,undef,undef,undef,undef,undef,undef,undef,undef,undef,undef,undef,undef,undef,undef,undef,undef,undef,undef,undef,undef,undef,undef,undef,undef,undef,undef,undef,undef,undef,undef,undef,undef,undef,undef,undef,undef,undef,undef,undef,undef,undef,undef,undef,undef,undef,undef,undef,undef,undef,undef,undef],defers:= [] })
   (fun j=>([undef,undef,undef,undef,undef,undef,undef,.int .i64 0,undef]:List Value).getD j undef) (UI W9 w.heap.size D (fun jj=>match jj with | 0=>some (.pointer (some ⟨tb,1,none⟩)) | 1=>some (.string ⟨x.t.text.toArray⟩) | 2=>some (.string ⟨s.toArray⟩) | 3=>some (.agg #[.int .i64 r.kind,.string ⟨r.of_.toArray⟩,.string ⟨r.name.toArray⟩,.slice none 0 0,.slice none 0 0]) | 4=>some (.int .i64 m) | 5=>some (.agg #[.int .i64 f.1,.int .i64 f.2]) | 7=>some (.int .i64 m) | _=>none) r ZdU f 6 8) (by kernel_rfl) (by kernel_rfl) (by kernel_rfl) h3 ?_ ?_
  refine StepsInv.cons2 _ rfl (fun d u' W K' hs a hd hw u=> ?_) ?_
  {refine Z00 (v:= .pointer (some ⟨tb,1,none⟩)) (W':=W) rfl ?_ (u.out _ _ (a.pure (by decide) (fun v' h=>by cases h; rfl)));go_simp}
  refine StepsInv.cons2 _ rfl (fun d u' W K' hs a hd hw u=> ?_) ?_
  {have d0:u' 0= .pointer (some ⟨tb,1,none⟩):=a.vals 0 (hw 0 (by kernel_rfl)) _ rfl;have sg:=fun b (o:b < W9.heap.size) (h1:b≠w.heap.size) (h2:b≠D)=>a.up.same (b:=b) o (by simp[h1,h2]);have y1:=((sg tb L.out.2 h5.symm h6.symm).1 1).trans L.out.1;refine Z00 (v:= .string ⟨x.t.text.toArray⟩) (W':=W) rfl ?_ (u.out _ _ (a.pure (by decide) (fun v' h=>by cases h; rfl)));go_simp}
  refine StepsInv.cons2 _ rfl (fun d u' W K' hs a hd hw u=> ?_) ?_
  {refine Z00 (v:= .string ⟨s.toArray⟩) (W':=W) rfl ?_ (u.out _ _ (a.pure (by decide) (fun v' h=>by cases h; rfl)));go_simp}
  refine StepsInv.cons2 _ rfl (fun d u' W K' hs a hd hw u=> ?_) ?_
  {have d1:u' 1= .string ⟨x.t.text.toArray⟩:=a.vals 1 (hw 1 (by kernel_rfl)) _ rfl;have d2:u' 2= .string ⟨s.toArray⟩:=a.vals 2 (hw 2 (by kernel_rfl)) _ rfl;refine Z1n (f:=53) (args:=#[.string ⟨x.t.text.toArray⟩,.string ⟨s.toArray⟩]) (W':=W) rfl ?_ ((Zfa x.t.text s W).mono fun e w' he=>⟨.agg #[.int .i64 r.kind,.string ⟨r.of_.toArray⟩,.string ⟨r.name.toArray⟩,.slice none 0 0,.slice none 0 0], ?_,u.out _ _ (a.on a.lt.1 a.lt.2 (by decide) (fun v' h=>by cases h; rfl) he.2)⟩)
   {go_simp}
   {rw[he.1, <-g7.out]}}
  refine StepsInv.cons2 _ rfl (fun d u' W K' hs a hd hw u=> ?_) ?_
  {refine Z00 (v:= .int .i64 m) (W':=W) rfl ?_ (u.out _ _ (a.pure (by decide) (fun v' h=>by cases h; rfl)));go_simp}
  refine StepsInv.cons2 _ rfl (fun d u' W K' hs a hd hw u=> ?_) ?_
  {have sg:=fun b (o:b < W9.heap.size) (h1:b≠w.heap.size) (h2:b≠D)=>a.up.same (b:=b) o (by simp[h1,h2]);have hg:=sg t Y.out.1 g1.symm g2.symm;obtain ⟨_,s0,s1,_,_⟩:=Y.out;have y0:=(hg.1 0).trans s0;have y1:=(hg.1 1).trans s1;refine Z00 (v:= .agg #[.int .i64 f.1,.int .i64 f.2]) (W':=W) rfl ?_ (u.out _ _ (a.pure (by decide) (fun v' h=>by cases h; rfl)));go_simp}
  refine StepsInv.cons2 _ rfl (fun d u' W K' hs a hd hw u=> ?_) ?_
  {have d3:u' 3= .agg #[.int .i64 r.kind,.string ⟨r.of_.toArray⟩,.string ⟨r.name.toArray⟩,.slice none 0 0,.slice none 0 0]:=a.vals 3 (hw 3 (by kernel_rfl)) _ rfl;obtain ⟨⟨_,c0⟩,f0⟩:=a.bz 0 (by decide);obtain ⟨⟨_,c1⟩,f1⟩:=a.bz 1 (by decide);obtain ⟨⟨_,c2⟩,f2⟩:=a.bz 2 (by decide);obtain ⟨⟨_,c3⟩,f3⟩:=a.bz 3 (by decide);obtain ⟨⟨_,c4⟩,f4⟩:=a.bz 4 (by decide);have d8:=X.out;have hL:lay5 W w.heap.size r ZdU=((((W.setCell ⟨w.heap.size,0,none⟩ (.int .i64 r.kind)).setCell ⟨w.heap.size,1,none⟩ (.string ⟨r.of_.toArray⟩)).setCell ⟨w.heap.size,2,none⟩ (.string ⟨r.name.toArray⟩)).setCell ⟨w.heap.size,3,none⟩ (.slice none 0 0)).setCell ⟨w.heap.size,4,none⟩ (.slice none 0 0):=by unfold lay5; rw[d8.1,d8.2.1]; rfl
   refine Z2E (W':=lay5 W w.heap.size r ZdU) rfl ?_ (u.out _ _ (a.sz a6 (by decide) rfl undef));rw[hL];clear hL d8;go_simp}
  refine StepsInv.cons2 _ rfl (fun d u' W K' hs a hd hw u=> ?_) ?_
  {have d4:u' 4= .int .i64 m:=a.vals 4 (hw 4 (by kernel_rfl)) _ rfl;refine Z00 (v:= .int .i64 m) (W':=W) rfl ?_ (u.out _ _ (a.pure (by decide) (fun v' h=>by cases h; rfl)));go_simp}
  refine StepsInv.cons2 _ rfl (fun d u' W K' hs a hd hw u=> ?_) StepsInv.nil
  {have d5:u' 5= .agg #[.int .i64 f.1,.int .i64 f.2]:=a.vals 5 (hw 5 (by kernel_rfl)) _ rfl;obtain ⟨⟨_,c0⟩,f0⟩:=a.bx 0 (by decide);obtain ⟨⟨_,c1⟩,f1⟩:=a.bx 1 (by decide);refine Z2E (W':=(W.setCell ⟨D,0,none⟩ (.int .i64 f.1)).setCell ⟨D,1,none⟩ (.int .i64 f.2)) rfl ?_ (u.out _ _ (a.sx a6 (by decide) rfl undef));go_simp}
  intro d z' W2 a a5
  try dsimp only
  obtain ⟨a0,a1,a2,a3,a4⟩:=a.cz (a5 6 (by decide));obtain ⟨b0,b1⟩:=a.cx (a5 8 (by decide));obtain ⟨l0,l1⟩:=a.lt;simp only[Nat.zero_add] at a0 a1 a2 a3 a4;rw[X.out.1] at a3;rw[X.out.2.1] at a4;have g5:=Y1 (ZcL U.out a.up (fun b o=>by rcases (by simpa using o:b=w.heap.size\/b=D) with e | e <;> rw[e] <;> first | exact Nat.le_refl _ | exact V.out) U.out.size);rw[show z' 7= .int .i64 m from a.vals 7 (a5 7 (by decide)) _ rfl];clear a a5 h3 b9 b6 Y L U;go_wp2;refine bodyPost_ret (v:= .tuple #[.agg #[.int .i64 r.kind,.string ⟨r.of_.toArray⟩,.string ⟨r.name.toArray⟩,.slice none 0 0,.slice none 0 0],.int .i64 m,.agg #[.int .i64 f.1,.int .i64 f.2]]) (by simp[results,Tryz.results32,go_sem,a0,a1,a2,a3,a4,b0,b1,l0,l1,a6,ZdU]) rfl ?_;obtain ⟨m2,j9⟩:=b2.out;obtain ⟨u1,u2,u3,u4⟩:=X.out;have m3:=g6.out;rw[b3.out,j3.out];rcases j9 with ⟨k1,k2,k3⟩ | ⟨k1,k2⟩
  {rw[k1];show DTy w (.ok (upper x.t.text s,m.toNat)) _ _;rw[<-g7.out,k3,k2];simp only[Int.toNat_natCast];exact ZjM u1 u2 (by omega) (by omega) g5.out}
  {rw[k1];have h:=Zdo (W:=w) (f:=f) ⟨r,ZdU,0,0⟩ m k2 g5.out;unfold valS Y8 at h;simp only[u1,u2] at h;exact h}
end
end Go.Proofs.YtgndehppmaacaaaGreatDoor
namespace Prs
open Go.Proofs.YtgndehppmaacaaaGreatDoor (Tk)
open Shp (Sh)
section
variable {l : List Tk} {i : Nat}
include l i
theorem sign_kinds {s:List UInt8} (h:sign l i s=true): (look l i).t.kind≠2/\(look l i).t.kind≠1/\i < l.length:=by
 have b: (look l i).t.kind=6\/(look l i).t.kind=5:=by
  unfold sign at h;simp only[Bool.and_eq_true,Bool.or_eq_true,decide_eq_true_eq] at h;exact h.2
 refine ⟨by omega,by omega, ?_⟩;rcases Nat.lt_or_ge i l.length with a | a
 {exact a}
 {rw[ZfJ (by omega)] at b; omega}
theorem ZcX {s e:List UInt8} (h:sign l i e=true) (a:s≠e):sign l i s=false:=by
 unfold sign at h ⊢;simp only[Bool.and_eq_true,beq_iff_eq] at h;rw[h.1];simp[Ne.symm a]
theorem ZoN (n:Nat) (h:sign l i [91]=true):shp (n+1) l i=andThen (shp n l (i+1)) fun s=>andThen (need l s.2 [93]) fun j=> .ok (⟨5,[],[],[],[s.1]⟩,j):=by
 obtain ⟨b,a,_⟩:=sign_kinds h
 conv=>lhs; unfold shp
 rw[if_neg b,if_neg a,if_pos h]
end
def fieldsO (n:Nat) (l:List Tk) (i:Nat) (k:Int) (b e:List UInt8):R Sh:=if sign l i e=true then .ok (⟨k,[],[],[],[]⟩,i+1) else fields n l i k b e [] []
def funO (n:Nat) (l:List Tk) (i:Nat):R Sh:=if sign l i [41]=true then arrow n l (i+1) [] else from_ n l i []
section
variable {l : List Tk} {i : Nat} (n : Nat)
include l i n
theorem Zpw (h:sign l i [123]=true):shp (n+1) l i=fieldsO n l (i+1) 6 [44] [125]:=by
 obtain ⟨b,a,_⟩:=sign_kinds h;unfold shp; rw[if_neg b,if_neg a,if_neg (by rw[ZcX h (by decide)]; decide),if_pos h]; rfl
theorem Zpx (h:sign l i [60]=true):shp (n+1) l i=fieldsO n l (i+1) 7 [124] [62]:=by
 obtain ⟨b,a,_⟩:=sign_kinds h;unfold shp; rw[if_neg b,if_neg a,if_neg (by rw[ZcX h (by decide)]; decide),if_neg (by rw[ZcX h (by decide)]; decide),if_pos h]; rfl
theorem Zpy (h:sign l i [40]=true):shp (n+1) l i=funO n l (i+1):=by
 obtain ⟨b,a,_⟩:=sign_kinds h;unfold shp; rw[if_neg b,if_neg a,if_neg (by rw[ZcX h (by decide)]; decide),if_neg (by rw[ZcX h (by decide)]; decide),if_neg (by rw[ZcX h (by decide)]; decide),if_pos h]; rfl
end
end Prs
namespace Go.Proofs.YtgndehppmaacaaaGreatDoor
open Go.RowKit Prs
open Shp (Sh)
def ShOk (A:Option Addr) (c:Nat) (l:List Tk) (n:Nat):Prop:= ∀(i:Nat) (w:World),i<=l.length->2 * (l.length - i)+2<=n->Tks w w.heap.size A l->
 Calls Tryz.prog 32 #[.slice A l.length c,.int .i64 (i:Int)] w (DTy w (shp n l i))
def FlOk (A:Option Addr) (c:Nat) (l:List Tk) (n:Nat):Prop:= ∀(i:Nat) (k:Int) (b e:List UInt8) (w:World),i<=l.length->2 * (l.length - i)+1<=n->Tks w w.heap.size A l->
 Calls Tryz.prog 57 #[.slice A l.length c,.int .i64 (i:Int),.int .i64 k,.string ⟨b.toArray⟩,.string ⟨e.toArray⟩] w (DTy w (fieldsO n l i k b e))
structure YV5 (W:World) (g:Nat) (x:ES):Prop where
 lt:g < W.heap.size
 c0:W.cell? ⟨g,0,none⟩=some (.int .i64 x.t.kind)
 c1:W.cell? ⟨g,1,none⟩=some (.string ⟨x.t.of_.toArray⟩)
 c2:W.cell? ⟨g,2,none⟩=some (.string ⟨x.t.name.toArray⟩)
 c3:W.cell? ⟨g,3,none⟩=some (.slice x.q.A x.t.names.length x.q.c)
 c4:W.cell? ⟨g,4,none⟩=some (.slice x.q.P x.t.parts.length x.q.d)
theorem YV5.upT {W W':World} {g:Nat} {x:ES} {F:List Nat} (h:YV5 W g x) (a:UpT F W W') (c:g∉F):YV5 W' g x:=by
 have s:=a.same (b:=g) h.lt c;exact ⟨Nat.lt_of_lt_of_le h.lt a.size,(s.1 0).trans h.c0,(s.1 1).trans h.c1,(s.1 2).trans h.c2,(s.1 3).trans h.c3,(s.1 4).trans h.c4⟩
theorem YV5.next {W W':World} {g:Nat} {x:ES} (h:YV5 W g x) (a:Below W.heap.size W W'):YV5 W' g x:=h.upT (F:= []) (ZcF a) (by simp)
theorem ZeX {l:List Tk} {i:Nat} {s:List UInt8} {f:Flt} (h:need l i s= .error f):f.1≠0:=by
 unfold need at h;split at h
 {cases h}
 {obtain rfl:=Except.error.inj h; show (90:Int)≠0; decide}
def FnOk (A:Option Addr) (c:Nat) (l:List Tk) (n:Nat):Prop:= ∀(i:Nat) (w:World),i<=l.length->2 * (l.length - i)+3<=n->Tks w w.heap.size A l->
 Calls Tryz.prog 58 #[.slice A l.length c,.int .i64 (i:Int)] w (DTy w (funO n l i))
section
variable (A : Option Addr) (c : Nat) (l : List Tk) (i : Nat) (n : Nat) (hl : l.length <= 1000000) (hi : i <= 1000000)
include A c l i n hl hi
theorem ZoO (hn:2 * (l.length - i)+1<=n) (j2:ShOk A c l n) (f8: ∀m j y,shp m l j= .ok y->y.2<=1000000) (hk:sign l i [91]=true) (w:World) (h:Tks w w.heap.size A l):
 Calls Tryz.prog 32 #[.slice A l.length c,.int .i64 (i:Int)] w (DTy w (shp (n+1) l i)):=by
 have HE:=Y1 (ZoN n hk);have HB:=Y1 (ZcH w);have HZ:=Y1 (Zd3 w);have HX:=Y1 (Zdg w);have HT:=Y1 (h.on (ZcH w));obtain ⟨x,e4⟩: ∃x,x=Prs.look l i:=⟨_,rfl⟩;have i8:=Y1 e4;obtain ⟨d7,d6,f5⟩:=sign_kinds hk;rw[<-e4] at d6 d7;have e2: (x.t.kind==2)=false:=by simpa using d7
 have e1: (x.t.kind==1)=false:=by simpa using d6
 have e8:=Y1 f5;have i5:=Y1 hk;clear h hk d6 d7 e4 f5;go_enter Tryz.func32,Tryz.ntmps32
 go_wp2_with fail
 change Calls _ _ _ (aW w) _;obtain ⟨C,f3⟩: ∃C,C=w.heap.size+1:=⟨_,rfl⟩;rw[<-f3] at HX ⊢;have d8:w.heap.size≠C:=by omega
 have b9:Hid (w.heap.size<=C):=Y1 (by omega);generalize aW w=W0 at HB HZ HX HT ⊢;clear f3;have hL:=ZcY A c l i hl (by omega) W0 HT.out;rw[<-i8.out] at hL;refine hL.mono ?_;rintro e w1 ⟨rfl,a3⟩;have a4:=Z01 w1 (.cells #[.int .i64 x.t.kind,.string ⟨x.t.text.toArray⟩,.int .i64 x.at_] 46);obtain ⟨t0,t1⟩:=Zdf w1 x;have b7:=Y1 (Z03 (Z03 HB.out a3) a4);have d3:=Y1 ((HZ.out.next a3).next a4);have d1:=Y1 ((HX.out.next a3).next a4);have b1:=Y1 ((HT.out.on a3).on a4);clear hL a3 a4 HB HZ HX HT
 go_wp2_with fail
 generalize w1.alloc (.cells #[.int .i64 x.t.kind,.string ⟨x.t.text.toArray⟩,.int .i64 x.at_] 46)=V1 at b7 d3 d1 b1 t0 t1 ⊢;have hS:=ZcM A c l i [91] hl (by omega) V1 b1.out;rw[show sign l i [91]=true from i5.out] at hS;refine hS.mono ?_;rintro e V2 ⟨rfl,a⟩;have e6:=Y1 (Z03 b7.out a);have d4:=Y1 (d3.out.next a);have d2:=Y1 (d1.out.next a);have d0:=Y1 (b1.out.on a);clear hS a t0 t1 b7 d3 d1 b1
 go_wp2_with fail
 have hC:=j2 (i+1) V2 (by have:=e8.out; omega) (by have:=e8.out; omega) d0.out;refine hC.mono ?_;rintro e q ⟨a,hd⟩;have a9:=Y1 (Z03 e6.out a);have t:=Y1 (d4.out.next a);have H:=Y1 (d2.out.next a);have b2:=Y1 (d0.out.on a);have e0:=d4.out.1;have f4:=d2.out.1;have i7:Hid (w.heap.size < V2.heap.size/\C < V2.heap.size):=Y1 ⟨e0,f4⟩;have f2:Hid (V2.heap.size<=q.heap.size):=Y1 a.size;clear hC a e6 d4 d2 d0 e0 f4;cases hr:shp n l (i+1) with
 | error f=>
  rw[hr] at hd;obtain ⟨y,j,rfl,hf⟩:=hd;have P:Hid (shp (n+1) l i= .error f):=Y1 (by rw[HE.out,hr]; rfl);have e3: (f.1==0)=false:=by simpa using hf
  have HF:=Y1 hf;clear hf hr HE;simp only[valS]
  go_wp2_with fail
  obtain ⟨S,M⟩: ∃S,S=q.heap.size:=⟨_,rfl⟩;obtain ⟨d,N⟩: ∃d,d=q.heap.size+1:=⟨_,rfl⟩;have a5:=Z01 q (.cells (Y8 y.t y.q) 28);have D:=Z01 (q.alloc (.cells (Y8 y.t y.q) 28)) (.cells #[.int .i64 f.1,.int .i64 f.2] 31);have s:=Z03 a5 D;obtain ⟨k0,k1,k2,k3,k4,kf,kl⟩:=ZcK q (.int .i64 y.t.kind) (.string ⟨y.t.of_.toArray⟩) (.string ⟨y.t.name.toArray⟩) (.slice y.q.A y.t.names.length y.q.c) (.slice y.q.P y.t.parts.length y.q.d) 28;have T:=fun k=>D.cell (p:=⟨q.heap.size,k,none⟩) kl;have E:Hid (YV5 ((q.alloc (.cells (Y8 y.t y.q) 28)).alloc (.cells #[.int .i64 f.1,.int .i64 f.2] 31)) S y):=Y1 (by rw[M]; exact ⟨Nat.lt_of_lt_of_le kl D.size,(T 0).trans k0,(T 1).trans k1,(T 2).trans k2,(T 3).trans k3,(T 4).trans k4⟩);have G:Hid (Box2 ((q.alloc (.cells (Y8 y.t y.q) 28)).alloc (.cells #[.int .i64 f.1,.int .i64 f.2] 31)) d f.1 f.2):=Y1 (by
   have h:=ZcG (q.alloc (.cells (Y8 y.t y.q) 28)) f.1 f.2;rw[show (q.alloc (.cells (Y8 y.t y.q) 28)).heap.size=q.heap.size+1 by simp, <-N] at h;exact h)
  have u:=Y1 (Z03 a9.out s);have J:=Y1 (t.out.next s);have I:=Y1 (H.out.next s);have Q:=Y1 (b2.out.on s);have l1:w.heap.size≠S:=by have:=t.out.1; omega
  have l2:C≠S:=by have:=H.out.1; omega
  have l3:w.heap.size≠d:=by have:=t.out.1; omega
  have l4:C≠d:=by have:=H.out.1; omega
  have l5:S≠d:=by omega
  have c8:Hid (w.heap.size<=d):=Y1 (by have:=t.out.1; omega);rw[<-N, <-M];clear a5 D s k0 k1 k2 k3 k4 kf kl T a9 t H b2;clear M N;generalize (q.alloc (.cells (Y8 y.t y.q) 28)).alloc (.cells #[.int .i64 f.1,.int .i64 f.2] 31)=V4 at u J I Q E G ⊢;obtain ⟨q0,⟨z0,z1,z2,z3,z4⟩,y0,y1,y2,y3,y4⟩:=J.out;obtain ⟨p0,x0,x1,v0,v1⟩:=I.out;obtain ⟨cl,c0,c1,c2,c3,c4⟩:=E.out;obtain ⟨fl,f0,f1,_,_⟩:=G.out
  go_region
  all_goals go_wp2
  all_goals refine bodyPost_ret (v:= .tuple #[.agg #[.int .i64 5,.string ⟨#[]⟩,.string ⟨#[]⟩,.slice none 0 0,.slice (some ⟨V4.heap.size,0,none⟩) 1 1],.int .i64 j,.agg #[.int .i64 f.1,.int .i64 f.2]]) (by simp[results,Tryz.results32,go_sem,q0,z0,z1,z2,z3,z4,p0,x0,x1,d8]) rfl ?_
  all_goals
   rw[P.out];refine Zdo ⟨⟨5,[],[],[],[⟨0,[],[],[],[]⟩]⟩,⟨none,0,some ⟨V4.heap.size,0,none⟩,1⟩,0,0⟩ _ HF.out (ZcL (F:= [w.heap.size,C]) u.out ?_ (fun b a=>by rcases (by simpa using a:b=w.heap.size\/b=C) with e | e <;> rw[e] <;> first | exact Nat.le_refl _ | exact b9.out) u.out.size)
   repeat' (with_reducible first | refine UpT.drew ?_ | refine UpT.alloc ?_ _ | refine UpT.set ?_ _ (Or.inr ?_) _ | exact UpT.refl _ _)
   all_goals simp
 | ok y=>
  rw[hr] at hd;obtain ⟨g,rfl,ht,f6,b4⟩:=hd;have i6:=Y1 (And.intro ht b4);have c9:=Y1 f6;have P:Hid (shp (n+1) l i=andThen (need l y.2 [93]) fun j=> .ok (⟨5,[],[],[],[y.1]⟩,j)):=Y1 (by rw[HE.out,hr]; rfl);have HJ:Hid (y.2<=1000000):=Y1 (f8 _ _ _ hr);clear ht b4 f6 hr HE;simp only[valS]
  go_wp2_with fail
  obtain ⟨S,M⟩: ∃S,S=q.heap.size:=⟨_,rfl⟩;obtain ⟨d,N⟩: ∃d,d=q.heap.size+1:=⟨_,rfl⟩;have a5:=Z01 q (.cells (Y8 g.t g.q) 28);have D:=Z01 (q.alloc (.cells (Y8 g.t g.q) 28)) (.cells Yc 31);have s:=Z03 a5 D;obtain ⟨k0,k1,k2,k3,k4,kf,kl⟩:=ZcK q (.int .i64 g.t.kind) (.string ⟨g.t.of_.toArray⟩) (.string ⟨g.t.name.toArray⟩) (.slice g.q.A g.t.names.length g.q.c) (.slice g.q.P g.t.parts.length g.q.d) 28;have T:=fun k=>D.cell (p:=⟨q.heap.size,k,none⟩) kl;have E:Hid (YV5 ((q.alloc (.cells (Y8 g.t g.q) 28)).alloc (.cells Yc 31)) S g):=Y1 (by rw[M]; exact ⟨Nat.lt_of_lt_of_le kl D.size,(T 0).trans k0,(T 1).trans k1,(T 2).trans k2,(T 3).trans k3,(T 4).trans k4⟩);have G:Hid (Box2 ((q.alloc (.cells (Y8 g.t g.q) 28)).alloc (.cells Yc 31)) d 0 0):=Y1 (by
   have h:=ZcG (q.alloc (.cells (Y8 g.t g.q) 28)) 0 0;rw[show (q.alloc (.cells (Y8 g.t g.q) 28)).heap.size=q.heap.size+1 by simp, <-N] at h;exact h)
  have u:=Y1 (Z03 a9.out s);have J:=Y1 (t.out.next s);have I:=Y1 (H.out.next s);have Q:=Y1 (b2.out.on s);have b0:=Y1 (show g.Is _ from New.below c9.out s);have e9:Hid (g.hi<=d):=Y1 (by have:=c9.out.hi_; omega);have i3:Hid (V2.heap.size<=d):=Y1 (by have:=f2.out; omega);have l1:w.heap.size≠S:=by have:=t.out.1; omega
  have l2:C≠S:=by have:=H.out.1; omega
  have l3:w.heap.size≠d:=by have:=t.out.1; omega
  have l4:C≠d:=by have:=H.out.1; omega
  have l5:S≠d:=by omega
  have c8:Hid (w.heap.size<=d):=Y1 (by have:=t.out.1; omega);rw[<-N, <-M];clear c9 a5 D s k0 k1 k2 k3 k4 kf kl T a9 t H b2;clear M N;generalize (q.alloc (.cells (Y8 g.t g.q) 28)).alloc (.cells Yc 31)=V4 at u J I Q E G b0 ⊢;have hN:=ZdK A c l y.2 [93] hl (by have:=HJ.out; omega) V4 Q.out;cases O:need l y.2 [93] with
  | error f=>
   have b8:Hid (shp (n+1) l i= .error f):=Y1 (by rw[P.out,O]; rfl);have HF:Hid (f.1≠0):=Y1 (ZeX O);rw[O] at hN;clear O P;simp only[needV] at hN;refine hN.mono ?_;rintro e V5 ⟨rfl,a⟩;have K:=Y1 (Z03 u.out a);have a1:=Y1 (J.out.next a);have Z:=Y1 (I.out.next a);have U:=Y1 (E.out.next a);have X:=Y1 (G.out.next a);clear hN a u J I Q E G b0;obtain ⟨fl,f0,f1,u0,u1⟩:=X.out
   go_wp2_with fail
   have r:UpT [d] V5 ((V5.setCell ⟨d,0,none⟩ (.int .i64 f.1)).setCell ⟨d,1,none⟩ (.int .i64 f.2)):=((UpT.refl _ _).set _ (Or.inr (by simp)) _).set _ (Or.inr (by simp)) _;have L:=Y1 (ZcL K.out r (fun b a=>by simp at a; rw[a]; exact c8.out) K.out.size);have Y:Hid (Box2 ((V5.setCell ⟨d,0,none⟩ (.int .i64 f.1)).setCell ⟨d,1,none⟩ (.int .i64 f.2)) d f.1 f.2):=Y1 ⟨by simpa[World.setCell] using fl,by simp[go_sem,f0,f1],by simp[go_sem,f0,f1],by simp[go_sem,u0],by simp[go_sem,u1]⟩;have a2:=Y1 (a1.out.upT r (by simpa using l3));have a0:=Y1 (Z.out.upT r (by simpa using l4));have V:=Y1 (U.out.upT r (by simpa using l5));clear r K a1 Z U X fl f0 f1 u0 u1;generalize ((V5.setCell ⟨d,0,none⟩ (.int .i64 f.1)).setCell ⟨d,1,none⟩ (.int .i64 f.2))=V6 at L a2 a0 V Y ⊢;obtain ⟨q0,⟨z0,z1,z2,z3,z4⟩,y0,y1,y2,y3,y4⟩:=a2.out;obtain ⟨p0,x0,x1,v0,v1⟩:=a0.out;obtain ⟨cl,c0,c1,c2,c3,c4⟩:=V.out;obtain ⟨fl,f0,f1,_,_⟩:=Y.out
   go_region
   all_goals go_wp2
   all_goals refine bodyPost_ret (v:= .tuple #[.agg #[.int .i64 5,.string ⟨#[]⟩,.string ⟨#[]⟩,.slice none 0 0,.slice (some ⟨V6.heap.size,0,none⟩) 1 1],.int .i64 (y.2:Int),.agg #[.int .i64 f.1,.int .i64 f.2]]) (by simp[results,Tryz.results32,go_sem,q0,z0,z1,z2,z3,z4,p0,x0,x1,d8]) rfl ?_
   all_goals
    rw[b8.out];refine Zdo ⟨⟨5,[],[],[],[⟨0,[],[],[],[]⟩]⟩,⟨none,0,some ⟨V6.heap.size,0,none⟩,1⟩,0,0⟩ _ HF.out (ZcL (F:= [w.heap.size,C]) L.out ?_ (fun b a=>by rcases (by simpa using a:b=w.heap.size\/b=C) with e | e <;> rw[e] <;> first | exact Nat.le_refl _ | exact b9.out) L.out.size)
    repeat' (with_reducible first | refine UpT.drew ?_ | refine UpT.alloc ?_ _ | refine UpT.set ?_ _ (Or.inr ?_) _ | exact UpT.refl _ _)
    all_goals simp
  | ok m=>
   have b8:Hid (shp (n+1) l i= .ok (⟨5,[],[],[],[y.1]⟩,m)):=Y1 (by rw[P.out,O]; rfl);rw[O] at hN;clear O P;simp only[needV] at hN;refine hN.mono ?_;rintro e V5 ⟨rfl,a⟩;have K:=Y1 (Z03 u.out a);have a1:=Y1 (J.out.next a);have Z:=Y1 (I.out.next a);have U:=Y1 (E.out.next a);have X:=Y1 (G.out.next a);have i4:=Y1 (show g.Is V5 from New.below b0.out a);clear hN a u J I Q E G b0;obtain ⟨fl,f0,f1,u0,u1⟩:=X.out
   go_wp2_with fail
   have r:UpT [d] V5 ((V5.setCell ⟨d,0,none⟩ (.int .i64 0)).setCell ⟨d,1,none⟩ (.int .i64 0)):=((UpT.refl _ _).set _ (Or.inr (by simp)) _).set _ (Or.inr (by simp)) _;have L:=Y1 (ZcL K.out r (fun b a=>by simp at a; rw[a]; exact c8.out) K.out.size);have Y:Hid (Box2 ((V5.setCell ⟨d,0,none⟩ (.int .i64 0)).setCell ⟨d,1,none⟩ (.int .i64 0)) d 0 0):=Y1 ⟨by simpa[World.setCell] using fl,by simp[go_sem,f0,f1],by simp[go_sem,f0,f1],by simp[go_sem,u0],by simp[go_sem,u1]⟩;have a2:=Y1 (a1.out.upT r (by simpa using l3));have a0:=Y1 (Z.out.upT r (by simpa using l4));have V:=Y1 (U.out.upT r (by simpa using l5));have e7:=Y1 (show g.Is _ from New.up i4.out r (by have:=e9.out; simp; omega));clear r K a1 Z U X fl f0 f1 u0 u1;generalize ((V5.setCell ⟨d,0,none⟩ (.int .i64 0)).setCell ⟨d,1,none⟩ (.int .i64 0))=V6 at L a2 a0 V Y e7 ⊢;obtain ⟨q0,⟨z0,z1,z2,z3,z4⟩,y0,y1,y2,y3,y4⟩:=a2.out;obtain ⟨p0,x0,x1,v0,v1⟩:=a0.out;obtain ⟨cl,c0,c1,c2,c3,c4⟩:=V.out;obtain ⟨fl,f0,f1,_,_⟩:=Y.out
   go_region
   all_goals go_wp2
   all_goals refine bodyPost_ret (v:= .tuple #[.agg #[.int .i64 5,.string ⟨#[]⟩,.string ⟨#[]⟩,.slice none 0 0,.slice (some ⟨V6.heap.size,0,none⟩) 1 1],.int .i64 (m:Int),.agg #[.int .i64 0,.int .i64 0]]) (by simp[results,Tryz.results32,go_sem,q0,z0,z1,z2,z3,z4,p0,x0,x1,d8]) rfl ?_
   all_goals
    rw[b8.out];have e0:=i7.out;obtain ⟨ht,b4⟩:=i6.out;have m5:=i3.out;have m4:=fl;generalize hWp: ((((((V6.setCell ⟨w.heap.size,0,none⟩ (.int .i64 5)).setCell ⟨w.heap.size,1,none⟩ (.string ⟨#[]⟩)).setCell ⟨w.heap.size,2,none⟩ (.string ⟨#[]⟩)).setCell ⟨w.heap.size,3,none⟩ (.slice none 0 0)).setCell ⟨w.heap.size,4,none⟩ (.slice (some ⟨V6.heap.size,0,none⟩) 1 1)).setCell ⟨C,0,none⟩ (.int .i64 0)).setCell ⟨C,1,none⟩ (.int .i64 0)=Wp;have f9:UpT [w.heap.size,C] V6 Wp:=by
     rw[<-hWp]
     repeat' (with_reducible first | refine UpT.set ?_ _ (Or.inr ?_) _ | exact UpT.refl _ _)
     all_goals simp
    have j4:Wp.heap.size=V6.heap.size:=by rw[<-hWp]; simp[World.setCell]
    have hx:g.Is Wp:=New.up e7.out f9 (fun b a=>by rcases (by simpa using a:b=w.heap.size\/b=C) with e | e <;> omega);have b6:=Row.one (W:=Wp) (B:=V2.heap.size) g (by omega);rw[j4] at b6;have f7:=Zfq (k:=5) (o:= []) (n:= []) (Row.start _ _ _ _ _) b6 (fun z hz=>by
     have j5:z=g:=by simpa using hz
     rw[j5];exact ⟨New.below hx (Z01 _ _),b4⟩) (by simp) (by simp) (by simp) (by simp) (by simp)
    refine ⟨ZcL (F:= [w.heap.size,C]) L.out (f9.alloc _).drew (fun b a=>by rcases (by simpa using a:b=w.heap.size\/b=C) with e | e <;> rw[e] <;> first | exact Nat.le_refl _ | exact b9.out) L.out.size,_,rfl, ?_,New.up f7 (UpT.refl [] _).drew (by simp), ?_⟩
    {show (⟨5,[],[],[],[g.t]⟩:Sh)=⟨5,[],[],[],[y.1]⟩;rw[ht]}
    {show w.heap.size<=V2.heap.size;omega}
theorem Zpz (hn:2 * (l.length - i)+2<=n+1) (a8:FlOk A c l n) (X:sign l i [123]=true) (w:World) (h:Tks w w.heap.size A l):
 Calls Tryz.prog 32 #[.slice A l.length c,.int .i64 (i:Int)] w (DTy w (shp (n+1) l i)):=by
 have HE:=Y1 (Zpw n X);have Z:=Y1 (ZcH w);have HZ:=Y1 (Zd3 w);have V:=Y1 (Zdg w);have U:=Y1 (h.on (ZcH w));obtain ⟨x,H⟩: ∃x,x=Prs.look l i:=⟨_,rfl⟩;have a3:=Y1 H;obtain ⟨E,D,S⟩:=sign_kinds X;rw[<-H] at D E;have e2: (x.t.kind==2)=false:=by simpa using E
 have e1: (x.t.kind==1)=false:=by simpa using D
 have M:=Y1 S;have N:=Y1 X;clear h X D E H S;go_enter Tryz.func32,Tryz.ntmps32
 go_wp2_with fail
 change Calls _ _ _ (aW w) _;obtain ⟨z,C⟩: ∃z,z=w.heap.size+1:=⟨_,rfl⟩;rw[<-C] at V ⊢;have T:w.heap.size≠z:=by omega
 have p:Hid (w.heap.size<=z):=Y1 (by omega);generalize aW w=W0 at Z HZ V U ⊢;clear C;have hL:=ZcY A c l i hl (by omega) W0 U.out;rw[<-a3.out] at hL;refine hL.mono ?_;rintro e w1 ⟨rfl,d⟩;have g:=Z01 w1 (.cells #[.int .i64 x.t.kind,.string ⟨x.t.text.toArray⟩,.int .i64 x.at_] 46);obtain ⟨t0,t1⟩:=Zdf w1 x;have o:=Y1 (Z03 (Z03 Z.out d) g);have t:=Y1 ((HZ.out.next d).next g);have r:=Y1 ((V.out.next d).next g);have k:=Y1 ((U.out.on d).on g);clear hL d g Z HZ V U
 go_wp2_with fail
 generalize w1.alloc (.cells #[.int .i64 x.t.kind,.string ⟨x.t.text.toArray⟩,.int .i64 x.at_] 46)=V1 at o t r k t0 t1 ⊢;have B:=ZcM A c l i [91] hl (by omega) V1 k.out;rw[show sign l i [91]=false from ZcX N.out (by decide)] at B;refine B.mono ?_;rintro e V2 ⟨rfl,a⟩;have J:=Y1 (Z03 o.out a);have Q:=Y1 (t.out.next a);have P:=Y1 (r.out.next a);have q:=Y1 (k.out.on a);clear B a t0 t1 o t r k
 go_wp2_with fail
 have B:=ZcM A c l i [123] hl (by omega) V2 q.out;rw[show sign l i [123]=true from N.out] at B;refine B.mono ?_;rintro e V3 ⟨rfl,a⟩;have K:=Y1 (Z03 J.out a);have u:=Y1 (Q.out.next a);have s:=Y1 (P.out.next a);have O:=Y1 (q.out.on a);clear B a J Q P q
 go_wp2_with fail
 have hC:=a8 (i+1) 6 [44] [125] V3 (by have:=M.out; omega) (by have:=M.out; omega) O.out;rw[<-HE.out] at hC;refine hC.mono ?_;rintro e V9 ⟨a,W⟩;have L:=Y1 (Z03 K.out a);obtain ⟨q0,⟨z0,z1,z2,z3,z4⟩,y0,y1,y2,y3,y4⟩:=u.out.next a;obtain ⟨p0,x0,x1,v0,v1⟩:=s.out.next a;have a2:Hid (w.heap.size < V3.heap.size/\z < V3.heap.size):=Y1 ⟨u.out.1,s.out.1⟩;clear hC a K u s O;cases I:shp (n+1) l i with
 | error f=>
  rw[I] at W;obtain ⟨y,j,rfl,hf⟩:=W;have HF:=Y1 hf;have HR:=Y1 I;clear hf I HE;simp only[valS];go_wp2;refine bodyPost_ret (v:= .tuple #[valS y,.int .i64 j,.agg #[.int .i64 f.1,.int .i64 f.2]]) (by simp[results,Tryz.results32,go_sem,valS,q0,z0,z1,z2,z3,z4,p0,x0,x1,T]) rfl ?_;rw[HR.out];exact Zdo y j HF.out (ZcI (ZcT L.out (Nat.le_refl _) _ _ _ _ _) p.out _ _)
 | ok y=>
  rw[I] at W;obtain ⟨x9,rfl,Y,m,G⟩:=W;have HI:=Y1 (And.intro Y (And.intro m G));have HR:=Y1 I;clear Y m G I HE;simp only[valS];go_wp2;refine bodyPost_ret (v:= .tuple #[valS x9,.int .i64 (y.2:Int),.agg #[.int .i64 0,.int .i64 0]]) (by simp[results,Tryz.results32,go_sem,valS,q0,z0,z1,z2,z3,z4,p0,x0,x1,T]) rfl ?_;obtain ⟨Y,m,G⟩:=HI.out;have d0:=a2.out;have C:=p.out;rw[HR.out];refine ⟨ZcI (ZcT L.out (Nat.le_refl _) _ _ _ _ _) p.out _ _,x9,rfl,Y,New.up (F:= [w.heap.size,z]) m ?_ (fun b a=>by rcases (by simpa using a:b=w.heap.size\/b=z) with e | e <;> omega),by omega⟩
  repeat' (with_reducible first | refine UpT.drew ?_ | refine UpT.alloc ?_ _ | refine UpT.set ?_ _ (Or.inr ?_) _ | exact UpT.refl _ _)
  all_goals simp
theorem ZpA (hn:2 * (l.length - i)+2<=n+1) (b2:FlOk A c l n) (hk:sign l i [60]=true) (w:World) (h:Tks w w.heap.size A l):
 Calls Tryz.prog 32 #[.slice A l.length c,.int .i64 (i:Int)] w (DTy w (shp (n+1) l i)):=by
 have HE:=Y1 (Zpx n hk);have HB:=Y1 (ZcH w);have HZ:=Y1 (Zd3 w);have Z:=Y1 (Zdg w);have Y:=Y1 (h.on (ZcH w));obtain ⟨x,J⟩: ∃x,x=Prs.look l i:=⟨_,rfl⟩;have a7:=Y1 J;obtain ⟨H,G,W⟩:=sign_kinds hk;rw[<-J] at G H;have e2: (x.t.kind==2)=false:=by simpa using H
 have e1: (x.t.kind==1)=false:=by simpa using G
 have P:=Y1 W;have r:=Y1 hk;clear h hk G H J W;go_enter Tryz.func32,Tryz.ntmps32
 go_wp2_with fail
 change Calls _ _ _ (aW w) _;obtain ⟨D,E⟩: ∃D,D=w.heap.size+1:=⟨_,rfl⟩;rw[<-E] at Z ⊢;have X:w.heap.size≠D:=by omega
 have q:Hid (w.heap.size<=D):=Y1 (by omega);generalize aW w=W0 at HB HZ Z Y ⊢;clear E;have hL:=ZcY A c l i hl (by omega) W0 Y.out;rw[<-a7.out] at hL;refine hL.mono ?_;rintro e w1 ⟨rfl,g⟩;have k:=Z01 w1 (.cells #[.int .i64 x.t.kind,.string ⟨x.t.text.toArray⟩,.int .i64 x.at_] 46);obtain ⟨t0,t1⟩:=Zdf w1 x;have p:=Y1 (Z03 (Z03 HB.out g) k);have B:=Y1 ((HZ.out.next g).next k);have u:=Y1 ((Z.out.next g).next k);have m:=Y1 ((Y.out.on g).on k);clear hL g k HB HZ Z Y
 go_wp2_with fail
 generalize w1.alloc (.cells #[.int .i64 x.t.kind,.string ⟨x.t.text.toArray⟩,.int .i64 x.at_] 46)=V1 at p B u m t0 t1 ⊢;have d:=ZcM A c l i [91] hl (by omega) V1 m.out;rw[show sign l i [91]=false from ZcX r.out (by decide)] at d;refine d.mono ?_;rintro e V2 ⟨rfl,a⟩;have L:=Y1 (Z03 p.out a);have U:=Y1 (B.out.next a);have S:=Y1 (u.out.next a);have s:=Y1 (m.out.on a);clear d a t0 t1 p B u m
 go_wp2_with fail
 have d:=ZcM A c l i [123] hl (by omega) V2 s.out;rw[show sign l i [123]=false from ZcX r.out (by decide)] at d;refine d.mono ?_;rintro e V3 ⟨rfl,a⟩;have M:=Y1 (Z03 L.out a);have V:=Y1 (U.out.next a);have T:=Y1 (S.out.next a);have t:=Y1 (s.out.on a);clear d a L U S s
 go_wp2_with fail
 have d:=ZcM A c l i [60] hl (by omega) V3 t.out;rw[show sign l i [60]=true from r.out] at d;refine d.mono ?_;rintro e V4 ⟨rfl,a⟩;have N:=Y1 (Z03 M.out a);have C:=Y1 (V.out.next a);have z:=Y1 (T.out.next a);have Q:=Y1 (t.out.on a);clear d a M V T t
 go_wp2_with fail
 have hC:=b2 (i+1) 7 [124] [62] V4 (by have:=P.out; omega) (by have:=P.out; omega) Q.out;rw[<-HE.out] at hC;refine hC.mono ?_;rintro e V9 ⟨a,hd⟩;have O:=Y1 (Z03 N.out a);obtain ⟨q0,⟨z0,z1,z2,z3,z4⟩,y0,y1,y2,y3,y4⟩:=C.out.next a;obtain ⟨p0,x0,x1,v0,v1⟩:=z.out.next a;have a6:Hid (w.heap.size < V4.heap.size/\D < V4.heap.size):=Y1 ⟨C.out.1,z.out.1⟩;clear hC a N C z Q;cases K:shp (n+1) l i with
 | error f=>
  rw[K] at hd;obtain ⟨y,j,rfl,hf⟩:=hd;have HF:=Y1 hf;have HR:=Y1 K;clear hf K HE;simp only[valS];go_wp2;refine bodyPost_ret (v:= .tuple #[valS y,.int .i64 j,.agg #[.int .i64 f.1,.int .i64 f.2]]) (by simp[results,Tryz.results32,go_sem,valS,q0,z0,z1,z2,z3,z4,p0,x0,x1,X]) rfl ?_;rw[HR.out];exact Zdo y j HF.out (ZcI (ZcT O.out (Nat.le_refl _) _ _ _ _ _) q.out _ _)
 | ok y=>
  rw[K] at hd;obtain ⟨x9,rfl,ht,o,I⟩:=hd;have HI:=Y1 (And.intro ht (And.intro o I));have HR:=Y1 K;clear ht o I K HE;simp only[valS];go_wp2;refine bodyPost_ret (v:= .tuple #[valS x9,.int .i64 (y.2:Int),.agg #[.int .i64 0,.int .i64 0]]) (by simp[results,Tryz.results32,go_sem,valS,q0,z0,z1,z2,z3,z4,p0,x0,x1,X]) rfl ?_;obtain ⟨ht,o,I⟩:=HI.out;have d5:=a6.out;have E:=q.out;rw[HR.out];refine ⟨ZcI (ZcT O.out (Nat.le_refl _) _ _ _ _ _) q.out _ _,x9,rfl,ht,New.up (F:= [w.heap.size,D]) o ?_ (fun b a=>by rcases (by simpa using a:b=w.heap.size\/b=D) with e | e <;> omega),by omega⟩
  repeat' (with_reducible first | refine UpT.drew ?_ | refine UpT.alloc ?_ _ | refine UpT.set ?_ _ (Or.inr ?_) _ | exact UpT.refl _ _)
  all_goals simp
theorem ZpB (hn:2 * (l.length - i)+2<=n+1) (b6:FnOk A c l n) (hk:sign l i [40]=true) (w:World) (h:Tks w w.heap.size A l):
 Calls Tryz.prog 32 #[.slice A l.length c,.int .i64 (i:Int)] w (DTy w (shp (n+1) l i)):=by
 have HE:=Y1 (Zpy n hk);have HB:=Y1 (ZcH w);have HZ:=Y1 (Zd3 w);have HX:=Y1 (Zdg w);have HT:=Y1 (h.on (ZcH w));obtain ⟨x,K⟩: ∃x,x=Prs.look l i:=⟨_,rfl⟩;have b1:=Y1 K;obtain ⟨I,H,a0⟩:=sign_kinds hk;rw[<-K] at H I;have e2: (x.t.kind==2)=false:=by simpa using I
 have e1: (x.t.kind==1)=false:=by simpa using H
 have S:=Y1 a0;have m:=Y1 hk;clear h hk H I K a0;go_enter Tryz.func32,Tryz.ntmps32
 go_wp2_with fail
 change Calls _ _ _ (aW w) _;obtain ⟨E,G⟩: ∃E,E=w.heap.size+1:=⟨_,rfl⟩;rw[<-G] at HX ⊢;have a1:w.heap.size≠E:=by omega
 have r:Hid (w.heap.size<=E):=Y1 (by omega);generalize aW w=W0 at HB HZ HX HT ⊢;clear G;have hL:=ZcY A c l i hl (by omega) W0 HT.out;rw[<-b1.out] at hL;refine hL.mono ?_;rintro e w1 ⟨rfl,g⟩;have k:=Z01 w1 (.cells #[.int .i64 x.t.kind,.string ⟨x.t.text.toArray⟩,.int .i64 x.at_] 46);obtain ⟨t0,t1⟩:=Zdf w1 x;have q:=Y1 (Z03 (Z03 HB.out g) k);have C:=Y1 ((HZ.out.next g).next k);have z:=Y1 ((HX.out.next g).next k);have o:=Y1 ((HT.out.on g).on k);clear hL g k HB HZ HX HT
 go_wp2_with fail
 generalize w1.alloc (.cells #[.int .i64 x.t.kind,.string ⟨x.t.text.toArray⟩,.int .i64 x.at_] 46)=V1 at q C z o t0 t1 ⊢;have d:=ZcM A c l i [91] hl (by omega) V1 o.out;rw[show sign l i [91]=false from ZcX m.out (by decide)] at d;refine d.mono ?_;rintro e V2 ⟨rfl,a⟩;have M:=Y1 (Z03 q.out a);have X:=Y1 (C.out.next a);have U:=Y1 (z.out.next a);have s:=Y1 (o.out.on a);clear d a t0 t1 q C z o
 go_wp2_with fail
 have d:=ZcM A c l i [123] hl (by omega) V2 s.out;rw[show sign l i [123]=false from ZcX m.out (by decide)] at d;refine d.mono ?_;rintro e V3 ⟨rfl,a⟩;have N:=Y1 (Z03 M.out a);have Y:=Y1 (X.out.next a);have V:=Y1 (U.out.next a);have t:=Y1 (s.out.on a);clear d a M X U s
 go_wp2_with fail
 have d:=ZcM A c l i [60] hl (by omega) V3 t.out;rw[show sign l i [60]=false from ZcX m.out (by decide)] at d;refine d.mono ?_;rintro e V4 ⟨rfl,a⟩;have O:=Y1 (Z03 N.out a);have Z:=Y1 (Y.out.next a);have W:=Y1 (V.out.next a);have u:=Y1 (t.out.on a);clear d a N Y V t
 go_wp2_with fail
 have d:=ZcM A c l i [40] hl (by omega) V4 u.out;rw[show sign l i [40]=true from m.out] at d;refine d.mono ?_;rintro e V5 ⟨rfl,a⟩;have P:=Y1 (Z03 O.out a);have D:=Y1 (Z.out.next a);have B:=Y1 (W.out.next a);have T:=Y1 (u.out.on a);clear d a O Z W u
 go_wp2_with fail
 have hC:=b6 (i+1) V5 (by have:=S.out; omega) (by have:=S.out; omega) T.out;rw[<-HE.out] at hC;refine hC.mono ?_;rintro e V9 ⟨a,hd⟩;have Q:=Y1 (Z03 P.out a);obtain ⟨q0,⟨z0,z1,z2,z3,z4⟩,y0,y1,y2,y3,y4⟩:=D.out.next a;obtain ⟨p0,x0,x1,v0,v1⟩:=B.out.next a;have b0:Hid (w.heap.size < V5.heap.size/\E < V5.heap.size):=Y1 ⟨D.out.1,B.out.1⟩;clear hC a P D B T;cases L:shp (n+1) l i with
 | error f=>
  rw[L] at hd;obtain ⟨y,j,rfl,hf⟩:=hd;have HF:=Y1 hf;have HR:=Y1 L;clear hf L HE;simp only[valS];go_wp2;refine bodyPost_ret (v:= .tuple #[valS y,.int .i64 j,.agg #[.int .i64 f.1,.int .i64 f.2]]) (by simp[results,Tryz.results32,go_sem,valS,q0,z0,z1,z2,z3,z4,p0,x0,x1,a1]) rfl ?_;rw[HR.out];exact Zdo y j HF.out (ZcI (ZcT Q.out (Nat.le_refl _) _ _ _ _ _) r.out _ _)
 | ok y=>
  rw[L] at hd;obtain ⟨x9,rfl,ht,p,J⟩:=hd;have HI:=Y1 (And.intro ht (And.intro p J));have HR:=Y1 L;clear ht p J L HE;simp only[valS];go_wp2;refine bodyPost_ret (v:= .tuple #[valS x9,.int .i64 (y.2:Int),.agg #[.int .i64 0,.int .i64 0]]) (by simp[results,Tryz.results32,go_sem,valS,q0,z0,z1,z2,z3,z4,p0,x0,x1,a1]) rfl ?_;obtain ⟨ht,p,J⟩:=HI.out;have e0:=b0.out;have G:=r.out;rw[HR.out];refine ⟨ZcI (ZcT Q.out (Nat.le_refl _) _ _ _ _ _) r.out _ _,x9,rfl,ht,New.up (F:= [w.heap.size,E]) p ?_ (fun b a=>by rcases (by simpa using a:b=w.heap.size\/b=E) with e | e <;> omega),by omega⟩
  repeat' (with_reducible first | refine UpT.drew ?_ | refine UpT.alloc ?_ _ | refine UpT.set ?_ _ (Or.inr ?_) _ | exact UpT.refl _ _)
  all_goals simp
end
end Go.Proofs.YtgndehppmaacaaaGreatDoor
