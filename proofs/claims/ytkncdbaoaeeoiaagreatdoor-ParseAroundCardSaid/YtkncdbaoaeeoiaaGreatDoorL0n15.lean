/- What the proofs of ParseAround want, part 15. -/
import Derived.Test.YtkncdbaoaeeoiaaGreatDoorL0n14
set_option linter.unusedVariables false
set_option linter.unusedSimpArgs false
set_option linter.unusedSectionVars false
set_option maxRecDepth 100000
set_option maxHeartbeats 16000000
namespace Lex
theorem Zdf {r p:List UInt8} {a:Nat} (h:unq r=(p++(unq (r.drop a)).1,a+(unq (r.drop a)).2.1,(unq (r.drop a)).2.2)) {b:Nat} {m:List UInt8}
 (c:unq (r.drop a)=(m++(unq (r.drop (a+b))).1,(unq (r.drop (a+b))).2.1+b,(unq (r.drop (a+b))).2.2)):
 unq r=((p++m)++(unq (r.drop (a+b))).1,(a+b)+(unq (r.drop (a+b))).2.1,(unq (r.drop (a+b))).2.2):=by
 rw[h,c];simp only[List.append_assoc];congr 2;omega
theorem Zet {r:List UInt8} {a:Nat} {c d:UInt8} {q:List UInt8} (h:r.drop a=c::d::q):r.drop (a+2)=q:=by
 rw[<-List.drop_drop,h]; rfl
end Lex
namespace Go.Proofs.YtkncdbaoaeeoiaaGreatDoor
open Go.RowKit
def unqV (r:List UInt8):Value:=if (Lex.unq r).2.2 then .tuple #[.string ⟨(Lex.unq r).1.toArray⟩,.int .i64 ((1+(Lex.unq r).2.1:Nat):Int),.bool true] else .tuple #[.string ⟨#[]⟩,.int .i64 ((1+(Lex.unq r).2.1:Nat):Int),.bool false]
theorem Z58 {r:List UInt8} {n:Nat} (a: (Lex.unq r).2.1=n) (b: (Lex.unq r).2.2=false):unqV r= .tuple #[.string ⟨#[]⟩,.int .i64 ((1+n:Nat):Int),.bool false]:=by
 unfold unqV; rw[if_neg (by rw[b]; simp),a]
theorem Zeu {r p:List UInt8} {n:Nat} (a: (Lex.unq r).1=p) (b: (Lex.unq r).2.1=n) (c: (Lex.unq r).2.2=true):unqV r= .tuple #[.string ⟨p.toArray⟩,.int .i64 ((1+n:Nat):Int),.bool true]:=by
 unfold unqV; rw[if_pos c,b,a]
theorem Z1K (p:List UInt8) (c:UInt8):Lib.byteCells (p++ [c])=Lib.byteCells p++ [.int .u8 (c.toNat:Int)]:=by simp[Lib.byteCells]
def Unq (r:List UInt8) (w wr:World) (v:Value) (a:Nat):Prop:= ∃p:List UInt8,Lex.unq r=(p++(Lex.unq (r.drop a)).1,a+(Lex.unq (r.drop a)).2.1,(Lex.unq (r.drop a)).2.2)/\p.length<=a/\wr.ownsRow w.heap.size 5 1 v p.length (Lib.byteCells p)/\Below w.heap.size w wr
theorem Z8G (r:List UInt8) (hr:r.length<=1000000) (w:World):
 Y9 120 #[.string ⟨(34::r).toArray⟩] w (unqV r):=by
 obtain ⟨i0,hi,V,X,Y⟩:=info_parts (P:=Tryz.prog) (e:=5) (z:= .int .u8 0) (size:=1) (bytes:=1) (by kernel_rfl);obtain ⟨l,hl⟩: ∃l:List UInt8,l=34::r:=⟨_,rfl⟩;have U:l.length=r.length+1:=by rw[hl]; rfl
 have HL:=Y1 hl;have G:=Y1 U;have hz: (⟨l.toArray⟩:ByteArray).size=l.length:=Z07 _;have c9:l.length<=1000001:=by omega
 rw[<-hl];clear hl U;go_enter Tryz.func120,Tryz.ntmps120
 go_wp2_with fail
 go_loopw [5,6] (fun v ii wr=> ∃a:Nat,ii= .int .i64 ((1+a:Nat):Int)/\1+a<=l.length/\Hid (Unq r w wr v a))
  (fun _ ii _=>l.length - (intOf ii).toNat)
 case atStart=>exact ⟨0,rfl,by rw[G.out]; omega,Y1 ⟨[],by simp,Nat.le_refl _,World.ownsRow_nil _ _ _ _,Below.refl _ _⟩⟩
 case round=>
  obtain ⟨a,rfl,ha,HU⟩:=hrel;obtain ⟨p,E,d0,B,hb⟩:=HU.out;have f:=Y1 E;have HO:=Y1 B;have F:=Y1 hb;have O:=hb.size;have c8:=Z39 B;obtain ⟨n,hn⟩: ∃n,n=1+a:=⟨_,rfl⟩;rw[<-hn] at ha ⊢;have s:=Y1 hn;clear E B hb HU hn;by_cases a7:n < l.length
  {have a6: (n:Int) < (l.length:Int):=by omega
   have N:a < r.length:=by have:=s.out; have:=G.out; omega
   obtain ⟨c,hc⟩: ∃c,c=r[a]'N:=⟨_,rfl⟩;obtain ⟨q,hq⟩: ∃q,q=r.drop (a+1):=⟨_,rfl⟩;have T:r.drop a=c::q:=by rw[hc,hq]; exact List.drop_eq_getElem_cons N
   have Q:l[n]'a7=c:=by
    have e:=s.out;have e2:=HL.out;subst e2;subst e;rw[hc,List.getElem_cons];simp[Nat.add_comm 1 a]
   have b5: ∀W,(Instr.index 9 (.string ⟨l.toArray⟩) (.int .i64 (n:Int))).run Tryz.prog W= .ok (.int .u8 c.toNat) W:=fun W=>by
    rw[<-Q]; exact Z0i ⟨l.toArray⟩ n (by omega) W
   have S:l.drop (n+1)=q:=by rw[HL.out,s.out,hq,show 1+a+1=(a+1)+1 by omega,List.drop_succ_cons]
   have o:=Y1 T;have HQ:=Y1 hq;have K:=Y1 S;have Z: ((c.toNat:Int)==34)=(c==34):=Z0o c 34 (by decide);have I: ((c.toNat:Int)==92)=(c==92):=Z0o c 92 (by decide);have t:=Y1 (Lex.Z14 c q);clear hc hq T Q S;cases g: (c==34)
   {rw[g] at Z;have C:c≠34:=by simpa using g
    cases m: (c==92)
    {rw[m] at I;have j:c≠92:=by simpa using m
     by_cases M:c.toNat < 32
     {have a9: (c.toNat:Int) < 32:=by omega
      have b:Lex.unq (r.drop a)=([],0,false):=by rw[o.out,t.out,if_neg C,if_neg j,if_pos M]
      have y:Hid (unqV r= .tuple #[.string ⟨#[]⟩,.int .i64 (n:Int),.bool false]):=Y1 (by
       rw[Z58 (n:=a) (by rw[f.out,b]; rfl) (by rw[f.out,b]), <-s.out])
      clear b g m C j;go_wp2
      go_ret3
      exact ⟨by rw[y.out]; rfl,F.out⟩}
     {have a9: ¬(c.toNat:Int) < 32:=by omega
      have b:Lex.unq (r.drop a)=([c]++(Lex.unq (r.drop (a+1))).1,(Lex.unq (r.drop (a+1))).2.1+1,(Lex.unq (r.drop (a+1))).2.2):=by rw[<-HQ.out,o.out,t.out,if_neg C,if_neg j,if_neg M]; rfl
      have y:=Y1 (Lex.Zdf f.out b);have a5:=c.toNat_lt;clear b g m C j
      go_wp2_with (at_builtin; refine wpList_append_own _ rfl _ _ 137 rfl w.heap.size 5 i0 (.int .u8 0) 1 1 Tryz.underlying137 hi V X Y rfl (by decide) _ _ _ rfl (HO.out.alloc _) ⟨wr.heap.size,0,none⟩ 1 1 [.int .u8 (c.toNat:Int)] rfl rfl (World.news_of_block (heap_alloc_new wr _)) (by intro u E; simp at E; subst E; rfl) (by unfold maxLen; omega) (by omega) (by simp; omega) ?_)
      intro v' w3 i h _;have A:=(F.out.alloc O (.cells #[.int .u8 (c.toNat:Int)] 5)).grown h (by simp; omega) (fun k hk=>(HO.out.lt k hk).1);have H:Hid (Unq r w w3 v' (a+1)):=Y1 ⟨p++ [c],y.out,by rw[List.length_append]; simp; omega,by rw[Z1K,List.length_append]; exact i,A⟩;clear i h A;go_wp2
      go_roundw
      case rel=>exact ⟨a+1,by rw[s.out]; go_num,by have:=s.out; omega,H⟩
      case measure=>simp[intOf]; omega}}
    {rw[m] at I;have d1: ∀W,(Instr.slice 9 (.string ⟨l.toArray⟩) (some (.int .i64 ((n:Int)+1))) none none).run Tryz.prog W= .ok (.string ⟨q.toArray⟩) W:=fun W=>by
      have:=Z0Z (W:=W) ⟨l.toArray⟩ (n+1) (by omega);rw[show (⟨l.toArray⟩:ByteArray).data.toList=l from rfl,K.out] at this;exact this
     have j:c=92:=by simpa using m
     cases q with
     | nil=>
      have b:Lex.unq (r.drop a)=([],0,false):=by rw[o.out,t.out,if_neg (by simpa using g),if_pos j]
      have y:Hid (unqV r= .tuple #[.string ⟨#[]⟩,.int .i64 (n:Int),.bool false]):=Y1 (by
       rw[Z58 (n:=a) (by rw[f.out,b]; rfl) (by rw[f.out,b]), <-s.out])
      have L:Hid (unescV []= .tuple #[.int .u8 0,.bool false]):=Y1 rfl;clear b g m j
      go_wp2_with fail
      refine (Z2L [] _).mono ?_;rintro e w2 ⟨D,rfl⟩;rw[L.out] at D;subst D;go_wp2
      go_ret3
      exact ⟨by rw[y.out]; rfl,F.out⟩
     | cons d q2=>
      have hd2:n+2<=l.length:=by
       have:=congrArg List.length K.out;rw[List.length_drop,List.length_cons] at this; omega
      cases J:Lex.unesc d with
      | none=>
       have b:Lex.unq (r.drop a)=([],0,false):=by rw[o.out,t.out,if_neg (by simpa using g),if_pos j]; simp only; rw[J]
       have y:Hid (unqV r= .tuple #[.string ⟨#[]⟩,.int .i64 (n:Int),.bool false]):=Y1 (by
        rw[Z58 (n:=a) (by rw[f.out,b]; rfl) (by rw[f.out,b]), <-s.out])
       have L:Hid (unescV (d::q2)= .tuple #[.int .u8 0,.bool false]):=Y1 (by rw[Z5w,J]);clear b g m j J
       go_wp2_with fail
       refine (Z2L (d::q2) _).mono ?_;rintro e w2 ⟨D,rfl⟩;rw[L.out] at D;subst D;go_wp2
       go_ret3
       exact ⟨by rw[y.out]; rfl,F.out⟩
      | some x=>
       have b:Lex.unq (r.drop a)=([x]++(Lex.unq (r.drop (a+2))).1,(Lex.unq (r.drop (a+2))).2.1+2,(Lex.unq (r.drop (a+2))).2.2):=by
        rw[Lex.Zet o.out,o.out,t.out,if_neg (by simpa using g),if_pos j]; simp only; rw[J]; rfl
       have y:=Y1 (Lex.Zdf f.out b);have L:Hid (unescV (d::q2)= .tuple #[.int .u8 (x.toNat:Int),.bool true]):=Y1 (by rw[Z5w,J]);have a5:=x.toNat_lt;clear b g m j J
       go_wp2_with fail
       refine (Z2L (d::q2) _).mono ?_;rintro e w2 ⟨D,rfl⟩;rw[L.out] at D;subst D
       go_wp2_with (at_builtin; refine wpList_append_own _ rfl _ _ 137 rfl w.heap.size 5 i0 (.int .u8 0) 1 1 Tryz.underlying137 hi V X Y rfl (by decide) _ _ _ rfl (HO.out.alloc _) ⟨wr.heap.size,0,none⟩ 1 1 [.int .u8 (x.toNat:Int)] rfl rfl (World.news_of_block (heap_alloc_new wr _)) (by intro u E; simp at E; subst E; rfl) (by unfold maxLen; omega) (by omega) (by simp; omega) ?_)
       intro v' w3 i h _;have A:=(F.out.alloc O (.cells #[.int .u8 (x.toNat:Int)] 5)).grown h (by simp; omega) (fun k hk=>(HO.out.lt k hk).1);have H:Hid (Unq r w w3 v' (a+2)):=Y1 ⟨p++ [x],y.out,by rw[List.length_append]; simp; omega,by rw[Z1K,List.length_append]; exact i,A⟩;clear i h A;go_wp2
       go_roundw
       case rel=>exact ⟨a+2,by rw[s.out]; go_num,by have:=s.out; omega,H⟩
       case measure=>simp[intOf]; omega}}
   {rw[g] at Z;have b:Lex.unq (r.drop a)=([],1,true):=by rw[o.out,t.out,if_pos (by simpa using g)]
    have y:Hid (unqV r= .tuple #[.string ⟨p.toArray⟩,.int .i64 ((n+1:Nat):Int),.bool true]):=Y1 (by
     rw[Zeu (p:=p) (n:=a+1) (by rw[f.out,b]; simp) (by rw[f.out,b]) (by rw[f.out,b]),s.out]; rfl)
    clear b g I;go_wp2
    go_ret3
    exact ⟨by rw[y.out]; rfl,F.out⟩}}
  {have a6: ¬(n:Int) < (l.length:Int):=by omega
   have b:Lex.unq (r.drop a)=([],0,false):=by
    rw[List.drop_eq_nil_of_le (by have:=s.out; have:=G.out; omega)]; rfl
   have y:Hid (unqV r= .tuple #[.string ⟨#[]⟩,.int .i64 (n:Int),.bool false]):=Y1 (by
    rw[Z58 (n:=a) (by rw[f.out,b]; rfl) (by rw[f.out,b]), <-s.out])
   clear b;go_wp2
   go_ret3
   exact ⟨by rw[y.out]; rfl,F.out⟩}
end Go.Proofs.YtkncdbaoaeeoiaaGreatDoor
namespace Go.Proofs.YtkncdbaoaeeoiaaGreatDoor
section
open Go.RowKit
theorem Zdg (r:List UInt8):unqV r= .tuple #[.string ⟨(if (Lex.unq r).2.2 then (Lex.unq r).1 else []).toArray⟩,.int .i64 ((1+(Lex.unq r).2.1:Nat):Int),.bool (Lex.unq r).2.2]:=by
 unfold unqV;cases h: (Lex.unq r).2.2 <;> rfl
theorem Z9W (g B:Nat) (b2:g < B) (s:List UInt8) (i:Nat) (hi:i < s.length) (hs:s.length<=4096) (S:s[i]'hi=34) (v:Value) (l:List Tk) (hl:l.length<=i) (w:World) (h:ScanT w g B s i v l):
 Calls Tryz.prog 86 #[.pointer (some ⟨g,0,none⟩)] w (StepE g B s i v l (Lex.piece (s.drop i)) w):=by
 have E:s.drop i=34::s.drop (i+1):=by rw[List.drop_eq_getElem_cons hi,S]
 obtain ⟨r,hr⟩: ∃r,r=s.drop (i+1):=⟨_,rfl⟩;rw[<-hr] at E;obtain ⟨ps,rest,hR,hQ⟩:=Lex.Zb3 r;have Z:Lex.piece (34::r)=match Lex.quoted (34::r) with | .error x=> .error x | .ok (t,n)=> .ok ([t],n):=rfl
 rw[hQ] at Z;have d7:r.length+1+i=s.length:=by have:=congrArg List.length E; rw[List.length_drop,List.length_cons] at this; omega
 obtain ⟨b4,b5⟩:=Lex.Z6v r.length r (Nat.le_refl _);have hV:=Zdg r;have HW:=Y1 (Z8G r (by omega));obtain ⟨K,hK⟩: ∃K,K=(Lex.unq r).2.2:=⟨_,rfl⟩;obtain ⟨n,hn⟩: ∃n,n=1+(Lex.unq r).2.1:=⟨_,rfl⟩;obtain ⟨T,hT⟩: ∃T,T=(Lex.unq r).1:=⟨_,rfl⟩;rw[<-hK, <-hn, <-hT] at hV;rw[<-hK, <-hn, <-hT] at Z;rw[<-hn] at hR;have d6:n<=r.length+1:=by omega
 have HD:=Y1 (Z4P g s i n (Nat.le_of_lt hi) (by omega) (by omega) ps rest (by rw[E]; exact hR));have HV:=Y1 hV;have J:=Y1 Z;have d3:=Y1 E;have hb0:=Z01 w (.cells Yc 29);have X:=Y1 (Z0L w 0 0);have W:=Y1 (h.keep hb0);have o:=Y1 hb0;have c9:=h.at_.lt;have d5:=h.le;have G:w.heap.size≠g:=by omega
 have M:Hid (some w.heap.size≠v.ownBlock):=Y1 (fun e=>by have:=(h.own.lt _ e.symm).2; omega);have u:=Y1 (Z6f g s i (Nat.le_of_lt hi));rw[E] at u;rw[E];clear hb0 h S hR hQ Z hV hK hn hT b4 b5 E hr;go_enter Tryz.func86,Tryz.ntmps86
 go_wp2_with fail
 generalize hW:w.alloc (.cells Yc 29)=W0 at X o W ⊢;clear hW
 go_wp2_with fail
 refine (u.out _ W.out.at_).mono ?_;rintro e w2 ⟨rfl,nq,rfl⟩
 go_wp2_with fail
 refine (HW.out _).mono ?_;rintro e w3 ⟨F,V⟩;rw[HV.out] at F;subst F;have b:Below W0.heap.size W0 w3:=(Z0g W0 nq).trans (V.mono (Nat.le_refl _));have y:=Y1 (W.out.keep b);have z:=Y1 (X.out.keep (B:=W0.heap.size) X.out.1 b);have L:=Y1 (Z00 o.out b);clear V b W X o HW u;obtain ⟨Y,C⟩: ∃Y:List UInt8,Y=if K then T else []:=⟨_,rfl⟩;rw[<-C];have a5:=Y1 C;clear C
 go_wp2_with fail
 refine (HD.out _ y.out.at_).mono ?_;rintro e w4 ⟨F,j⟩;have O:=Y1 (y.out.keep j);have d:=Y1 (z.out.keep (B:=w3.heap.size) z.out.1 j);have p:=Y1 (Z00 L.out j);clear j y z L HD;by_cases a:rest= []
 {have c:faultV ps rest i= .agg #[.int .i64 0,.int .i64 0]:=by unfold faultV; rw[if_pos a]
  rw[c] at F;subst F;have k:=Z01 w4 (.cells Yc 29);have P:=Y1 (O.out.keep k);have f:=Y1 (d.out.keep (B:=w4.heap.size) d.out.1 k);have q:=Y1 (Z00 p.out k);clear c k d O;cases K with
  | false=>
   have N:Hid (Lex.piece (34::r)= .error (60,0)):=Y1 (by rw[J.out,if_neg (by rw[a]; simp)]; rfl);clear a J
   go_wp2_with fail
   refine (Z4O g s i _ P.out.at_).mono ?_;rintro e w5 ⟨rfl,D⟩;have A:=Y1 (f.out.keep (B:=(w4.alloc (.cells Yc 29)).heap.size) f.out.1 D);have a2:=Y1 (Z00 q.out D);clear D;obtain ⟨q0,x0,x1,y0,y1⟩:=A.out;go_wp2;refine bodyPost_ret (v:= .agg #[.int .i64 60,.int .i64 (i:Int)]) (by simp[results,Tryz.results86,go_sem,x0,x1]) rfl ?_;refine ⟨Z1C (UpdT.of a2.out (by omega)) _ (by omega) (by omega) _ _, ?_⟩;rw[N.out];simp
  | true=>
   have N:Hid (Lex.piece (34::r)= .ok ([⟨4,T⟩],n)):=Y1 (by rw[J.out,if_neg (by rw[a]; simp)]; rfl);obtain rfl:Y=T:=by rw[a5.out]; rfl
   clear a J
   go_wp2_with fail
   refine (Z4Q g B b2 s i v l (by omega) 4 Y n (by omega) _ P.out).mono ?_;rintro e w5 ⟨rfl,⟨v',U,I⟩,H⟩;have Q:Hid (v'.ownBlock≠some w.heap.size):=Y1 (fun e=>by
    rcases I _ e with h | h
    {exact M.out h.symm}
    · have:=f.out.1; omega)
   have a7:Hid (∀x,v'.ownBlock=some x->v.ownBlock=some x\/w.heap.size<=x):=Y1 (fun x hx=>by
    rcases I x hx with h | h
    {exact Or.inl h}
    · right; have:=q.out.size; omega)
   have A:=Y1 (f.out.updT H G M.out);have a6:=Y1 ((UpdT.of q.out (by omega)).trans H);have a4:=Y1 U;clear U H I;obtain ⟨q0,x0,x1,y0,y1⟩:=A.out;go_wp2;refine bodyPost_ret (v:= .agg #[.int .i64 0,.int .i64 0]) (by simp[results,Tryz.results86,go_sem,x0,x1]) rfl ?_;refine ⟨Z1C a6.out _ (by omega) (by omega) _ _, ?_⟩;rw[N.out];exact ⟨rfl,v',(a4.out.box _ (Ne.symm G) Q.out _ _).box _ (Ne.symm G) Q.out _ _,a7.out⟩}
 {have c:faultV ps rest i= .agg #[.int .i64 30,.int .i64 ((i+(Utf.enc ps).length:Nat):Int)]:=by unfold faultV; rw[if_neg a]
  rw[c] at F;subst F;have N:Hid (Lex.piece (34::r)= .error (30,(Utf.enc ps).length)):=Y1 (by rw[J.out,if_pos a]);obtain ⟨m,hm⟩: ∃m,m=i+(Utf.enc ps).length:=⟨_,rfl⟩;rw[<-hm];have a3:=Y1 hm;clear a c J hm;obtain ⟨q0,x0,x1,y0,y1⟩:=d.out;go_wp2;refine bodyPost_ret (v:= .agg #[.int .i64 30,.int .i64 (m:Int)]) (by simp[results,Tryz.results86,go_sem,x0,x1,q0]) rfl ?_;have d8:=p.out.size;refine ⟨(Z1C (UpdT.of p.out (by omega)) _ (by omega) (by omega) _ _).trans (UpdT.of (Z01 _ _) (by simp; omega)), ?_⟩;rw[N.out];show _=Ending.returned (.agg #[.int .i64 30,.int .i64 ((i+(Utf.enc ps).length:Nat):Int)]);rw[<-a3.out]}
end
end Go.Proofs.YtkncdbaoaeeoiaaGreatDoor
namespace Lex
theorem Z6F (l:List UInt8): (l.take 2== [45,45])=hasRemark l:=by
 match l with
 | []=>rfl
 | [x]=>simp[hasRemark]
 | x::y::q=>
  rw[Z4j];show ([x,y]== [45,45])=_;simp
end Lex
namespace Go.Proofs.YtkncdbaoaeeoiaaGreatDoor
open Go.RowKit
section
variable {g B : Nat} {s : List UInt8} {i : Nat} {v : Value} {l : List Tk} {r : Except (Int × Nat) (List Lex.Tok × Nat)}
include g B s i v l r
theorem StepE.form {w:World} {e:Ending} {w':World} (h:StepE g B s i v l r w e w'): ∃a b:Int,e= .returned (.agg #[.int .i64 a,.int .i64 b]):=by
 obtain ⟨_,h⟩:=h
 match r,h with
 | .error (x,k),h=>exact ⟨_,_,h⟩
 | .ok (ts,n),h=>exact ⟨_,_,h.1⟩
theorem StepE.lift {w W0:World} {e:Ending} {w':World} (h:StepE g B s i v l r W0 e w') (o:Below w.heap.size w W0) (q:w.heap.size < W0.heap.size)
 (f:g < w.heap.size) (u:v.ownBlock≠some w.heap.size) (a b:Value):StepE g B s i v l r w e ((w'.setCell ⟨w.heap.size,0,none⟩ a).setCell ⟨w.heap.size,1,none⟩ b):=by
 obtain ⟨t,h⟩:=h;refine ⟨Z1C ((UpdT.of o (Nat.le_of_lt f)).trans t) _ (Nat.le_refl _) (Nat.le_of_lt f) _ _, ?_⟩
 match r,h with
 | .error (x,k),h=>exact h
 | .ok (ts,n),h=>
  obtain ⟨p,j,m,d⟩:=h;have c:j.ownBlock≠some w.heap.size:=fun e=>by
   rcases d _ e with h | h
   {exact u h}
   {omega}
  exact ⟨p,j,(m.box _ (by omega) c _ _).box _ (by omega) c _ _,fun x hx=>by
   rcases d x hx with h | h
   {exact Or.inl h}
   · right; omega⟩
end
theorem Zev (g B:Nat) (E:g < B) (s:List UInt8) (i:Nat) (H:i < s.length) (Q:s.length<=4096) (v:Value) (l:List Tk) (T:l.length<=i) (w:World) (h:ScanT w g B s i v l) (S:Globs w):
 Calls Tryz.prog 61 #[.pointer (some ⟨g,0,none⟩)] w (StepE g B s i v l (Lex.piece (s.drop i)) w):=by
 have hb0:=Z01 w (.cells Yc 29);have C:=Y1 (Z0L w 0 0);have q:=Y1 (h.keep hb0);have M:=Y1 (S.next hb0);have k:=Y1 hb0;have y:=h.at_.lt;have Y:=h.le;have F:w.heap.size≠g:=by omega
 have m:Hid (v.ownBlock≠some w.heap.size):=Y1 (fun e=>by have:=(h.own.lt _ e).2; omega);have O:=Y1 (Z3u g s i H);have D:=Y1 (Lex.Z6F (s.drop i));have A:=Y1 (Z1J g s i 2 (Nat.le_of_lt H) (by omega) (by decide));obtain ⟨p2,K⟩: ∃p2,p2=(s.drop i).take 2:=⟨_,rfl⟩;rw[<-K] at D A;clear hb0 h S K;cases G:Lex.hasRemark (s.drop i) with
 | true=>
  have Z: (p2== [45,45])=true:=by rw[D.out]; exact G
  have I:=Y1 (Z9V g B E s i H Q G v l);clear G;go_enter Tryz.func61,Tryz.ntmps61
  go_wp2_with fail
  generalize hW:w.alloc (.cells Yc 29)=W0 at C k q M ⊢;clear hW
  go_wp2_with fail
  refine (A.out _ q.out.at_).mono ?_;rintro e N ⟨rfl,f,rfl⟩;have r:=Y1 (q.out.keep (Z0g W0 f));have o:=Y1 (Z00 k.out (Z0g W0 f));have d:Hid (w.heap.size < (W0.drewN f).heap.size):=Y1 C.out.1;have t:Hid (Box2 (W0.drewN f) w.heap.size 0 0):=C
  go_wp2_with fail
  refine (I.out _ r.out).mono ?_;rintro e V j;have u:=Y1 (t.out.updT j.1 F (fun e=>m.out e.symm));have p:=Y1 (fun a b=>j.lift o.out d.out y m.out a b);obtain ⟨a,b,rfl⟩:=j.form;obtain ⟨U,x0,x1,W,X⟩:=u.out;clear j;go_wp2;refine bodyPost_ret (v:= .agg #[.int .i64 a,.int .i64 b]) (by simp[results,Tryz.results61,go_sem,x0,x1]) rfl ?_;exact p.out _ _
 | false=>
  have Z: (p2== [45,45])=false:=by rw[D.out]; exact G
  obtain ⟨c,J⟩: ∃c,c=s[i]'H:=⟨_,rfl⟩;rw[<-J] at O;have L: ((c.toNat:Int)==34)=(c==34):=Z0o c 34 (by decide);cases n: (c==34) with
  | true=>
   rw[n] at L;have I:=Y1 (Z9W g B E s i H Q (by rw[<-J]; simpa using n) v l T);clear G n J;go_enter Tryz.func61,Tryz.ntmps61
   go_wp2_with fail
   generalize hW:w.alloc (.cells Yc 29)=W0 at C k q M ⊢;clear hW
   go_wp2_with fail
   refine (A.out _ q.out.at_).mono ?_;rintro e N ⟨rfl,f,rfl⟩
   go_wp2_with fail
   refine (O.out _ (q.out.at_.draw _)).mono ?_;rintro e N ⟨rfl,z,rfl⟩;have r:=Y1 (q.out.keep (Z0g W0 (f+z)));have o:=Y1 (Z00 k.out (Z0g W0 (f+z)));have d:Hid (w.heap.size < (W0.drewN (f+z)).heap.size):=Y1 C.out.1;have t:Hid (Box2 (W0.drewN (f+z)) w.heap.size 0 0):=C
   go_wp2_with fail
   refine (I.out _ r.out).mono ?_;rintro e V j;have u:=Y1 (t.out.updT j.1 F (fun e=>m.out e.symm));have p:=Y1 (fun a b=>j.lift o.out d.out y m.out a b);obtain ⟨a,b,rfl⟩:=j.form;obtain ⟨U,x0,x1,W,X⟩:=u.out;clear j;go_wp2;refine bodyPost_ret (v:= .agg #[.int .i64 a,.int .i64 b]) (by simp[results,Tryz.results61,go_sem,x0,x1]) rfl ?_;exact p.out _ _
  | false=>
   rw[n] at L;have I:=Y1 (ZbH g B E s i H Q (by rw[<-J]; simpa using n) G v l T);clear G n J;go_enter Tryz.func61,Tryz.ntmps61
   go_wp2_with fail
   generalize hW:w.alloc (.cells Yc 29)=W0 at C k q M ⊢;clear hW
   go_wp2_with fail
   refine (A.out _ q.out.at_).mono ?_;rintro e N ⟨rfl,f,rfl⟩
   go_wp2_with fail
   refine (O.out _ (q.out.at_.draw _)).mono ?_;rintro e N ⟨rfl,z,rfl⟩;have r:=Y1 (q.out.keep (Z0g W0 (f+z)));have P:=Y1 (M.out.next (Z0g W0 (f+z)));have o:=Y1 (Z00 k.out (Z0g W0 (f+z)));have d:Hid (w.heap.size < (W0.drewN (f+z)).heap.size):=Y1 C.out.1;have t:Hid (Box2 (W0.drewN (f+z)) w.heap.size 0 0):=C
   go_wp2_with fail
   refine (I.out _ r.out P.out).mono ?_;rintro e V j;have u:=Y1 (t.out.updT j.1 F (fun e=>m.out e.symm));have p:=Y1 (fun a b=>j.lift o.out d.out y m.out a b);obtain ⟨a,b,rfl⟩:=j.form;obtain ⟨U,x0,x1,W,X⟩:=u.out;clear j;go_wp2;refine bodyPost_ret (v:= .agg #[.int .i64 a,.int .i64 b]) (by simp[results,Tryz.results61,go_sem,x0,x1]) rfl ?_;exact p.out _ _
end Go.Proofs.YtkncdbaoaeeoiaaGreatDoor
namespace Lex
section
def endTok:Tok:=⟨0,[]⟩
theorem Z4S: ∀(k:Nat) (a:List UInt8) (i:Nat) (t:Tok) (j:Nat) (l:List (Tok×Nat)),a.length<=k->toks a i= .ok ((t,j)::l)-> ∃n,i<=j/\token (a.drop (j - i))= .ok (t,n)/\j - i+n<=a.length/\ ∀c∈(a.drop (j - i)).head?,blank c=false
 | _,[],i,t,j,l,_,h=>by cases Except.ok.inj h
 | 0,c::r,_,_,_,_,h,_=>by simp at h
 | k+1,c::r,i,t,j,l,hk,h=>by
  rw[List.length_cons] at hk;by_cases u:blank c=true
  {rw[Z0l u] at h;obtain ⟨n,s,h2,z,w⟩:=Z4S k r (i+1) t j l (by omega) h;have e:j - i=(j - (i+1))+1:=by omega
   refine ⟨n,by omega, ?_, ?_, ?_⟩
   {rw[e,List.drop_succ_cons]; exact h2}
   {rw[List.length_cons]; omega}
   {rw[e,List.drop_succ_cons]; exact w}}
  {have o:blank c=false:=by simpa using u
   have b: ∀x∈(c::r).head?,blank x=false:=fun x hx=>by
    obtain rfl:c=x:=by simpa using hx
    exact o
   cases p:hasRemark (c::r) with
   | true=>
    rw[Z0y b p] at h;cases d:remark (c::r).length (c::r) with
    | error j=>rw[d] at h; cases h
    | ok m=>
     rw[d] at h;have s:=Z0Q p (f:=r.length) d;have h2:=Z1m _ _ _ d;obtain ⟨n,g1,g2,g3,q⟩:=Z4S k _ (i+m) t j l (by rw[List.length_drop,List.length_cons]; omega) h;rw[List.drop_drop,show m+(j - (i+m))=j - i by omega] at g2 q;rw[List.length_drop] at g3;exact ⟨n,by omega,g2,by omega,q⟩
   | false=>
    rw[Z0G (by simp) b p] at h;cases g:token (c::r) with
    | error x=>rw[g] at h; cases h
    | ok x=>
     obtain ⟨A,n⟩:=x;rw[g] at h;simp only at h;obtain ⟨s,h2,_⟩:=Z0I g;cases v:toks ((c::r).drop n) (i+n) with
     | error e=>rw[v] at h; cases h
     | ok m=>
      rw[v] at h;obtain ⟨y,rfl⟩:=List.cons.inj (Except.ok.inj h);obtain ⟨rfl,rfl⟩:=Prod.mk.inj y;exact ⟨n,Nat.le_refl _,by rw[Nat.sub_self]; exact g,by rw[Nat.sub_self]; omega,by rw[Nat.sub_self]; exact b⟩}
section
variable {t : Tok} (h : good t)
include t h
theorem Z4T:1<=t.kind/\t.kind<=7:=by
 obtain ⟨c,r,_,_,_,a⟩:=h;exact (Z0I a).2.2.2
theorem Zdh:toks (written t) 0= .ok [(t,0)]:=by
 obtain ⟨c,r,d,e,b,a⟩:=h;rw[d,Z0G (by simp) (fun x hx=>by
  obtain rfl:c=x:=by simpa using hx
  exact b) (Z4z a),a]
 simp only[List.drop_length,Z36];rfl
theorem Zdi:scanR (written t)= .ok [(t,0),(endTok,(written t).length)]:=by
 have a:=Zdh h;obtain ⟨c,r,b,e,d,f⟩:=h;unfold scanR;rw[if_neg (by rw[b]; omega),a]; rfl
end
theorem Zex:scanR (written endTok)= .ok [(endTok,0)]:=rfl
theorem Z8H {t:Tok} {x:Tok×Nat} {m:List (Tok×Nat)} (h:scanR (written t)= .ok (x::m)) (f:x.1=t):t=endTok\/good t:=by
 unfold scanR at h;by_cases b:4096 < (written t).length
 {rw[if_pos b] at h; cases h}
 {rw[if_neg b] at h;cases d:toks (written t) 0 with
  | error e=>rw[d] at h; cases h
  | ok l=>
   rw[d] at h;have h:=Except.ok.inj h;cases l with
   | nil=>
    obtain ⟨rfl,_⟩:=List.cons.inj h;exact Or.inl f.symm
   | cons y l=>
    rw[List.cons_append] at h;obtain ⟨rfl,_⟩:=List.cons.inj h;obtain ⟨p,j⟩:=y;simp only at f;subst f;obtain ⟨n,h1,h2,h3,a⟩:=Z4S _ _ _ _ _ _ (Nat.le_refl _) d;rw[Nat.sub_zero] at h2 h3 a;obtain ⟨_,k⟩:=Z42 h2;have g:=congrArg List.length k;rw[List.length_take,List.length_drop] at g;obtain ⟨p1,p2,_⟩:=Z0I h2;have o:j=0:=by omega
    subst o;rw[List.drop_zero] at h2 a p2;refine Or.inr ?_;unfold good;cases i:written p with
    | nil=>rw[i] at p2; simp at p2; omega
    | cons c r=>
     rw[i] at h2 a b h3 g;refine ⟨c,r,rfl,by omega,a c (by simp), ?_⟩;rw[h2];have:n=(c::r).length:=by omega
     rw[this]}
def kept (l:List Tok):List Tok:=l.filter (fun t=>decide (t≠endTok))
theorem Zdj (l:List Tok) (t:Tok):kept (l++ [t])=if t=endTok then kept l else kept l++ [t]:=by
 unfold kept;rw[List.filter_append];by_cases h:t=endTok
 {rw[if_pos h]; simp[h]}
 {rw[if_neg h]; simp[h]}
def shown (l:List Tok):List UInt8:=join ((kept l).map written)
def mayShow (l:List Tok):Prop:= ∀t∈l,t=endTok\/good t
theorem Z7e: ∀(a:List (List UInt8)) (p:List UInt8),join (a++ [p])=if a= [] then p else join a++32::p
 | [],p=>rfl
 | [q],p=>rfl
 | q::r::a,p=>by
  rw[if_neg (by simp)];show q++32::join ((r::a)++ [p])=(q++32::join (r::a))++32::p;rw[Z7e (r::a) p,if_neg (by simp)];simp
theorem Zfz: ∀(a:List (List UInt8)),a≠ []->(∀p∈a,p≠ [])->join a≠ []
 | [],h,_=>absurd rfl h
 | [q],_,h=>h q (by simp)
 | q::r::a,_,h=>by
  show q++32::join (r::a)≠ [];simp
theorem ZbJ (l:List Tok) (t:Tok):shown (l++ [t])=if t=endTok then shown l else if kept l= [] then written t else shown l++32::written t:=by
 unfold shown;rw[Zdj];split
 {rfl}
 {rw[List.map_append,List.map_cons,List.map_nil,Z7e];simp}
theorem Z4U {l:List Tok} (h:mayShow l):shown l= [] ↔ kept l= []:=by
 constructor
 {intro a;by_cases b:kept l= []
  {exact b}
  {exfalso;refine Zfz _ (by simpa using b) (fun p hp=> ?_) a;obtain ⟨t,g,rfl⟩:=List.mem_map.1 hp;obtain ⟨d,e⟩:=List.mem_filter.1 g;rcases h t d with rfl | f
   {simp at e}
   {obtain ⟨c,r,hw,_⟩:=f;rw[hw]; simp}}}
 {intro a; unfold shown; rw[a]; rfl}
theorem Z5x {t:Tok} (h:t=endTok\/good t): (written t).length<=4096:=by
 rcases h with rfl | ⟨c,r,b,a,_⟩
 {decide}
 {rw[b]; exact a}
theorem join_len: ∀(a:List (List UInt8)),(∀p∈a,p.length<=4096)->(join a).length<=4097 * a.length
 | [],_=>Nat.zero_le _
 | [q],h=>by have:=h q (by simp); simp only[join,List.length_cons,List.length_nil]; omega
 | q::r::a,h=>by
  have b:=h q (by simp);have c:=join_len (r::a) (fun p hp=>h p (List.mem_cons_of_mem _ hp));show (q++32::join (r::a)).length<=_;rw[List.length_append,List.length_cons,List.length_cons (a:=q)];omega
theorem Zdk (l:List Tok) (h:mayShow l): (shown l).length<=4097 * l.length:=by
 have a:=join_len ((kept l).map written) (fun p hp=>by
  obtain ⟨t,c,rfl⟩:=List.mem_map.1 hp;exact Z5x (h t (List.mem_filter.1 c).1))
 have b: (kept l).length<=l.length:=List.length_filter_le _ _;rw[List.length_map] at a;unfold shown;exact Nat.le_trans a (Nat.mul_le_mul_left _ b)
end
end Lex
namespace Lex
def bl (j:Nat):UInt8:= [9,10,13,32].getD j 0
theorem Zey (c:UInt8) (h: ∀j,j < 4->c≠bl j):blank c=false:=by
 have a:=h 0 (by decide);have b:=h 1 (by decide);have d:=h 2 (by decide);have e:=h 3 (by decide);have f:bl 0=9:=rfl;have g:bl 1=10:=rfl;have i:bl 2=13:=rfl;have k:bl 3=32:=rfl;rw[f] at a; rw[g] at b; rw[i] at d; rw[k] at e;unfold blank;simp[a,b,d,e]
theorem Zez (j:Nat) (h:j < 4):blank (bl j)=true:=by
 have:j=0\/j=1\/j=2\/j=3:=by omega
 rcases this with rfl | rfl | rfl | rfl <;> rfl
end Lex
namespace Go.Proofs.YtkncdbaoaeeoiaaGreatDoor
open Go.RowKit
theorem UpdB.refl (g B:Nat) (w:World):UpdB g B w w:=⟨Below.refl _ _,fun _ _ _ _=>⟨rfl,rfl⟩⟩
theorem UpdB.of {g B:Nat} {w w':World} (h:Below w.heap.size w w') (c:g<=w.heap.size) (a:B<=w.heap.size):UpdB g B w w':=
 ⟨h.mono c,fun b o hb _=>⟨h.cell (p:=⟨b,o,none⟩) (Nat.lt_of_lt_of_le hb a),h.frozen (p:=⟨b,o,none⟩) (Nat.lt_of_lt_of_le hb a)⟩⟩
theorem UpdB.trans {g B:Nat} {a b c:World} (h:UpdB g B a b) (k:UpdB g B b c):UpdB g B a c:=
 ⟨h.1.trans k.1,fun x o hx hne=>⟨(k.2 x o hx hne).1.trans (h.2 x o hx hne).1,(k.2 x o hx hne).2.trans (h.2 x o hx hne).2⟩⟩
theorem UpdB.move {g B:Nat} {w w':World} (h:UpdB g B w w') (a:Value) (j:Nat):UpdB g B w (w'.setCell ⟨g,j,none⟩ a):=
 ⟨h.1.setCell (p:=⟨g,j,none⟩) (Nat.le_refl _) _,fun x o hx hne=>by
  refine ⟨?_, ?_⟩
  {rw[World.cell?_setCell_other _ _ _ _ (fun e=>hne (congrArg Addr.block e).symm)]; exact (h.2 x o hx hne).1}
  · have:=(h.2 x o hx hne).2
    simpa[go_sem] using this⟩
theorem Box2.updB {W W':World} {g B c:Nat} {a b:Int} (h:Box2 W c a b) (d:UpdB g B W W') (n:c≠g) (m:c < B):Box2 W' c a b:=by
 obtain ⟨e,f,i,j,l⟩:=h;have k:=fun o=>d.2 c o m n;exact ⟨Nat.lt_of_lt_of_le e d.1.size,(k 0).1.trans f,(k 1).1.trans i,(k 0).2.trans j,(k 1).2.trans l⟩
def tkOf (l:List (Lex.Tok×Nat)):List Tk:=l.map fun x=>⟨x.1,(x.2:Int)⟩
theorem Z1D (l:List (Lex.Tok×Nat)): (tkOf l).length=l.length:=by simp[tkOf]
theorem Z2C (a b:List (Lex.Tok×Nat)):tkOf (a++b)=tkOf a++tkOf b:=by simp[tkOf]
theorem ZfA (ts:List Lex.Tok) (i:Nat):tkOf (ts.map fun t=>(t,i))=ts.map fun t=>⟨t,(i:Int)⟩:=by simp[tkOf]
structure Scan1 (g B:Nat) (s:List UInt8) (W0 wr:World) (i:Nat) (v:Value) (pre:List (Lex.Tok×Nat)):Prop where
 t:ScanT wr g B s i v (tkOf pre)
 u:UpdB g B W0 wr
 le:i<=s.length
 len:pre.length<=i
 eq:Lex.toks s 0=Lex.joinR pre (Lex.toks (s.drop i) i)
def ScanE (g:Nat) (s:List UInt8) (w:World) (e:Ending) (w':World):Prop:=Below g w w'/\match Lex.toks s 0 with
 | .error (x,k)=>e= .returned (.agg #[.int .i64 x,.int .i64 (k:Int)])
 | .ok m=>e= .returned (.agg #[.int .i64 0,.int .i64 0])/\ ∃v',w'.cell? ⟨g,2,none⟩=some v'/\w'.ownsRow (w.heap.size+1) 54 3 v' (m.length+1) (cellsT (tkOf (m++ [(Lex.endTok,s.length)])))
theorem Zgx (a b:UInt8): ((a.toNat:Int)==(b.toNat:Int))=(a==b):=by
 rw[Bool.eq_iff_iff,beq_iff_eq,beq_iff_eq];exact ⟨fun h=>UInt8.toNat_inj.1 (by omega),fun h=>by rw[h]⟩
theorem Scan1.blank {g B:Nat} {s:List UInt8} {W0 d:World} {i:Nat} {v:Value} {a:List (Lex.Tok×Nat)} (h:Scan1 g B s W0 d i v a) (b:g < B) (c:i < s.length) (e:Lex.blank (s[i]'c)=true):
 Scan1 g B s W0 (d.setCell ⟨g,1,none⟩ (.int .i64 ((i+1:Nat):Int))) (i+1) v a:=
 ⟨h.t.move b (i+1),h.u.move _ 1,c,by have:=h.len; omega,by rw[h.eq,List.drop_eq_getElem_cons c,Lex.Z0l e]⟩
section
variable {g B : Nat} {s : List UInt8} {W0 wr : World} {i : Nat} {v : Value} {pre : List (Lex.Tok × Nat)} (h : Scan1 g B s W0 wr i v pre)
include g B s W0 wr i v pre h
theorem Scan1.draw (a:g < B) (n:Nat):Scan1 g B s W0 (wr.drewN n) i v pre:=
 ⟨h.t.keep (Z0g wr n),h.u.trans (UpdB.of (Z0g wr n) (Nat.le_of_lt h.t.at_.lt) h.t.le),h.le,h.len,h.eq⟩
theorem Scan1.step (f:i < s.length) (y:Lex.blank (s[i]'f)=false) {e:Ending} {w':World} (z:StepE g B s i v (tkOf pre) (Lex.piece (s.drop i)) wr e w'):
 UpdB g B W0 w'/\((∃x k,e= .returned (.agg #[.int .i64 x,.int .i64 ((k:Nat):Int)])/\Lex.toks s 0= .error (x,k)/\x≠0)\/(e= .returned (.agg #[.int .i64 0,.int .i64 0])/\ ∃p j pre',i < j/\Scan1 g B s W0 w' j p pre')):=by
 obtain ⟨C,b⟩:=z;have q:=h.u.trans (C.toB h.t);refine ⟨q, ?_⟩;have a:=Lex.Z4d (l:=s.drop i) (by intro e; have:=congrArg List.length e; rw[List.length_drop] at this; simp at this; omega) (fun c hc=>by
  obtain rfl:s[i]'f=c:=by simpa[List.getElem?_eq_getElem f] using hc
  exact y) i
 have d:=h.eq;cases r:Lex.piece (s.drop i) with
 | error x=>
  obtain ⟨x,k⟩:=x;rw[r] at b a;simp only at b a;refine Or.inl ⟨x,i+k,b,by rw[d,a]; rfl, ?_⟩;have A:Lex.toks s 0= .error (x,i+k):=by rw[d,a]; rfl
  have:=(Lex.Z1d _ _ _ _ _ (Nat.le_refl _) A).2;rcases this with h | h <;> rw[h] <;> decide
 | ok x=>
  obtain ⟨ts,n⟩:=x;rw[r] at b a;simp only at b a;obtain ⟨u,D,w,E⟩:=a;obtain ⟨m,p,o,_⟩:=b;rw[List.length_drop] at w;refine Or.inr ⟨m,p,i+n,pre++ts.map (fun t=>(t,i)),by omega,⟨by rw[Z2C,ZfA]; exact o,q,by omega,by rw[List.length_append,List.length_map]; have:=h.len; omega, ?_⟩⟩;rw[d,u,Lex.Z5v,List.drop_drop]
end
theorem Globs.upd {a w w':World} {g:Nat} (h:Globs a) (b:Below a.heap.size a w) (d:Below g w w') (c:a.heap.size<=g):Globs w':=h.next (b.trans (d.mono c))
theorem Zdl (g:Nat) (s:List UInt8) (hs:s.length<=4096) (V:World) (hg:Globs V) (w:World) (hb0:Below V.heap.size V w) (P:V.heap.size<=g) (h:ScanAt w g s 0) (N:w.cell? ⟨g,2,none⟩=some (.slice none 0 0)):
 Calls Tryz.prog 34 #[.pointer (some ⟨g,0,none⟩)] w (ScanE g s w):=by
 have u:=Z01 w (.cells Yc 29);have HX:=Y1 (Z0L w 0 0);have HG:=Y1 hg;have I:=Y1 (hb0.trans (u.mono (Nat.le_trans P (Nat.le_of_lt h.lt))));have f:=h.lt;have q:g < w.heap.size+1:=by omega
 have B:=Y1 u;have HS:Hid (Scan1 g (w.heap.size+1) s (w.alloc (.cells Yc 29)) (w.alloc (.cells Yc 29)) 0 (.slice none 0 0) []):=Y1
  ⟨⟨h.keep h.lt u,(u.cell (p:=⟨g,2,none⟩) h.lt).trans N,World.ownsRow_nil _ _ _ _,by simp⟩,UpdB.refl _ _ _,Nat.zero_le _,Nat.le_refl _,by rw[Lex.Z4R]; rfl⟩
 clear hb0 u h N hg;go_enter Tryz.func34,Tryz.ntmps34
 go_wp2_with fail
 generalize hW:w.alloc (.cells Yc 29)=W0 at HX I HS B ⊢;clear hW
 go_step3
 go_wp2_with fail
 go_step3
 go_wp2_with fail
 go_loopw [4] (fun _ wr=> ∃(i:Nat) (v:Value) (pre:List (Lex.Tok×Nat)),Hid (Scan1 g (w.heap.size+1) s W0 wr i v pre))
  (fun _ wr=>s.length - (match wr.cell? ⟨g,1,none⟩ with | some (.int _ n)=>n.toNat | _=>0))
 case atStart=>exact ⟨0,_,_,HS⟩
 case round=>
  obtain ⟨i,v,pre,b⟩:=hrel;have O:=b.out.t.at_.c1;have J:=Y1 O;clear O;by_cases y:i < s.length
  {have G: ((i:Int)==(s.length:Int))=false:=by rw[beq_eq_false_iff_ne]; omega
   have X:=Y1 (Z3u g s i y);obtain ⟨c,hc⟩: ∃c,c=s[i]'y:=⟨_,rfl⟩;rw[<-hc] at X;have HC:=Y1 hc;clear hc
   go_wp2_with fail
   refine (Z6e g s i _ b.out.t.at_).mono ?_;rintro e w2 ⟨rfl,U,rfl⟩;rw[G];have o:=Y1 (b.out.draw q U);generalize wr.drewN U=wr1 at o ⊢
   go_wp2_with fail
   go_loopw [10] (fun kk wx=> ∃k:Nat,kk= .int .i64 k/\k<=4/\Hid (∀j,j < k->c≠Lex.bl j)/\Hid (Scan1 g (w.heap.size+1) s W0 wx i v pre))
    (fun kk _=>4 - (intOf kk).toNat)
   case atStart=>exact ⟨0,rfl,by omega,Y1 (fun j hj=>absurd hj (by omega)),o⟩
   case round=>
    obtain ⟨k,rfl,hk,HN,l⟩:=hrel;clear o;by_cases S:k < 4
    {have a7: (k:Int) < 4:=by omega
     obtain ⟨d,hd⟩: ∃d,d=Lex.bl k:=⟨_,rfl⟩;have b6: ∀W,(Instr.index 9 (.string ⟨#[9,10,13,32]⟩) (.int .i64 (k:Int))).run Tryz.prog W= .ok (.int .u8 d.toNat) W:=fun W=>by
      have:=Z0i ⟨#[9,10,13,32]⟩ k S W;rw[this,hd];have:k=0\/k=1\/k=2\/k=3:=by omega
      rcases this with rfl | rfl | rfl | rfl <;> rfl
     have kd:=Zgx c d;have HD:=Y1 hd;clear hd;cases r: (c==d)
     {rw[r] at kd;have a0:Hid (∀j,j < k+1->c≠Lex.bl j):=Y1 (fun j hj=>by
       rcases Nat.lt_succ_iff_lt_or_eq.1 hj with h' | rfl
       {exact HN.out j h'}
       · rw[<-HD.out]; simpa using r)
      clear r
      go_wp2_with fail
      go_quiet ((go_at_call 60; exact Calls.quiet_of (X.out _ (l.out.t.at_.draw _))))
      go_wp2
      go_roundw
      case rel=>exact ⟨k+1,by go_num,by omega,a0,Y1 (l.out.draw q _)⟩
      case measure=>simp[intOf]; omega}
     {rw[r] at kd;have M:Lex.blank (s[i]'y)=true:=by
       rw[<-HC.out,beq_iff_eq.1 r,HD.out]; exact Lex.Zez k S
      have z:=Y1 M;obtain ⟨q1,q2,q3,q4,q5⟩:=l.out.t.at_;clear r M
      go_wp2_with fail
      go_quiet ((go_at_call 60; exact Calls.quiet_of (X.out _ (l.out.t.at_.draw _))))
      go_wp2
      go_roundw
      case rel=>exact ⟨i+1,v,pre,Y1 ((l.out.draw q _).blank q y z.out)⟩
      case measure=>
       rw[J.out];simp[go_sem,q3];exact Nat.sub_lt_sub_left y (Nat.lt_succ_self i)}}
    {have z:Hid (Lex.blank (s[i]'y)=false):=Y1 (by rw[<-HC.out]; exact Lex.Zey c (fun j hj=>HN.out j (by omega)));have a7: ¬(k:Int) < 4:=by omega
     have Y:=Y1 (HG.out.upd I.out l.out.u.1 P)
     go_wp2_with fail
     refine (Zev g (w.heap.size+1) q s i y hs v (tkOf pre) (by rw[Z1D]; exact l.out.len) _ l.out.t Y.out).mono ?_;rintro e w3 h3;obtain ⟨C,F⟩:=l.out.step y z.out h3;have a3:=Y1 (HX.out.updB C (by omega) (by omega));have a1:=Y1 C;clear h3 C;rcases F with ⟨x,k2,rfl,ht,H⟩ | ⟨rfl,v',j,pre',d3,m⟩
     {have d6: (x==0)=false:=by simpa using H
      have d7: (x !=0)=true:=by simpa using H
      have A:=Y1 ht;clear ht H;obtain ⟨q0,x0,x1,y0,y1⟩:=a3.out;go_wp2;rw[Exit.noGoto_ret];refine bodyPost_ret (v:= .agg #[.int .i64 x,.int .i64 (k2:Int)]) (by simp[results,Tryz.results34,go_sem,x0,x1,q0]) rfl ?_;have E:Below g w w3:=(B.out.mono (Nat.le_of_lt f)).trans a1.out.1;refine ⟨(((E.setCell (p:=⟨w.heap.size,0,none⟩) (Nat.le_of_lt f) _).setCell (p:=⟨w.heap.size,1,none⟩) (Nat.le_of_lt f) _).alloc (by simp; omega) _), ?_⟩;rw[A.out]}
     {have d1:=Y1 m;have D:=Z01 w3 (.cells Yc 29);have t:Hid (Scan1 g (w.heap.size+1) s W0 (w3.alloc (.cells Yc 29)) j v' pre'):=Y1 ⟨m.t.keep D,m.u.trans (UpdB.of D (Nat.le_of_lt m.t.at_.lt) m.t.le),m.le,m.len,m.eq⟩;clear m D;go_wp2
      go_roundw
      case rel=>exact ⟨j,v',pre',t⟩
      case measure=>
       rw[J.out,t.out.t.at_.c1];simp;omega}}}
  {have G: ((i:Int)==(s.length:Int))=true:=by rw[beq_iff_eq]; have:=b.out.le; omega
   have Q:i=s.length:=by have:=b.out.le; omega
   have A:Hid (Lex.toks s 0= .ok pre):=Y1 (by rw[b.out.eq,List.drop_eq_nil_of_le (by omega),Lex.Z36]; simp[Lex.joinR]);have Z:=Y1 Q;have d4:=b.out.len;have b7:i<=s.length:=b.out.le;clear Q
   go_wp2_with fail
   refine (Z6e g s i _ b.out.t.at_).mono ?_;rintro e w2 ⟨rfl,U,rfl⟩;rw[G];have o:=Y1 (b.out.draw q U);generalize wr.drewN U=wr1 at o ⊢
   go_wp2_with fail
   refine (Z4Q g (w.heap.size+1) q s i v (tkOf pre) (by rw[Z1D]; omega) 0 [] 0 (by omega) _ o.out.t).mono ?_;rintro e w5 ⟨rfl,⟨v',L,a8⟩,T⟩;have K:=Y1 (o.out.u.trans (T.toB o.out.t));have a4:=Y1 (HX.out.updB K.out (by omega) (by omega));have t:=Y1 L;clear L a8 T;obtain ⟨q0,x0,x1,y0,y1⟩:=a4.out;go_wp2;rw[Exit.noGoto_ret];refine bodyPost_ret (v:= .agg #[.int .i64 0,.int .i64 0]) (by simp[results,Tryz.results34,go_sem,x0,x1]) rfl ?_;have E:Below g w w5:=(B.out.mono (Nat.le_of_lt f)).trans K.out.1;refine ⟨(E.setCell (p:=⟨w.heap.size,0,none⟩) (Nat.le_of_lt f) _).setCell (p:=⟨w.heap.size,1,none⟩) (Nat.le_of_lt f) _, ?_⟩;rw[A.out];have hn: ∀k,(⟨w.heap.size,k,none⟩:Addr)≠⟨g,2,none⟩:=fun k e=>by have:=congrArg Addr.block e; simp at this; omega
   refine ⟨rfl,v', ?_, ?_⟩
   {rw[World.cell?_setCell_other _ _ _ _ (hn 1),World.cell?_setCell_other _ _ _ _ (hn 0)]; exact t.out.c2}
   {have ho:=t.out.own;rw[List.length_append,Z1D] at ho;rw[Z2C];have e:tkOf [(Lex.endTok,s.length)]= [⟨⟨0,[]⟩,(i:Int)⟩]:=by rw[<-Z.out]; rfl
    rw[e];exact ownsRow_setCell_below (a:=⟨w.heap.size,1,none⟩) (ownsRow_setCell_below (a:=⟨w.heap.size,0,none⟩) ho (Nat.lt_succ_self _) _) (Nat.lt_succ_self _) _}}
end Go.Proofs.YtkncdbaoaeeoiaaGreatDoor
namespace Go.Proofs.YtkncdbaoaeeoiaaGreatDoor
section
open Go.RowKit
def ScanV (s:List UInt8) (w:World) (e:Ending) (w':World):Prop:= ∃(A:Option Addr) (cap:Nat) (l:List Tk) (a b:Int),e= .returned (.tuple #[.slice A l.length cap,.agg #[.int .i64 a,.int .i64 b]])/\
 w'.ownsRow w.heap.size 54 3 (.slice A l.length cap) l.length (cellsT l)/\Below w.heap.size w w'/\match Lex.scanR s with
 | .error (x,k)=>l= []/\a=x/\b=(k:Int)
 | .ok m=>l=tkOf m/\a=0/\b=0
theorem Z6h {s:List UInt8} (h:4096 < s.length):Lex.scanR s= .error (3,4096):=by unfold Lex.scanR; rw[if_pos h]
theorem Z6i {s:List UInt8} (h:s.length<=4096):Lex.scanR s=match Lex.toks s 0 with
 | .error x=> .error x
 | .ok l=> .ok (l++ [(Lex.endTok,s.length)]):=by unfold Lex.scanR; rw[if_neg (by omega)]; rfl
theorem ZbK (s:List UInt8) (a:4096 < s.length) (d:s.length<=9223372036854775807) (w:World):
 Calls Tryz.prog 20 #[.string ⟨s.toArray⟩] w (ScanV s w):=by
 have e: (⟨s.toArray⟩:ByteArray).size=s.length:=Z07 _;have c: (4096:Int) < (s.length:Int):=by omega
 have b:=Y1 (Z6h a);clear a;go_enter Tryz.func20,Tryz.ntmps20;go_wp2;refine bodyPost_ret (v:= .tuple #[.slice none 0 0,.agg #[.int .i64 3,.int .i64 4096]]) (by simp[results,Tryz.results20,go_sem]) rfl ?_;refine ⟨none,0,[],3,4096,rfl,World.ownsRow_nil _ _ _ _,Z01 _ _, ?_⟩;rw[b.out];exact ⟨rfl,rfl,rfl⟩
theorem ZeA (W:World) (s:List UInt8):ScanAt (W.alloc (.cells #[.string ⟨s.toArray⟩,.int .i64 0,.slice none 0 0] 76)) W.heap.size s 0:=
 ⟨by simp,by simp[go_sem],by simp[go_sem],by simp[go_sem],by simp[go_sem]⟩
theorem Zdm (W:World) (s:List UInt8): (W.alloc (.cells #[.string ⟨s.toArray⟩,.int .i64 0,.slice none 0 0] 76)).cell? ⟨W.heap.size,2,none⟩=some (.slice none 0 0):=by simp[go_sem]
theorem Z9X (s:List UInt8) (T:s.length<=4096) (w:World) (U:Globs w):
 Calls Tryz.prog 20 #[.string ⟨s.toArray⟩] w (ScanV s w):=by
 have hz: (⟨s.toArray⟩:ByteArray).size=s.length:=Z07 _;have h1: ¬(4096:Int) < (s.length:Int):=by omega
 have q:=Y1 (Z6i T);have hb0:=Z01 w (.cells Yc 29);have y:=Y1 (Z0L w 0 0);have F:=Y1 (U.next hb0);have t:=Y1 hb0;clear hb0 U;go_enter Tryz.func20,Tryz.ntmps20
 go_wp2_with fail
 have r:Hid ((w.alloc (.cells Yc 29)).heap.size=w.heap.size+1):=Y1 (by simp);generalize hW:w.alloc (.cells Yc 29)=W0 at y F t r ⊢;clear hW;have M:=ZeA W0 s;have K:=Zdm W0 s;rw[r.out] at M K;have D:=Y1 M;have E:=Y1 K;clear M K;have d:=Y1 (Z01 W0 (.cells #[.string ⟨s.toArray⟩,.int .i64 0,.slice none 0 0] 76))
 go_wp2_with fail
 generalize hW:W0.alloc (.cells #[.string ⟨s.toArray⟩,.int .i64 0,.slice none 0 0] 76)=W1 at D E d ⊢;clear hW;refine (Zdl (w.heap.size+1) s T W0 F.out W1 d.out (Nat.le_of_eq r.out) D.out E.out).mono ?_;rintro e X ⟨i,b⟩;have u:Hid (Below W0.heap.size W0 X):=Y1 (d.out.trans (i.mono (Nat.le_of_eq r.out)));have f:=Y1 (Z00 t.out u.out);have z:=Y1 (y.out.keep (B:=W0.heap.size) y.out.1 u.out);have I:=y.out.1;have J:=D.out.lt;have n:=i.size;have N:=r.out;have V:w.heap.size+1 < X.heap.size:=by omega
 clear i y F D E N J I n;cases C:Lex.toks s 0 with
 | error x=>
  obtain ⟨x,k⟩:=x;rw[C] at b q;simp only at b q;subst b;have o:x≠0:=by
   rcases (Lex.Z1d _ _ _ _ _ (Nat.le_refl _) C).2 with h | h <;> rw[h] <;> decide
  have a0: (x==0)=false:=by simpa using o
  have a1: (x !=0)=true:=by simpa using o
  obtain ⟨P,x0,x1,y0,y1⟩:=z.out;clear C o
  go_wp2_with fail
  go_region
  all_goals
   go_wp2;refine bodyPost_ret (v:= .tuple #[.slice none 0 0,.agg #[.int .i64 x,.int .i64 (k:Int)]]) (by simp[results,Tryz.results20,go_sem,x0,x1,P]) rfl ?_;refine ⟨none,0,[],x,(k:Int),rfl,World.ownsRow_nil _ _ _ _,(((f.out.setCell (p:=⟨w.heap.size,0,none⟩) (Nat.le_refl _) _).setCell (p:=⟨w.heap.size,1,none⟩) (Nat.le_refl _) _).alloc (by have:=f.out.size; simp; omega) _).drew, ?_⟩;rw[q.out];exact ⟨rfl,rfl,rfl⟩
 | ok m=>
  rw[C] at b q;simp only at b q;obtain ⟨rfl,Q,Z,g⟩:=b;have S:=Y1 g;obtain ⟨P,x0,x1,y0,y1⟩:=z.out;clear C g;obtain ⟨H,cap,l,_,L⟩:=S.out.form (Nat.succ_pos _);have c: (tkOf (m++ [(Lex.endTok,s.length)])).length=m.length+1:=by rw[Z1D,List.length_append]; rfl
  have A:=d.out.size;have O:=r.out;have G:Hid (∀W:World,(∃B,W.ownsRow B 54 3 Q (m.length+1) (cellsT (tkOf (m++ [(Lex.endTok,s.length)])))/\w.heap.size<=B)->W.ownsRow w.heap.size 54 3 (.slice (some ⟨H,0,none⟩) (tkOf (m++ [(Lex.endTok,s.length)])).length cap) (tkOf (m++ [(Lex.endTok,s.length)])).length (cellsT (tkOf (m++ [(Lex.endTok,s.length)])))):=Y1 (fun W ⟨B,h,hB⟩=>by rw[c, <-l]; exact Z2n h hB);have Y:Hid (Q= .slice (some ⟨H,0,none⟩) (tkOf (m++ [(Lex.endTok,s.length)])).length cap):=Y1 (by rw[c]; exact l);have j:Hid (w.heap.size < W1.heap.size+1):=Y1 (by omega);clear l c A O L;go_wp2;refine bodyPost_ret (v:= .tuple #[Q,.agg #[.int .i64 0,.int .i64 0]]) (by simp[results,Tryz.results20,go_sem,x0,x1,P]) rfl ?_;refine ⟨some ⟨H,0,none⟩,cap,tkOf (m++ [(Lex.endTok,s.length)]),0,0,by rw[Y.out],G.out _ ⟨W1.heap.size+1, ?_,Nat.le_of_lt j.out⟩,((f.out.setCell (p:=⟨w.heap.size,0,none⟩) (Nat.le_refl _) _).setCell (p:=⟨w.heap.size,1,none⟩) (Nat.le_refl _) _).alloc (by have:=f.out.size; simp; omega) _, ?_⟩
  {exact Z23 (ownsRow_setCell_below (a:=⟨w.heap.size,1,none⟩) (ownsRow_setCell_below (a:=⟨w.heap.size,0,none⟩) S.out j.out _) j.out _) (Z01 _ _)}
  {rw[q.out];exact ⟨rfl,rfl,rfl⟩}
theorem Z3w (s:List UInt8) (c:s.length<=9223372036854775807) (w:World) (b:Globs w):
 Calls Tryz.prog 20 #[.string ⟨s.toArray⟩] w (ScanV s w):=by
 by_cases a:s.length<=4096
 {exact Z9X s a w b}
 {exact ZbK s (by omega) c w}
end
end Go.Proofs.YtkncdbaoaeeoiaaGreatDoor
