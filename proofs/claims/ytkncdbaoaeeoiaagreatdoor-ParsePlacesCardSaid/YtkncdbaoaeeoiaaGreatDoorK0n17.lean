/- What the proofs of ParsePlaces want, part 17. -/
import Derived.Test.YtkncdbaoaeeoiaaGreatDoorK0n16
set_option linter.unusedVariables false
set_option linter.unusedSimpArgs false
set_option linter.unusedSectionVars false
set_option maxRecDepth 100000
set_option maxHeartbeats 16000000
namespace Lex
theorem Zdf {r p:List UInt8} {a:Nat} (h:unq r=(p++(unq (r.drop a)).1,a+(unq (r.drop a)).2.1,(unq (r.drop a)).2.2)) {b:Nat} {m:List UInt8}
 (h2:unq (r.drop a)=(m++(unq (r.drop (a+b))).1,(unq (r.drop (a+b))).2.1+b,(unq (r.drop (a+b))).2.2)):
 unq r=((p++m)++(unq (r.drop (a+b))).1,(a+b)+(unq (r.drop (a+b))).2.1,(unq (r.drop (a+b))).2.2):=by
 rw[h,h2];simp only[List.append_assoc];congr 2;omega
theorem Zet {r:List UInt8} {a:Nat} {c d:UInt8} {q:List UInt8} (h:r.drop a=c::d::q):r.drop (a+2)=q:=by
 rw[<-List.drop_drop,h]; rfl
end Lex
namespace Go.Proofs.YtkncdbaoaeeoiaaGreatDoor
open Go.RowKit
def unqV (r:List UInt8):Value:=if (Lex.unq r).2.2 then .tuple #[.string ⟨(Lex.unq r).1.toArray⟩,.int .i64 ((1+(Lex.unq r).2.1:Nat):Int),.bool true] else .tuple #[.string ⟨#[]⟩,.int .i64 ((1+(Lex.unq r).2.1:Nat):Int),.bool false]
theorem Z58 {r:List UInt8} {n:Nat} (h1: (Lex.unq r).2.1=n) (h2: (Lex.unq r).2.2=false):unqV r= .tuple #[.string ⟨#[]⟩,.int .i64 ((1+n:Nat):Int),.bool false]:=by
 unfold unqV; rw[if_neg (by rw[h2]; simp),h1]
theorem Zeu {r p:List UInt8} {n:Nat} (h0: (Lex.unq r).1=p) (h1: (Lex.unq r).2.1=n) (h2: (Lex.unq r).2.2=true):unqV r= .tuple #[.string ⟨p.toArray⟩,.int .i64 ((1+n:Nat):Int),.bool true]:=by
 unfold unqV; rw[if_pos h2,h1,h0]
theorem Z1K (p:List UInt8) (c:UInt8):Lib.byteCells (p++ [c])=Lib.byteCells p++ [.int .u8 (c.toNat:Int)]:=by simp[Lib.byteCells]
def Unq (r:List UInt8) (w wr:World) (v:Value) (a:Nat):Prop:= ∃p:List UInt8,Lex.unq r=(p++(Lex.unq (r.drop a)).1,a+(Lex.unq (r.drop a)).2.1,(Lex.unq (r.drop a)).2.2)/\p.length<=a/\wr.ownsRow w.heap.size 5 1 v p.length (Lib.byteCells p)/\Below w.heap.size w wr
theorem Z8G (r:List UInt8) (hr:r.length<=1000000) (w:World):
 Y9 120 #[.string ⟨(34::r).toArray⟩] w (unqV r):=by
 obtain ⟨i0,hi,hz0,hz1,hz2⟩:=info_parts (P:=Tryz.prog) (e:=5) (z:= .int .u8 0) (size:=1) (bytes:=1) (by kernel_rfl);obtain ⟨l,hl⟩: ∃l:List UInt8,l=34::r:=⟨_,rfl⟩;have hll:l.length=r.length+1:=by rw[hl]; rfl
 have HL:=Y1 hl;have HLL:=Y1 hll;have hz: (⟨l.toArray⟩:ByteArray).size=l.length:=Z07 _;have hl9:l.length<=1000001:=by omega
 rw[<-hl];clear hl hll;go_enter Tryz.func120,Tryz.ntmps120
 go_wp2_with fail
 go_loopw [5,6] (fun v ii wr=> ∃a:Nat,ii= .int .i64 ((1+a:Nat):Int)/\1+a<=l.length/\Hid (Unq r w wr v a))
  (fun _ ii _=>l.length - (intOf ii).toNat)
 case atStart=>exact ⟨0,rfl,by rw[HLL.out]; omega,Y1 ⟨[],by simp,Nat.le_refl _,World.ownsRow_nil _ _ _ _,Below.refl _ _⟩⟩
 case round=>
  obtain ⟨a,rfl,ha,HU⟩:=hrel;obtain ⟨p,hu,hpa,hown,hb⟩:=HU.out;have HUN:=Y1 hu;have HO:=Y1 hown;have HB:=Y1 hb;have hbw:=hb.size;have hcv:=Z39 hown;obtain ⟨n,hn⟩: ∃n,n=1+a:=⟨_,rfl⟩;rw[<-hn] at ha ⊢;have HN:=Y1 hn;clear hu hown hb HU hn;by_cases hlt:n < l.length
  {have hi1: (n:Int) < (l.length:Int):=by omega
   have har:a < r.length:=by have:=HN.out; have:=HLL.out; omega
   obtain ⟨c,hc⟩: ∃c,c=r[a]'har:=⟨_,rfl⟩;obtain ⟨q,hq⟩: ∃q,q=r.drop (a+1):=⟨_,rfl⟩;have hdr:r.drop a=c::q:=by rw[hc,hq]; exact List.drop_eq_getElem_cons har
   have hcl:l[n]'hlt=c:=by
    have e:=HN.out;have e2:=HL.out;subst e2;subst e;rw[hc,List.getElem_cons];simp[Nat.add_comm 1 a]
   have hidx: ∀W,(Instr.index 9 (.string ⟨l.toArray⟩) (.int .i64 (n:Int))).run Tryz.prog W= .ok (.int .u8 c.toNat) W:=fun W=>by
    rw[<-hcl]; exact Z0i ⟨l.toArray⟩ n (by omega) W
   have hdn:l.drop (n+1)=q:=by rw[HL.out,HN.out,hq,show 1+a+1=(a+1)+1 by omega,List.drop_succ_cons]
   have HDR:=Y1 hdr;have HQ:=Y1 hq;have HDN:=Y1 hdn;have k34: ((c.toNat:Int)==34)=(c==34):=Z0o c 34 (by decide);have k92: ((c.toNat:Int)==92)=(c==92):=Z0o c 92 (by decide);have HUC:=Y1 (Lex.Z14 c q);clear hc hq hdr hcl hdn;cases e34: (c==34)
   {rw[e34] at k34;have n34:c≠34:=by simpa using e34
    cases e92: (c==92)
    {rw[e92] at k92;have n92:c≠92:=by simpa using e92
     by_cases h32:c.toNat < 32
     {have k32: (c.toNat:Int) < 32:=by omega
      have hq0:Lex.unq (r.drop a)=([],0,false):=by rw[HDR.out,HUC.out,if_neg n34,if_neg n92,if_pos h32]
      have HV:Hid (unqV r= .tuple #[.string ⟨#[]⟩,.int .i64 (n:Int),.bool false]):=Y1 (by
       rw[Z58 (n:=a) (by rw[HUN.out,hq0]; rfl) (by rw[HUN.out,hq0]), <-HN.out])
      clear hq0 e34 e92 n34 n92;go_wp2
      go_ret3
      exact ⟨by rw[HV.out]; rfl,HB.out⟩}
     {have k32: ¬(c.toNat:Int) < 32:=by omega
      have hq0:Lex.unq (r.drop a)=([c]++(Lex.unq (r.drop (a+1))).1,(Lex.unq (r.drop (a+1))).2.1+1,(Lex.unq (r.drop (a+1))).2.2):=by rw[<-HQ.out,HDR.out,HUC.out,if_neg n34,if_neg n92,if_neg h32]; rfl
      have HV:=Y1 (Lex.Zdf HUN.out hq0);have hc0:=c.toNat_lt;clear hq0 e34 e92 n34 n92
      go_wp2_with (at_builtin; refine wpList_append_own _ rfl _ _ 137 rfl w.heap.size 5 i0 (.int .u8 0) 1 1 Tryz.underlying137 hi hz0 hz1 hz2 rfl (by decide) _ _ _ rfl (HO.out.alloc _) ⟨wr.heap.size,0,none⟩ 1 1 [.int .u8 (c.toNat:Int)] rfl rfl (World.news_of_block (heap_alloc_new wr _)) (by intro u hu; simp at hu; subst hu; rfl) (by unfold maxLen; omega) (by omega) (by simp; omega) ?_)
      intro v' w3 hown3 hgrow _;have hb3:=(HB.out.alloc hbw (.cells #[.int .u8 (c.toNat:Int)] 5)).grown hgrow (by simp; omega) (fun k hk=>(HO.out.lt k hk).1);have HU3:Hid (Unq r w w3 v' (a+1)):=Y1 ⟨p++ [c],HV.out,by rw[List.length_append]; simp; omega,by rw[Z1K,List.length_append]; exact hown3,hb3⟩;clear hown3 hgrow hb3;go_wp2
      go_roundw
      case rel=>exact ⟨a+1,by rw[HN.out]; go_num,by have:=HN.out; omega,HU3⟩
      case measure=>simp[intOf]; omega}}
    {rw[e92] at k92;have hsl: ∀W,(Instr.slice 9 (.string ⟨l.toArray⟩) (some (.int .i64 ((n:Int)+1))) none none).run Tryz.prog W= .ok (.string ⟨q.toArray⟩) W:=fun W=>by
      have:=Z0Z (W:=W) ⟨l.toArray⟩ (n+1) (by omega);rw[show (⟨l.toArray⟩:ByteArray).data.toList=l from rfl,HDN.out] at this;exact this
     have n92:c=92:=by simpa using e92
     cases q with
     | nil=>
      have hq0:Lex.unq (r.drop a)=([],0,false):=by rw[HDR.out,HUC.out,if_neg (by simpa using e34),if_pos n92]
      have HV:Hid (unqV r= .tuple #[.string ⟨#[]⟩,.int .i64 (n:Int),.bool false]):=Y1 (by
       rw[Z58 (n:=a) (by rw[HUN.out,hq0]; rfl) (by rw[HUN.out,hq0]), <-HN.out])
      have HE:Hid (unescV []= .tuple #[.int .u8 0,.bool false]):=Y1 rfl;clear hq0 e34 e92 n92
      go_wp2_with fail
      refine (Z2L [] _).mono ?_;rintro e w2 ⟨he,rfl⟩;rw[HE.out] at he;subst he;go_wp2
      go_ret3
      exact ⟨by rw[HV.out]; rfl,HB.out⟩
     | cons d q2=>
      have hd2:n+2<=l.length:=by
       have:=congrArg List.length HDN.out;rw[List.length_drop,List.length_cons] at this; omega
      cases hx:Lex.unesc d with
      | none=>
       have hq0:Lex.unq (r.drop a)=([],0,false):=by rw[HDR.out,HUC.out,if_neg (by simpa using e34),if_pos n92]; simp only; rw[hx]
       have HV:Hid (unqV r= .tuple #[.string ⟨#[]⟩,.int .i64 (n:Int),.bool false]):=Y1 (by
        rw[Z58 (n:=a) (by rw[HUN.out,hq0]; rfl) (by rw[HUN.out,hq0]), <-HN.out])
       have HE:Hid (unescV (d::q2)= .tuple #[.int .u8 0,.bool false]):=Y1 (by rw[Z5w,hx]);clear hq0 e34 e92 n92 hx
       go_wp2_with fail
       refine (Z2L (d::q2) _).mono ?_;rintro e w2 ⟨he,rfl⟩;rw[HE.out] at he;subst he;go_wp2
       go_ret3
       exact ⟨by rw[HV.out]; rfl,HB.out⟩
      | some x=>
       have hq0:Lex.unq (r.drop a)=([x]++(Lex.unq (r.drop (a+2))).1,(Lex.unq (r.drop (a+2))).2.1+2,(Lex.unq (r.drop (a+2))).2.2):=by
        rw[Lex.Zet HDR.out,HDR.out,HUC.out,if_neg (by simpa using e34),if_pos n92]; simp only; rw[hx]; rfl
       have HV:=Y1 (Lex.Zdf HUN.out hq0);have HE:Hid (unescV (d::q2)= .tuple #[.int .u8 (x.toNat:Int),.bool true]):=Y1 (by rw[Z5w,hx]);have hc0:=x.toNat_lt;clear hq0 e34 e92 n92 hx
       go_wp2_with fail
       refine (Z2L (d::q2) _).mono ?_;rintro e w2 ⟨he,rfl⟩;rw[HE.out] at he;subst he
       go_wp2_with (at_builtin; refine wpList_append_own _ rfl _ _ 137 rfl w.heap.size 5 i0 (.int .u8 0) 1 1 Tryz.underlying137 hi hz0 hz1 hz2 rfl (by decide) _ _ _ rfl (HO.out.alloc _) ⟨wr.heap.size,0,none⟩ 1 1 [.int .u8 (x.toNat:Int)] rfl rfl (World.news_of_block (heap_alloc_new wr _)) (by intro u hu; simp at hu; subst hu; rfl) (by unfold maxLen; omega) (by omega) (by simp; omega) ?_)
       intro v' w3 hown3 hgrow _;have hb3:=(HB.out.alloc hbw (.cells #[.int .u8 (x.toNat:Int)] 5)).grown hgrow (by simp; omega) (fun k hk=>(HO.out.lt k hk).1);have HU3:Hid (Unq r w w3 v' (a+2)):=Y1 ⟨p++ [x],HV.out,by rw[List.length_append]; simp; omega,by rw[Z1K,List.length_append]; exact hown3,hb3⟩;clear hown3 hgrow hb3;go_wp2
       go_roundw
       case rel=>exact ⟨a+2,by rw[HN.out]; go_num,by have:=HN.out; omega,HU3⟩
       case measure=>simp[intOf]; omega}}
   {rw[e34] at k34;have hq0:Lex.unq (r.drop a)=([],1,true):=by rw[HDR.out,HUC.out,if_pos (by simpa using e34)]
    have HV:Hid (unqV r= .tuple #[.string ⟨p.toArray⟩,.int .i64 ((n+1:Nat):Int),.bool true]):=Y1 (by
     rw[Zeu (p:=p) (n:=a+1) (by rw[HUN.out,hq0]; simp) (by rw[HUN.out,hq0]) (by rw[HUN.out,hq0]),HN.out]; rfl)
    clear hq0 e34 k92;go_wp2
    go_ret3
    exact ⟨by rw[HV.out]; rfl,HB.out⟩}}
  {have hi1: ¬(n:Int) < (l.length:Int):=by omega
   have hq0:Lex.unq (r.drop a)=([],0,false):=by
    rw[List.drop_eq_nil_of_le (by have:=HN.out; have:=HLL.out; omega)]; rfl
   have HV:Hid (unqV r= .tuple #[.string ⟨#[]⟩,.int .i64 (n:Int),.bool false]):=Y1 (by
    rw[Z58 (n:=a) (by rw[HUN.out,hq0]; rfl) (by rw[HUN.out,hq0]), <-HN.out])
   clear hq0;go_wp2
   go_ret3
   exact ⟨by rw[HV.out]; rfl,HB.out⟩}
end Go.Proofs.YtkncdbaoaeeoiaaGreatDoor
namespace Go.Proofs.YtkncdbaoaeeoiaaGreatDoor
section
open Go.RowKit
theorem Zdg (r:List UInt8):unqV r= .tuple #[.string ⟨(if (Lex.unq r).2.2 then (Lex.unq r).1 else []).toArray⟩,.int .i64 ((1+(Lex.unq r).2.1:Nat):Int),.bool (Lex.unq r).2.2]:=by
 unfold unqV;cases h: (Lex.unq r).2.2 <;> rfl
theorem Z9W (g B:Nat) (hgB:g < B) (s:List UInt8) (i:Nat) (hi:i < s.length) (hs:s.length<=4096) (h34:s[i]'hi=34) (v:Value) (l:List Tk) (hl:l.length<=i) (w:World) (h:ScanT w g B s i v l):
 Calls Tryz.prog 86 #[.pointer (some ⟨g,0,none⟩)] w (StepE g B s i v l (Lex.piece (s.drop i)) w):=by
 have hd:s.drop i=34::s.drop (i+1):=by rw[List.drop_eq_getElem_cons hi,h34]
 obtain ⟨r,hr⟩: ∃r,r=s.drop (i+1):=⟨_,rfl⟩;rw[<-hr] at hd;obtain ⟨ps,rest,hR,hQ⟩:=Lex.Zb3 r;have hP:Lex.piece (34::r)=match Lex.quoted (34::r) with | .error x=> .error x | .ok (t,n)=> .ok ([t],n):=rfl
 rw[hQ] at hP;have hrl:r.length+1+i=s.length:=by have:=congrArg List.length hd; rw[List.length_drop,List.length_cons] at this; omega
 obtain ⟨hu1,hu2⟩:=Lex.Z6v r.length r (Nat.le_refl _);have hV:=Zdg r;have HW:=Y1 (Z8G r (by omega));obtain ⟨K,hK⟩: ∃K,K=(Lex.unq r).2.2:=⟨_,rfl⟩;obtain ⟨n,hn⟩: ∃n,n=1+(Lex.unq r).2.1:=⟨_,rfl⟩;obtain ⟨T,hT⟩: ∃T,T=(Lex.unq r).1:=⟨_,rfl⟩;rw[<-hK, <-hn, <-hT] at hV;rw[<-hK, <-hn, <-hT] at hP;rw[<-hn] at hR;have hn1:n<=r.length+1:=by omega
 have HD:=Y1 (Z4P g s i n (Nat.le_of_lt hi) (by omega) (by omega) ps rest (by rw[hd]; exact hR));have HV:=Y1 hV;have HP:=Y1 hP;have HDR:=Y1 hd;have hb0:=Z01 w (.cells Yc 29);have HX:=Y1 (Z0L w 0 0);have HS:=Y1 (h.keep hb0);have HB0:=Y1 hb0;have hglt:=h.at_.lt;have hBw:=h.le;have hne:w.heap.size≠g:=by omega
 have HNV:Hid (some w.heap.size≠v.ownBlock):=Y1 (fun e=>by have:=(h.own.lt _ e.symm).2; omega);have HRS:=Y1 (Z6f g s i (Nat.le_of_lt hi));rw[hd] at HRS;rw[hd];clear hb0 h h34 hR hQ hP hV hK hn hT hu1 hu2 hd hr;go_enter Tryz.func86,Tryz.ntmps86
 go_wp2_with fail
 generalize hW:w.alloc (.cells Yc 29)=W0 at HX HB0 HS ⊢;clear hW
 go_wp2_with fail
 refine (HRS.out _ HS.out.at_).mono ?_;rintro e w2 ⟨rfl,nq,rfl⟩
 go_wp2_with fail
 refine (HW.out _).mono ?_;rintro e w3 ⟨he,hb3⟩;rw[HV.out] at he;subst he;have hb3':Below W0.heap.size W0 w3:=(Z0g W0 nq).trans (hb3.mono (Nat.le_refl _));have HS3:=Y1 (HS.out.keep hb3');have HX3:=Y1 (HX.out.keep (B:=W0.heap.size) HX.out.1 hb3');have HB3:=Y1 (Z00 HB0.out hb3');clear hb3 hb3' HS HX HB0 HW HRS;obtain ⟨T2,hT2⟩: ∃T2:List UInt8,T2=if K then T else []:=⟨_,rfl⟩;rw[<-hT2];have HT2:=Y1 hT2;clear hT2
 go_wp2_with fail
 refine (HD.out _ HS3.out.at_).mono ?_;rintro e w4 ⟨he,hb4⟩;have HS4:=Y1 (HS3.out.keep hb4);have HX4:=Y1 (HX3.out.keep (B:=w3.heap.size) HX3.out.1 hb4);have HB4:=Y1 (Z00 HB3.out hb4);clear hb4 HS3 HX3 HB3 HD;by_cases hrest:rest= []
 {have hfv:faultV ps rest i= .agg #[.int .i64 0,.int .i64 0]:=by unfold faultV; rw[if_pos hrest]
  rw[hfv] at he;subst he;have hbn:=Z01 w4 (.cells Yc 29);have HSn:=Y1 (HS4.out.keep hbn);have HXn:=Y1 (HX4.out.keep (B:=w4.heap.size) HX4.out.1 hbn);have HBn:=Y1 (Z00 HB4.out hbn);clear hfv hbn HX4 HS4;cases K with
  | false=>
   have HR:Hid (Lex.piece (34::r)= .error (60,0)):=Y1 (by rw[HP.out,if_neg (by rw[hrest]; simp)]; rfl);clear hrest HP
   go_wp2_with fail
   refine (Z4O g s i _ HSn.out.at_).mono ?_;rintro e w5 ⟨rfl,hb5⟩;have HX5:=Y1 (HXn.out.keep (B:=(w4.alloc (.cells Yc 29)).heap.size) HXn.out.1 hb5);have HB5:=Y1 (Z00 HBn.out hb5);clear hb5;obtain ⟨q0,x0,x1,y0,y1⟩:=HX5.out;go_wp2;refine bodyPost_ret (v:= .agg #[.int .i64 60,.int .i64 (i:Int)]) (by simp[results,Tryz.results86,go_sem,x0,x1]) rfl ?_;refine ⟨Z1C (UpdT.of HB5.out (by omega)) _ (by omega) (by omega) _ _, ?_⟩;rw[HR.out];simp
  | true=>
   have HR:Hid (Lex.piece (34::r)= .ok ([⟨4,T⟩],n)):=Y1 (by rw[HP.out,if_neg (by rw[hrest]; simp)]; rfl);obtain rfl:T2=T:=by rw[HT2.out]; rfl
   clear hrest HP
   go_wp2_with fail
   refine (Z4Q g B hgB s i v l (by omega) 4 T2 n (by omega) _ HSn.out).mono ?_;rintro e w5 ⟨rfl,⟨v',hS5,hv5⟩,hu5⟩;have HV5:Hid (v'.ownBlock≠some w.heap.size):=Y1 (fun e=>by
    rcases hv5 _ e with h | h
    {exact HNV.out h.symm}
    · have:=HXn.out.1; omega)
   have HVV:Hid (∀x,v'.ownBlock=some x->v.ownBlock=some x\/w.heap.size<=x):=Y1 (fun x hx=>by
    rcases hv5 x hx with h | h
    {exact Or.inl h}
    · right; have:=HBn.out.size; omega)
   have HX5:=Y1 (HXn.out.updT hu5 hne HNV.out);have HU5:=Y1 ((UpdT.of HBn.out (by omega)).trans hu5);have HS5:=Y1 hS5;clear hS5 hu5 hv5;obtain ⟨q0,x0,x1,y0,y1⟩:=HX5.out;go_wp2;refine bodyPost_ret (v:= .agg #[.int .i64 0,.int .i64 0]) (by simp[results,Tryz.results86,go_sem,x0,x1]) rfl ?_;refine ⟨Z1C HU5.out _ (by omega) (by omega) _ _, ?_⟩;rw[HR.out];exact ⟨rfl,v',(HS5.out.box _ (Ne.symm hne) HV5.out _ _).box _ (Ne.symm hne) HV5.out _ _,HVV.out⟩}
 {have hfv:faultV ps rest i= .agg #[.int .i64 30,.int .i64 ((i+(Utf.enc ps).length:Nat):Int)]:=by unfold faultV; rw[if_neg hrest]
  rw[hfv] at he;subst he;have HR:Hid (Lex.piece (34::r)= .error (30,(Utf.enc ps).length)):=Y1 (by rw[HP.out,if_pos hrest]);obtain ⟨m,hm⟩: ∃m,m=i+(Utf.enc ps).length:=⟨_,rfl⟩;rw[<-hm];have HMM:=Y1 hm;clear hrest hfv HP hm;obtain ⟨q0,x0,x1,y0,y1⟩:=HX4.out;go_wp2;refine bodyPost_ret (v:= .agg #[.int .i64 30,.int .i64 (m:Int)]) (by simp[results,Tryz.results86,go_sem,x0,x1,q0]) rfl ?_;have hwb:=HB4.out.size;refine ⟨(Z1C (UpdT.of HB4.out (by omega)) _ (by omega) (by omega) _ _).trans (UpdT.of (Z01 _ _) (by simp; omega)), ?_⟩;rw[HR.out];show _=Ending.returned (.agg #[.int .i64 30,.int .i64 ((i+(Utf.enc ps).length:Nat):Int)]);rw[<-HMM.out]}
end
end Go.Proofs.YtkncdbaoaeeoiaaGreatDoor
namespace Lex
theorem Z6F (l:List UInt8): (l.take 2== [45,45])=hasRemark l:=by
 match l with
 | []=>rfl
 | [x]=>simp[hasRemark]
 | x::y::q=>
  rw[Z4j];show ([x,y]== [45,45])=_;simp
end Lex
namespace Go.Proofs.YtkncdbaoaeeoiaaGreatDoor
open Go.RowKit
section
variable {g B : Nat} {s : List UInt8} {i : Nat} {v : Value} {l : List Tk} {r : Except (Int × Nat) (List Lex.Tok × Nat)}
include g B s i v l r
theorem StepE.form {w:World} {e:Ending} {w':World} (h:StepE g B s i v l r w e w'): ∃a b:Int,e= .returned (.agg #[.int .i64 a,.int .i64 b]):=by
 obtain ⟨_,h⟩:=h
 match r,h with
 | .error (x,k),h=>exact ⟨_,_,h⟩
 | .ok (ts,n),h=>exact ⟨_,_,h.1⟩
theorem StepE.lift {w W0:World} {e:Ending} {w':World} (h:StepE g B s i v l r W0 e w') (hb:Below w.heap.size w W0) (hlt:w.heap.size < W0.heap.size)
 (hg:g < w.heap.size) (hv:v.ownBlock≠some w.heap.size) (a b:Value):StepE g B s i v l r w e ((w'.setCell ⟨w.heap.size,0,none⟩ a).setCell ⟨w.heap.size,1,none⟩ b):=by
 obtain ⟨hu,h⟩:=h;refine ⟨Z1C ((UpdT.of hb (Nat.le_of_lt hg)).trans hu) _ (Nat.le_refl _) (Nat.le_of_lt hg) _ _, ?_⟩
 match r,h with
 | .error (x,k),h=>exact h
 | .ok (ts,n),h=>
  obtain ⟨he,v',hS,hv'⟩:=h;have hne:v'.ownBlock≠some w.heap.size:=fun e=>by
   rcases hv' _ e with h | h
   {exact hv h}
   {omega}
  exact ⟨he,v',(hS.box _ (by omega) hne _ _).box _ (by omega) hne _ _,fun x hx=>by
   rcases hv' x hx with h | h
   {exact Or.inl h}
   · right; omega⟩
end
theorem Zev (g B:Nat) (hgB:g < B) (s:List UInt8) (i:Nat) (hi:i < s.length) (hs:s.length<=4096) (v:Value) (l:List Tk) (hl:l.length<=i) (w:World) (h:ScanT w g B s i v l) (hg:Globs w):
 Calls Tryz.prog 61 #[.pointer (some ⟨g,0,none⟩)] w (StepE g B s i v l (Lex.piece (s.drop i)) w):=by
 have hb0:=Z01 w (.cells Yc 29);have HX:=Y1 (Z0L w 0 0);have HS:=Y1 (h.keep hb0);have HG:=Y1 (hg.next hb0);have HB0:=Y1 hb0;have hglt:=h.at_.lt;have hBw:=h.le;have hne:w.heap.size≠g:=by omega
 have HNV:Hid (v.ownBlock≠some w.heap.size):=Y1 (fun e=>by have:=(h.own.lt _ e).2; omega);have HF:=Y1 (Z3u g s i hi);have HRM:=Y1 (Lex.Z6F (s.drop i));have HNX:=Y1 (Z1J g s i 2 (Nat.le_of_lt hi) (by omega) (by decide));obtain ⟨p2,hp2⟩: ∃p2,p2=(s.drop i).take 2:=⟨_,rfl⟩;rw[<-hp2] at HRM HNX;clear hb0 h hg hp2;cases hr:Lex.hasRemark (s.drop i) with
 | true=>
  have hq: (p2== [45,45])=true:=by rw[HRM.out]; exact hr
  have HW:=Y1 (Z9V g B hgB s i hi hs hr v l);clear hr;go_enter Tryz.func61,Tryz.ntmps61
  go_wp2_with fail
  generalize hW:w.alloc (.cells Yc 29)=W0 at HX HB0 HS HG ⊢;clear hW
  go_wp2_with fail
  refine (HNX.out _ HS.out.at_).mono ?_;rintro e w2 ⟨rfl,n1,rfl⟩;have HS2:=Y1 (HS.out.keep (Z0g W0 n1));have HB2:=Y1 (Z00 HB0.out (Z0g W0 n1));have hlt2:Hid (w.heap.size < (W0.drewN n1).heap.size):=Y1 HX.out.1;have HX2:Hid (Box2 (W0.drewN n1) w.heap.size 0 0):=HX
  go_wp2_with fail
  refine (HW.out _ HS2.out).mono ?_;rintro e w3 h3;have HX3:=Y1 (HX2.out.updT h3.1 hne (fun e=>HNV.out e.symm));have HL3:=Y1 (fun a b=>h3.lift HB2.out hlt2.out hglt HNV.out a b);obtain ⟨a,b,rfl⟩:=h3.form;obtain ⟨q0,x0,x1,y0,y1⟩:=HX3.out;clear h3;go_wp2;refine bodyPost_ret (v:= .agg #[.int .i64 a,.int .i64 b]) (by simp[results,Tryz.results61,go_sem,x0,x1]) rfl ?_;exact HL3.out _ _
 | false=>
  have hq: (p2== [45,45])=false:=by rw[HRM.out]; exact hr
  obtain ⟨c,hc⟩: ∃c,c=s[i]'hi:=⟨_,rfl⟩;rw[<-hc] at HF;have k34: ((c.toNat:Int)==34)=(c==34):=Z0o c 34 (by decide);cases e34: (c==34) with
  | true=>
   rw[e34] at k34;have HW:=Y1 (Z9W g B hgB s i hi hs (by rw[<-hc]; simpa using e34) v l hl);clear hr e34 hc;go_enter Tryz.func61,Tryz.ntmps61
   go_wp2_with fail
   generalize hW:w.alloc (.cells Yc 29)=W0 at HX HB0 HS HG ⊢;clear hW
   go_wp2_with fail
   refine (HNX.out _ HS.out.at_).mono ?_;rintro e w2 ⟨rfl,n1,rfl⟩
   go_wp2_with fail
   refine (HF.out _ (HS.out.at_.draw _)).mono ?_;rintro e w2 ⟨rfl,n2,rfl⟩;have HS2:=Y1 (HS.out.keep (Z0g W0 (n1+n2)));have HB2:=Y1 (Z00 HB0.out (Z0g W0 (n1+n2)));have hlt2:Hid (w.heap.size < (W0.drewN (n1+n2)).heap.size):=Y1 HX.out.1;have HX2:Hid (Box2 (W0.drewN (n1+n2)) w.heap.size 0 0):=HX
   go_wp2_with fail
   refine (HW.out _ HS2.out).mono ?_;rintro e w3 h3;have HX3:=Y1 (HX2.out.updT h3.1 hne (fun e=>HNV.out e.symm));have HL3:=Y1 (fun a b=>h3.lift HB2.out hlt2.out hglt HNV.out a b);obtain ⟨a,b,rfl⟩:=h3.form;obtain ⟨q0,x0,x1,y0,y1⟩:=HX3.out;clear h3;go_wp2;refine bodyPost_ret (v:= .agg #[.int .i64 a,.int .i64 b]) (by simp[results,Tryz.results61,go_sem,x0,x1]) rfl ?_;exact HL3.out _ _
  | false=>
   rw[e34] at k34;have HW:=Y1 (ZbH g B hgB s i hi hs (by rw[<-hc]; simpa using e34) hr v l hl);clear hr e34 hc;go_enter Tryz.func61,Tryz.ntmps61
   go_wp2_with fail
   generalize hW:w.alloc (.cells Yc 29)=W0 at HX HB0 HS HG ⊢;clear hW
   go_wp2_with fail
   refine (HNX.out _ HS.out.at_).mono ?_;rintro e w2 ⟨rfl,n1,rfl⟩
   go_wp2_with fail
   refine (HF.out _ (HS.out.at_.draw _)).mono ?_;rintro e w2 ⟨rfl,n2,rfl⟩;have HS2:=Y1 (HS.out.keep (Z0g W0 (n1+n2)));have HG2:=Y1 (HG.out.next (Z0g W0 (n1+n2)));have HB2:=Y1 (Z00 HB0.out (Z0g W0 (n1+n2)));have hlt2:Hid (w.heap.size < (W0.drewN (n1+n2)).heap.size):=Y1 HX.out.1;have HX2:Hid (Box2 (W0.drewN (n1+n2)) w.heap.size 0 0):=HX
   go_wp2_with fail
   refine (HW.out _ HS2.out HG2.out).mono ?_;rintro e w3 h3;have HX3:=Y1 (HX2.out.updT h3.1 hne (fun e=>HNV.out e.symm));have HL3:=Y1 (fun a b=>h3.lift HB2.out hlt2.out hglt HNV.out a b);obtain ⟨a,b,rfl⟩:=h3.form;obtain ⟨q0,x0,x1,y0,y1⟩:=HX3.out;clear h3;go_wp2;refine bodyPost_ret (v:= .agg #[.int .i64 a,.int .i64 b]) (by simp[results,Tryz.results61,go_sem,x0,x1]) rfl ?_;exact HL3.out _ _
end Go.Proofs.YtkncdbaoaeeoiaaGreatDoor
namespace Lex
section
def endTok:Tok:=⟨0,[]⟩
theorem Z4S: ∀(k:Nat) (a:List UInt8) (i:Nat) (t:Tok) (j:Nat) (l:List (Tok×Nat)),a.length<=k->toks a i= .ok ((t,j)::l)-> ∃n,i<=j/\token (a.drop (j - i))= .ok (t,n)/\j - i+n<=a.length/\ ∀c∈(a.drop (j - i)).head?,blank c=false
 | _,[],i,t,j,l,_,h=>by cases Except.ok.inj h
 | 0,c::r,_,_,_,_,h,_=>by simp at h
 | k+1,c::r,i,t,j,l,hk,h=>by
  rw[List.length_cons] at hk;by_cases hb:blank c=true
  {rw[Z0l hb] at h;obtain ⟨n,h1,h2,h3,h4⟩:=Z4S k r (i+1) t j l (by omega) h;have e:j - i=(j - (i+1))+1:=by omega
   refine ⟨n,by omega, ?_, ?_, ?_⟩
   {rw[e,List.drop_succ_cons]; exact h2}
   {rw[List.length_cons]; omega}
   {rw[e,List.drop_succ_cons]; exact h4}}
  {have hbf:blank c=false:=by simpa using hb
   have hh1: ∀x∈(c::r).head?,blank x=false:=fun x hx=>by
    obtain rfl:c=x:=by simpa using hx
    exact hbf
   cases hr:hasRemark (c::r) with
   | true=>
    rw[Z0y hh1 hr] at h;cases hm:remark (c::r).length (c::r) with
    | error j=>rw[hm] at h; cases h
    | ok m=>
     rw[hm] at h;have h1:=Z0Q hr (f:=r.length) hm;have h2:=Z1m _ _ _ hm;obtain ⟨n,g1,g2,g3,g4⟩:=Z4S k _ (i+m) t j l (by rw[List.length_drop,List.length_cons]; omega) h;rw[List.drop_drop,show m+(j - (i+m))=j - i by omega] at g2 g4;rw[List.length_drop] at g3;exact ⟨n,by omega,g2,by omega,g4⟩
   | false=>
    rw[Z0G (by simp) hh1 hr] at h;cases ht:token (c::r) with
    | error x=>rw[ht] at h; cases h
    | ok x=>
     obtain ⟨t',n⟩:=x;rw[ht] at h;simp only at h;obtain ⟨h1,h2,_⟩:=Z0I ht;cases hq:toks ((c::r).drop n) (i+n) with
     | error e=>rw[hq] at h; cases h
     | ok m=>
      rw[hq] at h;obtain ⟨he,rfl⟩:=List.cons.inj (Except.ok.inj h);obtain ⟨rfl,rfl⟩:=Prod.mk.inj he;exact ⟨n,Nat.le_refl _,by rw[Nat.sub_self]; exact ht,by rw[Nat.sub_self]; omega,by rw[Nat.sub_self]; exact hh1⟩}
section
variable {t : Tok} (h : good t)
include t h
theorem Z4T:1<=t.kind/\t.kind<=7:=by
 obtain ⟨c,r,_,_,_,ht⟩:=h;exact (Z0I ht).2.2.2
theorem Zdh:toks (written t) 0= .ok [(t,0)]:=by
 obtain ⟨c,r,hw,hl,hb,ht⟩:=h;rw[hw,Z0G (by simp) (fun x hx=>by
  obtain rfl:c=x:=by simpa using hx
  exact hb) (Z4z ht),ht]
 simp only[List.drop_length,Z36];rfl
theorem Zdi:scanR (written t)= .ok [(t,0),(endTok,(written t).length)]:=by
 have h1:=Zdh h;obtain ⟨c,r,hw,hl,hb,ht⟩:=h;unfold scanR;rw[if_neg (by rw[hw]; omega),h1]; rfl
end
theorem Zex:scanR (written endTok)= .ok [(endTok,0)]:=rfl
theorem Z8H {t:Tok} {x:Tok×Nat} {m:List (Tok×Nat)} (h:scanR (written t)= .ok (x::m)) (hx:x.1=t):t=endTok\/good t:=by
 unfold scanR at h;by_cases hl:4096 < (written t).length
 {rw[if_pos hl] at h; cases h}
 {rw[if_neg hl] at h;cases hq:toks (written t) 0 with
  | error e=>rw[hq] at h; cases h
  | ok l=>
   rw[hq] at h;have h:=Except.ok.inj h;cases l with
   | nil=>
    obtain ⟨rfl,_⟩:=List.cons.inj h;exact Or.inl hx.symm
   | cons y l=>
    rw[List.cons_append] at h;obtain ⟨rfl,_⟩:=List.cons.inj h;obtain ⟨t',j⟩:=y;simp only at hx;subst hx;obtain ⟨n,h1,h2,h3,h4⟩:=Z4S _ _ _ _ _ _ (Nat.le_refl _) hq;rw[Nat.sub_zero] at h2 h3 h4;obtain ⟨_,h5⟩:=Z42 h2;have h6:=congrArg List.length h5;rw[List.length_take,List.length_drop] at h6;obtain ⟨p1,p2,_⟩:=Z0I h2;have hj:j=0:=by omega
    subst hj;rw[List.drop_zero] at h2 h4 p2;refine Or.inr ?_;unfold good;cases hw:written t' with
    | nil=>rw[hw] at p2; simp at p2; omega
    | cons c r=>
     rw[hw] at h2 h4 hl h3 h6;refine ⟨c,r,rfl,by omega,h4 c (by simp), ?_⟩;rw[h2];have:n=(c::r).length:=by omega
     rw[this]}
def kept (l:List Tok):List Tok:=l.filter (fun t=>decide (t≠endTok))
theorem Zdj (l:List Tok) (t:Tok):kept (l++ [t])=if t=endTok then kept l else kept l++ [t]:=by
 unfold kept;rw[List.filter_append];by_cases h:t=endTok
 {rw[if_pos h]; simp[h]}
 {rw[if_neg h]; simp[h]}
def shown (l:List Tok):List UInt8:=join ((kept l).map written)
def mayShow (l:List Tok):Prop:= ∀t∈l,t=endTok\/good t
theorem Z7e: ∀(a:List (List UInt8)) (p:List UInt8),join (a++ [p])=if a= [] then p else join a++32::p
 | [],p=>rfl
 | [q],p=>rfl
 | q::r::a,p=>by
  rw[if_neg (by simp)];show q++32::join ((r::a)++ [p])=(q++32::join (r::a))++32::p;rw[Z7e (r::a) p,if_neg (by simp)];simp
theorem Zfz: ∀(a:List (List UInt8)),a≠ []->(∀p∈a,p≠ [])->join a≠ []
 | [],h,_=>absurd rfl h
 | [q],_,h=>h q (by simp)
 | q::r::a,_,h=>by
  show q++32::join (r::a)≠ [];simp
theorem ZbJ (l:List Tok) (t:Tok):shown (l++ [t])=if t=endTok then shown l else if kept l= [] then written t else shown l++32::written t:=by
 unfold shown;rw[Zdj];split
 {rfl}
 {rw[List.map_append,List.map_cons,List.map_nil,Z7e];simp}
theorem Z4U {l:List Tok} (h:mayShow l):shown l= [] ↔ kept l= []:=by
 constructor
 {intro h1;by_cases h2:kept l= []
  {exact h2}
  {exfalso;refine Zfz _ (by simpa using h2) (fun p hp=> ?_) h1;obtain ⟨t,ht,rfl⟩:=List.mem_map.1 hp;obtain ⟨h3,h4⟩:=List.mem_filter.1 ht;rcases h t h3 with rfl | hg
   {simp at h4}
   {obtain ⟨c,r,hw,_⟩:=hg;rw[hw]; simp}}}
 {intro h1; unfold shown; rw[h1]; rfl}
theorem Z5x {t:Tok} (h:t=endTok\/good t): (written t).length<=4096:=by
 rcases h with rfl | ⟨c,r,hw,hl,_⟩
 {decide}
 {rw[hw]; exact hl}
theorem join_len: ∀(a:List (List UInt8)),(∀p∈a,p.length<=4096)->(join a).length<=4097 * a.length
 | [],_=>Nat.zero_le _
 | [q],h=>by have:=h q (by simp); simp only[join,List.length_cons,List.length_nil]; omega
 | q::r::a,h=>by
  have h1:=h q (by simp);have h2:=join_len (r::a) (fun p hp=>h p (List.mem_cons_of_mem _ hp));show (q++32::join (r::a)).length<=_;rw[List.length_append,List.length_cons,List.length_cons (a:=q)];omega
theorem Zdk (l:List Tok) (h:mayShow l): (shown l).length<=4097 * l.length:=by
 have h1:=join_len ((kept l).map written) (fun p hp=>by
  obtain ⟨t,ht,rfl⟩:=List.mem_map.1 hp;exact Z5x (h t (List.mem_filter.1 ht).1))
 have h2: (kept l).length<=l.length:=List.length_filter_le _ _;rw[List.length_map] at h1;unfold shown;exact Nat.le_trans h1 (Nat.mul_le_mul_left _ h2)
end
end Lex
namespace Lex
def bl (j:Nat):UInt8:= [9,10,13,32].getD j 0
theorem Zey (c:UInt8) (h: ∀j,j < 4->c≠bl j):blank c=false:=by
 have h0:=h 0 (by decide);have h1:=h 1 (by decide);have h2:=h 2 (by decide);have h3:=h 3 (by decide);have e0:bl 0=9:=rfl;have e1:bl 1=10:=rfl;have e2:bl 2=13:=rfl;have e3:bl 3=32:=rfl;rw[e0] at h0; rw[e1] at h1; rw[e2] at h2; rw[e3] at h3;unfold blank;simp[h0,h1,h2,h3]
theorem Zez (j:Nat) (h:j < 4):blank (bl j)=true:=by
 have:j=0\/j=1\/j=2\/j=3:=by omega
 rcases this with rfl | rfl | rfl | rfl <;> rfl
end Lex
namespace Go.Proofs.YtkncdbaoaeeoiaaGreatDoor
open Go.RowKit
theorem UpdB.refl (g B:Nat) (w:World):UpdB g B w w:=⟨Below.refl _ _,fun _ _ _ _=>⟨rfl,rfl⟩⟩
theorem UpdB.of {g B:Nat} {w w':World} (h:Below w.heap.size w w') (hg:g<=w.heap.size) (hB:B<=w.heap.size):UpdB g B w w':=
 ⟨h.mono hg,fun b o hb _=>⟨h.cell (p:=⟨b,o,none⟩) (Nat.lt_of_lt_of_le hb hB),h.frozen (p:=⟨b,o,none⟩) (Nat.lt_of_lt_of_le hb hB)⟩⟩
theorem UpdB.trans {g B:Nat} {a b c:World} (h:UpdB g B a b) (k:UpdB g B b c):UpdB g B a c:=
 ⟨h.1.trans k.1,fun x o hx hne=>⟨(k.2 x o hx hne).1.trans (h.2 x o hx hne).1,(k.2 x o hx hne).2.trans (h.2 x o hx hne).2⟩⟩
theorem UpdB.move {g B:Nat} {w w':World} (h:UpdB g B w w') (a:Value) (j:Nat):UpdB g B w (w'.setCell ⟨g,j,none⟩ a):=
 ⟨h.1.setCell (p:=⟨g,j,none⟩) (Nat.le_refl _) _,fun x o hx hne=>by
  refine ⟨?_, ?_⟩
  {rw[World.cell?_setCell_other _ _ _ _ (fun e=>hne (congrArg Addr.block e).symm)]; exact (h.2 x o hx hne).1}
  · have:=(h.2 x o hx hne).2
    simpa[go_sem] using this⟩
theorem Box2.updB {W W':World} {g B gr:Nat} {a b:Int} (h:Box2 W gr a b) (hu:UpdB g B W W') (hg:gr≠g) (hB:gr < B):Box2 W' gr a b:=by
 obtain ⟨h0,h1,h2,h3,h4⟩:=h;have k:=fun o=>hu.2 gr o hB hg;exact ⟨Nat.lt_of_lt_of_le h0 hu.1.size,(k 0).1.trans h1,(k 1).1.trans h2,(k 0).2.trans h3,(k 1).2.trans h4⟩
def tkOf (l:List (Lex.Tok×Nat)):List Tk:=l.map fun x=>⟨x.1,(x.2:Int)⟩
theorem Z1D (l:List (Lex.Tok×Nat)): (tkOf l).length=l.length:=by simp[tkOf]
theorem Z2C (a b:List (Lex.Tok×Nat)):tkOf (a++b)=tkOf a++tkOf b:=by simp[tkOf]
theorem ZfA (ts:List Lex.Tok) (i:Nat):tkOf (ts.map fun t=>(t,i))=ts.map fun t=>⟨t,(i:Int)⟩:=by simp[tkOf]
structure Scan1 (g B:Nat) (s:List UInt8) (W0 wr:World) (i:Nat) (v:Value) (pre:List (Lex.Tok×Nat)):Prop where
 t:ScanT wr g B s i v (tkOf pre)
 u:UpdB g B W0 wr
 le:i<=s.length
 len:pre.length<=i
 eq:Lex.toks s 0=Lex.joinR pre (Lex.toks (s.drop i) i)
def ScanE (g:Nat) (s:List UInt8) (w:World) (e:Ending) (w':World):Prop:=Below g w w'/\match Lex.toks s 0 with
 | .error (x,k)=>e= .returned (.agg #[.int .i64 x,.int .i64 (k:Int)])
 | .ok m=>e= .returned (.agg #[.int .i64 0,.int .i64 0])/\ ∃v',w'.cell? ⟨g,2,none⟩=some v'/\w'.ownsRow (w.heap.size+1) 54 3 v' (m.length+1) (cellsT (tkOf (m++ [(Lex.endTok,s.length)])))
theorem Zgx (a b:UInt8): ((a.toNat:Int)==(b.toNat:Int))=(a==b):=by
 rw[Bool.eq_iff_iff,beq_iff_eq,beq_iff_eq];exact ⟨fun h=>UInt8.toNat_inj.1 (by omega),fun h=>by rw[h]⟩
theorem Scan1.blank {g B:Nat} {s:List UInt8} {W0 wr:World} {i:Nat} {v:Value} {pre:List (Lex.Tok×Nat)} (h:Scan1 g B s W0 wr i v pre) (hgB:g < B) (hi:i < s.length) (hb:Lex.blank (s[i]'hi)=true):
 Scan1 g B s W0 (wr.setCell ⟨g,1,none⟩ (.int .i64 ((i+1:Nat):Int))) (i+1) v pre:=
 ⟨h.t.move hgB (i+1),h.u.move _ 1,hi,by have:=h.len; omega,by rw[h.eq,List.drop_eq_getElem_cons hi,Lex.Z0l hb]⟩
section
variable {g B : Nat} {s : List UInt8} {W0 wr : World} {i : Nat} {v : Value} {pre : List (Lex.Tok × Nat)} (h : Scan1 g B s W0 wr i v pre)
include g B s W0 wr i v pre h
theorem Scan1.draw (hgB:g < B) (n:Nat):Scan1 g B s W0 (wr.drewN n) i v pre:=
 ⟨h.t.keep (Z0g wr n),h.u.trans (UpdB.of (Z0g wr n) (Nat.le_of_lt h.t.at_.lt) h.t.le),h.le,h.len,h.eq⟩
theorem Scan1.step (hi:i < s.length) (hb:Lex.blank (s[i]'hi)=false) {e:Ending} {w':World} (hs:StepE g B s i v (tkOf pre) (Lex.piece (s.drop i)) wr e w'):
 UpdB g B W0 w'/\((∃x k,e= .returned (.agg #[.int .i64 x,.int .i64 ((k:Nat):Int)])/\Lex.toks s 0= .error (x,k)/\x≠0)\/(e= .returned (.agg #[.int .i64 0,.int .i64 0])/\ ∃v' j pre',i < j/\Scan1 g B s W0 w' j v' pre')):=by
 obtain ⟨hu,hm⟩:=hs;have hU:=h.u.trans (hu.toB h.t);refine ⟨hU, ?_⟩;have hp:=Lex.Z4d (l:=s.drop i) (by intro e; have:=congrArg List.length e; rw[List.length_drop] at this; simp at this; omega) (fun c hc=>by
  obtain rfl:s[i]'hi=c:=by simpa[List.getElem?_eq_getElem hi] using hc
  exact hb) i
 have he:=h.eq;cases hq:Lex.piece (s.drop i) with
 | error x=>
  obtain ⟨x,k⟩:=x;rw[hq] at hm hp;simp only at hm hp;refine Or.inl ⟨x,i+k,hm,by rw[he,hp]; rfl, ?_⟩;have ht:Lex.toks s 0= .error (x,i+k):=by rw[he,hp]; rfl
  have:=(Lex.Z1d _ _ _ _ _ (Nat.le_refl _) ht).2;rcases this with h | h <;> rw[h] <;> decide
 | ok x=>
  obtain ⟨ts,n⟩:=x;rw[hq] at hm hp;simp only at hm hp;obtain ⟨h1,h2,h3,h4⟩:=hp;obtain ⟨hm1,v',hm2,_⟩:=hm;rw[List.length_drop] at h3;refine Or.inr ⟨hm1,v',i+n,pre++ts.map (fun t=>(t,i)),by omega,⟨by rw[Z2C,ZfA]; exact hm2,hU,by omega,by rw[List.length_append,List.length_map]; have:=h.len; omega, ?_⟩⟩;rw[he,h1,Lex.Z5v,List.drop_drop]
end
theorem Globs.upd {w0 w w':World} {g:Nat} (h:Globs w0) (hb:Below w0.heap.size w0 w) (hu:Below g w w') (hg:w0.heap.size<=g):Globs w':=h.next (hb.trans (hu.mono hg))
theorem Zdl (g:Nat) (s:List UInt8) (hs:s.length<=4096) (w0:World) (hg:Globs w0) (w:World) (hb0:Below w0.heap.size w0 w) (hg0:w0.heap.size<=g) (h:ScanAt w g s 0) (hc2:w.cell? ⟨g,2,none⟩=some (.slice none 0 0)):
 Calls Tryz.prog 34 #[.pointer (some ⟨g,0,none⟩)] w (ScanE g s w):=by
 have hb1:=Z01 w (.cells Yc 29);have HX:=Y1 (Z0L w 0 0);have HG:=Y1 hg;have HB0:=Y1 (hb0.trans (hb1.mono (Nat.le_trans hg0 (Nat.le_of_lt h.lt))));have hglt:=h.lt;have hgB:g < w.heap.size+1:=by omega
 have HW1:=Y1 hb1;have HS:Hid (Scan1 g (w.heap.size+1) s (w.alloc (.cells Yc 29)) (w.alloc (.cells Yc 29)) 0 (.slice none 0 0) []):=Y1
  ⟨⟨h.keep h.lt hb1,(hb1.cell (p:=⟨g,2,none⟩) h.lt).trans hc2,World.ownsRow_nil _ _ _ _,by simp⟩,UpdB.refl _ _ _,Nat.zero_le _,Nat.le_refl _,by rw[Lex.Z4R]; rfl⟩
 clear hb0 hb1 h hc2 hg;go_enter Tryz.func34,Tryz.ntmps34
 go_wp2_with fail
 generalize hW:w.alloc (.cells Yc 29)=W0 at HX HB0 HS HW1 ⊢;clear hW
 go_step3
 go_wp2_with fail
 go_step3
 go_wp2_with fail
 go_loopw [4] (fun _ wr=> ∃(i:Nat) (v:Value) (pre:List (Lex.Tok×Nat)),Hid (Scan1 g (w.heap.size+1) s W0 wr i v pre))
  (fun _ wr=>s.length - (match wr.cell? ⟨g,1,none⟩ with | some (.int _ n)=>n.toNat | _=>0))
 case atStart=>exact ⟨0,_,_,HS⟩
 case round=>
  obtain ⟨i,v,pre,HSi⟩:=hrel;have hci:=HSi.out.t.at_.c1;have HCI:=Y1 hci;clear hci;by_cases hi:i < s.length
  {have hid: ((i:Int)==(s.length:Int))=false:=by rw[beq_eq_false_iff_ne]; omega
   have HF:=Y1 (Z3u g s i hi);obtain ⟨c,hc⟩: ∃c,c=s[i]'hi:=⟨_,rfl⟩;rw[<-hc] at HF;have HC:=Y1 hc;clear hc
   go_wp2_with fail
   refine (Z6e g s i _ HSi.out.t.at_).mono ?_;rintro e w2 ⟨rfl,n1,rfl⟩;rw[hid];have HS1:=Y1 (HSi.out.draw hgB n1);generalize wr.drewN n1=wr1 at HS1 ⊢
   go_wp2_with fail
   go_loopw [10] (fun kk wx=> ∃k:Nat,kk= .int .i64 k/\k<=4/\Hid (∀j,j < k->c≠Lex.bl j)/\Hid (Scan1 g (w.heap.size+1) s W0 wx i v pre))
    (fun kk _=>4 - (intOf kk).toNat)
   case atStart=>exact ⟨0,rfl,by omega,Y1 (fun j hj=>absurd hj (by omega)),HS1⟩
   case round=>
    obtain ⟨k,rfl,hk,HN,HS2⟩:=hrel;clear HS1;by_cases hk4:k < 4
    {have hk1: (k:Int) < 4:=by omega
     obtain ⟨d,hd⟩: ∃d,d=Lex.bl k:=⟨_,rfl⟩;have hidx: ∀W,(Instr.index 9 (.string ⟨#[9,10,13,32]⟩) (.int .i64 (k:Int))).run Tryz.prog W= .ok (.int .u8 d.toNat) W:=fun W=>by
      have:=Z0i ⟨#[9,10,13,32]⟩ k hk4 W;rw[this,hd];have:k=0\/k=1\/k=2\/k=3:=by omega
      rcases this with rfl | rfl | rfl | rfl <;> rfl
     have kd:=Zgx c d;have HD:=Y1 hd;clear hd;cases hcd: (c==d)
     {rw[hcd] at kd;have HN2:Hid (∀j,j < k+1->c≠Lex.bl j):=Y1 (fun j hj=>by
       rcases Nat.lt_succ_iff_lt_or_eq.1 hj with h' | rfl
       {exact HN.out j h'}
       · rw[<-HD.out]; simpa using hcd)
      clear hcd
      go_wp2_with fail
      go_quiet ((go_at_call 60; exact Calls.quiet_of (HF.out _ (HS2.out.t.at_.draw _))))
      go_wp2
      go_roundw
      case rel=>exact ⟨k+1,by go_num,by omega,HN2,Y1 (HS2.out.draw hgB _)⟩
      case measure=>simp[intOf]; omega}
     {rw[hcd] at kd;have hbl:Lex.blank (s[i]'hi)=true:=by
       rw[<-HC.out,beq_iff_eq.1 hcd,HD.out]; exact Lex.Zez k hk4
      have HBL:=Y1 hbl;obtain ⟨q1,q2,q3,q4,q5⟩:=HS2.out.t.at_;clear hcd hbl
      go_wp2_with fail
      go_quiet ((go_at_call 60; exact Calls.quiet_of (HF.out _ (HS2.out.t.at_.draw _))))
      go_wp2
      go_roundw
      case rel=>exact ⟨i+1,v,pre,Y1 ((HS2.out.draw hgB _).blank hgB hi HBL.out)⟩
      case measure=>
       rw[HCI.out];simp[go_sem,q3];exact Nat.sub_lt_sub_left hi (Nat.lt_succ_self i)}}
    {have HBL:Hid (Lex.blank (s[i]'hi)=false):=Y1 (by rw[<-HC.out]; exact Lex.Zey c (fun j hj=>HN.out j (by omega)));have hk1: ¬(k:Int) < 4:=by omega
     have HGW:=Y1 (HG.out.upd HB0.out HS2.out.u.1 hg0)
     go_wp2_with fail
     refine (Zev g (w.heap.size+1) hgB s i hi hs v (tkOf pre) (by rw[Z1D]; exact HS2.out.len) _ HS2.out.t HGW.out).mono ?_;rintro e w3 h3;obtain ⟨hU3,hcase⟩:=HS2.out.step hi HBL.out h3;have HX3:=Y1 (HX.out.updB hU3 (by omega) (by omega));have HU3:=Y1 hU3;clear h3 hU3;rcases hcase with ⟨x,k2,rfl,ht,hx0⟩ | ⟨rfl,v',j,pre',hij,hS3⟩
     {have hxd: (x==0)=false:=by simpa using hx0
      have hxn: (x !=0)=true:=by simpa using hx0
      have HTE:=Y1 ht;clear ht hx0;obtain ⟨q0,x0,x1,y0,y1⟩:=HX3.out;go_wp2;rw[Exit.noGoto_ret];refine bodyPost_ret (v:= .agg #[.int .i64 x,.int .i64 (k2:Int)]) (by simp[results,Tryz.results34,go_sem,x0,x1,q0]) rfl ?_;have hbw:Below g w w3:=(HW1.out.mono (Nat.le_of_lt hglt)).trans HU3.out.1;refine ⟨(((hbw.setCell (p:=⟨w.heap.size,0,none⟩) (Nat.le_of_lt hglt) _).setCell (p:=⟨w.heap.size,1,none⟩) (Nat.le_of_lt hglt) _).alloc (by simp; omega) _), ?_⟩;rw[HTE.out]}
     {have HS4:=Y1 hS3;have hb4:=Z01 w3 (.cells Yc 29);have HS5:Hid (Scan1 g (w.heap.size+1) s W0 (w3.alloc (.cells Yc 29)) j v' pre'):=Y1 ⟨hS3.t.keep hb4,hS3.u.trans (UpdB.of hb4 (Nat.le_of_lt hS3.t.at_.lt) hS3.t.le),hS3.le,hS3.len,hS3.eq⟩;clear hS3 hb4;go_wp2
      go_roundw
      case rel=>exact ⟨j,v',pre',HS5⟩
      case measure=>
       rw[HCI.out,HS5.out.t.at_.c1];simp;omega}}}
  {have hid: ((i:Int)==(s.length:Int))=true:=by rw[beq_iff_eq]; have:=HSi.out.le; omega
   have hil:i=s.length:=by have:=HSi.out.le; omega
   have HTE:Hid (Lex.toks s 0= .ok pre):=Y1 (by rw[HSi.out.eq,List.drop_eq_nil_of_le (by omega),Lex.Z36]; simp[Lex.joinR]);have HIL:=Y1 hil;have hpl:=HSi.out.len;have hil2:i<=s.length:=HSi.out.le;clear hil
   go_wp2_with fail
   refine (Z6e g s i _ HSi.out.t.at_).mono ?_;rintro e w2 ⟨rfl,n1,rfl⟩;rw[hid];have HS1:=Y1 (HSi.out.draw hgB n1);generalize wr.drewN n1=wr1 at HS1 ⊢
   go_wp2_with fail
   refine (Z4Q g (w.heap.size+1) hgB s i v (tkOf pre) (by rw[Z1D]; omega) 0 [] 0 (by omega) _ HS1.out.t).mono ?_;rintro e w5 ⟨rfl,⟨v',hS5,hv5⟩,hu5⟩;have HU5:=Y1 (HS1.out.u.trans (hu5.toB HS1.out.t));have HX5:=Y1 (HX.out.updB HU5.out (by omega) (by omega));have HS5:=Y1 hS5;clear hS5 hv5 hu5;obtain ⟨q0,x0,x1,y0,y1⟩:=HX5.out;go_wp2;rw[Exit.noGoto_ret];refine bodyPost_ret (v:= .agg #[.int .i64 0,.int .i64 0]) (by simp[results,Tryz.results34,go_sem,x0,x1]) rfl ?_;have hbw:Below g w w5:=(HW1.out.mono (Nat.le_of_lt hglt)).trans HU5.out.1;refine ⟨(hbw.setCell (p:=⟨w.heap.size,0,none⟩) (Nat.le_of_lt hglt) _).setCell (p:=⟨w.heap.size,1,none⟩) (Nat.le_of_lt hglt) _, ?_⟩;rw[HTE.out];have hn: ∀k,(⟨w.heap.size,k,none⟩:Addr)≠⟨g,2,none⟩:=fun k e=>by have:=congrArg Addr.block e; simp at this; omega
   refine ⟨rfl,v', ?_, ?_⟩
   {rw[World.cell?_setCell_other _ _ _ _ (hn 1),World.cell?_setCell_other _ _ _ _ (hn 0)]; exact HS5.out.c2}
   {have ho:=HS5.out.own;rw[List.length_append,Z1D] at ho;rw[Z2C];have e:tkOf [(Lex.endTok,s.length)]= [⟨⟨0,[]⟩,(i:Int)⟩]:=by rw[<-HIL.out]; rfl
    rw[e];exact ownsRow_setCell_below (a:=⟨w.heap.size,1,none⟩) (ownsRow_setCell_below (a:=⟨w.heap.size,0,none⟩) ho (Nat.lt_succ_self _) _) (Nat.lt_succ_self _) _}}
end Go.Proofs.YtkncdbaoaeeoiaaGreatDoor
namespace Go.Proofs.YtkncdbaoaeeoiaaGreatDoor
section
open Go.RowKit
def ScanV (s:List UInt8) (w:World) (e:Ending) (w':World):Prop:= ∃(A:Option Addr) (cap:Nat) (l:List Tk) (a b:Int),e= .returned (.tuple #[.slice A l.length cap,.agg #[.int .i64 a,.int .i64 b]])/\
 w'.ownsRow w.heap.size 54 3 (.slice A l.length cap) l.length (cellsT l)/\Below w.heap.size w w'/\match Lex.scanR s with
 | .error (x,k)=>l= []/\a=x/\b=(k:Int)
 | .ok m=>l=tkOf m/\a=0/\b=0
theorem Z6h {s:List UInt8} (h:4096 < s.length):Lex.scanR s= .error (3,4096):=by unfold Lex.scanR; rw[if_pos h]
theorem Z6i {s:List UInt8} (h:s.length<=4096):Lex.scanR s=match Lex.toks s 0 with
 | .error x=> .error x
 | .ok l=> .ok (l++ [(Lex.endTok,s.length)]):=by unfold Lex.scanR; rw[if_neg (by omega)]; rfl
theorem ZbK (s:List UInt8) (h4:4096 < s.length) (hs:s.length<=9223372036854775807) (w:World):
 Calls Tryz.prog 20 #[.string ⟨s.toArray⟩] w (ScanV s w):=by
 have hz: (⟨s.toArray⟩:ByteArray).size=s.length:=Z07 _;have h1: (4096:Int) < (s.length:Int):=by omega
 have HR:=Y1 (Z6h h4);clear h4;go_enter Tryz.func20,Tryz.ntmps20;go_wp2;refine bodyPost_ret (v:= .tuple #[.slice none 0 0,.agg #[.int .i64 3,.int .i64 4096]]) (by simp[results,Tryz.results20,go_sem]) rfl ?_;refine ⟨none,0,[],3,4096,rfl,World.ownsRow_nil _ _ _ _,Z01 _ _, ?_⟩;rw[HR.out];exact ⟨rfl,rfl,rfl⟩
theorem ZeA (W:World) (s:List UInt8):ScanAt (W.alloc (.cells #[.string ⟨s.toArray⟩,.int .i64 0,.slice none 0 0] 76)) W.heap.size s 0:=
 ⟨by simp,by simp[go_sem],by simp[go_sem],by simp[go_sem],by simp[go_sem]⟩
theorem Zdm (W:World) (s:List UInt8): (W.alloc (.cells #[.string ⟨s.toArray⟩,.int .i64 0,.slice none 0 0] 76)).cell? ⟨W.heap.size,2,none⟩=some (.slice none 0 0):=by simp[go_sem]
theorem Z9X (s:List UInt8) (h4:s.length<=4096) (w:World) (hg:Globs w):
 Calls Tryz.prog 20 #[.string ⟨s.toArray⟩] w (ScanV s w):=by
 have hz: (⟨s.toArray⟩:ByteArray).size=s.length:=Z07 _;have h1: ¬(4096:Int) < (s.length:Int):=by omega
 have HR:=Y1 (Z6i h4);have hb0:=Z01 w (.cells Yc 29);have HX:=Y1 (Z0L w 0 0);have HG:=Y1 (hg.next hb0);have HB0:=Y1 hb0;clear hb0 hg;go_enter Tryz.func20,Tryz.ntmps20
 go_wp2_with fail
 have HZ:Hid ((w.alloc (.cells Yc 29)).heap.size=w.heap.size+1):=Y1 (by simp);generalize hW:w.alloc (.cells Yc 29)=W0 at HX HG HB0 HZ ⊢;clear hW;have hn:=ZeA W0 s;have hc:=Zdm W0 s;rw[HZ.out] at hn hc;have HN:=Y1 hn;have HC:=Y1 hc;clear hn hc;have HB1:=Y1 (Z01 W0 (.cells #[.string ⟨s.toArray⟩,.int .i64 0,.slice none 0 0] 76))
 go_wp2_with fail
 generalize hW:W0.alloc (.cells #[.string ⟨s.toArray⟩,.int .i64 0,.slice none 0 0] 76)=W1 at HN HC HB1 ⊢;clear hW;refine (Zdl (w.heap.size+1) s h4 W0 HG.out W1 HB1.out (Nat.le_of_eq HZ.out) HN.out HC.out).mono ?_;rintro e w3 ⟨hb3,hcase⟩;have HB3:Hid (Below W0.heap.size W0 w3):=Y1 (HB1.out.trans (hb3.mono (Nat.le_of_eq HZ.out)));have HBW:=Y1 (Z00 HB0.out HB3.out);have HX3:=Y1 (HX.out.keep (B:=W0.heap.size) HX.out.1 HB3.out);have hW0:=HX.out.1;have hW1:=HN.out.lt;have hw1w3:=hb3.size;have hz0:=HZ.out;have hlt1:w.heap.size+1 < w3.heap.size:=by omega
 clear hb3 HX HG HN HC hz0 hW1 hW0 hw1w3;cases ht:Lex.toks s 0 with
 | error x=>
  obtain ⟨x,k⟩:=x;rw[ht] at hcase HR;simp only at hcase HR;subst hcase;have hx0:x≠0:=by
   rcases (Lex.Z1d _ _ _ _ _ (Nat.le_refl _) ht).2 with h | h <;> rw[h] <;> decide
  have hxd: (x==0)=false:=by simpa using hx0
  have hxn: (x !=0)=true:=by simpa using hx0
  obtain ⟨q0,x0,x1,y0,y1⟩:=HX3.out;clear ht hx0
  go_wp2_with fail
  go_region
  all_goals
   go_wp2;refine bodyPost_ret (v:= .tuple #[.slice none 0 0,.agg #[.int .i64 x,.int .i64 (k:Int)]]) (by simp[results,Tryz.results20,go_sem,x0,x1,q0]) rfl ?_;refine ⟨none,0,[],x,(k:Int),rfl,World.ownsRow_nil _ _ _ _,(((HBW.out.setCell (p:=⟨w.heap.size,0,none⟩) (Nat.le_refl _) _).setCell (p:=⟨w.heap.size,1,none⟩) (Nat.le_refl _) _).alloc (by have:=HBW.out.size; simp; omega) _).drew, ?_⟩;rw[HR.out];exact ⟨rfl,rfl,rfl⟩
 | ok m=>
  rw[ht] at hcase HR;simp only at hcase HR;obtain ⟨rfl,v',hc2,hown⟩:=hcase;have HO:=Y1 hown;obtain ⟨q0,x0,x1,y0,y1⟩:=HX3.out;clear ht hown;obtain ⟨g1,cap,hv',_,hg1⟩:=HO.out.form (Nat.succ_pos _);have hlen: (tkOf (m++ [(Lex.endTok,s.length)])).length=m.length+1:=by rw[Z1D,List.length_append]; rfl
  have hb1w:=HB1.out.size;have hzz:=HZ.out;have HO2:Hid (∀W:World,(∃B,W.ownsRow B 54 3 v' (m.length+1) (cellsT (tkOf (m++ [(Lex.endTok,s.length)])))/\w.heap.size<=B)->W.ownsRow w.heap.size 54 3 (.slice (some ⟨g1,0,none⟩) (tkOf (m++ [(Lex.endTok,s.length)])).length cap) (tkOf (m++ [(Lex.endTok,s.length)])).length (cellsT (tkOf (m++ [(Lex.endTok,s.length)])))):=Y1 (fun W ⟨B,h,hB⟩=>by rw[hlen, <-hv']; exact Z2n h hB);have HV:Hid (v'= .slice (some ⟨g1,0,none⟩) (tkOf (m++ [(Lex.endTok,s.length)])).length cap):=Y1 (by rw[hlen]; exact hv');have hbb:Hid (w.heap.size < W1.heap.size+1):=Y1 (by omega);clear hv' hlen hb1w hzz hg1;go_wp2;refine bodyPost_ret (v:= .tuple #[v',.agg #[.int .i64 0,.int .i64 0]]) (by simp[results,Tryz.results20,go_sem,x0,x1,q0]) rfl ?_;refine ⟨some ⟨g1,0,none⟩,cap,tkOf (m++ [(Lex.endTok,s.length)]),0,0,by rw[HV.out],HO2.out _ ⟨W1.heap.size+1, ?_,Nat.le_of_lt hbb.out⟩,((HBW.out.setCell (p:=⟨w.heap.size,0,none⟩) (Nat.le_refl _) _).setCell (p:=⟨w.heap.size,1,none⟩) (Nat.le_refl _) _).alloc (by have:=HBW.out.size; simp; omega) _, ?_⟩
  {exact Z23 (ownsRow_setCell_below (a:=⟨w.heap.size,1,none⟩) (ownsRow_setCell_below (a:=⟨w.heap.size,0,none⟩) HO.out hbb.out _) hbb.out _) (Z01 _ _)}
  {rw[HR.out];exact ⟨rfl,rfl,rfl⟩}
theorem Z3w (s:List UInt8) (hs:s.length<=9223372036854775807) (w:World) (hg:Globs w):
 Calls Tryz.prog 20 #[.string ⟨s.toArray⟩] w (ScanV s w):=by
 by_cases h4:s.length<=4096
 {exact Z9X s h4 w hg}
 {exact ZbK s (by omega) hs w}
end
end Go.Proofs.YtkncdbaoaeeoiaaGreatDoor
