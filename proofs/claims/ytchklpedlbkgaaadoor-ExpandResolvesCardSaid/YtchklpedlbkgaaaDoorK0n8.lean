/- What the proofs of ExpandResolves want, part 8. -/
import Derived.WalkSmall
import Derived.MakeChecks
import Derived.Test.YtchklpedlbkgaaaDoorK0n7
set_option linter.unusedVariables false
set_option linter.unusedSimpArgs false
set_option linter.unusedSectionVars false
set_option maxRecDepth 100000
set_option maxHeartbeats 16000000
namespace Go.Proofs.YtchklpedlbkgaaaDoor
section
open Go.RowKit Shp Go.Sort
theorem Box5.same {W W':World} {g:Nat} {t:Sh} {q:Ptr} (h:Box5 W g t q) (hs:Z0p W W' g) (hz:W.heap.size<=W'.heap.size):Box5 W' g t q:=by
 obtain ⟨h0,h1,f0,f1,f2,f3,f4⟩:=h;exact ⟨Nat.lt_of_lt_of_le h0 hz,h1.of hs.1,(hs.2 _).trans f0,(hs.2 _).trans f1,(hs.2 _).trans f2,(hs.2 _).trans f3,(hs.2 _).trans f4⟩
theorem Swi.box {w wi:World} {t:Sh} {q:Ptr} {qs:Nat->Ptr} {Fs Fs':Nat->List Nat} {i g:Nat} (h:Swi w wi t.parts qs Fs Fs' i) (hb:Box5 w g t q) (hg:g∉(List.range t.parts.length).flatMap Fs):Box5 wi g t q:=
 hb.same (h.up.same hb.1 hg) h.up.size
theorem Z4C (t:Sh): ∀(q:Ptr) (F:List Nat) (w:World),Own w q t F->F.Nodup->right t=true->size t<=400->
 Calls Tryd.prog 36 #[.agg (Y8 t q)] w
  fun e w'=>e= .returned (.tuple #[])/\UpF F w w'/\ ∃F',F'.Perm F/\Own w' q (sorted t) F':=by
 induction t using Sh.ind with
 | h t ih=>
 intro q F w hO hnd hr hz;have hb0:=Z00 w (.cells (Y8 t q) 25);have HB:=Y1 (Z06 w t q);have HM:=Y1 hO.small;have hlt:=hO.lt;obtain ⟨FN,FP,qs,Fs,hn,hp,hrr,rfl⟩:=(Z0A hO hb0).inv;obtain ⟨n1,n2,n3,n4,n5⟩:=Z2u hnd;have hg:w.heap.size∉(List.range t.parts.length).flatMap Fs:=fun hm=>by
  have:=hlt w.heap.size (List.mem_append_right _ hm);omega
 have HG:=Y1 hg;have HS0:=Y1 (Swi.start hrr Y2);have HN:=Y1 hn;have HP:=Y1 hp;have HND:=Y1 hnd;have HD:=Y1 n5;have HN4:=Y1 n4;have HN3:=Y1 n3;have HR:=Y1 hr;have HZ:Hid (size t=1+sizes t.parts):=Y1 (size_eq t);have HB0:=Y1 hb0;have hlen:=Z0F t.parts;have hpl:t.parts.length<=400:=by have:=HZ.out; omega
 clear hb0 hO hlt hn hp hrr hnd n1 n2 n3 n4 n5 hr hg hlen;go_enter Tryd.func36,Tryd.ntmps36
 go_wp2_with fail
 generalize w.alloc (.cells (Y8 t q) 25)=W0 at HB HS0 HN HP HB0 ⊢
 go_loopw [7] (fun ii wr=> ∃i:Nat,ii= .int .i64 i/\i<=t.parts.length/\Hid (∃Fs',Swi W0 wr t.parts qs Fs Fs' i)) (fun i _=>t.parts.length - (intOf i).toNat)
 case atStart=>exact ⟨0,rfl,Nat.zero_le _,Y1 ⟨_,HS0.out⟩⟩
 case round=>
  obtain ⟨i,rfl,hi,HSW⟩:=hrel;by_cases hlt:i < t.parts.length
  {obtain ⟨Fs',hsw⟩:=HSW.out;rcases HP.out with ⟨h0,_⟩ | ⟨bp,hqP,hFP,hPa⟩
   {omega}
   {obtain ⟨x,hx⟩: ∃x,x=t.parts[i]:=⟨_,rfl⟩;have hxr:right x=true:=by rw[hx]; exact Z04 HR.out (List.getElem_mem _)
    have hxz:size x<=400:=by
     have:=Z15 (List.getElem_mem hlt);have:=HZ.out;rw[hx]; omega
    have hinP:bp∉(List.range t.parts.length).flatMap Fs:=fun hb2=>by
     obtain ⟨j,hj,hb2⟩:=List.mem_flatMap.1 hb2;exact HN3.out bp (by rw[hFP]; simp) j (List.mem_range.1 hj) hb2
    obtain ⟨p0,p1,p2,p3,p4⟩:=(hPa.at_ i hlt).of (hsw.up.same hPa.lt hinP).1;have hbx:=Z00 wr (.cells (Y8 x (qs i)) 25);have hsw2:=hsw.below hbx;have hox:=hsw2.hi i hlt (Nat.le_refl _);rw[<-hx] at p0 p1 p2 p3 p4 hox;have IH:=Y1 (ih t.parts[i] (List.getElem_mem _) (qs i) (Fs' i) (wr.alloc (.cells (Y8 x (qs i)) 25)) (by rw[<-hx]; exact hox) (((hsw.pm i hlt).nodup_iff).2 (HN4.out i hlt)) (by rw[<-hx]; exact hxr) (by rw[<-hx]; exact hxz));rw[<-hx] at IH;have HX:=Y1 hx;have HSW2:=Y1 hsw2;clear hx hsw hsw2 hox hbx hinP hPa hFP hxr hxz ih HSW;have hi1: (i:Int) < (t.parts.length:Int):=by omega
    rw[hqP];clear hqP
    go_wp2_with fail
    refine IH.out.mono ?_;rintro e w2 ⟨rfl,hu,F',hF',ho'⟩;have HS3:Hid (∃Fs2,Swi W0 w2 t.parts qs Fs Fs2 (i+1)):=Y1 (HSW2.out.step hlt HD.out hu hF' (by rw[<-HX.out]; exact ho'));clear hu hF' ho' IH HSW2;go_wp2
    go_roundw
    case rel=>exact ⟨i+1,by go_num,by omega,HS3⟩
    case measure=>simp[intOf]; omega}}
  {obtain ⟨Fs',hsw⟩:=HSW.out;have hie:i=t.parts.length:=by omega
   subst hie;have hi1: ¬(t.parts.length:Int) < (t.parts.length:Int):=by omega
   obtain ⟨_,⟨b0,b1,b2,b3,b4⟩,_⟩:=hsw.box HB.out HG.out;have HSW3:=Y1 hsw;clear hsw HSW hlt
   go_wp2_with fail
   by_cases h0:t.names.length=0
   {refine (Z6Y t q wr h0).mono ?_;rintro e w2 ⟨rfl,hb2⟩;obtain ⟨r1,r2⟩:=Z9K HR.out HM.out h0 HN.out HP.out HND.out HSW3.out hb2;have HR1:=Y1 (((UpF.refl _ w).below HB0.out).next r1 (fun x hx=>hx));have HR2:=Y1 r2;clear r1 r2 hb2 HSW3;go_wp2
    go_end0
    exact ⟨rfl,HR1.out,HR2.out⟩}
   {obtain ⟨bn,bp,hA,hP,hl,hT,hPa,hne,hall⟩:=Z9M HR.out HM.out h0 HN.out HP.out HND.out HSW3.out;have hw:=Z8d (half t) q qs Fs' bn bp wr hA hP hl (by
     have: (half t).parts.length=t.parts.length:=by simp[half]
     omega) hT hPa hne
    have hkk: (half t).parts.length=t.parts.length:=by simp[half]
    have e1: (half t).kind=t.kind:=rfl;have e2: (half t).of_=t.of_:=rfl;have e3: (half t).name=t.name:=rfl;have e4: (half t).names.length=t.names.length:=rfl;rw[hkk,e1,e2,e3,e4] at hw;refine hw.mono ?_;rintro e w2 ⟨rfl,d',hpm,hso,hf⟩;obtain ⟨r1,r2⟩:=hall d' w2 hpm hso hf;have HR1:=Y1 (((UpF.refl _ w).below HB0.out).next r1 (fun x hx=>hx));have HR2:=Y1 r2;clear r1 r2 hpm hso hf hw hall HSW3 hA hP hl hT hPa hne hkk e1 e2 e3 e4;go_wp2
    go_end0
    exact ⟨rfl,HR1.out,HR2.out⟩}}
end
section
open Go.RowKit
def wordsC:Array Value:=#[.string ⟨#[]⟩,.string ⟨#[73,110,116]⟩,.string ⟨#[66,111,111,108]⟩,.string ⟨#[84,101,120,116]⟩,.string ⟨#[65,110,121]⟩]
theorem Z4a:Tryd.prog.globalNamed "pandect/shape.words" =some 0:=by kernel_rfl
def WGlobs (w:World):Prop:=w.var? Tryd.prog "pandect/shape.words" =some wordsC
theorem WGlobs.cell {w:World} (h:WGlobs w) (i:Nat):w.cell? ⟨0,i,none⟩=wordsC[i]? :=World.var?_cell Z4a h i
theorem WGlobs.lt {w:World} (h:WGlobs w):0 < w.heap.size:=Z1x ((WGlobs.cell h 0).trans (by rfl:wordsC[0]? =some (.string ⟨#[]⟩)))
theorem WGlobs.next {w w':World} (h:WGlobs w) (hb:Below w.heap.size w w'):WGlobs w':=var?_below hb Z4a (WGlobs.lt h) h
theorem Z3f {P:Program} {w:World}: ∀ {l:List (String×DataW Unit)} {ps:List MemPlace},DataW.LaidVars P w l ps-> ∀x∈l,
 ∃g t cs fuel p,P.globalNamed x.1=some g/\(P.globals[g]?).map (·.type)=some t/\w.var? P x.1=some cs/\DataW.trod (fun _=>()) P w 0 (fun _=>true) false fuel t cs.toList=some (x.2,p)
 | [],_,_,x,hx=>by simp at hx
 | (n,d)::r,ps,h,x,hx=>by
  obtain ⟨g,t,cs,fuel,p,q,h1,h2,h3,h4,h5,_⟩:=h;rcases List.mem_cons.1 hx with rfl | hx
  {exact ⟨g,t,cs,fuel,p,h1,h2,h3,h4⟩}
  {exact Z3f h5 x hx}
theorem Z9N {L:List (String×DataW Unit)} {W:World} (h:laidMet Tryd.prog L W) (m4: ("pandect/shape.words",Rows.laid_pandect_shape_words)∈L):WGlobs W:=by
 unfold WGlobs;obtain ⟨ps,hv,_,_⟩:=h;obtain ⟨g1,t1,cs,f1,p1,a1,b1,c1,d1⟩:=Z3f hv _ m4;obtain rfl:=Option.some.inj (Z4a.symm.trans a1);have ht: (Tryd.prog.globals[0]?).map (·.type)=some 132:=by kernel_rfl
 obtain rfl:=Option.some.inj (ht.symm.trans b1);rw[c1];congr 1;have hc1:Tryd.prog.cellsOf 9=1:=by kernel_rfl
 obtain ⟨xs,m,_,hx,hsz,hl,he⟩:=DataW.trod_array Tryd.underlying132 d1;rw[hc1] at he;have hc6:Tryd.prog.cellsOf 132=5:=by kernel_rfl
 rw[hc6] at hsz;have hx1:=(Prod.mk.inj hx).1;apply Array.ext'
 match xs,hl,hx1 with
 | [y0,y1,y2,y3,y4],_,hx1=>
  obtain ⟨L,hL⟩: ∃L,L=cs.toList:=⟨_,rfl⟩;rw[<-hL] at hsz he ⊢;clear hL
  match L,hsz with
  | [k0,k1,k2,k3,k4],_=>
   have e0:=he 0 (by omega);have e1:=he 1 (by omega);have e2:=he 2 (by omega);have e3:=he 3 (by omega);have e4:=he 4 (by omega);simp only[List.getElem?_cons_zero,List.getElem?_cons_succ,Nat.mul_one,List.drop_zero,List.drop_succ_cons,List.take_succ_cons,List.take_zero] at e0 e1 e2 e3 e4;obtain ⟨x0,h0,rfl,_⟩:=DataW.trod_string Tryd.underlying9 e0;obtain ⟨x1,h1,rfl,_⟩:=DataW.trod_string Tryd.underlying9 e1;obtain ⟨x2,h2,rfl,_⟩:=DataW.trod_string Tryd.underlying9 e2;obtain ⟨x3,h3,rfl,_⟩:=DataW.trod_string Tryd.underlying9 e3;obtain ⟨x4,h4,rfl,_⟩:=DataW.trod_string Tryd.underlying9 e4;simp at h0 h1 h2 h3 h4;simp[Rows.laid_pandect_shape_words] at hx1;obtain ⟨z0,z1,z2,z3,z4⟩:=hx1;have key: ∀(x:ByteArray) (l:List UInt8),l=x.data.toList->x=⟨l.toArray⟩:=fun x l h=>by rw[h]
   rw[h0,h1,h2,h3,h4];have k0:=key x0 [] (by simp[z0]);have k1:=key x1 [73,110,116] (by simp[<-z1]);have k2:=key x2 [66,111,111,108] (by simp[<-z2]);have k3:=key x3 [84,101,120,116] (by simp[<-z3]);have k4:=key x4 [65,110,121] (by simp[<-z4]);rw[k0,k1,k2,k3,k4]; rfl
theorem Z4D (l:List UInt8) (hl:l.length<=1000000) (w:World):
 Calls Tryd.prog 84 #[.string ⟨l.toArray⟩] w fun e w'=>e= .returned (.int .i64 (l.takeWhile Lex.nameB).length)/\w=w':=
 Z9e ⟨l.toArray⟩ (by rw[Z0z]; omega) w
theorem Z8p (c:UInt8) (r:List UInt8):Lex.isName (c::r)=(decide ((c::r).length<=24)&&Lex.small c&&(c::r).all Lex.nameB&& !Lex.isWord (c::r)):=rfl
theorem Z38 (l:List UInt8) (hl:l.length<=9223372036854775807) (w:World):
 Y9 64 #[.string ⟨l.toArray⟩] w (.bool (Lex.isName l)):=by
 cases l with
 | nil=>
  have HM:Hid (Lex.isName []=false):=Y1 rfl;go_enter Tryd.func64,Tryd.ntmps64;go_wp2;go_ret;exact ⟨by rw[HM.out]; rfl,Below.refl _ _⟩
 | cons c r=>
  have HM:=Y1 (Z8p c r);have HT:=Y1 (Lex.Z5E (p:=Lex.nameB) (s:=c::r));obtain ⟨l,hll⟩: ∃l:List UInt8,l=c::r:=⟨_,rfl⟩;rw[<-hll] at hl HM HT ⊢;have hz: (⟨l.toArray⟩:ByteArray).size=l.length:=Z0z _;have he:l.isEmpty=false:=by rw[hll]; rfl
  have hidx: ∀W,(Instr.index 9 (.string ⟨l.toArray⟩) (.int .i64 0)).run Tryd.prog W= .ok (.int .u8 c.toNat) W:=fun W=>by rw[hll]; rfl
  clear hll;by_cases h24:l.length<=24
  {have h24d:decide ((l.length:Int)<=24)=true:=decide_eq_true (by omega);cases h1:Lex.small c
   {have HF:Hid (Lex.isName l=false):=Y1 (by rw[HM.out,h1]; simp);go_enter Tryd.func64,Tryd.ntmps64
    go_wp2_with fail
    refine (Z0T c _).mono ?_;rintro e w2 ⟨rfl,rfl⟩;rw[h1];go_wp2;go_ret;exact ⟨by rw[HF.out]; rfl,Below.refl _ _⟩}
   {have H1:=Y1 h1;go_enter Tryd.func64,Tryd.ntmps64
    go_wp2_with fail
    refine (Z0T c _).mono ?_;rintro e w2 ⟨rfl,rfl⟩;rw[h1];clear h1
    go_wp2_with fail
    refine (Z4D l (by omega) _).mono ?_;rintro e w2 ⟨rfl,rfl⟩;obtain ⟨k,hk⟩: ∃k,k=(l.takeWhile Lex.nameB).length:=⟨_,rfl⟩;rw[<-hk] at HT ⊢;clear hk;by_cases hkl:k=l.length
    {have hkd: ((k:Int)==(l.length:Int))=true:=by rw[beq_iff_eq]; omega
     have HA:Hid (l.all Lex.nameB=true):=Y1 (HT.out.1 hkl);have HF:Hid (Lex.isName l= !Lex.isWord l):=Y1 (by rw[HM.out,H1.out,HA.out,decide_eq_true h24]; simp);clear hkl
     go_wp2_with fail
     refine (Z7Z l _).mono ?_;rintro e w2 ⟨rfl,hb2⟩;go_wp2;go_ret;exact ⟨by rw[HF.out]; rfl,hb2⟩}
    {have hkd: ((k:Int)==(l.length:Int))=false:=by rw[beq_eq_false_iff_ne]; omega
     have HF:Hid (Lex.isName l=false):=Y1 (by
      have:l.all Lex.nameB=false:=by
       cases hq:l.all Lex.nameB with
       | false=>rfl
       | true=>exact absurd (HT.out.2 hq) hkl
      rw[HM.out,this]; simp)
     clear hkl;go_wp2;go_ret;exact ⟨by rw[HF.out]; rfl,Below.refl _ _⟩}}}
  {have h24d:decide ((l.length:Int)<=24)=false:=decide_eq_false (by omega);have HF:Hid (Lex.isName l=false):=Y1 (by rw[HM.out,decide_eq_false h24]; rfl);go_enter Tryd.func64,Tryd.ntmps64;go_wp2;go_ret;exact ⟨by rw[HF.out]; rfl,Below.refl _ _⟩}
theorem Z7b (c:UInt8) (r:List UInt8):Lex.isUpper (c::r)=(decide ((c::r).length<=24)&&Lex.great c&&(c::r).all Lex.nameB):=rfl
theorem Z7c (l:List UInt8) (hl:l.length<=9223372036854775807) (w:World):
 Y9 65 #[.string ⟨l.toArray⟩] w (.bool (Lex.isUpper l)):=by
 cases l with
 | nil=>
  have HM:Hid (Lex.isUpper []=false):=Y1 rfl;go_enter Tryd.func65,Tryd.ntmps65;go_wp2;go_ret;exact ⟨by rw[HM.out]; rfl,Below.refl _ _⟩
 | cons c r=>
  have HM:=Y1 (Z7b c r);have HT:=Y1 (Lex.Z5E (p:=Lex.nameB) (s:=c::r));obtain ⟨l,hll⟩: ∃l:List UInt8,l=c::r:=⟨_,rfl⟩;rw[<-hll] at hl HM HT ⊢;have hz: (⟨l.toArray⟩:ByteArray).size=l.length:=Z0z _;have he:l.isEmpty=false:=by rw[hll]; rfl
  have hidx: ∀W,(Instr.index 9 (.string ⟨l.toArray⟩) (.int .i64 0)).run Tryd.prog W= .ok (.int .u8 c.toNat) W:=fun W=>by rw[hll]; rfl
  clear hll;by_cases h24:l.length<=24
  {have h24d:decide ((l.length:Int)<=24)=true:=decide_eq_true (by omega);cases h1:Lex.great c
   {have HF:Hid (Lex.isUpper l=false):=Y1 (by rw[HM.out,h1]; simp);go_enter Tryd.func65,Tryd.ntmps65
    go_wp2_with fail
    refine (Z11 c _).mono ?_;rintro e w2 ⟨rfl,rfl⟩;rw[h1];go_wp2;go_ret;exact ⟨by rw[HF.out]; rfl,Below.refl _ _⟩}
   {have H1:=Y1 h1;go_enter Tryd.func65,Tryd.ntmps65
    go_wp2_with fail
    refine (Z11 c _).mono ?_;rintro e w2 ⟨rfl,rfl⟩;rw[h1];clear h1
    go_wp2_with fail
    refine (Z4D l (by omega) _).mono ?_;rintro e w2 ⟨rfl,rfl⟩;obtain ⟨k,hk⟩: ∃k,k=(l.takeWhile Lex.nameB).length:=⟨_,rfl⟩;rw[<-hk] at HT ⊢;clear hk;by_cases hkl:k=l.length
    {have hkd: ((k:Int)==(l.length:Int))=true:=by rw[beq_iff_eq]; omega
     have HA:Hid (l.all Lex.nameB=true):=Y1 (HT.out.1 hkl);have HF:Hid (Lex.isUpper l=true):=Y1 (by rw[HM.out,H1.out,HA.out,decide_eq_true h24]; rfl);clear hkl;go_wp2;go_ret;exact ⟨by rw[HF.out]; rfl,Below.refl _ _⟩}
    {have hkd: ((k:Int)==(l.length:Int))=false:=by rw[beq_eq_false_iff_ne]; omega
     have HF:Hid (Lex.isUpper l=false):=Y1 (by
      have:l.all Lex.nameB=false:=by
       cases hq:l.all Lex.nameB with
       | false=>rfl
       | true=>exact absurd (HT.out.2 hq) hkl
      rw[HM.out,this]; simp)
     clear hkl;go_wp2;go_ret;exact ⟨by rw[HF.out]; rfl,Below.refl _ _⟩}}}
  {have h24d:decide ((l.length:Int)<=24)=false:=decide_eq_false (by omega);have HF:Hid (Lex.isUpper l=false):=Y1 (by rw[HM.out,decide_eq_false h24]; rfl);go_enter Tryd.func65,Tryd.ntmps65;go_wp2;go_ret;exact ⟨by rw[HF.out]; rfl,Below.refl _ _⟩}
end
section
open Go.RowKit Shp
theorem Z7d (A:Option Addr) (c:Nat) (l:List (List UInt8)) (p:Nat) (w:World) (hA:Strs w w.heap.size A (strs l)) (hl:l.length<=9223372036854775807) (hx: ∀x∈l,x.length<=9223372036854775807):
 Y9 66 #[.slice A l.length c,.int .i64 (p:Int)] w (.bool (areNames l&&decide (l.length=p))):=by
 have HA:=Y1 hA;have HX:=Y1 hx;clear hA hx;go_enter Tryd.func66,Tryd.ntmps66
 go_wp2_with fail
 go_loopw [5] (fun ii wr=> ∃i:Nat,ii= .int .i64 i/\i<=l.length/\Hid (∀j (hj:j < l.length),j < i->Lex.isName (l[j]'hj)=true/\ ∀k (hk:k < j),l[k]'(by omega)≠l[j]'hj)/\Below w.heap.size w wr)
  (fun i _=>l.length - (intOf i).toNat)
 case atStart=>exact ⟨0,rfl,Nat.zero_le _,Y1 (fun j _ hj=>absurd hj (by omega)),Below.refl _ _⟩
 case round=>
  obtain ⟨i,rfl,hi,HN,hb⟩:=hrel;by_cases hlt:i < l.length
  {have hi1: (i:Int) < (l.length:Int):=by omega
   rcases (HA.out.next hb).cell7 with h0 | ⟨g,off,rfl,hg,hc⟩
   {omega}
   {have hcell:=hc i hlt;obtain ⟨x,hx⟩: ∃x,x=l[i]'hlt:=⟨_,rfl⟩;rw[<-hx] at hcell;have hxl:x.length<=9223372036854775807:=by rw[hx]; exact HX.out _ (List.getElem_mem _)
    have HE:=Y1 hx;have HC:=Y1 hc;clear hx hc;cases hn:Lex.isName x with
    | false=>
     have HF:Hid (areNames l=false):=Y1 (Z3r hlt (by rw[<-HE.out]; exact hn));have hw:=Z38 x hxl wr;rw[hn] at hw;clear hn
     go_wp2_with (refine hw.mono ?_; rintro e w' ⟨rfl,hb'⟩)
     go_ret;exact ⟨by rw[HF.out]; rfl,Z02 hb hb'⟩
    | true=>
     have HT:Hid (Lex.isName (l[i]'hlt)=true):=Y1 (by rw[<-HE.out]; exact hn);have hw:=Z38 x hxl wr;rw[hn] at hw;clear hn
     go_wp2_with (refine hw.mono ?_; rintro e w' ⟨rfl,hb'⟩)
     have hbw:=Z02 hb hb';have HC2:Hid (∀j (hj:j < l.length),w'.cell? ⟨g,off+j,none⟩=some (.string ⟨(l[j]'hj).toArray⟩)):=Y1 (fun j hj=>((hb'.cell (p:=⟨g,off+j,none⟩) hg).trans (HC.out j hj)));have hcell2:=HC2.out i hlt;rw[<-HE.out] at hcell2;have HH2:=Y1 hcell2;have HBW:=Y1 hbw;clear hw hb hb' hbw hcell hcell2
     go_loopw [6] (fun kk wr2=> ∃k:Nat,kk= .int .i64 k/\k<=i/\Hid (∀j (hj:j < i),j < k->l[j]'(by omega)≠l[i]'hlt)/\Hid (Below w'.heap.size w' wr2))
      (fun k _=>i - (intOf k).toNat)
     case atStart=>exact ⟨0,rfl,Nat.zero_le _,Y1 (fun j _ hj=>absurd hj (by omega)),Y1 Y2⟩
     case round=>
      obtain ⟨k,rfl,hk,HK,HB2⟩:=hrel;have hgw:g < w'.heap.size:=Z1x HH2.out;by_cases hki:k < i
      {have hk1: (k:Int) < (i:Int):=by omega
       have hk2: (k:Int) < (l.length:Int):=by omega
       have hck:=(HB2.out.cell (p:=⟨g,off+k,none⟩) hgw).trans (HC2.out k (by omega));have hci:=(HB2.out.cell (p:=⟨g,off+i,none⟩) hgw).trans HH2.out;obtain ⟨y,hy⟩: ∃y,y=l[k]'(by omega):=⟨_,rfl⟩;rw[<-hy] at hck;have HY:=Y1 hy;clear hy;cases hq: (y==x)
       {have HM:Hid (l[k]'(by omega)≠l[i]'hlt):=Y1 (by rw[<-HY.out, <-HE.out]; intro h; rw[h] at hq; simp at hq)
        go_wp2_with fail
        go_quiet (fail)
        go_wp2
        go_roundw
        case rel=>exact ⟨k+1,by go_num,by omega,Y1 (fun j hj hji=>by
         rcases Nat.lt_succ_iff_lt_or_eq.1 hji with h | rfl
         {exact HK.out j hj h}
         · exact HM.out),Y1 (Z0E HB2.out _)⟩
        case measure=>simp[intOf]; omega}
       {have HF:Hid (areNames l=false):=Y1 (Z2M hlt hki (by rw[<-HY.out, <-HE.out]; simpa using hq))
        go_wp2_with fail
        go_quiet (fail)
        go_wp2;go_ret;exact ⟨by rw[HF.out]; rfl,Z0E (Z02 HBW.out HB2.out) _⟩}}
      {have hke:k=i:=by omega
       have HN2:Hid (∀j (hj:j < l.length),j < i+1->Lex.isName (l[j]'hj)=true/\ ∀k (hk:k < j),l[k]'(by omega)≠l[j]'hj):=Y1 (fun j hj hji=>by
        rcases Nat.lt_succ_iff_lt_or_eq.1 hji with h | rfl
        {exact HN.out j hj h}
        · exact ⟨HT.out,fun m hm=>HK.out m hm (by omega)⟩)
       have hk1: ¬(k:Int) < (i:Int):=by omega
       clear hke;go_wp2
       go_roundw
       case rel=>exact ⟨i+1,by go_num,by omega,HN2,Z02 HBW.out HB2.out⟩
       case measure=>simp[intOf]; omega}}}
  {have hi1: ¬(i:Int) < (l.length:Int):=by omega
   have HM:Hid (areNames l=true):=Y1 (Z3O (fun j hj=>(HN.out j hj (by omega)).1) (fun j hj=>(HN.out j hj (by omega)).2));go_wp2;go_ret;exact ⟨Z0j (by rw[HM.out,Bool.true_and,Bool.eq_iff_iff]; simp; omega),hb⟩}
end
end Go.Proofs.YtchklpedlbkgaaaDoor
namespace Lex
section
def join:List (List UInt8)->List UInt8
 | []=> []
 | [p]=>p
 | p::q::ps=>p++32::join (q::ps)
def Placed (s:List UInt8):Nat->List (Tok×Nat)->Prop
 | a,[]=>a<=s.length
 | a,(t,p)::r=>a<=p/\p<=s.length/\1<=t.kind/\t.kind<=7/\(t.kind=4->Placed s (p+2) r)/\(t.kind≠4->p+t.text.length<=s.length/\(s.drop p).take t.text.length=t.text/\Placed s (p+t.text.length) r)
theorem Placed.less {s:List UInt8} {a b:Nat} (hab:b<=a): ∀ {l:List (Tok×Nat)},Placed s a l->Placed s b l
 | [],h=>Nat.le_trans hab h
 | (t,p)::r,h=>by
  obtain ⟨h1,h2⟩:=h;exact ⟨Nat.le_trans hab h1,h2⟩
def up (k:Nat):Except Nat Nat->Except Nat Nat
 | .ok n=> .ok (k+n)
 | .error n=> .error (k+n)
end
end Lex
namespace Lex
def letter (c:UInt8):Bool:=small c||great c
theorem Z6c (c:UInt8):nameB c=(letter c||digit c||c==95):=rfl
end Lex
namespace Go.Proofs.YtchklpedlbkgaaaDoor
open Go.RowKit
section
variable (c : UInt8) (w : World)
include c w
theorem Z1e:
 Calls Tryd.prog 69 #[.int .u8 (c.toNat:Int)] w fun e w'=>e= .returned (.bool (Lex.small c))/\w=w':=by
 have hlt:=c.toNat_lt;have H:c.toNat<=96\/(97<=c.toNat/\c.toNat<=122)\/123<=c.toNat:=by omega
 have HB:Hid (Lex.small c=(decide (97<=c.toNat)&&decide (c.toNat<=122))):=Y1 rfl;obtain ⟨n,hn⟩: ∃n,n=c.toNat:=⟨_,rfl⟩;rw[<-hn] at H HB hlt ⊢;clear hn;rcases H with h1 | ⟨h1,h2⟩ | h1
 {have h3:decide ((97:Int)<=(n:Int))=false:=decide_eq_false (by omega);go_enter Tryd.func69,Tryd.ntmps69;go_wp2;go_ret;exact ⟨by rw[HB.out,decide_eq_false (by omega)]; rfl,rfl⟩}
 {have h3:decide ((n:Int)<=122)=true:=decide_eq_true (by omega);have h4:decide ((97:Int)<=(n:Int))=true:=decide_eq_true (by omega);go_enter Tryd.func69,Tryd.ntmps69;go_wp2;go_ret;exact ⟨by rw[HB.out,decide_eq_true h1,decide_eq_true h2]; rfl,rfl⟩}
 {have h3:decide ((n:Int)<=122)=false:=decide_eq_false (by omega);have h4:decide ((97:Int)<=(n:Int))=true:=decide_eq_true (by omega);go_enter Tryd.func69,Tryd.ntmps69;go_wp2;go_ret;exact ⟨by rw[HB.out,decide_eq_false (p:=n<=122) (by omega),Bool.and_false]; rfl,rfl⟩}
theorem Z2B:
 Calls Tryd.prog 72 #[.int .u8 (c.toNat:Int)] w fun e w'=>e= .returned (.bool (Lex.great c))/\w=w':=by
 have hlt:=c.toNat_lt;have H:c.toNat<=64\/(65<=c.toNat/\c.toNat<=90)\/91<=c.toNat:=by omega
 have HB:Hid (Lex.great c=(decide (65<=c.toNat)&&decide (c.toNat<=90))):=Y1 rfl;obtain ⟨n,hn⟩: ∃n,n=c.toNat:=⟨_,rfl⟩;rw[<-hn] at H HB hlt ⊢;clear hn;rcases H with h1 | ⟨h1,h2⟩ | h1
 {have h3:decide ((65:Int)<=(n:Int))=false:=decide_eq_false (by omega);go_enter Tryd.func72,Tryd.ntmps72;go_wp2;go_ret;exact ⟨by rw[HB.out,decide_eq_false (by omega)]; rfl,rfl⟩}
 {have h3:decide ((n:Int)<=90)=true:=decide_eq_true (by omega);have h4:decide ((65:Int)<=(n:Int))=true:=decide_eq_true (by omega);go_enter Tryd.func72,Tryd.ntmps72;go_wp2;go_ret;exact ⟨by rw[HB.out,decide_eq_true h1,decide_eq_true h2]; rfl,rfl⟩}
 {have h3:decide ((n:Int)<=90)=false:=decide_eq_false (by omega);have h4:decide ((65:Int)<=(n:Int))=true:=decide_eq_true (by omega);go_enter Tryd.func72,Tryd.ntmps72;go_wp2;go_ret;exact ⟨by rw[HB.out,decide_eq_false (p:=n<=90) (by omega),Bool.and_false]; rfl,rfl⟩}
theorem Z2C:
 Calls Tryd.prog 96 #[.int .u8 (c.toNat:Int)] w fun e w'=>e= .returned (.bool (Lex.digit c))/\w=w':=by
 have hlt:=c.toNat_lt;have H:c.toNat<=47\/(48<=c.toNat/\c.toNat<=57)\/58<=c.toNat:=by omega
 have HB:Hid (Lex.digit c=(decide (48<=c.toNat)&&decide (c.toNat<=57))):=Y1 rfl;obtain ⟨n,hn⟩: ∃n,n=c.toNat:=⟨_,rfl⟩;rw[<-hn] at H HB hlt ⊢;clear hn;rcases H with h1 | ⟨h1,h2⟩ | h1
 {have h3:decide ((48:Int)<=(n:Int))=false:=decide_eq_false (by omega);go_enter Tryd.func96,Tryd.ntmps96;go_wp2;go_ret;exact ⟨by rw[HB.out,decide_eq_false (by omega)]; rfl,rfl⟩}
 {have h3:decide ((n:Int)<=57)=true:=decide_eq_true (by omega);have h4:decide ((48:Int)<=(n:Int))=true:=decide_eq_true (by omega);go_enter Tryd.func96,Tryd.ntmps96;go_wp2;go_ret;exact ⟨by rw[HB.out,decide_eq_true h1,decide_eq_true h2]; rfl,rfl⟩}
 {have h3:decide ((n:Int)<=57)=false:=decide_eq_false (by omega);have h4:decide ((48:Int)<=(n:Int))=true:=decide_eq_true (by omega);go_enter Tryd.func96,Tryd.ntmps96;go_wp2;go_ret;exact ⟨by rw[HB.out,decide_eq_false (p:=n<=57) (by omega),Bool.and_false]; rfl,rfl⟩}
theorem Z1C:
 Calls Tryd.prog 95 #[.int .u8 (c.toNat:Int)] w fun e w'=>e= .returned (.bool (Lex.letter c))/\w=w':=by
 have HM:Hid (Lex.letter c=(Lex.small c||Lex.great c)):=Y1 rfl;cases h1:Lex.small c
 {have HF:Hid (Lex.letter c=Lex.great c):=Y1 (by rw[HM.out,h1]; rfl);go_enter Tryd.func95,Tryd.ntmps95
  go_wp2_with fail
  refine (Z1e c _).mono ?_;rintro e w2 ⟨rfl,rfl⟩;rw[h1]
  go_wp2_with fail
  refine (Z2B c _).mono ?_;rintro e w2 ⟨rfl,rfl⟩;go_wp2;go_ret;exact ⟨by rw[HF.out]; rfl,rfl⟩}
 {have HF:Hid (Lex.letter c=true):=Y1 (by rw[HM.out,h1]; rfl);go_enter Tryd.func95,Tryd.ntmps95
  go_wp2_with fail
  refine (Z1e c _).mono ?_;rintro e w2 ⟨rfl,rfl⟩;rw[h1];go_wp2;go_ret;exact ⟨by rw[HF.out]; rfl,rfl⟩}
theorem Z3X:
 Calls Tryd.prog 87 #[.int .u8 (c.toNat:Int)] w fun e w'=>e= .returned (.bool (Lex.nameB c))/\w=w':=by
 have HM:=Y1 (Lex.Z6c c);have b95:=Z7B c;cases h1:Lex.letter c
 {cases h2:Lex.digit c
  {cases g95: (c==95)
   {rw[g95] at b95;have HF:Hid (Lex.nameB c=false):=Y1 (by rw[HM.out,h1,h2,g95]; rfl);clear HM;go_enter Tryd.func87,Tryd.ntmps87
    go_wp2_with fail
    refine (Z1C c _).mono ?_;rintro e w2 ⟨rfl,rfl⟩;rw[h1]
    go_wp2_with fail
    refine (Z2C c _).mono ?_;rintro e w2 ⟨rfl,rfl⟩;rw[h2];go_wp2;go_ret;exact ⟨by rw[HF.out]; rfl,rfl⟩}
   {rw[g95] at b95;have HF:Hid (Lex.nameB c=true):=Y1 (by rw[HM.out,h1,h2,g95]; rfl);clear HM;go_enter Tryd.func87,Tryd.ntmps87
    go_wp2_with fail
    refine (Z1C c _).mono ?_;rintro e w2 ⟨rfl,rfl⟩;rw[h1]
    go_wp2_with fail
    refine (Z2C c _).mono ?_;rintro e w2 ⟨rfl,rfl⟩;rw[h2];go_wp2;go_ret;exact ⟨by rw[HF.out]; rfl,rfl⟩}}
  {have HF:Hid (Lex.nameB c=true):=Y1 (by rw[HM.out,h1,h2]; rfl);clear HM;go_enter Tryd.func87,Tryd.ntmps87
   go_wp2_with fail
   refine (Z1C c _).mono ?_;rintro e w2 ⟨rfl,rfl⟩;rw[h1]
   go_wp2_with fail
   refine (Z2C c _).mono ?_;rintro e w2 ⟨rfl,rfl⟩;rw[h2];go_wp2;go_ret;exact ⟨by rw[HF.out]; rfl,rfl⟩}}
 {have HF:Hid (Lex.nameB c=true):=Y1 (by rw[HM.out,h1]; rfl);clear HM;go_enter Tryd.func87,Tryd.ntmps87
  go_wp2_with fail
  refine (Z1C c _).mono ?_;rintro e w2 ⟨rfl,rfl⟩;rw[h1];go_wp2;go_ret;exact ⟨by rw[HF.out]; rfl,rfl⟩}
end
theorem Z8x (s:List UInt8) (w:World):
 Calls Tryd.prog 71 #[.string ⟨s.toArray⟩] w fun e w'=>e= .returned (.bool (Lex.isWord s))/\w=w':=by
 cases hq:Lex.isWord s
 {have HN: ∀t∈Lex.words,(s==t)=false:=fun t ht=>by
   cases h: (s==t) with
   | false=>rfl
   | true=>
    obtain rfl:=beq_iff_eq.1 h;unfold Lex.isWord at hq;rw[List.contains_iff_mem.2 ht] at hq; cases hq
  have n0: (s== [109,111,100,117,108,101])=false:=HN _ (by decide);have n1: (s== [105,109,112,111,114,116])=false:=HN _ (by decide);have n2: (s== [112,105,110])=false:=HN _ (by decide);have n3: (s== [114,97,110,103,101])=false:=HN _ (by decide);have n4: (s== [116,121,112,101])=false:=HN _ (by decide);have n5: (s== [111,112,97,113,117,101])=false:=HN _ (by decide);have n6: (s== [108,101,116])=false:=HN _ (by decide);have n7: (s== [105,110])=false:=HN _ (by decide);have n8: (s== [101,120,112,111,114,116])=false:=HN _ (by decide);have n9: (s== [102,117,110])=false:=HN _ (by decide);have n10: (s== [105,102])=false:=HN _ (by decide);have n11: (s== [116,104,101,110])=false:=HN _ (by decide);have n12: (s== [101,108,115,101])=false:=HN _ (by decide);have n13: (s== [99,97,115,101])=false:=HN _ (by decide);have n14: (s== [111,102])=false:=HN _ (by decide);have n15: (s== [97,115])=false:=HN _ (by decide);have n16: (s== [110,101,119])=false:=HN _ (by decide);have n17: (s== [114,97,119])=false:=HN _ (by decide);have n18: (s== [116,114,117,101])=false:=HN _ (by decide);have n19: (s== [102,97,108,115,101])=false:=HN _ (by decide);clear HN hq;go_enter Tryd.func71,Tryd.ntmps71;go_wp2;go_ret;exact ⟨rfl,rfl⟩}
 {have hm:s∈Lex.words:=List.contains_iff_mem.1 hq;clear hq;unfold Lex.words at hm;simp only[List.mem_cons,List.not_mem_nil,or_false] at hm;rcases hm with rfl | rfl | rfl | rfl | rfl | rfl | rfl | rfl | rfl | rfl | rfl | rfl | rfl | rfl | rfl | rfl | rfl | rfl | rfl | rfl
  all_goals
   go_enter Tryd.func71,Tryd.ntmps71;go_wp2;go_ret;exact ⟨rfl,rfl⟩}
end Go.Proofs.YtchklpedlbkgaaaDoor
namespace Lex
def named (l:List UInt8):Bool:=decide (l.length<=24)&&l.tail.all nameB
section
variable {p : UInt8 -> Bool} {l : List UInt8}
include p l
theorem ZaO (h: ∀j (hj:j < l.length),1<=j->p (l[j]'hj)=true):l.tail.all p=true:=by
 cases l with
 | nil=>rfl
 | cons c r=>
  refine List.all_eq_true.2 (fun x hx=> ?_);obtain ⟨j,hj,rfl⟩:=List.mem_iff_getElem.1 hx;exact h (j+1) (by simpa using hj) (by omega)
theorem Zbb {j:Nat} (hj:j < l.length) (h1:1<=j) (h:p (l[j]'hj)=false):l.tail.all p=false:=by
 cases l with
 | nil=>simp at hj
 | cons c r=>
  obtain ⟨k,rfl⟩: ∃k,j=k+1:=⟨j - 1,by omega⟩;have hm: (r[k]'(by simpa using hj))∈r:=List.getElem_mem _;cases hq: (c::r).tail.all p with
  | false=>rfl
  | true=>
   have:=List.all_eq_true.1 hq _ hm;have h':p (r[k]'(by simpa using hj))=false:=h;rw[h'] at this; cases this
end
theorem Z8y (c:UInt8) (r:List UInt8):isName (c::r)=(small c&&named (c::r)&& !isWord (c::r)):=by
 show (decide ((c::r).length<=24)&&small c&&(c::r).all nameB&& !isWord (c::r))=_;cases h:small c with
 | false=>simp
 | true=>
  have:nameB c=true:=by unfold nameB; rw[h]; rfl
  unfold named;simp[this]
theorem Z7h (c:UInt8) (r:List UInt8):isUpper (c::r)=(great c&&named (c::r)):=by
 show (decide ((c::r).length<=24)&&great c&&(c::r).all nameB)=_;cases h:great c with
 | false=>simp
 | true=>
  have:nameB c=true:=by unfold nameB; rw[h]; simp
  unfold named;simp[this]
end Lex
namespace Go.Proofs.YtchklpedlbkgaaaDoor
open Go.RowKit
section
variable (l : List UInt8) (hl : l.length <= 9223372036854775807) (w : World)
include l hl w
theorem Z2D:
 Calls Tryd.prog 70 #[.string ⟨l.toArray⟩] w fun e w'=>e= .returned (.bool (Lex.named l))/\w=w':=by
 have hz: (⟨l.toArray⟩:ByteArray).size=l.length:=Z0z _;have HM:Hid (Lex.named l=(decide (l.length<=24)&&l.tail.all Lex.nameB)):=Y1 rfl;by_cases h24:l.length<=24
 {have h24d: ¬((24:Int) < (l.length:Int)):=by omega
  go_enter Tryd.func70,Tryd.ntmps70
  go_wp2_with fail
  go_loopw [3] (fun ii wr=> ∃n:Nat,ii= .int .i64 n/\1<=n/\(n<=l.length\/n=1)/\Hid (∀j (hj:j < l.length),1<=j->j < n->Lex.nameB (l[j]'hj)=true)/\w=wr)
   (fun i _=>l.length - (intOf i).toNat)
  case atStart=>exact ⟨1,rfl,Nat.le_refl _,Or.inr rfl,Y1 (fun j _ h1 hj=>absurd hj (by omega)),rfl⟩
  case round=>
   obtain ⟨n,rfl,h1,hn,HN,rfl⟩:=hrel;by_cases hlt:n < l.length
   {have hi1: (n:Int) < (l.length:Int):=by omega
    obtain ⟨c,hc⟩: ∃c,c=l[n]'hlt:=⟨_,rfl⟩;have hidx: ∀W,(Instr.index 9 (.string ⟨l.toArray⟩) (.int .i64 (n:Int))).run Tryd.prog W= .ok (.int .u8 c.toNat) W:=fun W=>by
     rw[hc]; exact Z4k ⟨l.toArray⟩ n (by omega) W
    have HC:=Y1 hc;clear hc;cases hb:Lex.nameB c
    {have HF:Hid (Lex.named l=false):=Y1 (by rw[HM.out,Lex.Zbb hlt h1 (by rw[<-HC.out]; exact hb)]; simp)
     go_wp2_with fail
     refine (Z3X c _).mono ?_;rintro e w2 ⟨rfl,rfl⟩;rw[hb];go_wp2;go_ret;exact ⟨by rw[HF.out]; rfl,rfl⟩}
    {have HN2:Hid (∀j (hj:j < l.length),1<=j->j < n+1->Lex.nameB (l[j]'hj)=true):=Y1 (fun j hj h1 hji=>by
      rcases Nat.lt_succ_iff_lt_or_eq.1 hji with h' | rfl
      {exact HN.out j hj h1 h'}
      · rw[<-HC.out]; exact hb)
     go_wp2_with fail
     refine (Z3X c _).mono ?_;rintro e w2 ⟨rfl,rfl⟩;rw[hb];go_wp2
     go_roundw
     case rel=>exact ⟨n+1,by go_num,by omega,Or.inl (by omega),HN2,trivial⟩
     case measure=>simp[intOf]; omega}}
   {have hi1: ¬(n:Int) < (l.length:Int):=by omega
    have HF:Hid (Lex.named l=true):=Y1 (by rw[HM.out,decide_eq_true h24,Lex.ZaO (fun j hj h1=>HN.out j hj h1 (by omega))]; rfl);go_wp2;go_ret;exact ⟨by rw[HF.out]; rfl,rfl⟩}}
 {have h24d: (24:Int) < (l.length:Int):=by omega
  have HF:Hid (Lex.named l=false):=Y1 (by rw[HM.out,decide_eq_false h24]; rfl);go_enter Tryd.func70,Tryd.ntmps70;go_wp2;go_ret;exact ⟨by rw[HF.out]; rfl,rfl⟩}
theorem Z23:
 Calls Tryd.prog 59 #[.string ⟨l.toArray⟩] w fun e w'=>e= .returned (.bool (Lex.isName l))/\w=w':=by
 cases l with
 | nil=>
  have HM:Hid (Lex.isName []=false):=Y1 rfl;go_enter Tryd.func59,Tryd.ntmps59;go_wp2;go_ret;exact ⟨by rw[HM.out]; rfl,rfl⟩
 | cons c r=>
  have HM:=Y1 (Lex.Z8y c r);obtain ⟨l,hll⟩: ∃l:List UInt8,l=c::r:=⟨_,rfl⟩;rw[<-hll] at hl HM ⊢;have hz: (⟨l.toArray⟩:ByteArray).size=l.length:=Z0z _;have he:l.isEmpty=false:=by rw[hll]; rfl
  have he2: (l== [])=false:=by rw[hll]; rfl
  have he3: (l != [])=true:=by rw[hll]; rfl
  have hidx: ∀W,(Instr.index 9 (.string ⟨l.toArray⟩) (.int .i64 0)).run Tryd.prog W= .ok (.int .u8 c.toNat) W:=fun W=>by rw[hll]; rfl
  clear hll;cases h1:Lex.small c
  {have HF:Hid (Lex.isName l=false):=Y1 (by rw[HM.out,h1]; rfl);go_enter Tryd.func59,Tryd.ntmps59
   go_wp2_with fail
   refine (Z1e c _).mono ?_;rintro e w2 ⟨rfl,rfl⟩;rw[h1];go_wp2;go_ret;exact ⟨by rw[HF.out]; rfl,rfl⟩}
  {cases h2:Lex.named l
   {have HF:Hid (Lex.isName l=false):=Y1 (by rw[HM.out,h1,h2]; rfl);go_enter Tryd.func59,Tryd.ntmps59
    go_wp2_with fail
    refine (Z1e c _).mono ?_;rintro e w2 ⟨rfl,rfl⟩;rw[h1]
    go_wp2_with fail
    refine (Z2D l hl _).mono ?_;rintro e w2 ⟨rfl,rfl⟩;rw[h2];go_wp2;go_ret;exact ⟨by rw[HF.out]; rfl,rfl⟩}
   {have HF:Hid (Lex.isName l= !Lex.isWord l):=Y1 (by rw[HM.out,h1,h2]; rfl);go_enter Tryd.func59,Tryd.ntmps59
    go_wp2_with fail
    refine (Z1e c _).mono ?_;rintro e w2 ⟨rfl,rfl⟩;rw[h1]
    go_wp2_with fail
    refine (Z2D l hl _).mono ?_;rintro e w2 ⟨rfl,rfl⟩;rw[h2]
    go_wp2_with fail
    refine (Z8x l _).mono ?_;rintro e w2 ⟨rfl,rfl⟩;go_wp2;go_ret;exact ⟨by rw[HF.out]; rfl,rfl⟩}}
theorem Z3Y:
 Calls Tryd.prog 60 #[.string ⟨l.toArray⟩] w fun e w'=>e= .returned (.bool (Lex.isUpper l))/\w=w':=by
 cases l with
 | nil=>
  have HM:Hid (Lex.isUpper []=false):=Y1 rfl;go_enter Tryd.func60,Tryd.ntmps60;go_wp2;go_ret;exact ⟨by rw[HM.out]; rfl,rfl⟩
 | cons c r=>
  have HM:=Y1 (Lex.Z7h c r);obtain ⟨l,hll⟩: ∃l:List UInt8,l=c::r:=⟨_,rfl⟩;rw[<-hll] at hl HM ⊢;have hz: (⟨l.toArray⟩:ByteArray).size=l.length:=Z0z _;have he:l.isEmpty=false:=by rw[hll]; rfl
  have he2: (l== [])=false:=by rw[hll]; rfl
  have he3: (l != [])=true:=by rw[hll]; rfl
  have hidx: ∀W,(Instr.index 9 (.string ⟨l.toArray⟩) (.int .i64 0)).run Tryd.prog W= .ok (.int .u8 c.toNat) W:=fun W=>by rw[hll]; rfl
  clear hll;cases h1:Lex.great c
  {have HF:Hid (Lex.isUpper l=false):=Y1 (by rw[HM.out,h1]; rfl);go_enter Tryd.func60,Tryd.ntmps60
   go_wp2_with fail
   refine (Z2B c _).mono ?_;rintro e w2 ⟨rfl,rfl⟩;rw[h1];go_wp2;go_ret;exact ⟨by rw[HF.out]; rfl,rfl⟩}
  {have HF:Hid (Lex.isUpper l=Lex.named l):=Y1 (by rw[HM.out,h1]; rfl);go_enter Tryd.func60,Tryd.ntmps60
   go_wp2_with fail
   refine (Z2B c _).mono ?_;rintro e w2 ⟨rfl,rfl⟩;rw[h1]
   go_wp2_with fail
   refine (Z2D l hl _).mono ?_;rintro e w2 ⟨rfl,rfl⟩;go_wp2;go_ret;exact ⟨by rw[HF.out]; rfl,rfl⟩}
end
end Go.Proofs.YtchklpedlbkgaaaDoor
namespace Go.Proofs.YtchklpedlbkgaaaDoor
section
open Go.RowKit Go.Maps Go.WideMaps Shp
theorem Z3N:Keyed Tryd.prog 9:=string_keyed Tryd.underlying9
theorem Z3z (w:World): (zeroValue 115).run Tryd.prog w= .ok (.agg #[]) w:=by kernel_rfl
def seenOf (l:List (List UInt8)) (k:Nat):DataW Unit:=setOf (.agg []) ((l.take k).map Lit.string)
theorem Z9R (l:List (List UInt8)):seenOf l 0= .map []:=by simp[seenOf,setOf]
theorem Z9S (l:List (List UInt8)) (k:Nat) (hk:k < l.length):seenOf l (k+1)=(seenOf l k).put (.string (l[k]'hk)) (.agg []):=by
 unfold seenOf;rw[List.take_succ_eq_append_getElem hk,List.map_append,List.map_cons,List.map_nil,setOf_snoc]
theorem Z6d (x:List UInt8): ∀l:List (List UInt8),l.any ((fun y:Lit=>y.sameKey (.string x)) ∘ Lit.string)=l.contains x
 | []=>rfl
 | a::r=>by
  rw[List.any_cons,List.contains_cons,Z6d x r];congr 1;by_cases e:a=x
  {subst e; simp[Lit.sameKey]}
  {have e': ¬x=a:=fun h=>e h.symm;simp[Lit.sameKey];rw[show (a==x)=false from by simpa using e,show (x==a)=false from by simpa using e']}
theorem ZaP (l:List (List UInt8)) (k:Nat) (x:List UInt8):Maps.has (seenOf l k) (.string x)=(l.take k).contains x:=by
 unfold seenOf;rw[has_setOf _ _ _ (fun y hy=>by obtain ⟨_,_,rfl⟩:=List.mem_map.1 hy; trivial),List.any_map];exact Z6d x _
theorem Z7i (A:Option Addr) (c:Nat) (l:List (List UInt8)) (w:World) (hA:Strs w w.heap.size A (strs l)) (hl:l.length<=1000000) (hx: ∀x∈l,x.length<=9223372036854775807):
 Y9 57 #[.slice A l.length c] w (.bool (areNames l)):=by
 have hmm:= @run_makeMap Tryd.prog;have HA:=Y1 hA;have HX:=Y1 hx;clear hA hx;go_enter Tryd.func57,Tryd.ntmps57
 go_wp2_with fail
 go_loopw [11] (fun ii wr=> ∃k:Nat,k<=l.length/\ii= .int .i64 k/\wr.ownsMap Tryd.prog 9 unitElem w.heap.size k (seenOf l k)/\Below w.heap.size w wr/\Hid (∀j (hj:j < l.length),j < k->Lex.isName (l[j]'hj)=true/\ ∀m (hm:m < j),l[m]'(by omega)≠l[j]'hj))
  (fun i _=>l.length - (intOf i).toNat)
 case atStart=>exact ⟨0,Nat.zero_le _,rfl,by rw[Z9R]; exact World.ownsMap_made _ _ _ _,Y2.alloc (Nat.le_refl _) _,Y1 (fun j _ hj=>absurd hj (by omega))⟩
 case round=>
  obtain ⟨k,hk,rfl,hown,hb,HN⟩:=hrel;by_cases hlt:k < l.length
  {have hi1: (k:Int) < (l.length:Int):=by omega
   rcases (HA.out.next hb).cell7 with h0 | ⟨g,off,rfl,hg,hc⟩
   {omega}
   {have hcell:=hc k hlt;obtain ⟨x,hx⟩: ∃x,x=l[k]'hlt:=⟨_,rfl⟩;rw[<-hx] at hcell;have hxl:x.length<=9223372036854775807:=by rw[hx]; exact HX.out _ (List.getElem_mem _)
    have HE:=Y1 hx;have hkey:keyOf Tryd.prog 9 (.string ⟨x.toArray⟩)=some (.string x):=keyOf_string_mk Tryd.underlying9 (by rw[Z0z]; unfold maxLen; exact hxl);clear hx hc;have HHAS:=Y1 (ZaP l k x);have HOWN:=Y1 hown;have HBB:=Y1 hb;clear hb;cases hin: (l.take k).contains x with
    | true=>
     have HF:Hid (areNames l=false):=Y1 (by
      have hm:=List.contains_iff_mem.1 hin;obtain ⟨m,hm,he⟩:=List.getElem_of_mem hm;rw[List.length_take] at hm;rw[List.getElem_take] at he;exact Z2M (k:=m) hlt (by omega) (by rw[he,HE.out]))
     have hhas:=HHAS.out;rw[hin] at hhas;clear hin
     go_wp2_with (first
      | (at_lookup; refine wpList_lookup_own_unit _ rfl _ _ 114 rfl 9 115 Z3N Tryd.underlying114 (Z3z _) w.heap.size k _ rfl hown _ _ rfl hkey ?_)
      | fail)
     go_ret;exact ⟨by rw[HF.out]; rfl,HBB.out.alloc HBB.out.size _⟩
    | false=>
     have HNU:Hid (∀m (hm:m < k),l[m]'(by omega)≠l[k]'hlt):=Y1 (fun m hm he=>by
      rw[<-HE.out] at he;have:x∈l.take k:=by
       rw[<-he];have:=List.getElem_mem (l:=l.take k) (n:=m) (by rw[List.length_take]; omega)
       rwa [List.getElem_take] at this
      rw[List.contains_iff_mem.2 this] at hin;cases hin)
     have hhas:=HHAS.out;rw[hin] at hhas;clear hin;cases hn:Lex.isName x with
     | false=>
      have HF:Hid (areNames l=false):=Y1 (Z3r hlt (by rw[<-HE.out]; exact hn));have hw:=fun W=>Z23 x hxl W;simp only[hn] at hw;clear hn
      go_wp2_with (first
       | (at_lookup; refine wpList_lookup_own_unit _ rfl _ _ 114 rfl 9 115 Z3N Tryd.underlying114 (Z3z _) w.heap.size k _ rfl hown _ _ rfl hkey ?_)
       | (go_at_call 59; refine (hw _).mono ?_; rintro e w' ⟨rfl,rfl⟩))
      go_ret;exact ⟨by rw[HF.out]; rfl,HBB.out.alloc HBB.out.size _⟩
     | true=>
      have HNA:Hid (Lex.isName (l[k]'hlt)=true):=Y1 (by rw[<-HE.out]; exact hn);have hw:=fun W=>Z23 x hxl W;simp only[hn] at hw;clear hn
      go_wp2_with (first
       | (at_lookup; refine wpList_lookup_own_unit _ rfl _ _ 114 rfl 9 115 Z3N Tryd.underlying114 (Z3z _) w.heap.size k _ rfl hown _ _ rfl hkey ?_)
       | (go_at_call 59; refine (hw _).mono ?_; rintro e w' ⟨rfl,rfl⟩)
       | (at_mapUpdate; refine wpList_mapUpdate_own _ rfl _ _ _ 114 rfl 9 115 Z3N Tryd.underlying114 (unitElem (H:=Unit)) w.heap.size k _ rfl (hown.alloc _) (by unfold maxLen; omega) _ _ _ rfl rfl hkey _ [] unitElem_mk ?_; intro w1 hown1 hgrow1))
      go_roundw
      case rel=>
       refine ⟨k+1,by omega,by go_num, ?_, ?_,Y1 (fun j hj hji=>by
        rcases Nat.lt_succ_iff_lt_or_eq.1 hji with h | rfl
        {exact HN.out j hj h}
        · exact ⟨HNA.out,HNU.out⟩)⟩
       {rw[Z9S l k hlt, <-HE.out]; exact hown1}
       {exact (HBB.out.alloc HBB.out.size _).grown hgrow1 (by have:=HBB.out.size; simp; omega) (fun j hj=>by cases hj; exact Nat.le_refl _)}
      case measure=>simp[intOf]; omega}}
  {have hi1: ¬(k:Int) < (l.length:Int):=by omega
   have HM:Hid (areNames l=true):=Y1 (Z3O (fun j hj=>(HN.out j hj (by omega)).1) (fun j hj=>(HN.out j hj (by omega)).2));go_wp2;go_ret;exact ⟨by rw[HM.out]; rfl,hb⟩}
end
section
open Go.RowKit Shp
def wordB (s:List UInt8):Bool:= []==s|| [73,110,116]==s|| [66,111,111,108]==s|| [84,101,120,116]==s|| [65,110,121]==s
def NotYet (s:List UInt8) (i:Int):Prop:=((1:Int)<=i->(([]:List UInt8)==s)=false)/\((2:Int)<=i->([73,110,116]==s)=false)/\((3:Int)<=i->([66,111,111,108]==s)=false)/\((4:Int)<=i->([84,101,120,116]==s)=false)/\((5:Int)<=i->([65,110,121]==s)=false)
theorem Z6e (s:List UInt8) (w:World) (hg:WGlobs w):
 Calls Tryd.prog 68 #[.string ⟨s.toArray⟩] w fun e w'=>e= .returned (.bool (wordB s))/\w=w':=by
 have c0:w.cell? ⟨0,0,none⟩=some (.string ⟨#[]⟩):=hg.cell 0;have c1:w.cell? ⟨0,1,none⟩=some (.string ⟨#[73,110,116]⟩):=hg.cell 1;have c2:w.cell? ⟨0,2,none⟩=some (.string ⟨#[66,111,111,108]⟩):=hg.cell 2;have c3:w.cell? ⟨0,3,none⟩=some (.string ⟨#[84,101,120,116]⟩):=hg.cell 3;have c4:w.cell? ⟨0,4,none⟩=some (.string ⟨#[65,110,121]⟩):=hg.cell 4;clear hg;have i0: ∀W,(Instr.index 132 (.agg #[.string ⟨#[]⟩,.string ⟨#[73,110,116]⟩,.string ⟨#[66,111,111,108]⟩,.string ⟨#[84,101,120,116]⟩,.string ⟨#[65,110,121]⟩]) (.int .i64 0)).run Tryd.prog W= .ok (.string ⟨#[]⟩) W:=fun W=>by kernel_rfl
 have i1: ∀W,(Instr.index 132 (.agg #[.string ⟨#[]⟩,.string ⟨#[73,110,116]⟩,.string ⟨#[66,111,111,108]⟩,.string ⟨#[84,101,120,116]⟩,.string ⟨#[65,110,121]⟩]) (.int .i64 1)).run Tryd.prog W= .ok (.string ⟨#[73,110,116]⟩) W:=fun W=>by kernel_rfl
 have i2: ∀W,(Instr.index 132 (.agg #[.string ⟨#[]⟩,.string ⟨#[73,110,116]⟩,.string ⟨#[66,111,111,108]⟩,.string ⟨#[84,101,120,116]⟩,.string ⟨#[65,110,121]⟩]) (.int .i64 2)).run Tryd.prog W= .ok (.string ⟨#[66,111,111,108]⟩) W:=fun W=>by kernel_rfl
 have i3: ∀W,(Instr.index 132 (.agg #[.string ⟨#[]⟩,.string ⟨#[73,110,116]⟩,.string ⟨#[66,111,111,108]⟩,.string ⟨#[84,101,120,116]⟩,.string ⟨#[65,110,121]⟩]) (.int .i64 3)).run Tryd.prog W= .ok (.string ⟨#[84,101,120,116]⟩) W:=fun W=>by kernel_rfl
 have i4: ∀W,(Instr.index 132 (.agg #[.string ⟨#[]⟩,.string ⟨#[73,110,116]⟩,.string ⟨#[66,111,111,108]⟩,.string ⟨#[84,101,120,116]⟩,.string ⟨#[65,110,121]⟩]) (.int .i64 4)).run Tryd.prog W= .ok (.string ⟨#[65,110,121]⟩) W:=fun W=>by kernel_rfl
 go_enter Tryd.func68,Tryd.ntmps68
 go_wp2_with fail
 go_loopw [6] (fun ii wr=> ∃i:Int,ii= .int .i64 i/\0<=i/\i<=5/\Hid (NotYet s i)/\w=wr)
  (fun i _=>(5 - intOf i).toNat)
 case atStart=>exact ⟨0,rfl,by omega,by omega,Y1 ⟨fun h=>absurd h (by omega),fun h=>absurd h (by omega),fun h=>absurd h (by omega),fun h=>absurd h (by omega),fun h=>absurd h (by omega)⟩,rfl⟩
 case round=>
  obtain ⟨i,rfl,hi0,hi,HN,rfl⟩:=hrel;clear c0 c1 c2 c3 c4;have hc:i=0\/i=1\/i=2\/i=3\/i=4\/i=5:=by omega
  rcases hc with rfl | rfl | rfl | rfl | rfl | rfl
  {cases hq: (([]:List UInt8)==s)
   {have HN2:Hid (NotYet s 1):=Y1 (show ((1:Int)<=1->(([]:List UInt8)==s)=false)/\((2:Int)<=1->([73,110,116]==s)=false)/\((3:Int)<=1->([66,111,111,108]==s)=false)/\((4:Int)<=1->([84,101,120,116]==s)=false)/\((5:Int)<=1->([65,110,121]==s)=false) from ⟨fun _=>hq,fun h=>absurd h (by omega),fun h=>absurd h (by omega),fun h=>absurd h (by omega),fun h=>absurd h (by omega)⟩);have hqe:s.isEmpty=false:=by cases s <;> simp_all
    go_wp2
    go_roundw
    case rel=>exact ⟨1,rfl,by omega,by omega,HN2,trivial⟩
    case measure=>simp[intOf]}
   {have HF:Hid (wordB s=true):=Y1 (by unfold wordB; rw[hq]; simp);have hqe:s.isEmpty=true:=by cases s <;> simp_all
    go_wp2;go_ret;exact ⟨by rw[HF.out]; rfl,rfl⟩}}
  {cases hq: ([73,110,116]==s)
   {have HN2:Hid (NotYet s 2):=Y1 (show ((1:Int)<=2->(([]:List UInt8)==s)=false)/\((2:Int)<=2->([73,110,116]==s)=false)/\((3:Int)<=2->([66,111,111,108]==s)=false)/\((4:Int)<=2->([84,101,120,116]==s)=false)/\((5:Int)<=2->([65,110,121]==s)=false) from ⟨fun _=>HN.out.1 (by omega),fun _=>hq,fun h=>absurd h (by omega),fun h=>absurd h (by omega),fun h=>absurd h (by omega)⟩);go_wp2
    go_roundw
    case rel=>exact ⟨2,rfl,by omega,by omega,HN2,trivial⟩
    case measure=>simp[intOf]}
   {have HF:Hid (wordB s=true):=Y1 (by unfold wordB; rw[hq]; simp);go_wp2;go_ret;exact ⟨by rw[HF.out]; rfl,rfl⟩}}
  {cases hq: ([66,111,111,108]==s)
   {have HN2:Hid (NotYet s 3):=Y1 (show ((1:Int)<=3->(([]:List UInt8)==s)=false)/\((2:Int)<=3->([73,110,116]==s)=false)/\((3:Int)<=3->([66,111,111,108]==s)=false)/\((4:Int)<=3->([84,101,120,116]==s)=false)/\((5:Int)<=3->([65,110,121]==s)=false) from ⟨fun _=>HN.out.1 (by omega),fun _=>HN.out.2.1 (by omega),fun _=>hq,fun h=>absurd h (by omega),fun h=>absurd h (by omega)⟩);go_wp2
    go_roundw
    case rel=>exact ⟨3,rfl,by omega,by omega,HN2,trivial⟩
    case measure=>simp[intOf]}
   {have HF:Hid (wordB s=true):=Y1 (by unfold wordB; rw[hq]; simp);go_wp2;go_ret;exact ⟨by rw[HF.out]; rfl,rfl⟩}}
  {cases hq: ([84,101,120,116]==s)
   {have HN2:Hid (NotYet s 4):=Y1 (show ((1:Int)<=4->(([]:List UInt8)==s)=false)/\((2:Int)<=4->([73,110,116]==s)=false)/\((3:Int)<=4->([66,111,111,108]==s)=false)/\((4:Int)<=4->([84,101,120,116]==s)=false)/\((5:Int)<=4->([65,110,121]==s)=false) from ⟨fun _=>HN.out.1 (by omega),fun _=>HN.out.2.1 (by omega),fun _=>HN.out.2.2.1 (by omega),fun _=>hq,fun h=>absurd h (by omega)⟩);go_wp2
    go_roundw
    case rel=>exact ⟨4,rfl,by omega,by omega,HN2,trivial⟩
    case measure=>simp[intOf]}
   {have HF:Hid (wordB s=true):=Y1 (by unfold wordB; rw[hq]; simp);go_wp2;go_ret;exact ⟨by rw[HF.out]; rfl,rfl⟩}}
  {cases hq: ([65,110,121]==s)
   {have HN2:Hid (NotYet s 5):=Y1 (show ((1:Int)<=5->(([]:List UInt8)==s)=false)/\((2:Int)<=5->([73,110,116]==s)=false)/\((3:Int)<=5->([66,111,111,108]==s)=false)/\((4:Int)<=5->([84,101,120,116]==s)=false)/\((5:Int)<=5->([65,110,121]==s)=false) from ⟨fun _=>HN.out.1 (by omega),fun _=>HN.out.2.1 (by omega),fun _=>HN.out.2.2.1 (by omega),fun _=>HN.out.2.2.2.1 (by omega),fun _=>hq⟩);go_wp2
    go_roundw
    case rel=>exact ⟨5,rfl,by omega,by omega,HN2,trivial⟩
    case measure=>simp[intOf]}
   {have HF:Hid (wordB s=true):=Y1 (by unfold wordB; rw[hq]; simp);go_wp2;go_ret;exact ⟨by rw[HF.out]; rfl,rfl⟩}}
  {have HF:Hid (wordB s=false):=Y1 (by
    unfold wordB;obtain ⟨h0,h1,h2,h3,h4⟩:=HN.out;rw[h0 (by omega),h1 (by omega),h2 (by omega),h3 (by omega),h4 (by omega)]; rfl)
   go_wp2;go_ret;exact ⟨by rw[HF.out]; rfl,rfl⟩}
theorem Z0x {l:List UInt8} {b:Bool} (h: (l== [])=b):l.isEmpty=b:=by cases l <;> simp_all
theorem Z19 {l:List (List UInt8)}: ((l.length:Int)==0)=decide (l.length=0):=by rw[Bool.eq_iff_iff]; simp
theorem Z7j (t:Sh) (q:Ptr) (w:World) (hq:ShAt w w.heap.size q t) (hk:t.kind=9\/t.kind=10):
 Calls Tryd.prog 53 #[.agg (Y8 t q)] w
  fun e w'=>e= .returned (.bool (fits t))/\Below w.heap.size w w':=by
 have HS:=Y1 hq.small;have hB:=Z06 w t q;have HB:=Y1 hB;have hb0:=Z00 w (.cells (Y8 t q) 25);have HB0:=Y1 hb0;have HF:=Y1 (Z1T hk);have HO:Hid (ofOk t=(Lex.isName t.of_||(t.of_== []&&decide (t.kind=9)&& !plain t.name))):=Y1 rfl;have HPL:Hid (plain t.name=(t.name== [73,110,116]||t.name== [66,111,111,108]||t.name== [84,101,120,116]||t.name== [65,110,121])):=Y1 rfl;obtain ⟨h9,h10⟩: ((t.kind==9)=true\/(t.kind==9)=false/\(t.kind==10)=true)/\True:=⟨by rcases hk with h | h <;> simp[h],trivial⟩;have HD9:Hid (decide (t.kind=9)=(t.kind==9)):=Y1 (by rw[Bool.eq_iff_iff]; simp);clear hB hb0 hq h10 hk;rcases h9 with h9 | ⟨h9,h10⟩
 all_goals
  have H9:=Y1 h9;go_enter Tryd.func53,Tryd.ntmps53
  go_upto_region 1 with fail
  generalize hW0:w.alloc (.cells (Y8 t q) 25)=W0 at HB HB0 ⊢;clear hW0;obtain ⟨_,⟨c0,c1,c2,c3,c4⟩,_⟩:=HB.out
  go_upto_region 2 with fail
  go_cut [3] (fun p wx=>p= .bool (plain t.name)/\W0=wx)
  case first=>
   cases e1: (t.name== [73,110,116])
   {cases e2: (t.name== [66,111,111,108])
    {cases e3: (t.name== [84,101,120,116])
     {cases e4: (t.name== [65,110,121])
      all_goals
       have HE:Hid _:=Y1 (show plain t.name=_ from by rw[HPL.out,e1,e2,e3,e4])
       go_wp2_with fail
       go_meet
       exact ⟨by rw[HE.out]; rfl,rfl⟩}
     {have HE:Hid _:=Y1 (show plain t.name=_ from by rw[HPL.out,e1,e2,e3])
      go_wp2_with fail
      go_meet
      exact ⟨by rw[HE.out]; rfl,rfl⟩}}
    {have HE:Hid _:=Y1 (show plain t.name=_ from by rw[HPL.out,e1,e2])
     go_wp2_with fail
     go_meet
     exact ⟨by rw[HE.out]; rfl,rfl⟩}}
   {have HE:Hid _:=Y1 (show plain t.name=_ from by rw[HPL.out,e1])
    go_wp2_with fail
    go_meet
    exact ⟨by rw[HE.out]; rfl,rfl⟩}
  case rest=>
   obtain ⟨rfl,rfl⟩:=hcut;have hlo:=HS.out.o;have hln:=HS.out.n;generalize plain t.name=pl at HO ⊢
   go_upto_region 3 with fail
   go_cut [4] (fun o wx=>o= .bool (ofOk t)/\Below W0.heap.size W0 wx)
   case first=>
    have hw:=Z38 t.of_ hlo W0;have hblk:=HB.out.1;cases hn:Lex.isName t.of_
    {cases ho: (t.of_== [])
     {have HE:Hid (ofOk t=false):=Y1 (by rw[HO.out,hn,ho]; rfl);have hoe:=Z0x ho;rw[hn] at hw;clear hn ho
      go_wp2_with fail
      refine hw.mono ?_;rintro e w' ⟨rfl,hb'⟩;have c1':=(hb'.cell (p:=⟨w.heap.size,1,none⟩) hblk).trans c1
      go_wp2_with fail
      go_meet
      exact ⟨by (first | (rw[HE.out]; done) | (rw[HE.out]; rfl)),hb'⟩}
     {have HE:Hid (ofOk t=((t.kind==9)&& !pl)):=Y1 (by rw[HO.out,hn,ho,HD9.out]; rfl);rw[H9.out] at HE;have hoe:=Z0x ho;rw[hn] at hw;clear hn ho
      go_wp2_with fail
      refine hw.mono ?_;rintro e w' ⟨rfl,hb'⟩;have c1':=(hb'.cell (p:=⟨w.heap.size,1,none⟩) hblk).trans c1;have c0':=(hb'.cell (p:=⟨w.heap.size,0,none⟩) hblk).trans c0
      go_wp2_with fail
      go_meet
      exact ⟨by (first | (rw[HE.out]; done) | (rw[HE.out]; rfl)),hb'⟩}}
    {have HE:Hid (ofOk t=true):=Y1 (by rw[HO.out,hn]; rfl);rw[hn] at hw;clear hn
     go_wp2_with fail
     refine hw.mono ?_;rintro e w' ⟨rfl,hb'⟩
     go_wp2_with fail
     go_meet
     exact ⟨by (first | (rw[HE.out]; done) | (rw[HE.out]; rfl)),hb'⟩}
   case rest=>
    obtain ⟨rfl,hb'⟩:=hcut;have hbw:Below w.heap.size w _:=HB0.out.trans (hb'.mono HB0.out.size);obtain ⟨_,⟨d0,d1,d2,d3,d4⟩,_⟩:=HB.out.next hb';clear c0 c1 c2 c3 c4;have hw:=fun wx=>Z7c t.name hln wx;have hblk:=HB.out.1;generalize ofOk t=ok at HF ⊢;cases hn:Lex.isUpper t.name
    {rw[hn] at HF;simp only[hn] at hw;clear hn
     go_wp2_with fail
     refine (hw _).mono ?_;rintro e w' ⟨rfl,hb2⟩;go_wp2;go_ret;exact ⟨by rw[HF.out]; rfl,hbw.trans (hb2.mono hbw.size)⟩}
    {rw[hn] at HF;simp only[hn] at hw;clear hn;cases ok
     {go_wp2_with fail
      refine (hw _).mono ?_;rintro e w' ⟨rfl,hb2⟩;go_wp2;go_ret;exact ⟨by rw[HF.out]; rfl,hbw.trans (hb2.mono hbw.size)⟩}
     {have HX:=Y1 (HB.out.next hb');cases hz:decide (t.names.length=0)
      {have HF2:=HF;rw[hz] at HF2;have hz2: ((t.names.length:Int)==0)=false:=by rw[Z19]; exact hz
       have HZ:=Y1 hz;clear hz
       go_wp2_with fail
       refine (hw _).mono ?_;rintro e w' ⟨rfl,hb2⟩;obtain ⟨_,⟨e0,e1,e2,e3,e4⟩,_⟩:=HX.out.next hb2;go_wp2;go_ret;exact ⟨by rw[HF2.out]; rfl,hbw.trans (hb2.mono hbw.size)⟩}
      {have HF2:=HF;rw[hz] at HF2;have hz2: ((t.names.length:Int)==0)=true:=by rw[Z19]; exact hz
       clear hz
       go_wp2_with fail
       refine (hw _).mono ?_;rintro e w' ⟨rfl,hb2⟩;obtain ⟨_,⟨e0,e1,e2,e3,e4⟩,_⟩:=HX.out.next hb2;go_wp2;go_ret;exact ⟨Z0j (by rw[HF2.out,Bool.eq_iff_iff]; simp),hbw.trans (hb2.mono hbw.size)⟩}}}
end
end Go.Proofs.YtchklpedlbkgaaaDoor
