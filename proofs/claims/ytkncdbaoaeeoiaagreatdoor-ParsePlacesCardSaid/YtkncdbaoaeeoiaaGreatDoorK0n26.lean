/- What the proofs of ParsePlaces want, part 26. -/
import Derived.Test.YtkncdbaoaeeoiaaGreatDoorK0n18
import Derived.Test.YtkncdbaoaeeoiaaGreatDoorK0n25
set_option linter.unusedVariables false
set_option linter.unusedSimpArgs false
set_option linter.unusedSectionVars false
set_option maxRecDepth 100000
set_option maxHeartbeats 16000000
namespace Go.Proofs.YtkncdbaoaeeoiaaGreatDoor
section
open Go.RowKit
def ShowV (l:List Lex.Tok) (e:Ending):Prop:=(Lex.mayShow l/\e= .returned (.tuple #[.string ⟨(Lex.shown l).toArray⟩,.int .i64 0]))\/(¬Lex.mayShow l/\e= .returned (.tuple #[.string ⟨#[]⟩,.int .i64 60]))
theorem Z8V {l:List Lex.Tok} {t:Lex.Tok} (h:Lex.mayShow l) (ht:t=Lex.endTok\/Lex.good t):Lex.mayShow (l++ [t]):=fun x hx=>by
 rcases List.mem_append.1 hx with hx | hx
 {exact h x hx}
 {obtain rfl:x=t:=by simpa using hx
  exact ht}
theorem Z7I {l:List Tk} {k:Nat} (h:k < l.length): (l.map (·.t)).take (k+1)=(l.map (·.t)).take k++ [(l[k]'h).t]:=by
 rw[List.take_succ_eq_append_getElem (by simpa using h)]; simp
theorem ZbV (A:Option Addr) (cap:Nat) (l:List Tk) (w:World) (hA:Tks w w.heap.size A l) (hl:l.length<=10000) (hs: ∀b∈l,b.t.text.length<=100000) (hg:Globs w):
 Calls Tryz.prog 181 #[.slice A l.length cap] w fun e w'=>ShowV (l.map (·.t)) e/\Below w.heap.size w w':=by
 have HA:=Y1 hA;have HS:=Y1 hs;have HG:=Y1 hg;have HF:=Y1 (Lib.fresh_isBuilder 218 5 w);obtain ⟨ts,hts⟩: ∃ts,ts=l.map (·.t):=⟨_,rfl⟩;have htl:ts.length=l.length:=by rw[hts]; simp
 have HTS:=Y1 hts;have HTL:=Y1 htl;rw[<-hts];clear hA hs hg hts htl;go_enter Tryz.func181,Tryz.ntmps181
 go_wp2_with fail
 go_loopw [10] (fun ii wr=> ∃k:Nat,ii= .int .i64 k/\k<=l.length/\Hid (Lex.mayShow (ts.take k))/\Hid (Lib.IsBuilder 218 5 w.heap.size w.heap.size (Lib.byteCells (Lex.shown (ts.take k))) wr)/\Hid (Below w.heap.size w wr))
  (fun ii _=>l.length - (intOf ii).toNat)
 case atStart=>exact ⟨0,rfl,Nat.zero_le _,Y1 (fun x hx=>by rw[List.take_zero] at hx; cases hx),Y1 (by rw[List.take_zero]; exact HF.out),Y1 (Z01 _ _)⟩
 case round=>
  obtain ⟨k,rfl,hk,HM,HU,HB⟩:=hrel;clear HF;have hsl:=Lex.Zdk _ HM.out;rw[List.length_take,HTL.out] at hsl;have hsl2: (Lex.shown (ts.take k)).length<=4097 * 10000:=Nat.le_trans hsl (Nat.mul_le_mul_left _ (by omega));clear hsl;by_cases hlt:k < l.length
  {have hi1: (k:Int) < (l.length:Int):=by omega
   rcases HA.out.keep HB.out (Nat.le_refl _) with h0 | ⟨g,off,rfl,hgw,hc⟩
   {omega}
   {obtain ⟨p0,p1,p2⟩:=hc k hlt;obtain ⟨x,hx⟩: ∃x,x=l[k]'hlt:=⟨_,rfl⟩;rw[<-hx] at p0 p1 p2;have hxl:x.t.text.length<=100000:=by rw[hx]; exact HS.out _ (List.getElem_mem _)
    have HT:Hid (ts.take (k+1)=ts.take k++ [x.t]):=Y1 (by rw[HTS.out,hx]; exact Z7I hlt);have hxm:x.t∈ts:=by rw[HTS.out,hx]; exact List.mem_map.2 ⟨_,List.getElem_mem hlt,rfl⟩
    have HXM:=Y1 hxm;have HN:=Y1 (Zdo wr x);have HNL:Hid (wr.heap.size < (wr.alloc (.cells #[.int .i64 x.t.kind,.string ⟨x.t.text.toArray⟩,.int .i64 x.at_] 54)).heap.size):=Y1 (by simp);have hb1:=Z01 wr (.cells #[.int .i64 x.t.kind,.string ⟨x.t.text.toArray⟩,.int .i64 x.at_] 54);have HU1:=Y1 (Z1p HU.out hb1);have HB1:=Y1 (Z00 HB.out hb1);clear hx hc hxm hb1
    go_wp2_with fail
    generalize hW:wr.alloc (.cells #[.int .i64 x.t.kind,.string ⟨x.t.text.toArray⟩,.int .i64 x.at_] 54)=W1 at HN HNL HU1 HB1 ⊢;clear hW p0 p1 p2;obtain ⟨q0,q1,q2⟩:=HN.out;simp only[Nat.zero_add] at q1 q2
    try go_wp2_with fail
    refine (Z7B x.t.kind x.t.text (by omega) x.at_ _).mono ?_;rintro e w2 ⟨rfl,hb2⟩;clear q0 q1 q2;have hW2: (⟨x.t.kind,x.t.text⟩:Lex.Tok)=x.t:=rfl;rw[hW2];have HN2:=Y1 (HN.out.keep HNL.out hb2);have HNL2:Hid (wr.heap.size < w2.heap.size):=Y1 (Nat.lt_of_lt_of_le HNL.out hb2.size);have HU2:=Y1 (Z1p HU1.out hb2);have HB2:=Y1 (Z00 HB1.out hb2);have HWL:=Y1 (Lex.Z4Y x.t);have HWR:=Y1 (fun (b:Bool) (hb:b=true ↔ (x.t=Lex.endTok\/Lex.good x.t))=>Z9Z x.t x.at_ (by omega) b hb w2 (HG.out.next HB2.out));have HSN:=Y1 (Lex.ZbJ (ts.take k) x.t);obtain ⟨s,hs⟩: ∃s,s=Lex.written x.t:=⟨_,rfl⟩;rw[<-hs] at HWR HWL HSN ⊢;clear hs hb2 HN HNL HU1 HB1 hW2;obtain ⟨q0,q1,q2⟩:=HN2.out;simp only[Nat.zero_add] at q1 q2;by_cases hgd:x.t=Lex.endTok\/Lex.good x.t
    {have HC:=Y1 (HWR.out true (by simp[hgd]));have HM2:Hid (Lex.mayShow (ts.take (k+1))):=Y1 (by rw[HT.out]; exact Z8V HM.out hgd);have HGD:=Y1 hgd;clear hgd;by_cases hend:x.t=Lex.endTok
     {have hk0: (x.t.kind==0)=true:=by rw[hend]; rfl
      have HSE:Hid (Lex.shown (ts.take (k+1))=Lex.shown (ts.take k)):=Y1 (by rw[HT.out,HSN.out,if_pos hend]);clear hend
      go_wp2_with fail
      refine HC.out.mono ?_;rintro e w3 ⟨rfl,hb3⟩;have HN3:=Y1 (HN2.out.keep HNL2.out hb3);have HU3:=Y1 (Z1p HU2.out hb3);have HB3:=Y1 (Z00 HB2.out hb3);clear q0 q1 q2 hb3;obtain ⟨q0,q1,q2⟩:=HN3.out;go_wp2
      go_roundw
      case rel=>exact ⟨k+1,by go_num,by omega,HM2,Y1 (by rw[HSE.out]; exact HU3.out),HB3⟩
      case measure=>simp[intOf]; omega}
     {have hgood:Lex.good x.t:=by
       rcases HGD.out with h | h
       {exact absurd h hend}
       {exact h}
      have hk0: (x.t.kind==0)=false:=by rw[beq_eq_false_iff_ne]; have:=(Lex.Z4T hgood).1; omega
      by_cases hkp:Lex.kept (ts.take k)= []
      {have hz0: (Lex.shown (ts.take k)).length=0:=by rw[(Lex.Z4U HM.out).2 hkp]; rfl
       have HSE:Hid (Lex.shown (ts.take (k+1))=Lex.shown (ts.take k)++s):=Y1 (by rw[HT.out,HSN.out,if_neg hend,if_pos hkp,(Lex.Z4U HM.out).2 hkp]; rfl);have hbl: ((Lib.byteCells (Lex.shown (ts.take k))).length:Int)=0:=by rw[Lib.byteCells_length,hz0]; rfl
       have HBL:=Y1 hbl;clear hend hgood hkp hz0 hbl
       go_wp2_with fail
       refine HC.out.mono ?_;rintro e w3 ⟨rfl,hb3⟩;have HN3:=Y1 (HN2.out.keep HNL2.out hb3);have HU3:=Y1 (Z1p HU2.out hb3);have HB3:=Y1 (Z00 HB2.out hb3);clear q0 q1 q2 hb3;obtain ⟨q0,q1,q2⟩:=HN3.out
       go_wp2_with fail
       refine (Tryz.builder_len _ _ _ _ HU3.out).mono ?_;rintro e w4 ⟨he,rfl⟩;rw[HBL.out] at he;subst he
       go_wp2_with fail
       refine (Tryz.builder_write _ _ _ _ _ HU3.out (by rw[Z07,Lib.byteCells_length]; have:=HWL.out; omega) HB3.out.size).mono ?_;rintro e w5 ⟨rfl,hu5,hb5⟩;have HU5:Hid (Lib.IsBuilder 218 5 w.heap.size w.heap.size (Lib.byteCells (Lex.shown (ts.take (k+1)))) w5):=Y1 (Or.inr (by rw[HSE.out,Lib.byteCells_append]; exact hu5));have HB5:=Y1 (HB3.out.trans hb5);clear hu5 hb5;go_wp2
       go_roundw
       case rel=>exact ⟨k+1,by go_num,by omega,HM2,HU5,HB5⟩
       case measure=>simp[intOf]; omega}
      {have hz0:0 < (Lex.shown (ts.take k)).length:=by
        rcases Nat.eq_zero_or_pos (Lex.shown (ts.take k)).length with h | h
        {exact absurd ((Lex.Z4U HM.out).1 (List.eq_nil_of_length_eq_zero h)) hkp}
        {exact h}
       have HSE:Hid (Lex.shown (ts.take (k+1))=(Lex.shown (ts.take k)++ [32])++s):=Y1 (by rw[HT.out,HSN.out,if_neg hend,if_neg hkp]; simp);obtain ⟨z,hzz⟩: ∃z:Nat,z=(Lib.byteCells (Lex.shown (ts.take k))).length:=⟨_,rfl⟩;have hz1: (0:Int) < (z:Int):=by rw[hzz,Lib.byteCells_length]; omega
       have HZZ:=Y1 hzz;clear hend hgood hkp hz0 hzz
       go_wp2_with fail
       refine HC.out.mono ?_;rintro e w3 ⟨rfl,hb3⟩;have HN3:=Y1 (HN2.out.keep HNL2.out hb3);have HU3:=Y1 (Z1p HU2.out hb3);have HB3:=Y1 (Z00 HB2.out hb3);clear q0 q1 q2 hb3;obtain ⟨q0,q1,q2⟩:=HN3.out
       go_wp2_with fail
       refine (Tryz.builder_len _ _ _ _ HU3.out).mono ?_;rintro e w4 ⟨he,rfl⟩;rw[<-HZZ.out] at he;subst he
       go_wp2_with fail
       refine (Tryz.builder_write _ _ _ ⟨#[32]⟩ _ HU3.out (by rw[show (⟨#[32]⟩:ByteArray).size=1 from rfl,Lib.byteCells_length]; omega) HB3.out.size).mono ?_;rintro e w5 ⟨rfl,hu5,hb5⟩;have HU5:Hid (Lib.IsBuilder 218 5 w.heap.size w.heap.size (Lib.byteCells (Lex.shown (ts.take k)++ [32])) w5):=Y1 (Or.inr (by rw[Lib.byteCells_append]; exact hu5));have HB5:=Y1 (HB3.out.trans hb5);clear hu5 hb5 q0 q1 q2
       go_wp2_with fail
       refine (Tryz.builder_write _ _ _ _ _ HU5.out (by rw[Z07,Lib.byteCells_length,List.length_append]; simp; have:=HWL.out; omega) HB5.out.size).mono ?_;rintro e w6 ⟨rfl,hu6,hb6⟩;have HU6:Hid (Lib.IsBuilder 218 5 w.heap.size w.heap.size (Lib.byteCells (Lex.shown (ts.take (k+1)))) w6):=Y1 (Or.inr (by rw[HSE.out,Lib.byteCells_append]; exact hu6));have HB6:=Y1 (HB5.out.trans hb6);clear hu6 hb6;go_wp2
       go_roundw
       case rel=>exact ⟨k+1,by go_num,by omega,HM2,HU6,HB6⟩
       case measure=>simp[intOf]; omega}}}
    {have HC:=Y1 (HWR.out false (by simp[hgd]));have HNO:Hid (¬Lex.mayShow ts):=Y1 (fun h=>hgd (h _ HXM.out));clear hgd
     go_wp2_with fail
     refine HC.out.mono ?_;rintro e w3 ⟨rfl,hb3⟩;have HB3:=Y1 (Z00 HB2.out hb3);go_wp2
     go_ret2
     exact ⟨Or.inr ⟨HNO.out,rfl⟩,HB3.out⟩}}}
  {have hi1: ¬(k:Int) < (l.length:Int):=by omega
   have HT:Hid (ts.take k=ts):=Y1 (List.take_of_length_le (by rw[HTL.out]; omega));have HU2:=HU.out;have HM2:=HM.out;rw[HT.out] at HU2 HM2;have HUU:=Y1 HU2;have HMM:=Y1 HM2;clear HU2 HM2
   go_wp2_with fail
   refine (Tryz.builder_text _ _ _ _ HUU.out HB.out.size).mono ?_;rintro e w2 ⟨rfl,hb2⟩;go_wp2
   go_ret2
   exact ⟨Or.inl ⟨HMM.out,rfl⟩,HB.out.trans hb2⟩}
end
section
open Go.RowKit Tms
open Shp (Sh)
open Pso (St Ok Goes betw loop want)
theorem Z6L (s:List UInt8) (hs:s.length<=100000) (w:World) (hg:Gl w):
 Y9 166 #[.string ⟨s.toArray⟩] w (.bool (Lex.number s)):=by
 have hb0:=Z01 w (.cells #[.int .i64 3,.string ⟨s.toArray⟩,.int .i64 0] 54);obtain ⟨c0,c1,c2⟩:=ZaE w ⟨⟨3,s⟩,0⟩;have hT:Tks (w.alloc (.cells #[.int .i64 3,.string ⟨s.toArray⟩,.int .i64 0] 54)) (w.alloc (.cells #[.int .i64 3,.string ⟨s.toArray⟩,.int .i64 0] 54)).heap.size (some ⟨w.heap.size,0,none⟩) [⟨⟨3,s⟩,0⟩]:=by
  refine Or.inr ⟨w.heap.size,0,rfl,by simp,fun i hi=> ?_⟩;have h0:i=0:=by simpa using hi
  subst h0;exact ⟨c0,c1,c2⟩
 have HSH:=Y1 (ZbV (some ⟨w.heap.size,0,none⟩) 1 [⟨⟨3,s⟩,0⟩] _ hT (by simp) (by simp; exact hs) (hg.next hb0).g);have HB0:=Y1 hb0;have HN:=Y1 (Lex.Zab s);clear hb0 c0 c1 c2 hT;go_enter Tryz.func166,Tryz.ntmps166
 go_wp2_with fail
 refine HSH.out.mono ?_;rintro e w1 ⟨hv,hb1⟩;have HB1:=Y1 (Z00 HB0.out hb1);clear hb1 HSH HB0;rcases hv with ⟨hm,rfl⟩ | ⟨hm,rfl⟩
 {have hm2:Lex.number s=true:=HN.out.1 hm;have HM:=Y1 hm2;clear hm hm2;go_wp2;go_ret;exact ⟨by rw[HM.out]; rfl,HB1.out⟩}
 {have hm2:Lex.number s=false:=by
   cases e:Lex.number s with
   | false=>rfl
   | true=>exact absurd (HN.out.2 e) hm
  have HM:=Y1 hm2;clear hm hm2;go_wp2;go_ret;exact ⟨by rw[HM.out]; rfl,HB1.out⟩}
theorem Zdx (l:List Tk) (σ:St) (w:World) (hg:Gl w) (ht: ∀b∈l,b.t.text.length<=1000000):Calls Tryz.prog 165 #[.string ⟨(Pso.textOf l σ 3 Lex.number).1.toArray⟩] w fun e w'=>(∃v1,e= .returned (.tuple #[.int .i64 (Prs.num (Pso.textOf l σ 3 Lex.number).1 0),v1]))/\Below w.heap.size w w':=by
 unfold Pso.textOf;split
 {next h=>
  simp only[Bool.and_eq_true,decide_eq_true_eq] at h;have h1:=Pso.kind_lt (l:=l) (i:=σ.1) (by rw[h.1]; decide);have h2: (Prs.look l σ.1).t.text.length<=1000000:=by rw[Prs.look_in h1]; exact ht _ (List.getElem_mem _)
  exact (Z53 _ (by omega) _ (Prs.atoi_number h.2) w).mono (fun e w' h=>⟨⟨_,h.1⟩,h.2⟩)}
 {obtain ⟨te,pe,h1⟩:=hg.g.syn;have ha:Lib.atoiAll ([]:List UInt8)= .syntax:=by rfl
  have hi:=Any.strconv_Atoi_syntax Tryz.lays172 ⟨([]:List UInt8).toArray⟩ (by simp[ByteArray.size]) ha _ w h1 (Or.inr ⟨te,pe,rfl⟩);refine Calls.mono hi ?_;rintro e w' ⟨N,rfl,_,_,hb⟩;exact ⟨⟨_,rfl⟩,hb⟩}
section
variable (bp : Nat) (A : Option Addr) (c : Nat) (l : List Tk)
include bp A c l
theorem Zac (σ:St) (a:Int) (hl:TokOk l) (ha: -9223372036854775808<=a/\a<=9223372036854775807) (hσ:Ok l σ) (w:World) (h:PAt w bp A c l σ):
 Calls Tryz.prog 132 #[.pointer (some ⟨bp,0,none⟩),.int .i64 a] w (TmIs bp A c l ({ Prs.tm 1 a with n:=Prs.num (Pso.textOf l σ 3 Lex.number).1 0 },(Pso.textOf l σ 3 Lex.number).2) w):=by
 have hbw:=h.lt;have HLEN:=hl.len;have hb0:=Z01 w (.cells Ya 26);have hz0:=Z0h w (.int .i64 0) (.string ⟨#[]⟩) (.string ⟨#[]⟩) (.int .i64 0) (.slice none 0 0) (.slice none 0 0) (.slice none 0 0) (.slice none 0 0) (.int .i64 0) 26;have hp0:=h.below hb0;have HT:=Y1 (Z2A bp A c l σ 3 (by decide) 166 (enters_of Tryz.func166 (by kernel_rfl) rfl) Lex.number (by omega) hσ.1 hl.txt _ hp0 (fun W hW hk=>Z6L _ (by
  have h1:=Pso.kind_lt (l:=l) (i:=σ.1) (by rw[hk]; decide);rw[Prs.look_in h1]; exact hl.t2 _ (List.getElem_mem h1)) W (hp0.gs.gl.next hW)))
 have HAT:=Y1 (fun (w:World) (hg:Gl w)=>Zdx l σ w hg hl.txt);have hnum: -9223372036854775808<=Prs.num (Pso.textOf l σ 3 Lex.number).1 0/\Prs.num (Pso.textOf l σ 3 Lex.number).1 0<=9223372036854775807:=by
  unfold Pso.textOf;split
  {next h=>
   simp only[Bool.and_eq_true,decide_eq_true_eq] at h;obtain ⟨e,hlt⟩:=Prs.num_number h.2;simp only[e]; omega}
  {exact ⟨show (-9223372036854775808:Int)<=0 by decide,show (0:Int)<=9223372036854775807 by decide⟩}
 have HB0:=Y1 hb0;have HZ0:=Y1 hz0;have HNM:=Y1 hnum;obtain ⟨y,hy⟩: ∃y,y=Pso.textOf l σ 3 Lex.number:=⟨_,rfl⟩;rw[<-hy] at HT HAT HNM ⊢;obtain ⟨k,hk⟩: ∃k,k=Prs.num y.1 0:=⟨_,rfl⟩;rw[<-hk] at HAT HNM ⊢;have HA:=Y1 ha;clear h hb0 hz0 hp0 hnum hy hk hl ha;go_enter Tryz.func132,Tryz.ntmps132
 go_wp2_with fail
 refine HT.out.mono ?_;rintro e w1 ⟨rfl,hp1,hu1⟩;have hs1:w.heap.size+1<=w1.heap.size:=by have:=hu1.size; simpa using this
 have HP1:=Y1 hp1;have HU1:=Y1 ((Z05 (F:= [bp]) HB0.out).trans hu1);have HZ1:=Y1 (HZ0.out.up hu1 (by simp; omega));clear hp1 hu1 HT HB0 HZ0
 go_wp2_with fail
 refine (HAT.out w1 HP1.out.gs.gl).mono ?_;rintro e w2 ⟨⟨v1,rfl⟩,hb2⟩;have hz2:=hb2.size;have HP2:=Y1 (HP1.out.below hb2);have HU2:=Y1 (HU1.out.below hb2);obtain ⟨r0,r1,r2,r3,r4,r5,r6,r7,r8,rf,rl⟩:=HZ1.out.below hb2;have f0:=rf 0;have f1:=rf 1;have f2:=rf 2;have f3:=rf 3;have f4:=rf 4;have f5:=rf 5;have f6:=rf 6;have f7:=rf 7;have f8:=rf 8;clear hb2 HAT HP1 HU1 HZ1 rf;go_wp2;refine bodyPost_ret (v:=valT ⟨mkT ⟨1,[],[],k,a⟩ TR.none_,mkQ TR.none_,w2.heap.size,w2.heap.size⟩) (by simp[results,Tryz.results132,go_sem,valT,mkT,mkQ,TR.none_,r0,r1,r2,r3,r4,r5,r6,r7,r8,rl]) rfl ?_;have hE:=end9 HP2.out HU2.out (Z2p w2 ⟨1,[],[],k,a⟩ ⟨by simp,by simp,HNM.out,HA.out,by simp⟩) (rb:=w.heap.size) (Nat.le_refl _) (Or.inl (by simp only; omega)) hbw;exact ⟨_,rfl,(hE _ _ _ _ _ _ _ _ _).1,(hE _ _ _ _ _ _ _ _ _).2.1,(hE _ _ _ _ _ _ _ _ _).2.2,by simp only; omega,rfl,Z1Y _⟩
theorem Zdy (m:Nat) (σ:St) (a:Int) (hl:TokOk l) (ha: -9223372036854775808<=a/\a<=9223372036854775807) (hσ:Ok l σ) (hE:ExC bp A c l m) (hm:l.length - σ.1 < m+1) (w:World) (h:PAt w bp A c l σ):
 Calls Tryz.prog 97 #[.pointer (some ⟨bp,0,none⟩),.int .i64 a] w (TmIs bp A c l (Pso.atomE l (Pso.expr l m) σ a) w):=by
 have hbw:=h.lt;have HLEN:=hl.len;have hb0:=Z01 w (.cells Ya 26);have HP:=Y1 (h.below hb0);have HB0:=Y1 hb0;have HV:=Y1 (UpT.refl [bp] (w.alloc (.cells Ya 26)));have HZ0:=Y1 (Z0h w (.int .i64 0) (.string ⟨#[]⟩) (.string ⟨#[]⟩) (.int .i64 0) (.slice none 0 0) (.slice none 0 0) (.slice none 0 0) (.slice none 0 0) (.int .i64 0) 26);have HL:=Y1 hl;have HA:=Y1 ha;have HE:=Y1 hE;have hfd:=Z6x (Prs.look l σ.1).t.kind ⟨(Prs.look l σ.1).t.text.toArray⟩ (Prs.look l σ.1).at_;clear h hb0 hl ha hE;go_enter Tryz.func97,Tryz.ntmps97
 go_wp2_with fail
 rcases Bool.eq_false_or_eq_true (Prs.sign l σ.1 [116,114,117,101]) with s0 | s0
 rotate_left
 refine (hidC (Z0C s0 HLEN hσ.1 _ HP.out) HV).mono ?_;rintro e W ⟨rfl,HP,HV⟩
 go_wp2_with fail
 rcases Bool.eq_false_or_eq_true (Prs.sign l σ.1 [102,97,108,115,101]) with s1 | s1
 rotate_left
 refine (hidC (Z0C s1 HLEN hσ.1 _ HP.out) HV).mono ?_;rintro e W ⟨rfl,HP,HV⟩
 go_wp2_with fail
 rcases Bool.eq_false_or_eq_true (Prs.sign l σ.1 [40]) with s2 | s2
 rotate_left
 refine (hidC (Z0C s2 HLEN hσ.1 _ HP.out) HV).mono ?_;rintro e W ⟨rfl,HP,HV⟩
 go_wp2_with fail
 rcases Bool.eq_false_or_eq_true (Prs.sign l σ.1 [123]) with s3 | s3
 rotate_left
 refine (hidC (Z0A s3 HLEN hσ.1 _ HP.out) HV).mono ?_;rintro e W ⟨rfl,HP,HV⟩
 go_wp2_with fail
 rcases Bool.eq_false_or_eq_true (Prs.sign l σ.1 [64]) with s4 | s4
 rotate_left
 refine (hidC (Z0C s4 HLEN hσ.1 _ HP.out) HV).mono ?_;rintro e W ⟨rfl,HP,HV⟩
 go_wp2_with fail
 rcases Bool.eq_false_or_eq_true (Prs.sign l σ.1 [110,101,119]) with s5 | s5
 rotate_left
 refine (hidC (Z0C s5 HLEN hσ.1 _ HP.out) HV).mono ?_;rintro e W ⟨rfl,HP,HV⟩
 go_wp2_with fail
 rcases Bool.eq_false_or_eq_true (Prs.sign l σ.1 [114,97,119]) with s6 | s6
 rotate_left
 refine (hidC (Z0C s6 HLEN hσ.1 _ HP.out) HV).mono ?_;rintro e W ⟨rfl,HP,HV⟩
 go_wp2_with fail
 refine (hidC (Z1A HLEN hσ.1 _ HP.out) HV).mono ?_;rintro e W ⟨rfl,HP,HV⟩;by_cases k3: (Prs.look l σ.1).t.kind=3;have HF:Hid (Pso.atomE l (Pso.expr l m) σ a=({ Prs.tm 1 a with n:=Prs.num (Pso.textOf l σ 3 Lex.number).1 0 },(Pso.textOf l σ 3 Lex.number).2)):=Y1 (by unfold Pso.atomE; simp only; rw[if_neg (by rw[s0]; simp),if_neg (by rw[s1]; simp),if_neg (by rw[s2]; simp),if_neg (by rw[s3]; simp),if_neg (by rw[s4]; simp),if_neg (by rw[s5]; simp),if_neg (by rw[s6]; simp),if_pos k3]);have hk3: ((Prs.look l σ.1).t.kind==3)=true:=by simpa using k3
 clear k3
 rotate_left
 have hk3: ((Prs.look l σ.1).t.kind==3)=false:=by simpa using k3
 have K3:=Y1 k3;clear k3
 go_wp2_with fail
 refine (hidC (Z1A HLEN hσ.1 _ HP.out) HV).mono ?_;rintro e W ⟨rfl,HP,HV⟩;by_cases k4: (Prs.look l σ.1).t.kind=4;have HF:Hid (Pso.atomE l (Pso.expr l m) σ a=({ Prs.tm 2 a with name:=(Pso.textOf l σ 4 Pso.isText).1 },(Pso.textOf l σ 4 Pso.isText).2)):=Y1 (by unfold Pso.atomE; simp only; rw[if_neg (by rw[s0]; simp),if_neg (by rw[s1]; simp),if_neg (by rw[s2]; simp),if_neg (by rw[s3]; simp),if_neg (by rw[s4]; simp),if_neg (by rw[s5]; simp),if_neg (by rw[s6]; simp),if_neg K3.out,if_pos k4]);have hk4: ((Prs.look l σ.1).t.kind==4)=true:=by simpa using k4
 have K4:=Y1 k4;clear k4
 rotate_left
 have HF:Hid (Pso.atomE l (Pso.expr l m) σ a=Pso.valueE l σ a):=Y1 (by unfold Pso.atomE; simp only; rw[if_neg (by rw[s0]; simp),if_neg (by rw[s1]; simp),if_neg (by rw[s2]; simp),if_neg (by rw[s3]; simp),if_neg (by rw[s4]; simp),if_neg (by rw[s5]; simp),if_neg (by rw[s6]; simp),if_neg K3.out,if_neg k4]);have hk4: ((Prs.look l σ.1).t.kind==4)=false:=by simpa using k4
 clear k4
 go_wp2_with fail
 refine (hidT (w.heap.size+1) (ZbT bp A c l σ a HL.out HA.out hσ _ HP.out) HV (by simp)).mono ?_
 rotate_left
 {have HF:Hid (Pso.atomE l (Pso.expr l m) σ a=(Prs.tm 3 a,(σ.1+1,σ.2))):=Y1 (by unfold Pso.atomE; simp only; rw[if_pos s0]);refine (hidC (Z0N s0 HLEN hσ.1 _ HP.out) HV).mono ?_;rintro e W ⟨rfl,HP,HV⟩;have hs:w.heap.size+1<=W.heap.size:=by have:=HV.out.size; simpa using this
  obtain ⟨r0,r1,r2,r3,r4,r5,r6,r7,r8,f0,f1,f2,f3,f4,f5,f6,f7,f8,rl⟩:=HZ0.out.upf HV.out (by simp; omega);go_wp2;refine bodyPost_ret (v:=valT ⟨mkT ⟨3,[],[],0,a⟩ TR.none_,mkQ TR.none_,W.heap.size,W.heap.size⟩) (by simp[results,Tryz.results97,go_sem,valT,mkT,mkQ,TR.none_,r0,r1,r2,r3,r4,r5,r6,r7,r8,rl]) rfl ?_;have hE:=end9 HP.out ((Z05 (F:= [bp]) HB0.out).trans HV.out) (Z2p W ⟨3,[],[],0,a⟩ ⟨by simp,by simp,by simp,HA.out,by simp⟩) (rb:=w.heap.size) (Nat.le_refl _) (Or.inl (by simp only; omega)) hbw;rw[HF.out];exact ⟨_,rfl,(hE _ _ _ _ _ _ _ _ _).1,(hE _ _ _ _ _ _ _ _ _).2.1,(hE _ _ _ _ _ _ _ _ _).2.2,by simp only; omega,rfl,Z1Y _⟩}
 {have HF:Hid (Pso.atomE l (Pso.expr l m) σ a=(Prs.tm 4 a,(σ.1+1,σ.2))):=Y1 (by unfold Pso.atomE; simp only; rw[if_neg (by rw[s0]; simp),if_pos s1]);refine (hidC (Z0N s1 HLEN hσ.1 _ HP.out) HV).mono ?_;rintro e W ⟨rfl,HP,HV⟩;have hs:w.heap.size+1<=W.heap.size:=by have:=HV.out.size; simpa using this
  obtain ⟨r0,r1,r2,r3,r4,r5,r6,r7,r8,f0,f1,f2,f3,f4,f5,f6,f7,f8,rl⟩:=HZ0.out.upf HV.out (by simp; omega);go_wp2;refine bodyPost_ret (v:=valT ⟨mkT ⟨4,[],[],0,a⟩ TR.none_,mkQ TR.none_,W.heap.size,W.heap.size⟩) (by simp[results,Tryz.results97,go_sem,valT,mkT,mkQ,TR.none_,r0,r1,r2,r3,r4,r5,r6,r7,r8,rl]) rfl ?_;have hE:=end9 HP.out ((Z05 (F:= [bp]) HB0.out).trans HV.out) (Z2p W ⟨4,[],[],0,a⟩ ⟨by simp,by simp,by simp,HA.out,by simp⟩) (rb:=w.heap.size) (Nat.le_refl _) (Or.inl (by simp only; omega)) hbw;rw[HF.out];exact ⟨_,rfl,(hE _ _ _ _ _ _ _ _ _).1,(hE _ _ _ _ _ _ _ _ _).2.1,(hE _ _ _ _ _ _ _ _ _).2.2,by simp only; omega,rfl,Z1Y _⟩}
 have HF:Hid (Pso.atomE l (Pso.expr l m) σ a=Pso.enclosedE l (Pso.expr l m) (σ.1+1,σ.2) a):=Y1 (by unfold Pso.atomE; simp only; rw[if_neg (by rw[s0]; simp),if_neg (by rw[s1]; simp),if_pos s2]);refine (hidC (Z0N s2 HLEN hσ.1 _ HP.out) HV).mono ?_;rintro e W ⟨rfl,HP,HV⟩;have t1:=(Pso.to_next hσ (Pso.sign_lt s2)).1
 go_wp2_with fail
 refine (hidT (w.heap.size+1) (Z7H bp A c l m (σ.1+1,σ.2) a HL.out HA.out t1 HE.out (by have:=Pso.sign_lt s2; simp only; omega) _ HP.out) HV (by simp)).mono ?_
 rotate_left
 have HF:Hid (Pso.atomE l (Pso.expr l m) σ a=Pso.recordE l (Pso.expr l m) σ a):=Y1 (by unfold Pso.atomE; simp only; rw[if_neg (by rw[s0]; simp),if_neg (by rw[s1]; simp),if_neg (by rw[s2]; simp),if_pos s3]);refine (hidC (Z0A s3 HLEN hσ.1 _ HP.out) HV).mono ?_;rintro e W ⟨rfl,HP,HV⟩
 go_wp2_with fail
 refine (hidT (w.heap.size+1) (Z8M bp A c l m σ a HL.out HA.out hσ HE.out (by have:=Pso.sign_lt s3; rw[Z2k s3]; simp only; omega) _ HP.out) HV (by simp)).mono ?_
 rotate_left
 have HF:Hid (Pso.atomE l (Pso.expr l m) σ a=Pso.ofE l (Pso.expr l m) 10 (Pso.name l (σ.1+1,σ.2)).1 (Pso.name l (σ.1+1,σ.2)).2 a):=Y1 (by unfold Pso.atomE; simp only; rw[if_neg (by rw[s0]; simp),if_neg (by rw[s1]; simp),if_neg (by rw[s2]; simp),if_neg (by rw[s3]; simp),if_pos s4]);refine (hidC (Z0N s4 HLEN hσ.1 _ HP.out) HV).mono ?_;rintro e W ⟨rfl,HP,HV⟩;have t1:=(Pso.to_next hσ (Pso.sign_lt s4)).1;have t2:=Pso.to_name t1;have HNL:=Y1 (Z0q HL.out.txt (σ.1+1,σ.2) 1 (by decide) Lex.isName);have hlt:=Pso.sign_lt s4
 go_wp2_with fail
 refine (hidC (Z1a bp A c l (σ.1+1,σ.2) (by omega) t1.1 HL.out.txt _ HP.out) HV).mono ?_;rintro e W ⟨rfl,HP,HV⟩
 go_wp2_with fail
 refine (hidT (w.heap.size+1) (Z6K bp A c l m (Pso.name l (σ.1+1,σ.2)).2 10 (Pso.name l (σ.1+1,σ.2)).1 a HL.out HA.out (by omega) HNL.out t2.1 HE.out (by have:=t2.2.1; simp only at *; omega) _ HP.out) HV (by simp)).mono ?_
 rotate_left
 have HF:Hid (Pso.atomE l (Pso.expr l m) σ a=Pso.ofE l (Pso.expr l m) 16 (Pso.upperN l (σ.1+1,σ.2)).1 (Pso.upperN l (σ.1+1,σ.2)).2 a):=Y1 (by unfold Pso.atomE; simp only; rw[if_neg (by rw[s0]; simp),if_neg (by rw[s1]; simp),if_neg (by rw[s2]; simp),if_neg (by rw[s3]; simp),if_neg (by rw[s4]; simp),if_pos s5]);refine (hidC (Z0N s5 HLEN hσ.1 _ HP.out) HV).mono ?_;rintro e W ⟨rfl,HP,HV⟩;have t1:=(Pso.to_next hσ (Pso.sign_lt s5)).1;have t2:=Pso.to_upper t1;have HNL:=Y1 (Z0q HL.out.txt (σ.1+1,σ.2) 2 (by decide) Lex.isUpper);have hlt:=Pso.sign_lt s5
 go_wp2_with fail
 refine (hidC (Z2B bp A c l (σ.1+1,σ.2) (by omega) t1.1 HL.out.txt _ HP.out) HV).mono ?_;rintro e W ⟨rfl,HP,HV⟩
 go_wp2_with fail
 refine (hidT (w.heap.size+1) (Z6K bp A c l m (Pso.upperN l (σ.1+1,σ.2)).2 16 (Pso.upperN l (σ.1+1,σ.2)).1 a HL.out HA.out (by omega) HNL.out t2.1 HE.out (by have:=t2.2.1; simp only at *; omega) _ HP.out) HV (by simp)).mono ?_
 rotate_left
 have HF:Hid (Pso.atomE l (Pso.expr l m) σ a=Pso.ofE l (Pso.expr l m) 17 (Pso.upperN l (σ.1+1,σ.2)).1 (Pso.upperN l (σ.1+1,σ.2)).2 a):=Y1 (by unfold Pso.atomE; simp only; rw[if_neg (by rw[s0]; simp),if_neg (by rw[s1]; simp),if_neg (by rw[s2]; simp),if_neg (by rw[s3]; simp),if_neg (by rw[s4]; simp),if_neg (by rw[s5]; simp),if_pos s6]);refine (hidC (Z0N s6 HLEN hσ.1 _ HP.out) HV).mono ?_;rintro e W ⟨rfl,HP,HV⟩;have t1:=(Pso.to_next hσ (Pso.sign_lt s6)).1;have t2:=Pso.to_upper t1;have HNL:=Y1 (Z0q HL.out.txt (σ.1+1,σ.2) 2 (by decide) Lex.isUpper);have hlt:=Pso.sign_lt s6
 go_wp2_with fail
 refine (hidC (Z2B bp A c l (σ.1+1,σ.2) (by omega) t1.1 HL.out.txt _ HP.out) HV).mono ?_;rintro e W ⟨rfl,HP,HV⟩
 go_wp2_with fail
 refine (hidT (w.heap.size+1) (Z6K bp A c l m (Pso.upperN l (σ.1+1,σ.2)).2 17 (Pso.upperN l (σ.1+1,σ.2)).1 a HL.out HA.out (by omega) HNL.out t2.1 HE.out (by have:=t2.2.1; simp only at *; omega) _ HP.out) HV (by simp)).mono ?_
 rotate_left
 go_wp2_with fail
 refine (hidT (w.heap.size+1) (Zac bp A c l σ a HL.out HA.out hσ _ HP.out) HV (by simp)).mono ?_
 rotate_left
 {have HIT:=Y1 (fun (w':World) (hg:Gl w') (hk: (Prs.look l σ.1).t.kind=4)=>Za6 (Prs.look l σ.1).t.text (by
  have h1:=Pso.kind_lt (l:=l) (i:=σ.1) (by rw[hk]; decide);rw[Prs.look_in h1]; exact HL.out.txt _ (List.getElem_mem h1)) w' hg)
  have HNL:=Y1 (Z0q HL.out.txt σ 4 (by decide) Pso.isText)
  go_wp2_with fail
  refine (hidC (Z2A bp A c l σ 4 (by decide) 133 (enters_of Tryz.func133 (by kernel_rfl) rfl) Pso.isText (by omega) hσ.1 HL.out.txt _ HP.out (fun W hW hk=>HIT.out W (HP.out.gs.gl.next hW) hk)) HV).mono ?_;rintro e W ⟨rfl,HP,HV⟩;have hs:w.heap.size+1<=W.heap.size:=by have:=HV.out.size; simpa using this
  obtain ⟨r0,r1,r2,r3,r4,r5,r6,r7,r8,f0,f1,f2,f3,f4,f5,f6,f7,f8,rl⟩:=HZ0.out.upf HV.out (by simp; omega);go_wp2;refine bodyPost_ret (v:=valT ⟨mkT ⟨2,[],(Pso.textOf l σ 4 Pso.isText).1,0,a⟩ TR.none_,mkQ TR.none_,W.heap.size,W.heap.size⟩) (by simp[results,Tryz.results97,go_sem,valT,mkT,mkQ,TR.none_,r0,r1,r2,r3,r4,r5,r6,r7,r8,rl]) rfl ?_;have hE:=end9 HP.out ((Z05 (F:= [bp]) HB0.out).trans HV.out) (Z2p W ⟨2,[],(Pso.textOf l σ 4 Pso.isText).1,0,a⟩ ⟨by simp,HNL.out,by simp,HA.out,by simp⟩) (rb:=w.heap.size) (Nat.le_refl _) (Or.inl (by simp only; omega)) hbw;rw[HF.out];exact ⟨_,rfl,(hE _ _ _ _ _ _ _ _ _).1,(hE _ _ _ _ _ _ _ _ _).2.1,(hE _ _ _ _ _ _ _ _ _).2.2,by simp only; omega,rfl,Z1Y _⟩}
 all_goals
  rintro e W ⟨x,rfl,HP,HV,HX,hlo,HXT⟩;simp only[valT];obtain ⟨r0,r1,r2,r3,r4,r5,r6,r7,r8,f0,f1,f2,f3,f4,f5,f6,f7,f8,rl⟩:=HZ0.out.upf HV.out (by simp; omega);go_wp2;refine bodyPost_ret (v:=valT x) (by simp[results,Tryz.results97,go_sem,valT,r0,r1,r2,r3,r4,r5,r6,r7,r8,rl]) rfl ?_;have hE:=end9 HP.out ((Z05 (F:= [bp]) HB0.out).trans HV.out) HX.out (rb:=w.heap.size) (Nat.le_refl _) (Or.inl (by omega)) hbw;rw[HF.out];exact ⟨x,rfl,(hE _ _ _ _ _ _ _ _ _).1,(hE _ _ _ _ _ _ _ _ _).2.1,(hE _ _ _ _ _ _ _ _ _).2.2,by omega,HXT.out⟩
end
end
end Go.Proofs.YtkncdbaoaeeoiaaGreatDoor
