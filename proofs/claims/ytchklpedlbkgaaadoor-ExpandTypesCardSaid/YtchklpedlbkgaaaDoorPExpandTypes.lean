/- ExpandTypes: what an interface's types stand for is what the document says; for all values that the row lets in, with the program's variable laid as its text lays it. -/
import Derived.Test.YtchklpedlbkgaaaDoorTie
import Derived.Test.YtchklpedlbkgaaaDoorCards
import Derived.LaidMore
import Derived.Lay
import Derived.Test.YtchklpedlbkgaaaDoorK0n2
set_option linter.unusedVariables false
set_option linter.unusedSimpArgs false
set_option linter.unusedSectionVars false
set_option maxRecDepth 100000
set_option maxHeartbeats 16000000
namespace Go.Proofs.YtchklpedlbkgaaaDoor
section
open Go.RowKit Shp
open Expd (Bd put find Z0W)
def kI:Sh:=⟨1,[],[],[],[]⟩
def kL:Sh:=⟨5,[],[],[],[kI]⟩
def kA:Sh:=⟨9,[],[65],[],[]⟩
def kX:Sh:=⟨6,[],[],[[120],[97]],[kA,kI]⟩
def kU:Sh:=⟨6,[],[],[[120],[97]],[kL,kI]⟩
def kY:Sh:=⟨6,[],[],[[97],[120]],[kI,kL]⟩
def kE:List Bd:= [⟨[],[65],kL⟩]
theorem Z6H:check kX=0:=by decide+kernel
theorem Zbg:check kU=0:=by decide+kernel
theorem ZbV:put (find kE) kX=some kU:=by rfl
theorem ZbE:put (find []) kX=none:=by rfl
theorem Zaw:sorted kU=kY:=by kernel_rfl
theorem ZbF:Expd.resolve kE kX=(kY,0):=by rw[Expd.resolve_ok Z6H ZbV Zbg,Zaw]
theorem ZbG:Expd.resolve [] kX=(Z0W,110):=Expd.resolve_name Z6H ZbE
def kW (w:World):World:=(((((((w.alloc (.cells #[.int .i64 1,.string ⟨#[]⟩,.string ⟨#[]⟩,.slice none 0 0,.slice none 0 0] 25)).alloc (.cells #[.int .i64 1,.string ⟨#[]⟩,.string ⟨#[]⟩,.slice none 0 0,.slice none 0 0] 25)).alloc
 (.cells #[.int .i64 5,.string ⟨#[]⟩,.string ⟨#[]⟩,.slice none 0 0,.slice (some ⟨w.heap.size+1,0,none⟩) 1 1] 25)).alloc (.cells #[.int .i64 9,.string ⟨#[]⟩,.string ⟨#[65]⟩,.slice none 0 0,.slice none 0 0] 25)).alloc
 (.cells #[.string ⟨#[120]⟩,.string ⟨#[97]⟩] 9)).alloc (.cells #[.int .i64 9,.string ⟨#[]⟩,.string ⟨#[65]⟩,.slice none 0 0,.slice none 0 0,.int .i64 1,.string ⟨#[]⟩,.string ⟨#[]⟩,.slice none 0 0,.slice none 0 0] 25)).alloc
 (.cells #[.int .i64 6,.string ⟨#[]⟩,.string ⟨#[]⟩,.slice (some ⟨w.heap.size+1+1+1+1,0,none⟩) 2 2,.slice (some ⟨w.heap.size+1+1+1+1+1,0,none⟩) 2 2] 25)).alloc
 (.cells #[.string ⟨#[]⟩,.string ⟨#[65]⟩,.int .i64 5,.string ⟨#[]⟩,.string ⟨#[]⟩,.slice none 0 0,.slice (some ⟨w.heap.size+1,0,none⟩) 1 1] 54)
theorem Z1J (w:World): (kW w).heap.size=w.heap.size+8:=by simp[kW]
theorem Z4A (w:World):Below w.heap.size w (kW w):=Z0i (Z0i (Z0i (Z0i (Z0i (Z0i (Z0i (Z00 _ _) _) _) _) _) _) _) _
def kq0:Ptr:=⟨none,0,none,0⟩
def kqL (H:Nat):Ptr:=⟨none,0,some ⟨H+1,0,none⟩,1⟩
def kqX (H:Nat):Ptr:=⟨some ⟨H+1+1+1+1,0,none⟩,2,some ⟨H+1+1+1+1+1,0,none⟩,2⟩
theorem Z2y (W:World) (B:Nat) (t:Sh) (h1:t.names= []) (h2:t.parts= []) (h3:t.of_.length<=9223372036854775807) (h4:t.name.length<=9223372036854775807):ShAt W B kq0 t:=
 .mk _ _ 0 0 (fun _=>kq0) ⟨h3,h4,by rw[h1]; nofun,by rw[h1]; simp,by rw[h2]; simp,by rw[h1]; exact Nat.le_refl _,by rw[h2]; exact Nat.le_refl _,fun _=>rfl,fun _=>rfl⟩ (Or.inl (by rw[h1]; rfl)) (Or.inl (by rw[h2]; rfl)) (fun i h=>absurd h (by rw[h2]; simp)) (fun i h=>absurd h (by rw[h2]; simp))
section
variable (w : World)
include w
theorem kW_L:ShAt (kW w) (kW w).heap.size (kqL w.heap.size) kL:=by
 refine .mk _ _ (w.heap.size+1) 0 (fun _=>kq0) ⟨by decide,by decide,nofun,by decide,by decide,Nat.le_refl _,Nat.le_refl _,fun _=>rfl,nofun⟩ (Or.inl rfl) (Or.inr ⟨rfl,by rw[Z1J]; omega⟩) (fun i h=> ?_) (fun i h=> ?_)
 {have h1:i < 1:=h
  match i,h1 with
  | 0,_=>refine ⟨?_, ?_, ?_, ?_, ?_⟩ <;> simp[kW,go_sem,kL,kI,kq0]}
 {have h1:i < 1:=h
  match i,h1 with
  | 0,_=>exact Z2y _ _ kI rfl rfl (by decide) (by decide)}
theorem kW_X:ShAt (kW w) (kW w).heap.size (kqX w.heap.size) kX:=by
 refine .mk _ _ (w.heap.size+1+1+1+1+1) 0 (fun _=>kq0) ⟨by decide,by decide,by decide,by decide,by decide,Nat.le_refl _,Nat.le_refl _,nofun,nofun⟩ (Or.inr ⟨w.heap.size+1+1+1+1,0,rfl,by rw[Z1J]; omega,fun i hi=> ?_⟩) (Or.inr ⟨rfl,by rw[Z1J]; omega⟩) (fun i h=> ?_) (fun i h=> ?_)
 {have h2:i < 2:=hi
  match i,h2 with
  | 0,_=>simp[kW,go_sem,kX,strs]
  | 1,_=>simp[kW,go_sem,kX,strs]}
 {have h2:i < 2:=h
  match i,h2 with
  | 0,_=>refine ⟨?_, ?_, ?_, ?_, ?_⟩ <;> simp[kW,go_sem,kX,kA,kq0]
  | 1,_=>refine ⟨?_, ?_, ?_, ?_, ?_⟩ <;> simp[kW,go_sem,kX,kI,kq0]}
 {have h2:i < 2:=h
  match i,h2 with
  | 0,_=>exact Z2y _ _ kA rfl rfl (by decide) (by decide)
  | 1,_=>exact Z2y _ _ kI rfl rfl (by decide) (by decide)}
theorem kW_E:BdsAt (kW w) (kW w).heap.size (some ⟨w.heap.size+1+1+1+1+1+1+1,0,none⟩) kE:=by
 refine Or.inr ⟨w.heap.size+1+1+1+1+1+1+1,0,fun _=>kqL w.heap.size,rfl,by rw[Z1J]; omega,fun i h=> ?_⟩;have h1:i < 1:=h
 match i,h1 with
 | 0,_=>exact ⟨by simp[kW,go_sem,kE],by simp[kW,go_sem,kE],⟨by simp[kW,go_sem,kE,kL,kqL],by simp[kW,go_sem,kE,kL,kqL],by simp[kW,go_sem,kE,kL,kqL],by simp[kW,go_sem,kE,kL,kqL],by simp[kW,go_sem,kE,kL,kqL]⟩,kW_L w,by simp[kE],by simp[kE]⟩
theorem kW_i:Box5 (kW w) w.heap.size kI kq0:=by
 refine ⟨by rw[Z1J]; omega,⟨?_, ?_, ?_, ?_, ?_⟩, ?_, ?_, ?_, ?_, ?_⟩ <;> simp[kW,go_sem,kI,kq0]
theorem kW_l:Box5 (kW w) (w.heap.size+1+1) kL (kqL w.heap.size):=by
 refine ⟨by rw[Z1J]; omega,⟨?_, ?_, ?_, ?_, ?_⟩, ?_, ?_, ?_, ?_, ?_⟩ <;> simp[kW,go_sem,kL,kqL]
theorem kW_x:Box5 (kW w) (w.heap.size+1+1+1+1+1+1) kX (kqX w.heap.size):=by
 refine ⟨by rw[Z1J]; omega,⟨?_, ?_, ?_, ?_, ?_⟩, ?_, ?_, ?_, ?_, ?_⟩ <;> simp[kW,go_sem,kX,kqX]
theorem Z0V (hg:WGlobs w):Y9 8 #[] w (.bool true):=by
 have HBW:=Y1 (Z4A w);have HG:=Y1 (hg.next (Z4A w));have HI:=Y1 (kW_i w);have HL:=Y1 (kW_l w);have HX:=Y1 (kW_x w);have HXA:=Y1 (kW_X w);have HLA:=Y1 (kW_L w);have HSZ:=Y1 (Z1J w);have HR:=Y1 (Z13 kX (kqX w.heap.size) kE (some ⟨w.heap.size+1+1+1+1+1+1+1,0,none⟩) 1 (kW w) (kW_X w) (kW_E w) (by decide) (hg.next (Z4A w)));clear hg;go_enter Tryd.func8,Tryd.ntmps8
 go_wp2_with fail
 change Calls _ _ _ (kW w) _;obtain ⟨H,hH⟩: ∃H,H=w.heap.size:=⟨_,rfl⟩;rw[<-hH] at HI HL HX HXA HLA HR HSZ ⊢;generalize kW w=W0 at HBW HG HI HL HX HXA HLA HR HSZ ⊢;refine HR.out.mono ?_;rintro e w1 ⟨q1,he,hat,hb1⟩;rw[ZbF] at he hat;obtain ⟨z,hz⟩: ∃z,z=kY:=⟨_,rfl⟩;rw[<-hz] at he hat;subst he;have HZ:=Y1 hz;have hb2:=Z00 w1 (.cells (Y8 z q1) 25);have hbb:=Z02 hb1 hb2;have HB2:=Y1 hbb;have HBZ:=Y1 (Z07 w1 z q1);have HAT:=Y1 (hat.next hb2);have HG2:=Y1 (HG.out.next hbb);have HXA2:=Y1 (HXA.out.next hbb);obtain ⟨z1,⟨x0,x1,x2,x3,x4⟩,z2⟩:=HX.out.next hbb;simp only[Nat.zero_add] at x0 x1 x2 x3 x4;change (w1.alloc _).cell? _=some (.int .i64 6) at x0;change (w1.alloc _).cell? _=some (.string ⟨#[]⟩) at x1;change (w1.alloc _).cell? _=some (.string ⟨#[]⟩) at x2;change (w1.alloc _).cell? _=some (.slice (some ⟨H+1+1+1+1,0,none⟩) 2 2) at x3;change (w1.alloc _).cell? _=some (.slice (some ⟨H+1+1+1+1+1,0,none⟩) 2 2) at x4;have HR2:=Y1 (Z13 kX (kqX H) [] none 0 _ HXA2.out (Or.inl rfl) (by decide) HG2.out);clear hz hb1 hb2 hbb hat z1 z2 hH HR;unfold shV;obtain ⟨W2,hW2⟩: ∃W2,w1.alloc (.cells (Y8 z q1) 25)=W2:=⟨_,rfl⟩;rw[hW2] at x0 x1 x2 x3 x4 HR2 HB2 HBZ HAT HG2 HXA2
 go_wp2_with fail
 clear hW2;refine HR2.out.mono ?_;rintro e w3 ⟨q2,he, -,hb3⟩;rw[ZbG] at he;subst he;have hb4:=Z02 hb3 (Z00 w3 (.cells #[.int .i64 0,.string ⟨#[]⟩,.string ⟨#[]⟩,.slice q2.A 0 q2.c,.slice q2.P 0 q2.d] 25));have HB4:=Y1 (Z02 HB2.out hb4);have HBZ4:=Y1 (HBZ.out.next hb4);have HAT4:=Y1 (HAT.out.next hb4);clear x0 x1 x2 x3 x4 hb3 hb4 HR2
 try simp only
 unfold shV Z0W
 try simp only
 obtain ⟨W4,hW4⟩: ∃W4,w3.alloc (.cells #[.int .i64 0,.string ⟨#[]⟩,.string ⟨#[]⟩,.slice q2.A 0 q2.c,.slice q2.P 0 q2.d] 25)=W4:=⟨_,rfl⟩;rw[hW4] at HB4 HBZ4 HAT4;have hz8:H+8<=W4.heap.size:=by have:=HSZ.out; have:=HB4.out.size; omega
 have hn1:H≠W4.heap.size:=by omega
 have hn2:H+1+1≠W4.heap.size:=by omega
 obtain ⟨z1,⟨x0,x1,x2,x3,x4⟩,z2⟩:=HBZ4.out;obtain ⟨z3,⟨i0,i1,i2,i3,i4⟩,z4⟩:=(HI.out.next HB4.out).next (Z00 W4 (.cells #[.string ⟨#[97]⟩,.string ⟨#[120]⟩] 9));obtain ⟨z5,⟨l0,l1,l2,l3,l4⟩,z6⟩:=(HL.out.next HB4.out).next (Z00 W4 (.cells #[.string ⟨#[97]⟩,.string ⟨#[120]⟩] 9));simp only[Nat.zero_add] at x0 x1 x2 x3 x4 i0 i1 i2 i3 i4 l0 l1 l2 l3 l4;change (W4.alloc _).cell? _=some (.int .i64 1) at i0;change (W4.alloc _).cell? _=some (.string ⟨#[]⟩) at i1;change (W4.alloc _).cell? _=some (.string ⟨#[]⟩) at i2;change (W4.alloc _).cell? _=some (.slice none 0 0) at i3;change (W4.alloc _).cell? _=some (.slice none 0 0) at i4;change (W4.alloc _).cell? _=some (.int .i64 5) at l0;change (W4.alloc _).cell? _=some (.string ⟨#[]⟩) at l1;change (W4.alloc _).cell? _=some (.string ⟨#[]⟩) at l2;change (W4.alloc _).cell? _=some (.slice none 0 0) at l3;change (W4.alloc _).cell? _=some (.slice (some ⟨H+1,0,none⟩) 1 1) at l4;have hb6:Below W4.heap.size W4 ((W4.alloc (.cells #[.string ⟨#[97]⟩,.string ⟨#[120]⟩] 9)).alloc (.cells #[.int .i64 1,.string ⟨#[]⟩,.string ⟨#[]⟩,.slice none 0 0,.slice none 0 0,.int .i64 5,.string ⟨#[]⟩,.string ⟨#[]⟩,.slice none 0 0,.slice (some ⟨H+1,0,none⟩) 1 1] 25)):=Z0i (Z00 _ _) _;have hs6: ((W4.alloc (.cells #[.string ⟨#[97]⟩,.string ⟨#[120]⟩] 9)).alloc (.cells #[.int .i64 1,.string ⟨#[]⟩,.string ⟨#[]⟩,.slice none 0 0,.slice none 0 0,.int .i64 5,.string ⟨#[]⟩,.string ⟨#[]⟩,.slice none 0 0,.slice (some ⟨H+1,0,none⟩) 1 1] 25)).heap.size=W4.heap.size+2:=by simp
 have hy:ShAt ((W4.alloc (.cells #[.string ⟨#[97]⟩,.string ⟨#[120]⟩] 9)).alloc (.cells #[.int .i64 1,.string ⟨#[]⟩,.string ⟨#[]⟩,.slice none 0 0,.slice none 0 0,.int .i64 5,.string ⟨#[]⟩,.string ⟨#[]⟩,.slice none 0 0,.slice (some ⟨H+1,0,none⟩) 1 1] 25)) (W4.heap.size+2) ⟨some ⟨W4.heap.size,0,none⟩,2,some ⟨W4.heap.size+1,0,none⟩,2⟩ kY:=by
  refine .mk _ _ (W4.heap.size+1) 0 (fun i=>if i=0 then kq0 else kqL H) ⟨by decide,by decide,by decide,by decide,by decide,Nat.le_refl _,Nat.le_refl _,nofun,nofun⟩ (Or.inr ⟨W4.heap.size,0,rfl,by omega,fun i hi=> ?_⟩) (Or.inr ⟨rfl,by omega⟩) (fun i h=> ?_) (fun i h=> ?_)
  {have h2:i < 2:=hi
   match i,h2 with
   | 0,_=>simp[go_sem,kY,strs]
   | 1,_=>simp[go_sem,kY,strs]}
  {have h2:i < 2:=h
   match i,h2 with
   | 0,_=>refine ⟨?_, ?_, ?_, ?_, ?_⟩ <;> simp[go_sem,kY,kI,kq0]
   | 1,_=>refine ⟨?_, ?_, ?_, ?_, ?_⟩ <;> simp[go_sem,kY,kL,kqL]}
  {have h2:i < 2:=h
   match i,h2 with
   | 0,_=>exact Z2y _ _ kI rfl rfl (by decide) (by decide)
   | 1,_=>rw[<-hs6]; exact (HLA.out.next HB4.out).next hb6}
 rw[<-hs6] at hy;have HE:=Y1 (Z1h z kY q1 _ _ (HAT4.out.next hb6) hy);have HB6:=Y1 (Z02 HB4.out hb6);clear hb6 hs6 hy z1 z2 z3 z4 z5 z6 hz8;obtain ⟨W5,hW5⟩: ∃W5,W4.alloc (.cells #[.string ⟨#[97]⟩,.string ⟨#[120]⟩] 9)=W5:=⟨_,rfl⟩;have hs5:Hid (W5.heap.size=W4.heap.size+1):=Y1 (by rw[<-hW5]; simp);rw[hW5] at i0 i1 i2 i3 i4 l0 l1 l2 l3 l4 HE HB6
 go_wp2_with fail
 rw[<-hs5.out] at HE;have heq:eqB z kY=true:=by rw[HZ.out]; exact Z1n _
 rw[heq] at HE;refine HE.out.mono ?_;rintro e w7 ⟨rfl,hb7⟩;have HB7:=Y1 (HBW.out.trans ((HB6.out.mono HBW.out.size).trans (hb7.mono (by have:=HBW.out.size; have:=HB6.out.size; omega))));clear hb7 HE heq;go_wp2;go_ret;exact ⟨rfl,HB7.out⟩
end
end
section
open Go.RowKit Shp Sub SubM
open Expd (Bd It)
theorem Zcx (o:List UInt8) (l:List It): (Expd.types o l).length<=l.length:=by unfold Expd.types; exact List.length_filterMap_le _ _
theorem Zcb (o:List UInt8) (l:List It) (A:Option Addr) (cap:Nat) (w:World) (hL:ItsAt w w.heap.size A l) (hl:l.length<=9223372036854775807) (ho:o.length<=9223372036854775807) (hth: ∀x∈l,Thin x.sh) (hg:WGlobs w):
 Y9 4 #[.string ⟨o.toArray⟩,.slice A l.length cap] w (.bool true):=by
 have HG:=Y1 hg;have HTH:=Y1 hth;by_cases h100:100 < l.length
 {have h100': (100:Int) < (l.length:Int):=by omega
  clear hL hg hth;go_enter Tryd.func4,Tryd.ntmps4
  go_wp2_with fail
  refine (Z0V _ HG.out).mono ?_;rintro e v ⟨rfl,hb⟩;have HB:=Y1 hb;clear hb;go_wp2;go_ret;exact ⟨rfl,HB.out⟩}
 {have h100': ¬(100:Int) < (l.length:Int):=by omega
  have HL:=Y1 hL;clear hL hg hth;go_enter Tryd.func4,Tryd.ntmps4
  go_wp2_with fail
  go_loopw [5] (fun i wr=> ∃k:Nat,k<=l.length/\i= .int .i64 (k:Int)/\Hid (∀j (hj:j < l.length),j < k->size (l[j]'hj).sh<=800)/\Hid (Below w.heap.size w wr)) (fun i _=>l.length - (intOf i).toNat)
  case atStart=>exact ⟨0,Nat.zero_le _,rfl,Y1 (fun _ _ h=>absurd h (by omega)),Y1 Y2⟩
  case round=>
   obtain ⟨k,hk,rfl,hS,HB⟩:=hrel;by_cases hkl:k < l.length
   {have hkl': (k:Int) < (l.length:Int):=by omega
    obtain ⟨g,off,qs,hA,hg,hc⟩:=(HL.out.keep HB.out (Nat.le_refl _)).resolve_left (by omega);subst hA;obtain ⟨x0,x1,⟨z0,z1,z2,z3,z4⟩,hat,_⟩:=hc k hkl;change wr.cell? ⟨g,off+k * 7+3,none⟩=_ at z1;change wr.cell? ⟨g,off+k * 7+4,none⟩=_ at z2;change wr.cell? ⟨g,off+k * 7+5,none⟩=_ at z3;change wr.cell? ⟨g,off+k * 7+6,none⟩=_ at z4;obtain ⟨bk,hbk⟩: ∃bk,bk=l[k]'hkl:=⟨_,rfl⟩;rw[<-hbk] at x0 x1 z0 z1 z2 z3 z4 hat;have hcl:=Z3n bk.sh (qs k) 800 wr (hat.of HB.out.size (fun _ _ _=>rfl)) (by omega);rw[show (((800:Nat):Int))=(800:Int) from rfl] at hcl;have HC:=Y1 hcl;have HBK:=Y1 hbk;clear hc hat hg hbk hcl x0 x1
    go_wp2_with fail
    refine HC.out.mono ?_;rintro e wk ⟨rfl,hb2⟩;have HB2:=Y1 (HB.out.trans (hb2.mono HB.out.size));clear hb2 HC z0 z1 z2 z3 z4;by_cases h8:800 < size bk.sh
    {have hx: (800:Int) < (sizeTo 800 bk.sh:Int):=by unfold sizeTo; omega
     clear hS h8
     go_wp2_with fail
     refine (Z0V _ (HG.out.next HB2.out)).mono ?_;rintro e v ⟨rfl,hb⟩;have HB3:=Y1 (Z02 HB2.out hb);clear hb;go_wp2;refine bodyPost_ret (v:= .bool true) (by simp[results,Tryd.results4,go_sem]) rfl ?_;exact ⟨rfl,HB3.out⟩}
    {have hx: ¬(800:Int) < (sizeTo 800 bk.sh:Int):=by unfold sizeTo; omega
     have HS2:Hid (∀j (hj:j < l.length),j < k+1->size (l[j]'hj).sh<=800):=Y1 (fun j hj hjk=>by
      by_cases e:j=k
      {subst e; rw[<-HBK.out]; omega}
      · exact hS.out j hj (by omega))
     clear hS h8;go_wp2
     go_roundw
     case rel=>exact ⟨k+1,by omega,by go_num,HS2,HB2⟩
     case measure=>simp[intOf]; omega}}
   {obtain rfl:k=l.length:=by omega
    have hkl': ¬(l.length:Int) < (l.length:Int):=by omega
    have HSZ:Hid (∀x∈l,size x.sh<=800):=Y1 (fun b hb=>by
     obtain ⟨j,hj,rfl⟩:=List.getElem_of_mem hb;exact hS.out j hj hj)
    clear hS;have HT:=Y1 (Zco o l A cap wr (HL.out.next HB.out) (by omega) ho (fun x hx=>⟨HSZ.out x hx,HTH.out x hx⟩))
    go_wp2_with fail
    refine HT.out.mono ?_;rintro e w1 ⟨A2,c2,rfl,hb1,hbb⟩;have HB1:=Y1 hb1;have HBB:=Y1 (Z02 HB.out hbb);clear hb1 hbb HT;have HT:=Y1 (Zcj o l A cap w1 (HL.out.next HBB.out) (by omega) ho)
    go_wp2_with fail
    refine HT.out.mono ?_;rintro e w2 ⟨A3,c3,rfl,hb2,hbb⟩;have HT2:=Y1 (Zcr (Expd.types o l) A2 A3 c2 c3 w2 (HB1.out.next hbb) hb2 (by have:=Zcx o l; omega));have HB2:=Y1 (Z02 HBB.out hbb);clear hb2 hbb HT
    go_wp2_with fail
    refine HT2.out.mono ?_;rintro e w3 ⟨rfl,hbb⟩;have HB3:=Y1 (Z02 HB2.out hbb);clear hbb HT2
    go_wp2_with fail
    refine (Z0V _ (HG.out.next HB3.out)).mono ?_;rintro e w4 ⟨rfl,hbb⟩;have HB4:=Y1 (Z02 HB3.out hbb);clear hbb;go_wp2;refine bodyPost_ret (v:= .bool true) (by simp[results,Tryd.results4,go_sem]) rfl ?_;exact ⟨rfl,HB4.out⟩}}
end
end Go.Proofs.YtchklpedlbkgaaaDoor
namespace Go.Proofs.YtchklpedlbkgaaaDoor.expandTypes
section
open Go.ChangeShapes Go.WideShapes Go.ChangeAt Go.RowKit
open Go.ChangeMaps (open_string shut_string)
theorem walk (w:World) (a0:ByteArray) (r0:a0.size<=140737488351232) (A1:Option Addr) (c1:Nat) (s1:List Expd.It) (S1:ItsAt w w.heap.size A1 s1) (m1:s1.length<=9223372036854775807) (q1:s1.length<=c1) (z1: ∀x∈s1,Thin x.sh) (hg:WGlobs w):Y9 4 #[.string a0,.slice A1 s1.length c1] w (.bool true):=by
 have h:=Zcb a0.data.toList s1 A1 c1 w S1 m1 (by rw[Z2H]; omega) z1 hg
 rwa [show (⟨a0.data.toList.toArray⟩:ByteArray)=a0 from by cases a0; simp] at h
theorem own:ownKnob Tryd.prog.godebug=none:=by kernel_rfl
theorem laidOut:laidOutB Tryd.prog=true:=by kernel_rfl
theorem contract (H:Type) (enc:TypeId×Value->H) (W:World) (base:Nat) (args:Array Value) (ds gs:List (DataW H)) (before:List MemPlace)
 (hval0: ∀(j:Nat) t v,Tryd.f4.params[j]? =some t->args[j]? =some v->Value.okWide Tryd.prog W .any base t v)
 (hW:DataW.Whole enc Tryd.prog Tryd.f4.params.toList Rows.expandTypesSpec.vars false W args.toList ds gs before) (hL:laidMetH Tryd.prog Rows.expandTypesRow.laid W) (hsz0: (DataW.weightsEach Tryd.prog (Tryd.f4.params.toList++Rows.expandTypesSpec.plain.varTypes Tryd.prog) (ds++gs)).all (· <=reachBytes)=true):
 Calls Tryd.prog 4 args W fun e W'=> ∃v,e= .returned v/\Rows.expandTypesSpec.post enc Tryd.prog Tryd.f4 false true false false W args v W':=by
 have hval: ∀(j:Nat) t v,Tryd.f4.params[j]? =some t->args[j]? =some v->Value.okWide Tryd.prog W .any base t v:=hval0;have hsz: (DataW.weightsEach Tryd.prog (Tryd.f4.params.toList++Rows.expandTypesSpec.plain.varTypes Tryd.prog) (ds++gs)).all (· <=reachBytes)=true:=hsz0
 have hW':=hW;obtain ⟨p,q,hA0,hV,rfl,hfz,hnd⟩:=hW;have hA:DataW.TrodAll enc Tryd.prog W 0 (fun _=>true) true Tryd.f4.params.toList args.toList ds p:=hA0;rw[Tryd.params4] at hA hval hsz;obtain ⟨v0,vs0,d0,ds0,p0,q0,hargs,rfl,rfl,h0,t0⟩:=trodAll_cons hA;obtain ⟨v1,vs1,d1,ds1,p1,q1,rfl,rfl,rfl,h1,t1⟩:=trodAll_cons t0;obtain ⟨rfl,rfl,rfl⟩:=trodAll_nil t1;obtain rfl:args=#[v0,v1]:=by cases args; simp_all
 obtain ⟨rfl,rfl⟩:=trodVars_none hV;obtain ⟨a0,rfl,rfl,rfl,w0⟩:=open_string Tryd.underlying9 (hval 0 9 v0 rfl rfl) h0;have r0:a0.size<=140737488351232:=by
  have:=sized_string hsz (j:=0) (t:=9) rfl rfl;rw[Lib.size_eq]; exact Nat.le_trans this (by decide)
 obtain ⟨A1,n1,c1,rfl⟩:=okWide_slice Tryd.underlying36 (hval 1 36 v1 rfl rfl);have k1:=h1;have lt1: ∀x∈p1,x.block < W.heap.size:=by obtain ⟨m,hm⟩:=k1; exact DataW.trod_lt m _ _ _ hm
 obtain ⟨s1,rfl,S1,m1,q1⟩:=Zcm h1;have z1:=Zcq k1 (fun n hn=>by simpa using List.all_eq_true.1 hsz n (DataW.weights_mem_each (t:=36) (j:=1) rfl rfl n hn)) S1;clear hA0 hval0;rw[MakeChecks.laidMetH_plain _ _ _ (by kernel_rfl)] at hL;have hglob:WGlobs W:=Zaf hL (List.Mem.head _);refine (walk W a0 r0 A1 c1 s1 S1 m1 q1 z1 hglob).mono fun e W' ⟨he,bel⟩=> ?_;subst he;exact ⟨_,rfl,_,_,_,[],_,[],hW',trodAll_mk1 (shut_bool Tryd.underlying4 _),(trodAll_cons_mk (shut_string Tryd.underlying9 w0) (trodAll_cons_mk (Below.trod laidOut (by kernel_rfl) (of_decide_eq_true (by kernel_rfl)) k1 bel lt1) trodAll_mk0)),rfl,bel.frame _,fun h=>by cases h⟩
theorem lifted (os:Os) (started:os.Started) (H:Type) (enc:TypeId×Value->H):
 ReturnsInHanded {} Tryd.checked os 4 .any (fun w args=>(Rows.expandTypesSpec.pre enc Tryd.prog Tryd.f4 Rows.expandTypesRow.domain false w args/\laidMetH Tryd.prog Rows.expandTypesRow.laid w)/\sizedMet enc Tryd.prog Tryd.f4 (OpenSpec.ofChange Rows.expandTypesSpec) false w args)
  (Rows.expandTypesSpec.post enc Tryd.prog Tryd.f4 false true false false):=by
 refine returnsInHanded_of_change_and (C:=Tryd.checked) (X:=fun w _=>laidMetH Tryd.prog Rows.expandTypesRow.laid w) (fun _ _ _ hh h=>h.of_heap hh) own started (by kernel_rfl) Tryd.func4
  (ChangeSpec.witness_shaped (enc:=enc) (C:=Tryd.checked) (os:=os) (X:=fun w _=>laidMetH Tryd.prog Rows.expandTypesRow.laid w) false (World.laidAll Tryd.prog os Rows.expandTypesRow.laid) #[(.string ByteArray.empty),(.slice none 0 0)] 8 (World.laidAll_os _ _ _)
   (World.shaped_of_ZipB (by kernel_rfl) (by kernel_rfl)) (by kernel_rfl) (by kernel_rfl) (by kernel_rfl)
   (by rw[MakeChecks.laidMetH_plain _ _ _ (by kernel_rfl)]; exact laidMet_laidAll _ (by kernel_rfl) (by kernel_rfl))) ?_
 intro W base args ds gs before hval hW _ hsz hL _;exact contract H enc W base args ds gs before hval hW hL hsz
theorem proved:Rows.ExpandTypesSaid:=
 OpenClaim.holds_of_wide 4 Tryd.f4 rfl rfl rfl rfl rfl rfl rfl ⟨rfl,rfl,rfl,rfl,rfl⟩ rfl rfl rfl rfl rfl (by kernel_rfl) Tryd.func4 (by kernel_rfl)
  (of_decide_eq_true (by kernel_rfl)) (by unfold Func.isWrapper; first | (rw[if_pos (by decide+kernel)]; kernel_rfl) | (rw[if_neg (by decide+kernel)]; exact ⟨rfl,rfl⟩))
  (fun os started H enc _=>lifted os started H enc)
theorem card:Rows.ExpandTypesCardSaid:=
 Claim7.holds_tied_plain_at .later [] [.data] true _ false proved (fun _ h=>by cases h) (by kernel_rfl) (fun _ h=>by cases h) expandTypes_row_tie rfl ⟨rfl,rfl⟩ (by kernel_rfl) rfl
  (fun f fn hf hfn=>by
   obtain rfl:f=4:=Option.some.inj ((show Tryd.prog.funcNamed "pandect/pandectlaw11.ExpandTypes" =some 4 by kernel_rfl).symm.trans hf) |>.symm;obtain rfl:fn=Tryd.f4:=(Option.some.inj (Tryd.func4.symm.trans hfn)).symm;exact ⟨by kernel_rfl,fun j t ht=>by
    rw[Tryd.params4] at ht;have hm:t∈ [9,36]:=by simpa using Array.mem_of_getElem? ht
    have hall: ([9,36].all fun u=> !Tryd.prog.wantsStandIn u)=true:=by kernel_rfl
    exact (show Tryd.prog.wantsStandIn t=false by simpa using List.all_eq_true.1 hall t hm)⟩)
  (by kernel_rfl)
end
end Go.Proofs.YtchklpedlbkgaaaDoor.expandTypes
