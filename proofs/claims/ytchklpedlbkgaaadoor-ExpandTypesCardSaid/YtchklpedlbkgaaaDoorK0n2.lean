/- What the proofs of ExpandTypes want, part 2. -/
import Derived.RangeFuncNested
import Derived.OwnWalkIn
import Derived.LoopNIn
import Derived.LoopIn
import Derived.Shelf.RegionOpen
import Derived.Test.YtchklpedlbkgaaaDoorK0n1
set_option linter.unusedVariables false
set_option linter.unusedSimpArgs false
set_option linter.unusedSectionVars false
set_option maxRecDepth 100000
set_option maxHeartbeats 16000000
namespace Go.Proofs.YtchklpedlbkgaaaDoor
section
open Go.RowKit Shp Sub SubM
open Expd (Bd It)
def noQ:Ptr:=⟨none,0,none,0⟩
theorem ZcD (W:World) (B:Nat) (o n:List UInt8) (ho:o.length<=9223372036854775807) (hn:n.length<=9223372036854775807):ShAt W B noQ (Expd.opq o n):=
 .mk _ _ 0 0 (fun _=>noQ) ⟨ho,hn,by simp[Expd.opq],by simp[Expd.opq],by simp[Expd.opq],by simp[Expd.opq],by simp[Expd.opq],fun _=>rfl,fun _=>rfl⟩ (Or.inl rfl) (Or.inl rfl) (fun i hi=>by simp[Expd.opq] at hi) (fun i hi=>by simp[Expd.opq] at hi)
theorem Zch (S:Nat->Prop) (W:World) (o n:List UInt8) (ho:o.length<=9223372036854775807) (hn:n.length<=9223372036854775807):Kept S W (Expd.opq o n,noQ):=fun W' _ _=>ZcD _ _ o n ho hn
theorem Zci (o n:List UInt8) (w:World):
 Y9 27 #[.string ⟨o.toArray⟩,.string ⟨n.toArray⟩] w (sv (Expd.opq o n) noQ):=by
 go_enter Tryd.func27,Tryd.ntmps27;go_wp2;refine bodyPost_ret (v:= .agg #[.int .i64 10,.string ⟨o.toArray⟩,.string ⟨n.toArray⟩,.slice none 0 0,.slice none 0 0]) (by simp[results,Tryd.results27,go_sem]) rfl ?_;refine ⟨rfl, ?_⟩
 first | exact Z00 _ _ | exact Below.refl _ _ | (constructor <;> simp)
structure Ix7 (W:World) (g:Nat) (it:It) (qi:Ptr):Prop where
 lt:g < W.heap.size
 c0:W.cell? ⟨g,0,none⟩=some (.int .i64 it.kind)
 c1:W.cell? ⟨g,1,none⟩=some (.string ⟨it.name.toArray⟩)
 c2:W.cell? ⟨g,2,none⟩=some (.int .i64 it.sh.kind)
 c3:W.cell? ⟨g,3,none⟩=some (.string ⟨it.sh.of_.toArray⟩)
 c4:W.cell? ⟨g,4,none⟩=some (.string ⟨it.sh.name.toArray⟩)
 c5:W.cell? ⟨g,5,none⟩=some (.slice qi.A it.sh.names.length qi.c)
 c6:W.cell? ⟨g,6,none⟩=some (.slice qi.P it.sh.parts.length qi.d)
theorem Ix7.next {W W':World} {g:Nat} {it:It} {qi:Ptr} {S:Nat->Prop} (h:Ix7 W g it qi) (hu:Upd S W W') (hg: ¬S g):Ix7 W' g it qi:=by
 have c: ∀k,W'.cell? ⟨g,k,none⟩=W.cell? ⟨g,k,none⟩:=fun k=>hu.cell h.lt hg;exact ⟨Nat.lt_of_lt_of_le h.lt hu.size,(c 0).trans h.c0,(c 1).trans h.c1,(c 2).trans h.c2,(c 3).trans h.c3,(c 4).trans h.c4,(c 5).trans h.c5,(c 6).trans h.c6⟩
theorem ZcB (w:World) (it:It) (qi:Ptr):Ix7 (w.alloc (.cells #[.int .i64 it.kind,.string ⟨it.name.toArray⟩,.int .i64 it.sh.kind,.string ⟨it.sh.of_.toArray⟩,.string ⟨it.sh.name.toArray⟩,.slice qi.A it.sh.names.length qi.c,.slice qi.P it.sh.parts.length qi.d] 39)) w.heap.size it qi:=by
 refine ⟨by simp, ?_, ?_, ?_, ?_, ?_, ?_, ?_⟩ <;> simp[go_sem]
theorem Zcd (o:List UInt8) (l:List It) (i:Nat) (h:i < l.length):Expd.types o (l.take (i+1))=Expd.types o (l.take i)++(Expd.bindOf o (l[i]'h)).toList:=by
 unfold Expd.types;rw[List.take_add_one,List.filterMap_append,List.getElem?_eq_getElem h];cases h2:Expd.bindOf o (l[i]'h) <;> simp[h2]
theorem Zco (o:List UInt8) (l:List It) (A:Option Addr) (cap:Nat) (w:World) (hL:ItsAt w w.heap.size A l) (hl:l.length<=100) (ho:o.length<=9223372036854775807) (hs: ∀x∈l,size x.sh<=800/\Thin x.sh):
 Calls Tryd.prog 14 #[.string ⟨o.toArray⟩,.slice A l.length cap] w fun e w'=> ∃A' c',e= .returned (.slice A' (Expd.types o l).length c')/\BdsAt w' w'.heap.size A' (Expd.types o l)/\Below w.heap.size w w':=by
 have HL:=Y1 hL;have HS:=Y1 hs;clear hL hs;go_enter Tryd.func14,Tryd.ntmps14
 go_wp2_with fail
 go_loopw [5,10] (fun cc ii wr=> ∃(k:Nat) (lE:List BE) (A':Option Addr) (c':Nat),ii= .int .i64 k/\k<=l.length/\cc= .slice A' lE.length c'/\Hid (KT w (Expd.types o (l.take k)) lE A' c' wr)) (fun _ i _=>l.length - (intOf i).toNat)
 case atStart=>exact ⟨0,[],none,0,rfl,Nat.zero_le _,rfl,Y1 ⟨Below.refl _ _,World.ownsRow_nil _ _ _ _,rfl,fun x hx=>absurd hx (by simp)⟩⟩
 case round=>
  obtain ⟨k,lE,A1,c1,rfl,hk,rfl,HK⟩:=hrel;by_cases hlt:k < l.length
  {have hi1: (k:Int) < (l.length:Int):=by omega
   have HSI:=Y1 (HS.out _ (List.getElem_mem hlt));have HTK:=Y1 (Zcd o l k hlt);obtain ⟨g,off,qs,hA,hg,hc⟩:=(HL.out.keep HK.out.up (Nat.le_refl _)).resolve_left (by omega);subst hA;obtain ⟨x0,x1,xs,hat,_,hnl⟩:=hc k hlt;obtain ⟨it,hit⟩: ∃it,it=l[k]'hlt:=⟨_,rfl⟩;obtain ⟨qi,hqi⟩: ∃q,q=qs k:=⟨_,rfl⟩;rw[<-hit] at HSI HTK x0 x1 hnl;rw[<-hit, <-hqi] at xs hat;obtain ⟨x2,x3,x4,x5,x6⟩:=xs;change wr.cell? ⟨g,off+k * 7+3,none⟩=_ at x3;change wr.cell? ⟨g,off+k * 7+4,none⟩=_ at x4;change wr.cell? ⟨g,off+k * 7+5,none⟩=_ at x5;change wr.cell? ⟨g,off+k * 7+6,none⟩=_ at x6;clear hc hit hqi hg;have HNL:=Y1 hnl;have hbb:=Z00 wr (.cells #[.int .i64 it.kind,.string ⟨it.name.toArray⟩,.int .i64 it.sh.kind,.string ⟨it.sh.of_.toArray⟩,.string ⟨it.sh.name.toArray⟩,.slice qi.A it.sh.names.length qi.c,.slice qi.P it.sh.parts.length qi.d] 39);have hix:=ZcB wr it qi;have hne:rowB A1≠some wr.heap.size:=fun e=>by have:=(Z0u HK.out.row _ e).2; omega
   have hwz:=HK.out.up.size;obtain ⟨W1,hW1⟩: ∃W1,wr.alloc (.cells #[.int .i64 it.kind,.string ⟨it.name.toArray⟩,.int .i64 it.sh.kind,.string ⟨it.sh.of_.toArray⟩,.string ⟨it.sh.name.toArray⟩,.slice qi.A it.sh.names.length qi.c,.slice qi.P it.sh.parts.length qi.d] 39)=W1:=⟨_,rfl⟩;rw[hW1] at hbb hix;have HK1:=Y1 (HK.out.new hbb);have HAT:Hid (∀W,Upd (fun b=>rowB A1=some b) W1 W->ShAt W W.heap.size qi it.sh):=Y1 (fun W hu=>by
    have h1:Below w.heap.size wr W:=(hbb.mono hwz).trans (hu.below (Nat.le_trans hwz hbb.size) (fun x hx=>(Z0u HK1.out.row x hx).1));exact hat.of (Nat.le_trans hwz h1.size) (fun g k hg=>h1.cell (p:=⟨g,k,none⟩) hg))
   have HIX:Hid (∀W,Upd (fun b=>rowB A1=some b) W1 W->Ix7 W wr.heap.size it qi):=Y1 (fun W hu=>hix.next hu hne);have HWZ:Hid (w.heap.size<=W1.heap.size):=Y1 (Nat.le_trans hwz hbb.size);have hkk:=hix.c0;have hlen:=HK1.out.len;have hll:lE.length<=100:=by
    rw[hlen]; unfold Expd.types;have:=List.length_filterMap_le (Expd.bindOf o) (l.take k);rw[List.length_take] at this; omega
   obtain ⟨ib,hifb,hzb,hsb,hbb7⟩:=Z8a Z8b;clear hbb hix HK hat hnl hne hwz hlen;have hD1:Dis5 6 7 8 9 10:=by decide
   have hD2:Dis5 7 8 9 10 11:=by decide
   by_cases hk1:it.kind=1
   {have e1: (it.kind==1)=true:=by simp[hk1]
    have HBI:Hid ((Expd.bindOf o it).toList= [⟨o,it.name,it.sh⟩]):=Y1 (by simp[Expd.bindOf,hk1]);clear hk1
    go_wp2_with fail
    clear hW1 hkk;refine Z49 (rs:= [0,1,2,3,4,5,6,7,8,9,10])
     (fun u'=> { tmps:=#[.string { data:=o.toArray },.slice (some { block:=g,off:=off }) l.length cap,undef,undef,.slice none 0 0,u' 10,undef,.pointer (some { block:=wr.heap.size,off:=0 }),.slice (some { block:=g,off:=off }) l.length cap,.int .i64 ↑l.length,.int .i64 ↑k,.bool true,.pointer (some { block:=g,off:=off+k * 7 }),.agg #[.int .i64 it.kind,.string { data:=it.name.toArray },.int .i64 it.sh.kind,.string { data:=it.sh.of_.toArray },.string { data:=it.sh.name.toArray },.slice qi.A it.sh.names.length qi.c,.slice qi.P it.sh.parts.length qi.d],.pointer (some { block:=wr.heap.size,off:=0 }),.int .i64 it.kind,.bool true,.bool true,u' 0,u' 1,u' 2,u' 3,u' 4,u' 5,u' 6,u' 7,u' 8,u' 9,u28,u29,u30,u31,u32,u33,u34,u35,u36,u37,u38,u39,u40,u41,undef],defers:= [] })
     (fun j=>([u18,u19,u20,u21,u22,u23,u24,u25,u26,u27,.slice A1 lE.length c1]:List Value).getD j undef) (TY W1 w.heap.size A1 lE.length c1 lE (fun j=>match j with | 0=>some (.slice A1 lE.length c1) | 1=>some (.string ⟨o.toArray⟩) | 2=>some (.pointer (some ⟨wr.heap.size,1,none⟩)) | 3=>some (.string ⟨it.name.toArray⟩) | 4=>some (.pointer (some ⟨wr.heap.size,2,none⟩)) | 5=>some (.agg #[.int .i64 it.sh.kind,.string ⟨it.sh.of_.toArray⟩,.string ⟨it.sh.name.toArray⟩,.slice qi.A it.sh.names.length qi.c,.slice qi.P it.sh.parts.length qi.d]) | _=>none) (⟨o,it.name,it.sh⟩:Bd) 6 7 8 9 10) (by kernel_rfl) (by kernel_rfl) (by kernel_rfl) (TY.start HK1.out.row rfl) ?_ ?_
    refine StepsInv.cons2 _ rfl (fun d u' W K' hs hI hd hw hK=> ?_) ?_
    {have d10:d 10=false:=Z0a hs rfl (by kernel_rfl) hd;have hfr:=hI.fr d10;refine Z03 (v:= .slice A1 lE.length c1) (W':=W) rfl ?_ (hK.out _ _ (hI.pure (by decide) (fun v' h=>by cases h; rfl)));go_simp}
    refine StepsInv.cons2 _ rfl (fun d u' W K' hs hI hd hw hK=> ?_) ?_
    {refine Z03 (v:= .string ⟨o.toArray⟩) (W':=W) rfl ?_ (hK.out _ _ (hI.pure (by decide) (fun v' h=>by cases h; rfl)));go_simp}
    refine StepsInv.cons2 _ rfl (fun d u' W K' hs hI hd hw hK=> ?_) ?_
    {refine Z03 (v:= .pointer (some ⟨wr.heap.size,1,none⟩)) (W':=W) rfl ?_ (hK.out _ _ (hI.pure (by decide) (fun v' h=>by cases h; rfl)));go_simp}
    refine StepsInv.cons2 _ rfl (fun d u' W K' hs hI hd hw hK=> ?_) ?_
    {obtain ⟨_,y0,y1,y2,y3,y4,y5,y6⟩:=HIX.out W hI.up;have d2:u' 2= .pointer (some ⟨wr.heap.size,1,none⟩):=hI.vals 2 (hw 2 (by kernel_rfl)) _ rfl;refine Z03 (v:= .string ⟨it.name.toArray⟩) (W':=W) rfl ?_ (hK.out _ _ (hI.pure (by decide) (fun v' h=>by cases h; rfl)));go_simp}
    refine StepsInv.cons2 _ rfl (fun d u' W K' hs hI hd hw hK=> ?_) ?_
    {refine Z03 (v:= .pointer (some ⟨wr.heap.size,2,none⟩)) (W':=W) rfl ?_ (hK.out _ _ (hI.pure (by decide) (fun v' h=>by cases h; rfl)));go_simp}
    refine StepsInv.cons2 _ rfl (fun d u' W K' hs hI hd hw hK=> ?_) ?_
    {obtain ⟨_,y0,y1,y2,y3,y4,y5,y6⟩:=HIX.out W hI.up;have d4:u' 4= .pointer (some ⟨wr.heap.size,2,none⟩):=hI.vals 4 (hw 4 (by kernel_rfl)) _ rfl;refine Z03 (v:= .agg #[.int .i64 it.sh.kind,.string ⟨it.sh.of_.toArray⟩,.string ⟨it.sh.name.toArray⟩,.slice qi.A it.sh.names.length qi.c,.slice qi.P it.sh.parts.length qi.d]) (W':=W) rfl ?_ (hK.out _ _ (hI.pure (by decide) (fun v' h=>by cases h; rfl)));go_simp}
    refine StepsInv.cons2 _ rfl (fun d u' W K' hs hI hd hw hK=> ?_) ?_
    {have d7:d 7=false:=Z0a hs rfl (by kernel_rfl) hd;have d8:d 8=false:=Z0a hs rfl (by kernel_rfl) d7;have d9:d 9=false:=Z0a hs rfl (by kernel_rfl) d8;have d10:d 10=false:=Z0a hs rfl (by kernel_rfl) d9;have d5:u' 5= .agg #[.int .i64 it.sh.kind,.string ⟨it.sh.of_.toArray⟩,.string ⟨it.sh.name.toArray⟩,.slice qi.A it.sh.names.length qi.c,.slice qi.P it.sh.parts.length qi.d]:=hI.vals 5 (hw 5 (by kernel_rfl)) _ rfl;refine Z3b (f:=26) (args:=#[.agg #[.int .i64 it.sh.kind,.string ⟨it.sh.of_.toArray⟩,.string ⟨it.sh.name.toArray⟩,.slice qi.A it.sh.names.length qi.c,.slice qi.P it.sh.parts.length qi.d]]) (W':=W) rfl ?_ ((Zcg it.sh qi W (HAT.out W hI.up) (by have:=HSI.out.1; omega) HSI.out.2).mono fun e w' ⟨q',F,he,ho,hnd,hF,hb⟩=>⟨_,he,hK.out _ _ (hI.call hD1 rfl d7 d8 d9 d10 hb (Zcy ho hF))⟩);go_simp}
    refine StepsInv.cons2 _ rfl (fun d u' W K' hs hI hd hw hK=> ?_) ?_
    {have d7:d 7=false:=hd;have d8:d 8=false:=Z0a hs rfl (by kernel_rfl) hd;have d9:d 9=false:=Z0a hs rfl (by kernel_rfl) d8;have w6:=hw 6 (by kernel_rfl);have d1:u' 1= .string ⟨o.toArray⟩:=hI.vals 1 (hw 1 (by kernel_rfl)) _ rfl;have d3:u' 3= .string ⟨it.name.toArray⟩:=hI.vals 3 (hw 3 (by kernel_rfl)) _ rfl;obtain ⟨q,e6,_⟩:=hI.cl w6;unfold sv at e6;refine Z03 (v:=bdV (⟨o,it.name,it.sh⟩:Bd) q) (W':=W) rfl ?_ (hK.out _ _ (hI.build hD1 rfl w6 d8 d9 e6));go_simp}
    refine StepsInv.cons2 _ rfl (fun d u' W K' hs hI hd hw hK=> ?_) ?_
    {have d8:d 8=false:=hd;have d9:d 9=false:=Z0a hs rfl (by kernel_rfl) hd;have w7:=hw 7 (by kernel_rfl);have w6:d 6=true:=hs 7 _ rfl w7 6 (by kernel_rfl);obtain ⟨q,e6,_,hb,_⟩:=hI.cl w6;have hb:=hb w7;refine Z03 (v:= .slice (some ⟨W.heap.size,0,none⟩) 1 1) (W':=W.alloc (.cells #[.string ⟨(⟨o,it.name,it.sh⟩:Bd).of_.toArray⟩,.string ⟨(⟨o,it.name,it.sh⟩:Bd).name.toArray⟩,.int .i64 (⟨o,it.name,it.sh⟩:Bd).sh.kind,.string ⟨(⟨o,it.name,it.sh⟩:Bd).sh.of_.toArray⟩,.string ⟨(⟨o,it.name,it.sh⟩:Bd).sh.name.toArray⟩,.slice q.A (⟨o,it.name,it.sh⟩:Bd).sh.names.length q.c,.slice q.P (⟨o,it.name,it.sh⟩:Bd).sh.parts.length q.d] 54)) rfl ?_ (hK.out _ _ (hI.mkS hD1 rfl w6 d9 e6));go_simp}
    refine StepsInv.cons2 _ rfl (fun d u' W K' hs hI hd hw hK=> ?_) ?_
    {have d9:d 9=false:=hd;have d10:d 10=false:=Z0a hs rfl (by kernel_rfl) hd;have w8:=hw 8 (by kernel_rfl);have w7:d 7=true:=hs 8 _ rfl w8 7 (by kernel_rfl);have w6:d 6=true:=hs 7 _ rfl w7 6 (by kernel_rfl);have d0:u' 0= .slice A1 lE.length c1:=hI.vals 0 (hw 0 (by kernel_rfl)) _ rfl;obtain ⟨q,e6,_,_,hsl,_⟩:=hI.cl w6;obtain ⟨zb,e8,_,_,z5⟩:=hsl w8 d9;refine Z0e rfl _ _ 26 rfl w.heap.size 54 ib (.agg #[.string ByteArray.empty,.string ByteArray.empty,.int .i64 0,.string ByteArray.empty,.string ByteArray.empty,.slice none 0 0,.slice none 0 0]) 7 120 Tryd.underlying26 hifb hzb hsb hbb7 rfl (by decide) (.slice A1 lE.length c1) lE.length (cellsB lE) (by show u' 0=_; exact d0) (hI.n0 d9) (some ⟨zb,0,none⟩) 1 1 (cellsB [((⟨o,it.name,it.sh⟩:Bd),q)]) (by show u' 8=_; exact e8) nofun (by rw[Z0h]; rfl) (by intro ad e j v hv; cases e; rw[Z0b,Nat.zero_add]; exact z5 j v (by rw[<-Z1u]; exact hv)) (Z0B _) (by unfold maxLen; omega) (by omega) (Nat.le_trans HWZ.out hI.up.size) ?_;intro v' w' hown hg hat;rw[Zc6] at hg hat;exact hK.out _ _ (hI.app hD1 rfl w6 d9 d10 e6 HK1.out.row (by rw[Z0j]; exact hown) hg hat)}
    refine StepsInv.cons2 _ rfl (fun d u' W K' hs hI hd hw hK=> ?_) StepsInv.nil
    {have w9:=hw 9 (by kernel_rfl);refine Z03 (v:=u' 9) (W':=W) rfl ?_ (hK.out _ _ (hI.fin hD1 rfl));go_simp}
    intro d z' W2 hI hdn
    try dsimp only
    rw[hI.al (hdn 10 (by decide))];obtain ⟨A2,c2,x,e9,hkn⟩:=HK1.out.put hI (hdn 6 (by decide)) (hdn 9 (by decide)) ho HNL.out;rw[e9];have HKN:=Y1 hkn;clear hkn hI hdn e9
    go_wp2_with fail
    go_roundw
    case rel=>exact ⟨k+1,lE++ [x],A2,c2,by go_num,by omega,by rw[List.length_append]; rfl,Y1 (by rw[HTK.out,HBI.out]; exact HKN.out)⟩
    case measure=>simp[intOf]; omega}
   have e1: (it.kind==1)=false:=by simp[hk1]
   by_cases hk2:it.kind=2
   {have e2: (it.kind==2)=true:=by simp[hk2]
    have HBI:Hid ((Expd.bindOf o it).toList= [⟨o,it.name,Expd.opq o it.name⟩]):=Y1 (by simp[Expd.bindOf,hk2]);clear hk1 hk2
    go_wp2_with fail
    clear hW1 hkk;refine Z49 (rs:= [0,1,2,3,4,5,6,7,8,9,10,11])
     (fun u'=> { tmps:=#[.string { data:=o.toArray },.slice (some { block:=g,off:=off }) l.length cap,undef,undef,.slice none 0 0,u' 11,undef,.pointer (some { block:=wr.heap.size,off:=0 }),.slice (some { block:=g,off:=off }) l.length cap,.int .i64 ↑l.length,.int .i64 ↑k,.bool true,.pointer (some { block:=g,off:=off+k * 7 }),.agg #[.int .i64 it.kind,.string { data:=it.name.toArray },.int .i64 it.sh.kind,.string { data:=it.sh.of_.toArray },.string { data:=it.sh.name.toArray },.slice qi.A it.sh.names.length qi.c,.slice qi.P it.sh.parts.length qi.d],.pointer (some { block:=wr.heap.size,off:=0 }),.int .i64 it.kind,.bool false,.bool false,u18,u19,u20,u21,u22,u23,u24,u25,u26,u27,.bool true,.bool true,u' 0,u' 1,u' 2,u' 3,u' 4,u' 5,u' 6,u' 7,u' 8,u' 9,u' 10,u41,undef],defers:= [] })
     (fun j=>([u30,u31,u32,u33,u34,u35,u36,u37,u38,u39,u40,.slice A1 lE.length c1]:List Value).getD j undef) (TY W1 w.heap.size A1 lE.length c1 lE (fun j=>match j with | 0=>some (.slice A1 lE.length c1) | 1=>some (.string ⟨o.toArray⟩) | 2=>some (.pointer (some ⟨wr.heap.size,1,none⟩)) | 3=>some (.string ⟨it.name.toArray⟩) | 4=>some (.string ⟨o.toArray⟩) | 5=>some (.pointer (some ⟨wr.heap.size,1,none⟩)) | 6=>some (.string ⟨it.name.toArray⟩) | _=>none) (⟨o,it.name,Expd.opq o it.name⟩:Bd) 7 8 9 10 11) (by kernel_rfl) (by kernel_rfl) (by kernel_rfl) (TY.start HK1.out.row rfl) ?_ ?_
    refine StepsInv.cons2 _ rfl (fun d u' W K' hs hI hd hw hK=> ?_) ?_
    {have d11:d 11=false:=Z0a hs rfl (by kernel_rfl) hd;have hfr:=hI.fr d11;refine Z03 (v:= .slice A1 lE.length c1) (W':=W) rfl ?_ (hK.out _ _ (hI.pure (by decide) (fun v' h=>by cases h; rfl)));go_simp}
    refine StepsInv.cons2 _ rfl (fun d u' W K' hs hI hd hw hK=> ?_) ?_
    {refine Z03 (v:= .string ⟨o.toArray⟩) (W':=W) rfl ?_ (hK.out _ _ (hI.pure (by decide) (fun v' h=>by cases h; rfl)));go_simp}
    refine StepsInv.cons2 _ rfl (fun d u' W K' hs hI hd hw hK=> ?_) ?_
    {refine Z03 (v:= .pointer (some ⟨wr.heap.size,1,none⟩)) (W':=W) rfl ?_ (hK.out _ _ (hI.pure (by decide) (fun v' h=>by cases h; rfl)));go_simp}
    refine StepsInv.cons2 _ rfl (fun d u' W K' hs hI hd hw hK=> ?_) ?_
    {obtain ⟨_,y0,y1,y2,y3,y4,y5,y6⟩:=HIX.out W hI.up;have d2:u' 2= .pointer (some ⟨wr.heap.size,1,none⟩):=hI.vals 2 (hw 2 (by kernel_rfl)) _ rfl;refine Z03 (v:= .string ⟨it.name.toArray⟩) (W':=W) rfl ?_ (hK.out _ _ (hI.pure (by decide) (fun v' h=>by cases h; rfl)));go_simp}
    refine StepsInv.cons2 _ rfl (fun d u' W K' hs hI hd hw hK=> ?_) ?_
    {refine Z03 (v:= .string ⟨o.toArray⟩) (W':=W) rfl ?_ (hK.out _ _ (hI.pure (by decide) (fun v' h=>by cases h; rfl)));go_simp}
    refine StepsInv.cons2 _ rfl (fun d u' W K' hs hI hd hw hK=> ?_) ?_
    {refine Z03 (v:= .pointer (some ⟨wr.heap.size,1,none⟩)) (W':=W) rfl ?_ (hK.out _ _ (hI.pure (by decide) (fun v' h=>by cases h; rfl)));go_simp}
    refine StepsInv.cons2 _ rfl (fun d u' W K' hs hI hd hw hK=> ?_) ?_
    {obtain ⟨_,y0,y1,y2,y3,y4,y5,y6⟩:=HIX.out W hI.up;have d5:u' 5= .pointer (some ⟨wr.heap.size,1,none⟩):=hI.vals 5 (hw 5 (by kernel_rfl)) _ rfl;refine Z03 (v:= .string ⟨it.name.toArray⟩) (W':=W) rfl ?_ (hK.out _ _ (hI.pure (by decide) (fun v' h=>by cases h; rfl)));go_simp}
    refine StepsInv.cons2 _ rfl (fun d u' W K' hs hI hd hw hK=> ?_) ?_
    {have d8:d 8=false:=Z0a hs rfl (by kernel_rfl) hd;have d9:d 9=false:=Z0a hs rfl (by kernel_rfl) d8;have d10:d 10=false:=Z0a hs rfl (by kernel_rfl) d9;have d11:d 11=false:=Z0a hs rfl (by kernel_rfl) d10;have d4:u' 4= .string ⟨o.toArray⟩:=hI.vals 4 (hw 4 (by kernel_rfl)) _ rfl;have d6:u' 6= .string ⟨it.name.toArray⟩:=hI.vals 6 (hw 6 (by kernel_rfl)) _ rfl;refine Z3b (f:=27) (args:=#[.string ⟨o.toArray⟩,.string ⟨it.name.toArray⟩]) (W':=W) rfl ?_ ((Zci o it.name W).mono fun e w' ⟨he,hb⟩=>⟨_,he,hK.out _ _ (hI.call hD2 rfl d8 d9 d10 d11 hb (Zch _ _ _ _ ho HNL.out))⟩);go_simp}
    refine StepsInv.cons2 _ rfl (fun d u' W K' hs hI hd hw hK=> ?_) ?_
    {have d8:d 8=false:=hd;have d9:d 9=false:=Z0a hs rfl (by kernel_rfl) hd;have d10:d 10=false:=Z0a hs rfl (by kernel_rfl) d9;have w7:=hw 7 (by kernel_rfl);have d1:u' 1= .string ⟨o.toArray⟩:=hI.vals 1 (hw 1 (by kernel_rfl)) _ rfl;have d3:u' 3= .string ⟨it.name.toArray⟩:=hI.vals 3 (hw 3 (by kernel_rfl)) _ rfl;obtain ⟨q,e7,_⟩:=hI.cl w7;unfold sv at e7;refine Z03 (v:=bdV (⟨o,it.name,Expd.opq o it.name⟩:Bd) q) (W':=W) rfl ?_ (hK.out _ _ (hI.build hD2 rfl w7 d9 d10 e7));go_simp}
    refine StepsInv.cons2 _ rfl (fun d u' W K' hs hI hd hw hK=> ?_) ?_
    {have d9:d 9=false:=hd;have d10:d 10=false:=Z0a hs rfl (by kernel_rfl) hd;have w8:=hw 8 (by kernel_rfl);have w7:d 7=true:=hs 8 _ rfl w8 7 (by kernel_rfl);obtain ⟨q,e7,_,hb,_⟩:=hI.cl w7;have hb:=hb w8;refine Z03 (v:= .slice (some ⟨W.heap.size,0,none⟩) 1 1) (W':=W.alloc (.cells #[.string ⟨(⟨o,it.name,Expd.opq o it.name⟩:Bd).of_.toArray⟩,.string ⟨(⟨o,it.name,Expd.opq o it.name⟩:Bd).name.toArray⟩,.int .i64 (⟨o,it.name,Expd.opq o it.name⟩:Bd).sh.kind,.string ⟨(⟨o,it.name,Expd.opq o it.name⟩:Bd).sh.of_.toArray⟩,.string ⟨(⟨o,it.name,Expd.opq o it.name⟩:Bd).sh.name.toArray⟩,.slice q.A (⟨o,it.name,Expd.opq o it.name⟩:Bd).sh.names.length q.c,.slice q.P (⟨o,it.name,Expd.opq o it.name⟩:Bd).sh.parts.length q.d] 54)) rfl ?_ (hK.out _ _ (hI.mkS hD2 rfl w7 d10 e7));go_simp}
    refine StepsInv.cons2 _ rfl (fun d u' W K' hs hI hd hw hK=> ?_) ?_
    {have d10:d 10=false:=hd;have d11:d 11=false:=Z0a hs rfl (by kernel_rfl) hd;have w9:=hw 9 (by kernel_rfl);have w8:d 8=true:=hs 9 _ rfl w9 8 (by kernel_rfl);have w7:d 7=true:=hs 8 _ rfl w8 7 (by kernel_rfl);have d0:u' 0= .slice A1 lE.length c1:=hI.vals 0 (hw 0 (by kernel_rfl)) _ rfl;obtain ⟨q,e7,_,_,hsl,_⟩:=hI.cl w7;obtain ⟨zb,e9,_,_,z5⟩:=hsl w9 d10;refine Z0e rfl _ _ 26 rfl w.heap.size 54 ib (.agg #[.string ByteArray.empty,.string ByteArray.empty,.int .i64 0,.string ByteArray.empty,.string ByteArray.empty,.slice none 0 0,.slice none 0 0]) 7 120 Tryd.underlying26 hifb hzb hsb hbb7 rfl (by decide) (.slice A1 lE.length c1) lE.length (cellsB lE) (by show u' 0=_; exact d0) (hI.n0 d10) (some ⟨zb,0,none⟩) 1 1 (cellsB [((⟨o,it.name,Expd.opq o it.name⟩:Bd),q)]) (by show u' 9=_; exact e9) nofun (by rw[Z0h]; rfl) (by intro ad e j v hv; cases e; rw[Z0b,Nat.zero_add]; exact z5 j v (by rw[<-Z1u]; exact hv)) (Z0B _) (by unfold maxLen; omega) (by omega) (Nat.le_trans HWZ.out hI.up.size) ?_;intro v' w' hown hg hat;rw[Zc6] at hg hat;exact hK.out _ _ (hI.app hD2 rfl w7 d10 d11 e7 HK1.out.row (by rw[Z0j]; exact hown) hg hat)}
    refine StepsInv.cons2 _ rfl (fun d u' W K' hs hI hd hw hK=> ?_) StepsInv.nil
    {have w10:=hw 10 (by kernel_rfl);refine Z03 (v:=u' 10) (W':=W) rfl ?_ (hK.out _ _ (hI.fin hD2 rfl));go_simp}
    intro d z' W2 hI hdn
    try dsimp only
    rw[hI.al (hdn 11 (by decide))];obtain ⟨A2,c2,x,e9,hkn⟩:=HK1.out.put hI (hdn 7 (by decide)) (hdn 10 (by decide)) ho HNL.out;rw[e9];have HKN:=Y1 hkn;clear hkn hI hdn e9
    go_wp2_with fail
    go_roundw
    case rel=>exact ⟨k+1,lE++ [x],A2,c2,by go_num,by omega,by rw[List.length_append]; rfl,Y1 (by rw[HTK.out,HBI.out]; exact HKN.out)⟩
    case measure=>simp[intOf]; omega}
   have e2: (it.kind==2)=false:=by simp[hk2]
   have HBI:Hid ((Expd.bindOf o it).toList= []):=Y1 (by simp[Expd.bindOf,hk1,hk2])
   go_wp2_with fail
   go_roundw
   case rel=>exact ⟨k+1,lE,A1,c1,by go_num,by omega,rfl,Y1 (by rw[HTK.out,HBI.out,List.append_nil]; exact HK1.out)⟩
   case measure=>simp[intOf]; omega}
  {have hi1: ¬(k:Int) < (l.length:Int):=by omega
   obtain rfl:k=l.length:=by omega
   rw[List.take_length] at HK;go_wp2;refine bodyPost_ret (v:= .slice A1 lE.length c1) (by simp[results,Tryd.results14,go_sem]) rfl ?_;exact ⟨A1,⟨c1,by rw[HK.out.len]⟩,HK.out.bds,HK.out.up⟩}
end
end Go.Proofs.YtchklpedlbkgaaaDoor
namespace Go.Proofs.YtchklpedlbkgaaaDoor
open Go.RowKit Shp
section
variable {H : Type} {enc : TypeId × Value -> H} {W : World} {base : Nat} {held : Bool}
theorem Zca {P:Program} {e:TypeId} {l:List (DataW H)} {d:DataW H} (hd:d∈l) {n:Nat} (hn:n∈d.weights P e):n∈DataW.weightsAll P e l:=by
 induction l with
 | nil=>cases hd
 | cons a l ih=>
  rw[DataW.weightsAll,List.mem_append];rcases List.mem_cons.1 hd with rfl | hd
  {exact Or.inl hn}
  {exact Or.inr (ih hd)}
theorem Zcp (t:Sh): ∀(fuel:Nat) (q:Ptr) (x:DataW H×List MemPlace),DataW.trod enc Tryd.prog W base (fun _=>true) held fuel 25 [.int .i64 t.kind,.string ⟨t.of_.toArray⟩,.string ⟨t.name.toArray⟩,.slice q.A t.names.length q.c,.slice q.P t.parts.length q.d]=some x->
 (∀n∈DataW.weights Tryd.prog 25 x.1,n<=reachBytes)->ShAt W W.heap.size q t->Thin t:=by
 induction t using Sh.ind with
 | h t ih=>
 intro fuel q x h hw hat;obtain ⟨xs,n,hn,rfl,hlen,hxl,hf⟩:=DataW.trod_struct Tryd.underlying25 h;have hC:Tryd.prog.cellsOf 25=5:=by kernel_rfl
 have c22:Tryd.prog.cellsOf 22=1:=by kernel_rfl
 have c23:Tryd.prog.cellsOf 23=1:=by kernel_rfl
 have b9:Tryd.prog.bytesOf 9=16:=by kernel_rfl
 have hz:xs.length=5:=hxl;have f3:=hf 3 _ rfl;have f4:=hf 4 _ rfl;change DataW.trod enc _ W base _ held n 22 (([.int .i64 t.kind,.string ⟨t.of_.toArray⟩,.string ⟨t.name.toArray⟩,.slice q.A t.names.length q.c,.slice q.P t.parts.length q.d].drop 3).take (Tryd.prog.cellsOf 22))=_ at f3;change DataW.trod enc _ W base _ held n 23 (([.int .i64 t.kind,.string ⟨t.of_.toArray⟩,.string ⟨t.name.toArray⟩,.slice q.A t.names.length q.c,.slice q.P t.parts.length q.d].drop 4).take (Tryd.prog.cellsOf 23))=_ at f4;rw[c22,List.getElem?_eq_getElem (by omega)] at f3;rw[c23,List.getElem?_eq_getElem (by omega)] at f4;simp only[List.drop_succ_cons,List.drop_zero,List.take_succ_cons,List.take_zero] at f3 f4;have hw': ∀(j:Nat) (hj:j < xs.length) (e:TypeId),(Tryd.prog.underlying 25=none\/True)->(match Tryd.prog.underlying 25 with | some (.struct fs)=>(fs.toList.map (·.type))[j]? | _=>none)=some e-> ∀m∈DataW.weights Tryd.prog e (xs[j]'hj).1,m<=reachBytes:=by
  intro j hj e _ he m hm;refine hw m ?_;rw[DataW.weights,Tryd.underlying25];rw[Tryd.underlying25] at he;exact DataW.weights_mem_each he (by rw[List.getElem?_map,List.getElem?_eq_getElem hj]; rfl) m hm
 have w3:=hw' 3 (by omega) 22 (Or.inr trivial) (by rw[Tryd.underlying25]; rfl);have w4:=hw' 4 (by omega) 23 (Or.inr trivial) (by rw[Tryd.underlying25]; rfl);refine .mk t ?_ (fun p hp=> ?_)
 {rcases DataW.trod_slice Tryd.underlying22 f3 with ⟨h0,_⟩ | ⟨a,len,cap,elems,rest,n2,_,h1,h2,_,_,_,hel,_,_⟩
  {simp at h0;rw[h0.2.1]; simp}
  {simp at h1;obtain ⟨_,rfl,_⟩:=h1;rw[h2] at w3;have:=w3 ((elems.length+rest.length) * 16) (by rw[DataW.weights,Tryd.underlying22]; simp[b9]);unfold reachBytes at this;omega}}
 {rcases DataW.trod_slice Tryd.underlying23 f4 with ⟨h0,_⟩ | ⟨a,len,cap,elems,rest,n2,_,h1,h2,_,_,_,hel,hx,_⟩
  {simp at h0;rw[h0.2.1] at hp; cases hp}
  {simp at h1;obtain ⟨hqP,rfl,_⟩:=h1;rw[h2] at w4;obtain ⟨i,hi,rfl⟩:=List.getElem_of_mem hp;rcases hat.part with h0 | ⟨g,off,qs,hqP2,hg,hc,hr⟩
   {omega}
   rw[hqP] at hqP2;cases hqP2;have hxi:=hx i hi;rw[hC,List.getElem?_eq_getElem (by omega)] at hxi;cases hcs:W.cells? base ((⟨g,off,none⟩:Addr).add (i * 5)) 5 with
   | none=>rw[hcs] at hxi; cases hxi
   | some cs'=>
    rw[hcs] at hxi;obtain ⟨_,hcl,hat'⟩:=World.cells?_some hcs;obtain ⟨z0,z1,z2,z3,z4⟩:=hc i hi;have hcell: ∀k v,k < 5->W.cell? ⟨g,off+i * 5+k,none⟩=some v->cs'[k]? =some v:=fun k v hk hv=>by
     have h:=hat' k (by omega);rw[Go.Deep.add_add,Z0b, <-Nat.add_assoc,hv] at h;exact h.symm
    have e5:cs'= [.int .i64 (t.parts[i]'hi).kind,.string ⟨(t.parts[i]'hi).of_.toArray⟩,.string ⟨(t.parts[i]'hi).name.toArray⟩,.slice (qs i).A (t.parts[i]'hi).names.length (qs i).c,.slice (qs i).P (t.parts[i]'hi).parts.length (qs i).d]:=by
     have k0:=hcell 0 _ (by omega) z0;have k1:=hcell 1 _ (by omega) z1;have k2:=hcell 2 _ (by omega) z2;have k3:=hcell 3 _ (by omega) z3;have k4:=hcell 4 _ (by omega) z4
     match cs',hcl with
     | [a0,a1,a2,a3,a4],_=>
      simp at k0 k1 k2 k3 k4;rw[k0,k1,k2,k3,k4]
    rw[e5] at hxi;refine ih _ (List.getElem_mem hi) n2 (qs i) (elems[i]'(by omega)) hxi (fun m hm=>w4 m ?_) (hr i hi);rw[DataW.weights,Tryd.underlying23];refine List.mem_cons_of_mem _ (List.mem_append_left _ (Zca (List.mem_map.2 ⟨elems[i]'(by omega),List.getElem_mem _,rfl⟩) hm))}}
end
end Go.Proofs.YtchklpedlbkgaaaDoor
namespace Go.Proofs.YtchklpedlbkgaaaDoor
open Go.RowKit Shp
open Expd (Bd It)
section
variable {H : Type} {enc : TypeId × Value -> H} {W : World} {base : Nat} {held : Bool}
theorem Zct (b:It) (q:Ptr) (fuel:Nat) (x:DataW H×List MemPlace) (h:DataW.trod enc Tryd.prog W base (fun _=>true) held fuel 39 [.int .i64 b.kind,.string ⟨b.name.toArray⟩,.int .i64 b.sh.kind,.string ⟨b.sh.of_.toArray⟩,.string ⟨b.sh.name.toArray⟩,.slice q.A b.sh.names.length q.c,.slice q.P b.sh.parts.length q.d]=some x)
 (hw: ∀n∈DataW.weights Tryd.prog 39 x.1,n<=reachBytes) (hat:ShAt W W.heap.size q b.sh):Thin b.sh:=by
 obtain ⟨xs,n,hn,rfl,hlen,hxl,hf⟩:=DataW.trod_struct Tryd.underlying39 h;have c2:Tryd.prog.cellsOf 25=5:=by kernel_rfl
 have hz:xs.length=3:=hxl;have f2:=hf 2 _ rfl;change DataW.trod enc _ W base _ held n 25 (([.int .i64 b.kind,.string ⟨b.name.toArray⟩,.int .i64 b.sh.kind,.string ⟨b.sh.of_.toArray⟩,.string ⟨b.sh.name.toArray⟩,.slice q.A b.sh.names.length q.c,.slice q.P b.sh.parts.length q.d].drop 2).take (Tryd.prog.cellsOf 25))=_ at f2;rw[c2,List.getElem?_eq_getElem (by omega)] at f2;simp only[List.drop_succ_cons,List.drop_zero,List.take_succ_cons,List.take_zero] at f2;refine Zcp b.sh n q (xs[2]'(by omega)) f2 (fun m hm=>hw m ?_) hat;rw[DataW.weights,Tryd.underlying39];exact DataW.weights_mem_each (t:=25) (j:=2) (by rfl) (by rw[List.getElem?_map,List.getElem?_eq_getElem (by omega)]; rfl) m hm
theorem Zcq {A:Option Addr} {l:List It} {c:Nat} {d:DataW H} {p:List MemPlace} (h:DataW.Trod enc Tryd.prog W base (fun _=>true) held 36 (.slice A l.length c) d p) (hw: ∀n∈DataW.weights Tryd.prog 36 d,n<=reachBytes) (hI:ItsAt W W.heap.size A l): ∀x∈l,Thin x.sh:=by
 intro x hp;obtain ⟨fuel,hf⟩:=h;have hC:Tryd.prog.cellsOf 39=7:=by kernel_rfl
 rcases DataW.trod_slice Tryd.underlying36 hf with ⟨h0,_⟩ | ⟨a,len,cap,elems,rest,n2,_,h1,h2,_,_,_,hel,hx,_⟩
 {simp[Value.cells] at h0;rw[h0.2.1] at hp; cases hp}
 {simp[Value.cells] at h1;obtain ⟨hqP,rfl,_⟩:=h1;have h2d:=congrArg Prod.fst h2;simp only at h2d;rw[h2d] at hw;obtain ⟨i,hi,rfl⟩:=List.getElem_of_mem hp;rcases hI with h0 | ⟨g,off,qs,hqP2,hg,hc⟩
  {omega}
  rw[hqP] at hqP2;cases hqP2;have hxi:=hx i hi;rw[hC,List.getElem?_eq_getElem (by omega)] at hxi;cases hcs:W.cells? base ((⟨g,off,none⟩:Addr).add (i * 7)) 7 with
  | none=>rw[hcs] at hxi; cases hxi
  | some cs'=>
   rw[hcs] at hxi;obtain ⟨_,hcl,hat'⟩:=World.cells?_some hcs;obtain ⟨y0,y1,⟨z0,z1,z2,z3,z4⟩,hat,_⟩:=hc i hi;have hcell: ∀k v,k < 7->W.cell? ⟨g,off+i * 7+k,none⟩=some v->cs'[k]? =some v:=fun k v hk hv=>by
    have h:=hat' k (by omega);rw[Go.Deep.add_add,Z0b, <-Nat.add_assoc,hv] at h;exact h.symm
   have e7:cs'= [.int .i64 (l[i]'hi).kind,.string ⟨(l[i]'hi).name.toArray⟩,.int .i64 (l[i]'hi).sh.kind,.string ⟨(l[i]'hi).sh.of_.toArray⟩,.string ⟨(l[i]'hi).sh.name.toArray⟩,.slice (qs i).A (l[i]'hi).sh.names.length (qs i).c,.slice (qs i).P (l[i]'hi).sh.parts.length (qs i).d]:=by
    have k0:=hcell 0 _ (by omega) y0;have k1:=hcell 1 _ (by omega) y1;have k2:=hcell 2 _ (by omega) z0;have k3:=hcell 3 _ (by omega) z1;have k4:=hcell 4 _ (by omega) z2;have k5:=hcell 5 _ (by omega) z3;have k6:=hcell 6 _ (by omega) z4
    match cs',hcl with
    | [a0,a1,a2,a3,a4,a5,a6],_=>
     simp at k0 k1 k2 k3 k4 k5 k6;rw[k0,k1,k2,k3,k4,k5,k6]
   rw[e7] at hxi;refine Zct _ (qs i) n2 (elems[i]'(by omega)) hxi (fun m hm=>hw m ?_) hat;rw[DataW.weights,Tryd.underlying36];refine List.mem_cons_of_mem _ (List.mem_append_left _ (Zca (List.mem_map.2 ⟨elems[i]'(by omega),List.getElem_mem _,rfl⟩) hm))}
end
end Go.Proofs.YtchklpedlbkgaaaDoor
namespace Go.Proofs.YtchklpedlbkgaaaDoor
open Go.RowKit Shp Sub
open Expd (Bd)
namespace SubM
def lay7 (W:World) (g:Nat) (x:BE):World:=
 ((((((W.setCell ⟨g,0,none⟩ (.string ⟨x.1.of_.toArray⟩)).setCell ⟨g,1,none⟩ (.string ⟨x.1.name.toArray⟩)).setCell ⟨g,2,none⟩ (.int .i64 x.1.sh.kind)).setCell ⟨g,3,none⟩ (.string ⟨x.1.sh.of_.toArray⟩)).setCell ⟨g,4,none⟩ (.string ⟨x.1.sh.name.toArray⟩)).setCell ⟨g,5,none⟩ (.slice x.2.A x.1.sh.names.length x.2.c)).setCell ⟨g,6,none⟩ (.slice x.2.P x.1.sh.parts.length x.2.d)
section
variable (W : World) (g : Nat) (x : BE)
include W g x
theorem Zcz:Upd (fun b=>b=g) W (lay7 W g x):=
 Upd.set (Upd.set (Upd.set (Upd.set (Upd.set (Upd.set (Upd.set (Upd.refl (fun b=>b=g) W) ⟨g,0,none⟩ (fun _=>rfl) _) ⟨g,1,none⟩ (fun _=>rfl) _) ⟨g,2,none⟩ (fun _=>rfl) _) ⟨g,3,none⟩ (fun _=>rfl) _) ⟨g,4,none⟩ (fun _=>rfl) _) ⟨g,5,none⟩ (fun _=>rfl) _) ⟨g,6,none⟩ (fun _=>rfl) _
theorem Zcu: (lay7 W g x).heap.size=W.heap.size:=by simp[lay7,World.setCell]
theorem ZcC (j:Nat): (lay7 W g x).frozen? ⟨g,j,none⟩=W.frozen? ⟨g,j,none⟩:=by
 unfold lay7; rw[World.frozen?_setCell,World.frozen?_setCell,World.frozen?_setCell,World.frozen?_setCell,World.frozen?_setCell,World.frozen?_setCell,World.frozen?_setCell]
end
section
variable {W : World} {g : Nat} (x : BE) (h : ∀ j, j < 7 -> ∃ v, W.cell? ⟨g, j, none⟩ = some v)
include W g x h
theorem Zck: ∀j v,(cells7 x)[j]? =some v->(lay7 W g x).cell? ⟨g,j,none⟩=some v:=by
 obtain ⟨v0,h0⟩:=h 0 (by omega);obtain ⟨v1,h1⟩:=h 1 (by omega);obtain ⟨v2,h2⟩:=h 2 (by omega);obtain ⟨v3,h3⟩:=h 3 (by omega);obtain ⟨v4,h4⟩:=h 4 (by omega);obtain ⟨v5,h5⟩:=h 5 (by omega);obtain ⟨v6,h6⟩:=h 6 (by omega);intro j v hv;unfold lay7;rcases j with _ | _ | _ | _ | _ | _ | _ | j
 {simp[cells7] at hv; subst hv;rw[RX.soc (by omega),RX.soc (by omega),RX.soc (by omega),RX.soc (by omega),RX.soc (by omega),RX.soc (by omega)]; exact World.cell?_setCell_same _ _ _ h0}
 {simp[cells7] at hv; subst hv;rw[RX.soc (by omega),RX.soc (by omega),RX.soc (by omega),RX.soc (by omega),RX.soc (by omega)]; exact World.cell?_setCell_same _ _ _ (by rw[RX.soc (by omega)]; exact h1)}
 {simp[cells7] at hv; subst hv;rw[RX.soc (by omega),RX.soc (by omega),RX.soc (by omega),RX.soc (by omega)]; exact World.cell?_setCell_same _ _ _ (by rw[RX.soc (by omega),RX.soc (by omega)]; exact h2)}
 {simp[cells7] at hv; subst hv;rw[RX.soc (by omega),RX.soc (by omega),RX.soc (by omega)]; exact World.cell?_setCell_same _ _ _ (by rw[RX.soc (by omega),RX.soc (by omega),RX.soc (by omega)]; exact h3)}
 {simp[cells7] at hv; subst hv;rw[RX.soc (by omega),RX.soc (by omega)]; exact World.cell?_setCell_same _ _ _ (by rw[RX.soc (by omega),RX.soc (by omega),RX.soc (by omega),RX.soc (by omega)]; exact h4)}
 {simp[cells7] at hv; subst hv;rw[RX.soc (by omega)]; exact World.cell?_setCell_same _ _ _ (by rw[RX.soc (by omega),RX.soc (by omega),RX.soc (by omega),RX.soc (by omega),RX.soc (by omega)]; exact h5)}
 {simp[cells7] at hv; subst hv;exact World.cell?_setCell_same _ _ _ (by rw[RX.soc (by omega),RX.soc (by omega),RX.soc (by omega),RX.soc (by omega),RX.soc (by omega),RX.soc (by omega)]; exact h6)}
 {simp[cells7] at hv}
theorem Zcv: ∀j,j < 7-> ∃v,(lay7 W g x).cell? ⟨g,j,none⟩=some v:=fun j hj=>
 ⟨_,Zck x h j _ (List.getElem?_eq_getElem (l:=cells7 x) (i:=j) hj)⟩
end
structure NB (W0:World) (val:Nat->Option Value) (aI sI:Nat) (x:BE) (d:Nat->Bool) (u:Nat->Value) (W:World):Prop where
 up:Below W0.heap.size W0 W
 vals: ∀j,d j=true-> ∀v,val j=some v->u j=v
 al:d aI=true-> ∃g,u aI= .pointer (some ⟨g,0,none⟩)/\W0.heap.size<=g/\g < W.heap.size/\(∀j,W.frozen? ⟨g,j,none⟩=false)/\(∀j,j < 7-> ∃v,W.cell? ⟨g,j,none⟩=some v)/\
  (d sI=true-> ∀j v,(cells7 x)[j]? =some v->W.cell? ⟨g,j,none⟩=some v)
section
variable {W0 W W' : World} {val : Nat -> Option Value} {aI sI : Nat} {x : BE} {d : Nat -> Bool} {u : Nat -> Value}
theorem NB.start {u:Nat->Value}:NB W0 val aI sI x (fun _=>false) u W0.drew:=⟨Y2.drew,nofun,nofun⟩
section
variable (h : NB W0 val aI sI x d u W) {i : Nat}
include h i
theorem NB.vals' {v:Value} (hv: ∀v',val i=some v'->v=v'): ∀j,also d i j=true-> ∀v',val j=some v'->upd u i v j=v':=fun j hj v' hv'=>by
 by_cases hij:j=i
 {subst hij; rw[Z06]; exact hv v' hv'}
 {rw[Z08 d hij] at hj; rw[Z01 u v hij]; exact h.vals j hj v' hv'}
theorem NB.pure (hi:i≠aI/\i≠sI) {v:Value} (hv: ∀v',val i=some v'->v=v'):NB W0 val aI sI x (also d i) (upd u i v) W:=by
 obtain ⟨k1,k2⟩:=hi;refine ⟨h.up,h.vals' hv, ?_⟩;rw[Z08 d (Ne.symm k1),Z01 u v (Ne.symm k1),Z08 d (Ne.symm k2)];exact h.al
end
theorem NB.alloc (h:NB W0 val aI sI x d u W) (hD:aI≠sI) (hval:val aI=none) (hs:d sI=false):NB W0 val aI sI x (also d aI) (upd u aI (.pointer (some ⟨W.heap.size,0,none⟩))) (W.alloc (.cells #[.string ⟨#[]⟩,.string ⟨#[]⟩,.int .i64 0,.string ⟨#[]⟩,.string ⟨#[]⟩,.slice none 0 0,.slice none 0 0] 54)):=by
 refine ⟨Z02 h.up (Z00 _ _),h.vals' (fun v' hv=>by rw[hval] at hv; cases hv), ?_⟩;rw[Z06,Z08 d (Ne.symm hD),hs];refine fun _=>⟨W.heap.size,rfl,h.up.size,by simp,fun j=>by simp[go_sem],fun j hj=> ?_,nofun⟩;rcases j with _ | _ | _ | _ | _ | _ | _ | j
 {exact ⟨.string ⟨#[]⟩,by simp[go_sem]⟩}
 {exact ⟨.string ⟨#[]⟩,by simp[go_sem]⟩}
 {exact ⟨.int .i64 0,by simp[go_sem]⟩}
 {exact ⟨.string ⟨#[]⟩,by simp[go_sem]⟩}
 {exact ⟨.string ⟨#[]⟩,by simp[go_sem]⟩}
 {exact ⟨.slice none 0 0,by simp[go_sem]⟩}
 {exact ⟨.slice none 0 0,by simp[go_sem]⟩}
 {omega}
theorem NB.store (h:NB W0 val aI sI x d u W) (hD:aI≠sI) (hval:val sI=none) (ha:d aI=true) {g:Nat} (hg:u aI= .pointer (some ⟨g,0,none⟩)):NB W0 val aI sI x (also d sI) (upd u sI undef) (lay7 W g x):=by
 obtain ⟨g',e',g1,g2,g3,g4,_⟩:=h.al ha;obtain rfl:g'=g:=by rw[hg] at e'; simp at e'; exact e'.symm
 have hu:=Zcz W g' x;refine ⟨h.up.trans (hu.below h.up.size (fun b hb=>by omega)),h.vals' (fun v' hv=>by rw[hval] at hv; cases hv), ?_⟩;rw[Z01 u _ hD];exact fun _=>⟨g',hg,g1,by rw[Zcu]; exact g2,fun j=>(ZcC W g' x j).trans (g3 j),Zcv x g4,fun _=>Zck x g4⟩
end
structure KD (w:World) (l:List Bd) (lE:List BE) (A:Option Addr) (c:Nat) (W:World):Prop where
 up:Below w.heap.size w W
 row:W.ownsRow w.heap.size 54 7 (.slice A lE.length c) lE.length (cellsB lE)
 eq:lE.map Prod.fst=l
 kp: ∀x∈lE,Kept (fun b=>rowB A≠some b) W (x.1.sh,x.2)/\x.1.of_.length<=9223372036854775807/\x.1.name.length<=9223372036854775807
section
variable {w W W' : World} {l : List Bd} {lE : List BE} {A : Option Addr} {c : Nat}
theorem KD.new (h:KD w l lE A c W) (hb:Below W.heap.size W W'):KD w l lE A c W':=
 ⟨Z02 h.up hb |> fun x=>x,Z14 h.row hb,h.eq,fun x hx=>⟨(h.kp x hx).1.upd (T:=fun _=>False) (Upd.new hb) (fun _ _ _ h=>h),(h.kp x hx).2⟩⟩
section
variable (h : KD w l lE A c W)
include h
theorem KD.len:lE.length=l.length:=by have:=congrArg List.length h.eq; simpa using this
theorem KD.bds:BdsAt W W.heap.size A l:=by
 have:=Z4b h.row rfl (fun x hx=>⟨(h.kp x hx).1.here,(h.kp x hx).2⟩);rw[h.eq] at this;exact this
theorem KD.put (x:BE) (hk:Kept (fun b=>rowB A≠some b) W (x.1.sh,x.2)) (h1:x.1.of_.length<=9223372036854775807) (h2:x.1.name.length<=9223372036854775807) {v:Value}
 (hr:W'.ownsRow w.heap.size 54 7 v (lE.length+1) (cellsB (lE++ [x]))) (hg:W.grownBy W' (rowB A)) (hat:v.ownBlock=rowB A\/v.ownBlock=some W.heap.size):
 ∃A' c',v= .slice A' (lE.length+1) c'/\KD w (l++ [x.1]) (lE++ [x]) A' c' W':=by
 obtain ⟨g,c',e⟩:=Z3t hr (by omega);have hu:Upd (fun x=>rowB A=some x) W W':=(Upd.refl _ W).grown hg (fun k h _=>h);rw[e] at hr hat;simp only[Zc6] at hat;have hw:=h.up.size;refine ⟨_,c',e,h.up.trans (hu.below hw (fun x hx=>(Z0u h.row x hx).1)),by rw[List.length_append]; exact hr,by rw[List.map_append,h.eq]; rfl,fun y hy=> ?_⟩;have hmv: ∀z:El,Kept (fun b=>rowB A≠some b) W z->Kept (fun b=>rowB (some ⟨g,0,none⟩)≠some b) W' z:=fun z hz=>hz.move hu (fun b hb hf=>⟨hf,fun e=>by
  rcases hat with h3 | h3
  {exact hf (h3.symm.trans e)}
  · rw[h3] at e; cases e; omega⟩)
 rcases List.mem_append.1 hy with hy | hy
 {exact ⟨hmv _ (h.kp y hy).1,(h.kp y hy).2⟩}
 {rw[List.mem_singleton.1 hy];exact ⟨hmv _ hk,h1,h2⟩}
end
end
end SubM
end Go.Proofs.YtchklpedlbkgaaaDoor
namespace Go.Proofs.YtchklpedlbkgaaaDoor
section
open Go.RowKit Shp Sub SubM
open Expd (Bd It)
def Zc7 (W:World) (g:Nat) (v2 v3 v4 v5 v6:Value):World:=
 ((((W.setCell ⟨g,2,none⟩ v2).setCell ⟨g,3,none⟩ v3).setCell ⟨g,4,none⟩ v4).setCell ⟨g,5,none⟩ v5).setCell ⟨g,6,none⟩ v6
theorem Zcw (W:World) (g:Nat) (v2 v3 v4 v5 v6:Value):Upd (fun b=>b=g) W (Zc7 W g v2 v3 v4 v5 v6):=
 Upd.set (Upd.set (Upd.set (Upd.set (Upd.set (Upd.refl (fun b=>b=g) W) ⟨g,2,none⟩ (fun _=>rfl) _) ⟨g,3,none⟩ (fun _=>rfl) _) ⟨g,4,none⟩ (fun _=>rfl) _) ⟨g,5,none⟩ (fun _=>rfl) _) ⟨g,6,none⟩ (fun _=>rfl) _
theorem ZcA {W:World} {g:Nat} {w0 w1 w2 w3 w4 w5 w6:Value} (v2 v3 v4 v5 v6:Value) (h0:W.cell? ⟨g,0,none⟩=some w0) (h1:W.cell? ⟨g,1,none⟩=some w1) (h2:W.cell? ⟨g,2,none⟩=some w2) (h3:W.cell? ⟨g,3,none⟩=some w3) (h4:W.cell? ⟨g,4,none⟩=some w4) (h5:W.cell? ⟨g,5,none⟩=some w5) (h6:W.cell? ⟨g,6,none⟩=some w6):
 (Zc7 W g v2 v3 v4 v5 v6).cell? ⟨g,0,none⟩=some w0/\(Zc7 W g v2 v3 v4 v5 v6).cell? ⟨g,1,none⟩=some w1/\(Zc7 W g v2 v3 v4 v5 v6).cell? ⟨g,2,none⟩=some v2/\(Zc7 W g v2 v3 v4 v5 v6).cell? ⟨g,3,none⟩=some v3/\(Zc7 W g v2 v3 v4 v5 v6).cell? ⟨g,4,none⟩=some v4/\(Zc7 W g v2 v3 v4 v5 v6).cell? ⟨g,5,none⟩=some v5/\(Zc7 W g v2 v3 v4 v5 v6).cell? ⟨g,6,none⟩=some v6:=by
 unfold Zc7;refine ⟨?_, ?_, ?_, ?_, ?_, ?_, ?_⟩
 {rw[RX.soc (by omega),RX.soc (by omega),RX.soc (by omega),RX.soc (by omega),RX.soc (by omega)]; exact h0}
 {rw[RX.soc (by omega),RX.soc (by omega),RX.soc (by omega),RX.soc (by omega),RX.soc (by omega)]; exact h1}
 {rw[RX.soc (by omega),RX.soc (by omega),RX.soc (by omega),RX.soc (by omega)]; exact World.cell?_setCell_same _ _ _ h2}
 {rw[RX.soc (by omega),RX.soc (by omega),RX.soc (by omega)]; exact World.cell?_setCell_same _ _ _ (by rw[RX.soc (by omega)]; exact h3)}
 {rw[RX.soc (by omega),RX.soc (by omega)]; exact World.cell?_setCell_same _ _ _ (by rw[RX.soc (by omega),RX.soc (by omega)]; exact h4)}
 {rw[RX.soc (by omega)]; exact World.cell?_setCell_same _ _ _ (by rw[RX.soc (by omega),RX.soc (by omega),RX.soc (by omega)]; exact h5)}
 {exact World.cell?_setCell_same _ _ _ (by rw[RX.soc (by omega),RX.soc (by omega),RX.soc (by omega),RX.soc (by omega)]; exact h6)}
theorem Zcj (o:List UInt8) (l:List It) (A:Option Addr) (cap:Nat) (w:World) (hL:ItsAt w w.heap.size A l) (hl:l.length<=100) (ho:o.length<=9223372036854775807):
 Calls Tryd.prog 15 #[.string ⟨o.toArray⟩,.slice A l.length cap] w fun e w'=> ∃A' c',e= .returned (.slice A' (Expd.types o l).length c')/\BdsAt w' w'.heap.size A' (Expd.types o l)/\Below w.heap.size w w':=by
 have HL:=Y1 hL;clear hL;go_enter Tryd.func15,Tryd.ntmps15
 go_wp2_with fail
 go_loopw [5,6] (fun cc ii wr=> ∃(k:Nat) (lE:List BE) (A':Option Addr) (c':Nat),ii= .int .i64 k/\k<=l.length/\cc= .slice A' lE.length c'/\Hid (KD w (Expd.types o (l.take k)) lE A' c' wr)) (fun _ i _=>l.length - (intOf i).toNat)
 case atStart=>exact ⟨0,[],none,0,rfl,Nat.zero_le _,rfl,Y1 ⟨Below.refl _ _,World.ownsRow_nil _ _ _ _,rfl,fun x hx=>absurd hx (by simp)⟩⟩
 case round=>
  obtain ⟨k,lE,A1,c1,rfl,hk,rfl,HK⟩:=hrel;by_cases hlt:k < l.length
  {have hi1: (k:Int) < (l.length:Int):=by omega
   have HTK:=Y1 (Zcd o l k hlt);obtain ⟨g,off,qs,hA,hg,hc⟩:=(HL.out.keep HK.out.up (Nat.le_refl _)).resolve_left (by omega);subst hA;obtain ⟨x0,x1,xs,hat,_,hnl⟩:=hc k hlt;obtain ⟨it,hit⟩: ∃it,it=l[k]'hlt:=⟨_,rfl⟩;obtain ⟨qi,hqi⟩: ∃q,q=qs k:=⟨_,rfl⟩;rw[<-hit] at HTK x0 x1 hnl;rw[<-hit, <-hqi] at xs hat;obtain ⟨x2,x3,x4,x5,x6⟩:=xs;change wr.cell? ⟨g,off+k * 7+3,none⟩=_ at x3;change wr.cell? ⟨g,off+k * 7+4,none⟩=_ at x4;change wr.cell? ⟨g,off+k * 7+5,none⟩=_ at x5;change wr.cell? ⟨g,off+k * 7+6,none⟩=_ at x6;clear hc hit hqi;have HNL:=Y1 hnl;have hwz:=HK.out.up.size;have HWZ:=Y1 hwz;have HXC:Hid (∀W,Below w.heap.size wr W->W.cell? ⟨g,off+k * 7,none⟩=some (.int .i64 it.kind)/\W.cell? ⟨g,off+k * 7+1,none⟩=some (.string ⟨it.name.toArray⟩)/\W.cell? ⟨g,off+k * 7+2,none⟩=some (.int .i64 it.sh.kind)/\W.cell? ⟨g,off+k * 7+3,none⟩=some (.string ⟨it.sh.of_.toArray⟩)/\W.cell? ⟨g,off+k * 7+4,none⟩=some (.string ⟨it.sh.name.toArray⟩)/\W.cell? ⟨g,off+k * 7+5,none⟩=some (.slice qi.A it.sh.names.length qi.c)/\W.cell? ⟨g,off+k * 7+6,none⟩=some (.slice qi.P it.sh.parts.length qi.d)):=Y1 (fun W hb=>
    have c:=fun j=>hb.cell (p:=⟨g,j,none⟩) hg
    ⟨(c _).trans x0,(c _).trans x1,(c _).trans x2,(c _).trans x3,(c _).trans x4,(c _).trans x5,(c _).trans x6⟩)
   have HAT:Hid (∀W,Below w.heap.size wr W->ShAt W w.heap.size qi it.sh):=Y1 (fun W hb=>hat.of (Nat.le_refl _) (fun g k hg=>hb.cell (p:=⟨g,k,none⟩) hg));have HG:=Y1 hg;have hlen:=HK.out.len;have hll:lE.length<=100:=by
    rw[hlen]; unfold Expd.types;have:=List.length_filterMap_le (Expd.bindOf o) (l.take k);rw[List.length_take] at this; omega
   obtain ⟨ib,hifb,hzb,hsb,hbb7⟩:=Z8a Z8b;clear hat hnl hwz hlen hg x0 x1 x2 x3 x4 x5 x6
   go_wp2_with fail
   refine Z49 (rs:= [0,1,2,3,4,5,6,7,8,9,10,11,12,13])
    (fun u'=> { tmps:=#[.string { data:=o.toArray },.slice (some { block:=g,off:=off }) l.length cap,undef,undef,.slice none 0 0,.slice A1 lE.length c1,.int .i64 ↑k,u' 12,.int .i64 ↑k,.slice (some { block:=g,off:=off }) l.length cap,.int .i64 ↑l.length,.bool true,u12,u13,u' 0,u' 1,u' 2,u' 3,u' 4,u' 5,u' 6,u' 7,u' 8,u' 9,u' 10,u' 11,u26,u27,u28,u29,u30,u31,u32,u33,u34,u35,u36,u37,u38,u39,u40,u41,u42,u43,u44,u45,u46,u47,u48,u49,u50,u51,u52,u53,u54,u55,u56,u57,undef],defers:= [] })
    (fun j=>([u14,u15,u16,u17,u18,u19,u20,u21,u22,u23,u24,u25,u7,undef]:List Value).getD j undef) (NB wr (fun j=>match j with | 0=>some (.string ⟨o.toArray⟩) | 1=>some (.slice (some ⟨g,off,none⟩) l.length cap) | 2=>some (.int .i64 (k:Int)) | 3=>some (.pointer (some ⟨g,off+k * 7,none⟩)) | 4=>some (.pointer (some ⟨g,off+k * 7+1,none⟩)) | 5=>some (.string ⟨it.name.toArray⟩) | 6=>some (.slice (some ⟨g,off,none⟩) l.length cap) | 7=>some (.int .i64 (k:Int)) | 8=>some (.pointer (some ⟨g,off+k * 7,none⟩)) | 9=>some (.pointer (some ⟨g,off+k * 7+2,none⟩)) | 10=>some (.agg #[.int .i64 it.sh.kind,.string ⟨it.sh.of_.toArray⟩,.string ⟨it.sh.name.toArray⟩,.slice qi.A it.sh.names.length qi.c,.slice qi.P it.sh.parts.length qi.d]) | 11=>some (.agg #[.string ⟨o.toArray⟩,.string ⟨it.name.toArray⟩,.int .i64 it.sh.kind,.string ⟨it.sh.of_.toArray⟩,.string ⟨it.sh.name.toArray⟩,.slice qi.A it.sh.names.length qi.c,.slice qi.P it.sh.parts.length qi.d]) | _=>none) 12 13 ((⟨o,it.name,it.sh⟩:Bd),qi)) (by kernel_rfl) (by kernel_rfl) (by kernel_rfl) NB.start ?_ ?_
   refine StepsInv.cons2 _ rfl (fun d u' W K' hs hI hd hw hK=> ?_) ?_
   {refine Z03 (v:= .string ⟨o.toArray⟩) (W':=W) rfl ?_ (hK.out _ _ (hI.pure (by decide) (fun v' h=>by cases h; rfl)));go_simp}
   refine StepsInv.cons2 _ rfl (fun d u' W K' hs hI hd hw hK=> ?_) ?_
   {refine Z03 (v:= .slice (some ⟨g,off,none⟩) l.length cap) (W':=W) rfl ?_ (hK.out _ _ (hI.pure (by decide) (fun v' h=>by cases h; rfl)));go_simp}
   refine StepsInv.cons2 _ rfl (fun d u' W K' hs hI hd hw hK=> ?_) ?_
   {refine Z03 (v:= .int .i64 (k:Int)) (W':=W) rfl ?_ (hK.out _ _ (hI.pure (by decide) (fun v' h=>by cases h; rfl)));go_simp}
   refine StepsInv.cons2 _ rfl (fun d u' W K' hs hI hd hw hK=> ?_) ?_
   {have d1:u' 1= .slice (some ⟨g,off,none⟩) l.length cap:=hI.vals 1 (hw 1 (by kernel_rfl)) _ rfl;have d2:u' 2= .int .i64 (k:Int):=hI.vals 2 (hw 2 (by kernel_rfl)) _ rfl;refine Z03 (v:= .pointer (some ⟨g,off+k * 7,none⟩)) (W':=W) rfl ?_ (hK.out _ _ (hI.pure (by decide) (fun v' h=>by cases h; rfl)));go_simp}
   refine StepsInv.cons2 _ rfl (fun d u' W K' hs hI hd hw hK=> ?_) ?_
   {have d3:u' 3= .pointer (some ⟨g,off+k * 7,none⟩):=hI.vals 3 (hw 3 (by kernel_rfl)) _ rfl;refine Z03 (v:= .pointer (some ⟨g,off+k * 7+1,none⟩)) (W':=W) rfl ?_ (hK.out _ _ (hI.pure (by decide) (fun v' h=>by cases h; rfl)));go_simp}
   refine StepsInv.cons2 _ rfl (fun d u' W K' hs hI hd hw hK=> ?_) ?_
   {have d4:u' 4= .pointer (some ⟨g,off+k * 7+1,none⟩):=hI.vals 4 (hw 4 (by kernel_rfl)) _ rfl;obtain ⟨y0,y1,y2,y3,y4,y5,y6⟩:=HXC.out W (hI.up.mono HWZ.out);refine Z03 (v:= .string ⟨it.name.toArray⟩) (W':=W) rfl ?_ (hK.out _ _ (hI.pure (by decide) (fun v' h=>by cases h; rfl)));go_simp}
   refine StepsInv.cons2 _ rfl (fun d u' W K' hs hI hd hw hK=> ?_) ?_
   {refine Z03 (v:= .slice (some ⟨g,off,none⟩) l.length cap) (W':=W) rfl ?_ (hK.out _ _ (hI.pure (by decide) (fun v' h=>by cases h; rfl)));go_simp}
   refine StepsInv.cons2 _ rfl (fun d u' W K' hs hI hd hw hK=> ?_) ?_
   {refine Z03 (v:= .int .i64 (k:Int)) (W':=W) rfl ?_ (hK.out _ _ (hI.pure (by decide) (fun v' h=>by cases h; rfl)));go_simp}
   refine StepsInv.cons2 _ rfl (fun d u' W K' hs hI hd hw hK=> ?_) ?_
   {have d6:u' 6= .slice (some ⟨g,off,none⟩) l.length cap:=hI.vals 6 (hw 6 (by kernel_rfl)) _ rfl;have d7:u' 7= .int .i64 (k:Int):=hI.vals 7 (hw 7 (by kernel_rfl)) _ rfl;refine Z03 (v:= .pointer (some ⟨g,off+k * 7,none⟩)) (W':=W) rfl ?_ (hK.out _ _ (hI.pure (by decide) (fun v' h=>by cases h; rfl)));go_simp}
   refine StepsInv.cons2 _ rfl (fun d u' W K' hs hI hd hw hK=> ?_) ?_
   {have d8:u' 8= .pointer (some ⟨g,off+k * 7,none⟩):=hI.vals 8 (hw 8 (by kernel_rfl)) _ rfl;refine Z03 (v:= .pointer (some ⟨g,off+k * 7+2,none⟩)) (W':=W) rfl ?_ (hK.out _ _ (hI.pure (by decide) (fun v' h=>by cases h; rfl)));go_simp}
   refine StepsInv.cons2 _ rfl (fun d u' W K' hs hI hd hw hK=> ?_) ?_
   {have d9:u' 9= .pointer (some ⟨g,off+k * 7+2,none⟩):=hI.vals 9 (hw 9 (by kernel_rfl)) _ rfl;obtain ⟨y0,y1,y2,y3,y4,y5,y6⟩:=HXC.out W (hI.up.mono HWZ.out);refine Z03 (v:= .agg #[.int .i64 it.sh.kind,.string ⟨it.sh.of_.toArray⟩,.string ⟨it.sh.name.toArray⟩,.slice qi.A it.sh.names.length qi.c,.slice qi.P it.sh.parts.length qi.d]) (W':=W) rfl ?_ (hK.out _ _ (hI.pure (by decide) (fun v' h=>by cases h; rfl)));go_simp}
   refine StepsInv.cons2 _ rfl (fun d u' W K' hs hI hd hw hK=> ?_) ?_
   {have d0:u' 0= .string ⟨o.toArray⟩:=hI.vals 0 (hw 0 (by kernel_rfl)) _ rfl;have d5:u' 5= .string ⟨it.name.toArray⟩:=hI.vals 5 (hw 5 (by kernel_rfl)) _ rfl;have d10:u' 10= .agg #[.int .i64 it.sh.kind,.string ⟨it.sh.of_.toArray⟩,.string ⟨it.sh.name.toArray⟩,.slice qi.A it.sh.names.length qi.c,.slice qi.P it.sh.parts.length qi.d]:=hI.vals 10 (hw 10 (by kernel_rfl)) _ rfl;refine Z03 (v:= .agg #[.string ⟨o.toArray⟩,.string ⟨it.name.toArray⟩,.int .i64 it.sh.kind,.string ⟨it.sh.of_.toArray⟩,.string ⟨it.sh.name.toArray⟩,.slice qi.A it.sh.names.length qi.c,.slice qi.P it.sh.parts.length qi.d]) (W':=W) rfl ?_ (hK.out _ _ (hI.pure (by decide) (fun v' h=>by cases h; rfl)));go_simp}
   refine StepsInv.cons2 _ rfl (fun d u' W K' hs hI hd hw hK=> ?_) ?_
   {have d13:d 13=false:=Z0a hs rfl (by kernel_rfl) hd;refine Z03 (v:= .pointer (some ⟨W.heap.size,0,none⟩)) (W':=W.alloc (.cells #[.string ⟨#[]⟩,.string ⟨#[]⟩,.int .i64 0,.string ⟨#[]⟩,.string ⟨#[]⟩,.slice none 0 0,.slice none 0 0] 54)) rfl ?_ (hK.out _ _ (hI.alloc (by decide) rfl d13));go_simp}
   refine StepsInv.cons2 _ rfl (fun d u' W K' hs hI hd hw hK=> ?_) StepsInv.nil
   {have w12:=hw 12 (by kernel_rfl);have d11:u' 11= .agg #[.string ⟨o.toArray⟩,.string ⟨it.name.toArray⟩,.int .i64 it.sh.kind,.string ⟨it.sh.of_.toArray⟩,.string ⟨it.sh.name.toArray⟩,.slice qi.A it.sh.names.length qi.c,.slice qi.P it.sh.parts.length qi.d]:=hI.vals 11 (hw 11 (by kernel_rfl)) _ rfl;obtain ⟨g1,e12,_,g2,g3,g4,_⟩:=hI.al w12
    try dsimp only at e12
    refine Z1I (W':=lay7 W g1 ((⟨o,it.name,it.sh⟩:Bd),qi)) rfl ?_ (hK.out undef _ (hI.store (by decide) rfl w12 e12));obtain ⟨v0,x0⟩:=g4 0 (by omega);obtain ⟨v1,x1⟩:=g4 1 (by omega);obtain ⟨v2,x2⟩:=g4 2 (by omega);obtain ⟨v3,x3⟩:=g4 3 (by omega);obtain ⟨v4,x4⟩:=g4 4 (by omega);obtain ⟨v5,x5⟩:=g4 5 (by omega);obtain ⟨v6,x6⟩:=g4 6 (by omega);have y0:=g3 0;have y1:=g3 1;have y2:=g3 2;have y3:=g3 3;have y4:=g3 4;have y5:=g3 5;have y6:=g3 6;go_simp;rfl}
   intro d z' W5 hI hdn
   try dsimp only
   obtain ⟨g7,e12,g1,g2,g3,g4,g5⟩:=hI.al (hdn 12 (by decide));have g5:=g5 (hdn 13 (by decide));rw[e12];have hb5:=hI.up;have b0:=g5 0 _ rfl;have b1:=g5 1 _ rfl;have b2:=g5 2 _ rfl;have b3:=g5 3 _ rfl;have b4:=g5 4 _ rfl;have b5:=g5 5 _ rfl;have b6:=g5 6 _ rfl;have HB5:=Y1 hb5;have HK5:=Y1 (HK.out.new hb5);obtain ⟨c0,c1',_⟩:=HXC.out W5 (hb5.mono HWZ.out);have HSZ:=Y1 (And.intro g1 g2);have f2:=g3 2;have f3:=g3 3;have f4:=g3 4;have f5:=g3 5;have f6:=g3 6;have HKN:=Y1 HK.out;clear hI hdn g5 g4 g3 g2 g1 e12 hb5 HK;by_cases hk1:it.kind=1
   {have e1: (it.kind==1)=true:=by simp[hk1]
    have e2: (it.kind==2)=false:=by simp[hk1]
    have HBI:Hid ((Expd.bindOf o it).toList= [⟨o,it.name,it.sh⟩]):=Y1 (by simp[Expd.bindOf,hk1]);have HKE:Hid (Kept (fun b=>rowB A1≠some b) W5 (it.sh,qi)):=Y1 (Kept.old (HAT.out W5 (HB5.out.mono HWZ.out)) (Nat.le_trans HWZ.out HB5.out.size) (fun b hb e=>by have:=(Z0u HK5.out.row b e).1; omega));clear hk1;have HOW:=Y1 HK5.out.row
    go_wp2_with (at_builtin; refine wpList_append_lies _ rfl _ _ 26 rfl w.heap.size 54 ib (.agg #[.string ByteArray.empty,.string ByteArray.empty,.int .i64 0,.string ByteArray.empty,.string ByteArray.empty,.slice none 0 0,.slice none 0 0]) 7 120 Tryd.underlying26 hifb hzb hsb hbb7 rfl (by decide) _ _ _ rfl (HOW.out.alloc _) ⟨W5.heap.size,0,none⟩ 1 1 [.string ⟨o.toArray⟩,.string ⟨it.name.toArray⟩,.int .i64 it.sh.kind,.string ⟨it.sh.of_.toArray⟩,.string ⟨it.sh.name.toArray⟩,.slice qi.A it.sh.names.length qi.c,.slice qi.P it.sh.parts.length qi.d] rfl rfl (World.news_of_block (cs:=#[.string ⟨o.toArray⟩,.string ⟨it.name.toArray⟩,.int .i64 it.sh.kind,.string ⟨it.sh.of_.toArray⟩,.string ⟨it.sh.name.toArray⟩,.slice qi.A it.sh.names.length qi.c,.slice qi.P it.sh.parts.length qi.d]) (t:=54) (fr:=(0,0)) (heap_alloc_new _ _)) (by simp[Value.oneCell']) (by decide) (by unfold maxLen; omega) (by omega) (by simpa using (Nat.le_succ_of_le HK5.out.up.size)) _ rfl ?_)
    intro g9 cap9 w9 hown hgrow hat9 hlt9;have hka:=HK5.out.new (Z00 W5 (.cells #[.string ⟨o.toArray⟩,.string ⟨it.name.toArray⟩,.int .i64 it.sh.kind,.string ⟨it.sh.of_.toArray⟩,.string ⟨it.sh.name.toArray⟩,.slice qi.A it.sh.names.length qi.c,.slice qi.P it.sh.parts.length qi.d] 54));obtain ⟨A2,c2,e9,hkn⟩:=hka.put ((⟨o,it.name,it.sh⟩:Bd),qi) (HKE.out.upd (T:=fun _=>False) (Upd.new (Z00 _ _)) (fun _ _ _ h=>h)) ho HNL.out (by rw[Z0j,Z1u]; exact hown) (by rw[Zc6] at hgrow; exact hgrow) (hat9.elim (fun h=>Or.inl (by rw[Zc6] at h; exact h.symm)) (fun h=>Or.inr (by rw[h]; simp[Value.ownBlock])));cases e9;have HKX:=Y1 hkn;clear hka hkn hown hgrow hat9 hlt9
    go_wp2_with fail
    go_roundw
    case rel=>exact ⟨k+1,lE++ [((⟨o,it.name,it.sh⟩:Bd),qi)],_,cap9,by go_num,by omega,by rw[List.length_append]; rfl,Y1 (by rw[HTK.out,HBI.out]; exact HKX.out)⟩
    case measure=>simp[intOf]; omega}
   by_cases hk2:it.kind=2
   {have e1: (it.kind==1)=false:=by simp[hk1]
    have e2: (it.kind==2)=true:=by simp[hk2]
    have HBI:Hid ((Expd.bindOf o it).toList= [⟨o,it.name,Expd.opq o it.name⟩]):=Y1 (by simp[Expd.bindOf,hk2]);clear hk1 hk2;have hl52:=ZcA (.int .i64 10) (.string ⟨o.toArray⟩) (.string ⟨it.name.toArray⟩) (.slice none 0 0) (.slice none 0 0) b0 b1 b2 b3 b4 b5 b6;have hb6:Below wr.heap.size wr (Zc7 W5 g7 (.int .i64 10) (.string ⟨o.toArray⟩) (.string ⟨it.name.toArray⟩) (.slice none 0 0) (.slice none 0 0)):=HB5.out.trans ((Zcw W5 g7 (.int .i64 10) (.string ⟨o.toArray⟩) (.string ⟨it.name.toArray⟩) (.slice none 0 0) (.slice none 0 0)).below HB5.out.size (fun b hb=>by rw[hb]; exact HSZ.out.1));have hk6:=HKN.out.new hb6;obtain ⟨y0,y1,_⟩:=HXC.out _ (hb6.mono HWZ.out);obtain ⟨V,hV⟩: ∃V,Zc7 W5 g7 (.int .i64 10) (.string ⟨o.toArray⟩) (.string ⟨it.name.toArray⟩) (.slice none 0 0) (.slice none 0 0)=V:=⟨_,rfl⟩;rw[hV] at hl52 hb6 hk6 y0 y1;obtain ⟨z0,z1,z2,z3,z4,z5,z6⟩:=hl52;unfold Zc7 at hV;have HB6:=Y1 hb6;have HK6:=Y1 hk6;have HKE:Hid (Kept (fun b=>rowB A1≠some b) V (Expd.opq o it.name,noQ)):=Y1 (Zch _ _ _ _ ho HNL.out);clear hb6 hk6;have HOW:=Y1 HK6.out.row
    go_wp2_with (at_builtin; refine wpList_append_lies _ rfl _ _ 26 rfl w.heap.size 54 ib (.agg #[.string ByteArray.empty,.string ByteArray.empty,.int .i64 0,.string ByteArray.empty,.string ByteArray.empty,.slice none 0 0,.slice none 0 0]) 7 120 Tryd.underlying26 hifb hzb hsb hbb7 rfl (by decide) _ _ _ rfl (HOW.out.alloc _) ⟨V.heap.size,0,none⟩ 1 1 [.string ⟨o.toArray⟩,.string ⟨it.name.toArray⟩,.int .i64 10,.string ⟨o.toArray⟩,.string ⟨it.name.toArray⟩,.slice none 0 0,.slice none 0 0] rfl rfl (World.news_of_block (cs:=#[.string ⟨o.toArray⟩,.string ⟨it.name.toArray⟩,.int .i64 10,.string ⟨o.toArray⟩,.string ⟨it.name.toArray⟩,.slice none 0 0,.slice none 0 0]) (t:=54) (fr:=(0,0)) (heap_alloc_new _ _)) (by simp[Value.oneCell']) (by decide) (by unfold maxLen; omega) (by omega) (by simpa using (Nat.le_succ_of_le HK6.out.up.size)) _ rfl ?_)
    intro g9 cap9 w9 hown hgrow hat9 hlt9;have hka:=HK6.out.new (Z00 V (.cells #[.string ⟨o.toArray⟩,.string ⟨it.name.toArray⟩,.int .i64 10,.string ⟨o.toArray⟩,.string ⟨it.name.toArray⟩,.slice none 0 0,.slice none 0 0] 54));obtain ⟨A2,c2,e9,hkn⟩:=hka.put ((⟨o,it.name,Expd.opq o it.name⟩:Bd),noQ) (HKE.out.upd (T:=fun _=>False) (Upd.new (Z00 _ _)) (fun _ _ _ h=>h)) ho HNL.out (by rw[Z0j,Z1u]; exact hown) (by rw[Zc6] at hgrow; exact hgrow) (hat9.elim (fun h=>Or.inl (by rw[Zc6] at h; exact h.symm)) (fun h=>Or.inr (by rw[h]; simp[Value.ownBlock])));cases e9;have HKX:=Y1 hkn;clear hka hkn hown hgrow hat9 hlt9
    go_wp2_with fail
    go_roundw
    case rel=>exact ⟨k+1,lE++ [((⟨o,it.name,Expd.opq o it.name⟩:Bd),noQ)],_,cap9,by go_num,by omega,by rw[List.length_append]; rfl,Y1 (by rw[HTK.out,HBI.out]; exact HKX.out)⟩
    case measure=>simp[intOf]; omega}
   have e1: (it.kind==1)=false:=by simp[hk1]
   have e2: (it.kind==2)=false:=by simp[hk2]
   have HBI:Hid ((Expd.bindOf o it).toList= []):=Y1 (by simp[Expd.bindOf,hk1,hk2]);clear hk1 hk2
   go_wp2_with fail
   go_roundw
   case rel=>exact ⟨k+1,lE,A1,c1,by go_num,by omega,rfl,Y1 (by rw[HTK.out,HBI.out,List.append_nil]; exact HK5.out)⟩
   case measure=>simp[intOf]; omega}
  {have hi1: ¬(k:Int) < (l.length:Int):=by omega
   obtain rfl:k=l.length:=by omega
   rw[List.take_length] at HK;go_wp2;refine bodyPost_ret (v:= .slice A1 lE.length c1) (by simp[results,Tryd.results15,go_sem]) rfl ?_;exact ⟨A1,⟨c1,by rw[HK.out.len]⟩,HK.out.bds,HK.out.up⟩}
end
end Go.Proofs.YtchklpedlbkgaaaDoor
namespace Go.Proofs.YtchklpedlbkgaaaDoor
namespace Expd
open Shp
mutual
def mB (o n:List UInt8):Sh->Bool
 | ⟨k,o',n',_,ps⟩=>mBs o n ps||(decide (k=9)&&decide (o'=o)&&decide (n'=n))
def mBs (o n:List UInt8):List Sh->Bool
 | []=>false
 | p::ps=>mB o n p||mBs o n ps
end
end Expd
open Go.RowKit Shp Sub
open Expd (Bd mB mBs)
namespace SubM
structure MtI (W0:World) (tk:Nat->Value->Prop) (d:Nat->Bool) (u:Nat->Value) (W:World):Prop where
 up:Below W0.heap.size W0 W
 vals: ∀j,d j=true->tk j (u j)
theorem MtI.start {W0:World} {tk:Nat->Value->Prop} {u:Nat->Value}:MtI W0 tk (fun _=>false) u W0.drew:=⟨Y2.drew,nofun⟩
theorem MtI.step {W0 W W':World} {tk:Nat->Value->Prop} {d:Nat->Bool} {u:Nat->Value} (h:MtI W0 tk d u W) {i:Nat} {v:Value} (hv:tk i v) (hb:Below W.heap.size W W'):MtI W0 tk (also d i) (upd u i v) W':=
 ⟨Z02 h.up hb,fun j hj=>by
  by_cases e:j=i
  {subst e; rw[Z06]; exact hv}
  · rw[Z01 u v e]; rw[Z2R e] at hj; exact h.vals j hj⟩
end SubM
end Go.Proofs.YtchklpedlbkgaaaDoor
namespace Go.Proofs.YtchklpedlbkgaaaDoor
section
open Go.RowKit Shp
theorem Z7K {l:List Sh} {i m:Nat} (hi:i < l.length) (h:1+sizes (l.take i)<=m):min (1+sizes (l.take i)) (m+1)+sizeTo (m - min (1+sizes (l.take i)) (m+1)) (l[i]'hi)=min (1+sizes (l.take (i+1))) (m+1):=by
 rw[Z1L hi]; unfold sizeTo; omega
theorem Z3n (t:Sh): ∀(q:Ptr) (m:Nat) (w:World),ShAt w w.heap.size q t->m<=1000000->
 Calls Tryd.prog 12 #[.agg (Y8 t q),.int .i64 (m:Int)] w
  fun e w'=>e= .returned (.int .i64 (sizeTo m t:Int))/\Below w.heap.size w w':=by
 induction t using Sh.ind with
 | h t ih=>
 intro q m w hq hmm;have HM:=Y1 hq.small.m;have HP:=Y1 hq.part;have HZ:Hid (size t=1+sizes t.parts):=Y1 (size_eq t);have hB:=Z07 w t q;have HB:=Y1 hB;have hb0:=Z00 w (.cells (Y8 t q) 25);have HB0:=Y1 hb0;clear hB hb0 hq;go_enter Tryd.func12,Tryd.ntmps12
 go_wp2_with fail
 generalize hW0:w.alloc (.cells (Y8 t q) 25)=W0 at HB HB0 ⊢;clear hW0
 go_loopw [5,6] (fun nn ii wr=> ∃i:Nat,ii= .int .i64 i/\i<=t.parts.length/\nn= .int .i64 ((min (1+sizes (t.parts.take i)) (m+1):Nat):Int)/\Below W0.heap.size W0 wr) (fun _ i _=>t.parts.length - (intOf i).toNat)
 case atStart=>exact ⟨0,rfl,Nat.zero_le _,by rw[List.take_zero]; show Value.int .i64 1= .int .i64 ((min (1+0) (m+1):Nat):Int); rw[Nat.min_eq_left (by omega)]; rfl,Below.refl _ _⟩
 case round=>
  obtain ⟨i,rfl,hi,rfl,hb⟩:=hrel;have hm:=HM.out;obtain ⟨_,⟨_,_,_,_,c4⟩,_⟩:=HB.out.next hb;obtain ⟨n,hn⟩: ∃n,n=min (1+sizes (t.parts.take i)) (m+1):=⟨_,rfl⟩;rw[<-hn];have HE:=Y1 hn;have hn1:1<=n:=by omega
  have hn2:n<=m+1:=by omega
  by_cases hlt:i < t.parts.length
  {have hi1: (i:Int) < (t.parts.length:Int):=by omega
   by_cases hnm:n<=m
   {rcases HP.out with h0 | ⟨g,off,qs,hqP,hg,hc,hr⟩
    {omega}
    {have hbw:Below w.heap.size w wr:=HB0.out.trans (hb.mono HB0.out.size);obtain ⟨x,hx⟩: ∃x,x=t.parts[i]:=⟨_,rfl⟩;obtain ⟨p0,p1,p2,p3,p4⟩:=(hc i hlt).keep hg hbw;have hat:ShAt wr wr.heap.size (qs i) x:=by rw[hx]; exact (hr i hlt).next hbw
     have ihx:=ih t.parts[i] (List.getElem_mem _) (qs i) (m - n) wr;have HN:Hid (n+sizeTo (m - n) x=min (1+sizes (t.parts.take (i+1))) (m+1)):=Y1 (by rw[hx,hn]; exact Z7K hlt (by omega));rw[<-hx] at p0 p1 p2 p3 p4 ihx;have IH:=ihx hat (by omega);rw[show ((m - n:Nat):Int)=(m:Int) - (n:Int) from by omega] at IH;rw[hqP] at c4;have hsz:sizeTo (m - n) x<=m - n+1:=Nat.min_le_right _ _;have d2:decide (n<=m)=true:=decide_eq_true (by omega);have d3:decide (i < t.parts.length)=true:=decide_eq_true (by omega);have hnm2: (n:Int)<=(m:Int):=by omega
     have hmm2: (m:Int)<=1000000:=by omega
     generalize sizeTo (m - n) x=z at IH HN hsz;have hz2: (n:Int)+(z:Int)<=1000001:=by omega
     clear hx hc hr hat ihx ih hqP hn
     go_wp2_with (refine IH.mono ?_; rintro e w' ⟨rfl,hb'⟩)
     go_roundw
     case rel=>exact ⟨i+1,by go_num,by omega,by rw[<-HN.out]; go_num,hb.trans (hb'.mono hb.size)⟩
     case measure=>simp[intOf]; omega}}
   {have HF:Hid (n=sizeTo m t):=Y1 (by
     have:=Z38 t.parts i;unfold sizeTo; have:=HZ.out; omega)
    have d2:decide (n<=m)=false:=decide_eq_false (by omega);have d3:decide (i < t.parts.length)=true:=decide_eq_true (by omega);clear hn;go_wp2;go_ret;exact ⟨by rw[<-HF.out]; rfl,HB0.out.trans (hb.mono HB0.out.size)⟩}}
  {have HF:Hid (n=sizeTo m t):=Y1 (by
    rw[show i=t.parts.length from by omega,List.take_length] at hn;unfold sizeTo; have:=HZ.out; omega)
   have d3:decide (i < t.parts.length)=false:=decide_eq_false (by omega);clear hn;go_wp2;go_ret;exact ⟨by rw[<-HF.out]; rfl,HB0.out.trans (hb.mono HB0.out.size)⟩}
theorem ZbC {l m:List Sh} (hl:l.length=m.length) (h: ∀j (hj:j < l.length),eqB (l[j]'hj) (m[j]'(by omega))=true):eqs l m=true:=
 (Z7W l m).2 (List.ext_getElem hl (fun j h1 h2=>(Z2U _ _).1 (h j h1)))
def headB (t u:Sh):Bool:=t.kind==u.kind&&t.of_==u.of_&&t.name==u.name&&decide (t.names.length=u.names.length)&&decide (t.parts.length=u.parts.length)
theorem Zbf {t u:Sh} (h:headB t u=false):eqB t u=false:=by
 apply Z5e;rintro rfl;simp[headB] at h
theorem Zau {t u:Sh} {i:Nat} (hi:i < t.names.length) (hm:i < u.names.length) (h:t.names[i]'hi≠u.names[i]'hm):eqB t u=false:=by
 apply Z5e;rintro rfl;exact h rfl
theorem Zav {t u:Sh} {i:Nat} (hi:i < t.parts.length) (hm:i < u.parts.length) (h:eqB (t.parts[i]'hi) (u.parts[i]'hm)=false):eqB t u=false:=by
 apply Z5e;rintro rfl;rw[Z1n] at h; cases h
theorem ZbD {t u:Sh} (h:headB t u=true) (hn: ∀j (hj:j < t.names.length) (hj':j < u.names.length),t.names[j]'hj=u.names[j]'hj') (hp: ∀j (hj:j < t.parts.length) (hj':j < u.parts.length),eqB (t.parts[j]'hj) (u.parts[j]'hj')=true):eqB t u=true:=by
 simp only[headB,Bool.and_eq_true,beq_iff_eq,decide_eq_true_eq] at h;obtain ⟨⟨⟨⟨h1,h2⟩,h3⟩,h4⟩,h5⟩:=h;rw[Z9x,h1,h2,h3];simp only[beq_self_eq_true,Bool.true_and,Bool.and_eq_true];exact ⟨beq_iff_eq.2 (List.ext_getElem h4 (fun j a b=>hn j a b)),ZbC h5 (fun j hj=>hp j hj (by omega))⟩
theorem Z7O (t u:Sh) (q r:Ptr) (w:World) (hq:ShAt w w.heap.size q t) (hr:ShAt w w.heap.size r u) (hh:headB t u=false):
 Y9 11 #[.agg (Y8 t q),.agg (Y8 u r)] w (.bool (eqB t u)):=by
 have HF:=Y1 (Zbf hh);have hb0:=Z00 w (.cells (Y8 t q) 25);have hb1:=Z0i hb0 (.cells (Y8 u r) 25);have HB1:=Y1 hb1;have hB:=(Z07 w t q).next (Z00 _ (.cells (Y8 u r) 25));have hC:=Z07 (w.alloc (.cells (Y8 t q) 25)) u r;obtain ⟨_,⟨c0,c1,c2,c3,c4⟩,_⟩:=hB;obtain ⟨_,⟨d0,d1,d2,d3,d4⟩,_⟩:=hC;clear hb0 hb1;rw[World.size_alloc] at d0 d1 d2 d3 d4;have HH:=Y1 hh;clear hh;have h4: ((t.names.length:Int)==(u.names.length:Int))=decide (t.names.length=u.names.length):=by rw[Bool.eq_iff_iff,beq_iff_eq,decide_eq_true_eq]; omega
 have h5: ((t.parts.length:Int)==(u.parts.length:Int))=decide (t.parts.length=u.parts.length):=by rw[Bool.eq_iff_iff,beq_iff_eq,decide_eq_true_eq]; omega
 unfold headB at HH;rw[<-h4, <-h5] at HH;clear h4 h5;cases e1: (t.kind==u.kind)
 {have n1: (t.kind !=u.kind)=true:=by unfold bne; rw[e1]; rfl
  go_enter Tryd.func11,Tryd.ntmps11;go_wp2;go_ret;exact ⟨by rw[HF.out]; rfl,HB1.out⟩}
 {have n1: (t.kind !=u.kind)=false:=by unfold bne; rw[e1]; rfl
  rw[e1,Bool.true_and] at HH;cases e2: (t.of_==u.of_)
  {have n2: (t.of_ !=u.of_)=true:=by unfold bne; rw[e2]; rfl
   go_enter Tryd.func11,Tryd.ntmps11;go_wp2;go_ret;exact ⟨by rw[HF.out]; rfl,HB1.out⟩}
  {have n2: (t.of_ !=u.of_)=false:=by unfold bne; rw[e2]; rfl
   rw[e2,Bool.true_and] at HH;cases e3: (t.name==u.name)
   {have n3: (t.name !=u.name)=true:=by unfold bne; rw[e3]; rfl
    go_enter Tryd.func11,Tryd.ntmps11;go_wp2;go_ret;exact ⟨by rw[HF.out]; rfl,HB1.out⟩}
   {have n3: (t.name !=u.name)=false:=by unfold bne; rw[e3]; rfl
    rw[e3,Bool.true_and] at HH;cases e4: ((t.names.length:Int)==(u.names.length:Int))
    {have n4: ((t.names.length:Int) !=(u.names.length:Int))=true:=by unfold bne; rw[e4]; rfl
     go_enter Tryd.func11,Tryd.ntmps11;go_wp2;go_ret;exact ⟨by rw[HF.out]; rfl,HB1.out⟩}
    {have n4: ((t.names.length:Int) !=(u.names.length:Int))=false:=by unfold bne; rw[e4]; rfl
     rw[e4,Bool.true_and] at HH;have e5:=HH.out;have n5: ((t.parts.length:Int) !=(u.parts.length:Int))=true:=by unfold bne; rw[e5]; rfl
     go_enter Tryd.func11,Tryd.ntmps11;go_wp2;go_ret;exact ⟨by rw[HF.out]; rfl,HB1.out⟩}}}}
theorem Z1h (t:Sh): ∀(u:Sh) (q r:Ptr) (w:World),ShAt w w.heap.size q t->ShAt w w.heap.size r u->
 Y9 11 #[.agg (Y8 t q),.agg (Y8 u r)] w (.bool (eqB t u)):=by
 induction t using Sh.ind with
 | h t ih=>
 intro u q r w hq hr;cases hh:headB t u with
 | false=>exact Z7O t u q r w hq hr hh
 | true=>
 have HH:=Y1 hh;have hs:=hh;simp only[headB,Bool.and_eq_true,beq_iff_eq,decide_eq_true_eq] at hs;obtain ⟨⟨⟨⟨g1,g2⟩,g3⟩,g4⟩,g5⟩:=hs;have HG4:=Y1 g4;have HG5:=Y1 g5;have HL:=Y1 hq.small.l;have HM:=Y1 hq.small.m;have HP:=Y1 hq.part;have HR:=Y1 hr.part;have HSN:=Y1 hq.strs;have HSM:=Y1 hr.strs;have hb0:=Z00 w (.cells (Y8 t q) 25);have hb1:=Z0i hb0 (.cells (Y8 u r) 25);have HB1:=Y1 hb1;have hB:=(Z07 w t q).next (Z00 _ (.cells (Y8 u r) 25));have hC:=Z07 (w.alloc (.cells (Y8 t q) 25)) u r;rw[World.size_alloc] at hC;have HB:=Y1 hB;have HC:=Y1 hC;obtain ⟨_,⟨c0,c1,c2,c3,c4⟩,_⟩:=hB;obtain ⟨_,⟨d0,d1,d2,d3,d4⟩,_⟩:=hC;have n1: (t.kind !=u.kind)=false:=by rw[g1]; simp
 have n2: (t.of_ !=u.of_)=false:=by rw[g2]; simp
 have n3: (t.name !=u.name)=false:=by rw[g3]; simp
 have n4: ((t.names.length:Int) !=(u.names.length:Int))=false:=by rw[g4]; simp
 have n5: ((t.parts.length:Int) !=(u.parts.length:Int))=false:=by rw[g5]; simp
 have e1: (t.kind==u.kind)=true:=by rw[g1]; simp
 have e2: (t.of_==u.of_)=true:=by rw[g2]; simp
 have e3: (t.name==u.name)=true:=by rw[g3]; simp
 have e4: ((t.names.length:Int)==(u.names.length:Int))=true:=by rw[g4]; simp
 have e5: ((t.parts.length:Int)==(u.parts.length:Int))=true:=by rw[g5]; simp
 clear hb0 hb1 hq hr hh g1 g2 g3 g4 g5;go_enter Tryd.func11,Tryd.ntmps11
 go_wp2_with fail
 generalize hW0: (w.alloc (.cells (Y8 t q) 25)).alloc (.cells (Y8 u r) 25)=W0 at HB HC HB1 ⊢;clear hW0 c0 c1 c2 c3 c4 d0 d1 d2 d3 d4 n1 n2 n3 n4 n5 e1 e2 e3 e4 e5
 go_loopw [5] (fun ii wr=> ∃i:Nat,ii= .int .i64 i/\i<=t.names.length/\Hid (∀j (h:j < t.names.length) (h':j < u.names.length),j < i->t.names[j]'h=u.names[j]'h')/\Below W0.heap.size W0 wr) (fun i _=>t.names.length - (intOf i).toNat)
 case atStart=>exact ⟨0,rfl,Nat.zero_le _,Y1 (fun j _ _ hj=>absurd hj (by omega)),Below.refl _ _⟩
 case round=>
  obtain ⟨i,rfl,hi,HN,hb⟩:=hrel;have hbw:Below w.heap.size w wr:=HB1.out.trans (hb.mono HB1.out.size);have hl:=HL.out;obtain ⟨_,⟨c0,_,_,c3,c4⟩,_⟩:=HB.out.next hb;obtain ⟨_,⟨d0,_,_,d3,d4⟩,_⟩:=HC.out.next hb;by_cases hlt:i < t.names.length
  {have hi1: (i:Int) < (t.names.length:Int):=by omega
   have hi2: (i:Int) < (u.names.length:Int):=by have:=HG4.out; omega
   have hi3:i < u.names.length:=by omega
   rcases (HSN.out.next hbw).cell7 with h0 | ⟨g,off,hqA,hg,hc⟩
   {omega}
   {rcases (HSM.out.next hbw).cell7 with h0 | ⟨g',off',hrA,hg',hc'⟩
    {omega}
    {have p:=hc i hlt;have p':=hc' i hi3;obtain ⟨x,hx⟩: ∃x,x=t.names[i]'hlt:=⟨_,rfl⟩;obtain ⟨y,hy⟩: ∃y,y=u.names[i]'hi3:=⟨_,rfl⟩;rw[<-hx] at p;rw[<-hy] at p';have HX:=Y1 hx;have HY:=Y1 hy;rw[hqA] at c3;rw[hrA] at d3;clear hx hy hc hc' hqA hrA;cases hxy: (x==y)
     {have HF:Hid (eqB t u=false):=Y1 (Zau hlt hi3 (by rw[<-HX.out, <-HY.out]; intro h; rw[h] at hxy; simp at hxy));have n1: (x !=y)=true:=by unfold bne; rw[hxy]; rfl
      go_wp2_with fail
      go_quiet (fail)
      go_wp2;go_ret;exact ⟨by rw[HF.out]; rfl,Z0K hbw _⟩}
     {have n1: (x !=y)=false:=by unfold bne; rw[hxy]; rfl
      have HE:Hid (t.names[i]'hlt=u.names[i]'hi3):=Y1 (by rw[<-HX.out, <-HY.out]; simpa using hxy)
      go_wp2_with fail
      go_quiet (fail)
      go_wp2
      go_roundw
      case rel=>exact ⟨i+1,by go_num,by omega,Y1 (fun j hj hj' hji=>by
       rcases Nat.lt_succ_iff_lt_or_eq.1 hji with h | rfl
       {exact HN.out j hj hj' h}
       · exact HE.out),Z0K hb _⟩
      case measure=>simp[intOf]; omega}}}}
  {have HNN:Hid (∀j (h:j < t.names.length) (h':j < u.names.length),t.names[j]'h=u.names[j]'h'):=Y1 (fun j h h'=>HN.out j h h' (by omega));have HBW:=Y1 hb;clear hbw hb HN
   go_wp2_with fail
   go_loopw [6] (fun ii wx=> ∃k:Nat,ii= .int .i64 k/\k<=t.parts.length/\Hid (∀j (h:j < t.parts.length) (h':j < u.parts.length),j < k->eqB (t.parts[j]'h) (u.parts[j]'h')=true)/\Hid (Below W0.heap.size W0 wx)) (fun i _=>t.parts.length - (intOf i).toNat)
   case atStart=>exact ⟨0,rfl,Nat.zero_le _,Y1 (fun j _ _ hj=>absurd hj (by omega)),HBW⟩
   case round=>
    obtain ⟨k,rfl,hk,HN,HBX⟩:=hrel;have hb:=HBX.out;have hbw:Below w.heap.size w wr:=HB1.out.trans (hb.mono HB1.out.size);have hm:=HM.out;clear c0 c3 c4 d0 d3 d4;obtain ⟨_,⟨c0,_,_,c3,c4⟩,_⟩:=HB.out.next hb;obtain ⟨_,⟨d0,_,_,d3,d4⟩,_⟩:=HC.out.next hb;by_cases hlt2:k < t.parts.length
    {have hi1: (k:Int) < (t.parts.length:Int):=by omega
     have hi2: (k:Int) < (u.parts.length:Int):=by have:=HG5.out; omega
     have hi3:k < u.parts.length:=by omega
     rcases HP.out with h0 | ⟨g,off,qs,hqP,hg,hc,hra⟩
     {omega}
     {rcases HR.out with h0 | ⟨g',off',qs',hrP,hg',hc',hra'⟩
      {omega}
      {obtain ⟨x,hx⟩: ∃x,x=t.parts[k]:=⟨_,rfl⟩;obtain ⟨y,hy⟩: ∃y,y=u.parts[k]:=⟨_,rfl⟩;obtain ⟨p0,p1,p2,p3,p4⟩:=(hc k hlt2).keep hg hbw;obtain ⟨s0,s1,s2,s3,s4⟩:=(hc' k hi3).keep hg' hbw;have hat:ShAt wr wr.heap.size (qs k) x:=by rw[hx]; exact (hra k hlt2).next hbw
       have hat':ShAt wr wr.heap.size (qs' k) y:=by rw[hy]; exact (hra' k hi3).next hbw
       have ihx:=ih t.parts[k] (List.getElem_mem _) y (qs k) (qs' k) wr.drew;rw[<-hx] at p0 p1 p2 p3 p4 ihx;rw[<-hy] at s0 s1 s2 s3 s4;have IH:=ihx (hat.next Y2.drew) (hat'.next Y2.drew);rw[hqP] at c4;rw[hrP] at d4;have HX:=Y1 hx;have HY:=Y1 hy;clear hx hy hc hc' hra hra' hat hat' ihx ih hqP hrP
       go_wp2_with fail
       cases hxy:eqB x y
       {have HF:Hid (eqB t u=false):=Y1 (Zav hlt2 hi3 (by rw[<-HX.out, <-HY.out]; exact hxy));rw[hxy] at IH;clear hxy
        go_still_tail 10,(by kernel_rfl)
        change wpList _ _ _ _ _ wr.drew
        go_wp2_with fail
        refine IH.mono ?_;rintro e w2 ⟨rfl,hb2⟩;go_wp2;go_ret;exact ⟨by rw[HF.out]; rfl,Z02 hbw.drew hb2⟩}
       {have HE:Hid (eqB (t.parts[k]'hlt2) (u.parts[k]'hi3)=true):=Y1 (by rw[<-HX.out, <-HY.out]; exact hxy);rw[hxy] at IH;clear hxy
        go_still_tail 10,(by kernel_rfl)
        change wpList _ _ _ _ _ wr.drew
        go_wp2_with fail
        refine IH.mono ?_;rintro e w2 ⟨rfl,hb2⟩;go_wp2
        go_roundw
        case rel=>exact ⟨k+1,by go_num,by omega,Y1 (fun j hj hj' hji=>by
         rcases Nat.lt_succ_iff_lt_or_eq.1 hji with h | rfl
         {exact HN.out j hj hj' h}
         · exact HE.out),Y1 (Z02 hb.drew hb2)⟩
        case measure=>simp[intOf]; omega}}}}
    {have HF:Hid (eqB t u=true):=Y1 (ZbD HH.out HNN.out (fun j hj hj'=>HN.out j hj hj' (by omega)));go_wp2;go_ret;exact ⟨by rw[HF.out]; rfl,hbw⟩}}
end
section
open Go.RowKit Shp SubM
open Expd (Bd)
theorem Zcr (L:List Bd) (A C:Option Addr) (ca cb:Nat) (w:World) (hL:BdsAt w w.heap.size A L) (hM:BdsAt w w.heap.size C L) (hl:L.length<=1000):
 Y9 13 #[.slice A L.length ca,.slice C L.length cb] w (.bool true):=by
 have HL:=Y1 hL;have HM:=Y1 hM;have hne: ((L.length:Int) !=(L.length:Int))=false:=by simp
 clear hL hM;go_enter Tryd.func13,Tryd.ntmps13
 go_wp2_with fail
 clear hne
 go_loopw [5] (fun ii wr=> ∃i:Nat,ii= .int .i64 i/\i<=L.length/\Hid (Below w.heap.size w wr)) (fun i _=>L.length - (intOf i).toNat)
 case atStart=>exact ⟨0,rfl,Nat.zero_le _,Y1 Y2⟩
 case round=>
  obtain ⟨i,rfl,hi,HB⟩:=hrel;by_cases hlt:i < L.length
  {have hi1: (i:Int) < (L.length:Int):=by omega
   rcases HL.out.next HB.out with h0 | ⟨g,off,qs,hA,hg,hc⟩
   {omega}
   rcases HM.out.next HB.out with h0 | ⟨g',off',qs',hC,hg',hc'⟩
   {omega}
   subst hA hC;obtain ⟨x0,x1,xs,hat,_⟩:=hc i hlt;obtain ⟨y0,y1,ys,hat',_⟩:=hc' i hlt;obtain ⟨bk,hbk⟩: ∃bk,bk=L[i]'hlt:=⟨_,rfl⟩;obtain ⟨qa,hqa⟩: ∃q,q=qs i:=⟨_,rfl⟩;obtain ⟨qb,hqb⟩: ∃q,q=qs' i:=⟨_,rfl⟩;rw[<-hbk] at x0 x1 y0 y1;rw[<-hbk, <-hqa] at xs hat;rw[<-hbk, <-hqb] at ys hat';have hne1: (bk.of_ !=bk.of_)=false:=by simp
   have hne2: (bk.name !=bk.name)=false:=by simp
   have HCL:Hid (∀W,Below wr.heap.size wr W->Y9 11 #[.agg #[.int .i64 bk.sh.kind,.string ⟨bk.sh.of_.toArray⟩,.string ⟨bk.sh.name.toArray⟩,.slice qa.A bk.sh.names.length qa.c,.slice qa.P bk.sh.parts.length qa.d],.agg #[.int .i64 bk.sh.kind,.string ⟨bk.sh.of_.toArray⟩,.string ⟨bk.sh.name.toArray⟩,.slice qb.A bk.sh.names.length qb.c,.slice qb.P bk.sh.parts.length qb.d]] W (.bool true)):=Y1 (fun W hb=>by
    have h:=Z1h bk.sh bk.sh qa qb W (hat.next hb) (hat'.next hb);rw[Z1n] at h;exact h)
   have HX0:=Y1 x0;have HX1:=Y1 x1;have HXS:=Y1 xs;have HY0:=Y1 y0;have HY1:=Y1 y1;have HYS:=Y1 ys;have HG:=Y1 (And.intro hg hg');clear hc hc' hat hat' hbk hqa hqb x0 x1 xs y0 y1 ys hg hg'
   go_wp2_with fail
   refine Z30 (rs:= [0,1,2,3,4,5,6,7,8,9,10,11,12,13,14,15,16,17,18,19,20,21,22,23,24,25,26,27,28,29,30,31,32,33,34,35,36,37])
    (fun u'=> { tmps:=#[.slice (some { block:=g,off:=off }) L.length ca,.slice (some { block:=g',off:=off' }) L.length cb,undef,undef,u4,.int .i64 ↑i,.slice (some { block:=g,off:=off }) L.length ca,.int .i64 ↑L.length,.slice (some { block:=g',off:=off' }) L.length cb,.int .i64 ↑L.length,.bool false,.int .i64 ↑i,.slice (some { block:=g,off:=off }) L.length ca,.int .i64 ↑L.length,.bool true,u15,u16,u' 0,u' 1,u' 2,u' 3,u' 4,u' 5,u' 6,u' 7,u' 8,u' 9,u' 10,u' 11,u' 12,u' 13,u' 14,u' 15,u' 16,u' 17,u' 18,u' 19,u' 20,u' 21,u' 22,u' 23,u' 24,u' 25,u' 26,u' 27,u' 28,u' 29,u' 30,u' 31,u' 32,u' 33,u' 34,u' 35,u' 36,u' 37],defers:= [] })
    (fun j=>([u17,u18,u19,u20,u21,u22,u23,u24,u25,u26,u27,u28,u29,u30,u31,u32,u33,u34,u35,u36,u37,u38,u39,u40,u41,u42,u43,u44,u45,u46,u47,u48,u49,u50,u51,u52,u53,u54]:List Value).getD j undef) (MtI wr (fun j v=>v=([.slice (some ⟨g,off,none⟩) L.length ca,.int .i64 (i:Int),.pointer (some ⟨g,off+i * 7,none⟩),.pointer (some ⟨g,off+i * 7,none⟩),.string ⟨bk.of_.toArray⟩,.slice (some ⟨g',off',none⟩) L.length cb,.int .i64 (i:Int),.pointer (some ⟨g',off'+i * 7,none⟩),.pointer (some ⟨g',off'+i * 7,none⟩),.string ⟨bk.of_.toArray⟩,.bool false,.bool false,.slice (some ⟨g,off,none⟩) L.length ca,.int .i64 (i:Int),.pointer (some ⟨g,off+i * 7,none⟩),.pointer (some ⟨g,off+i * 7+1,none⟩),.string ⟨bk.name.toArray⟩,.slice (some ⟨g',off',none⟩) L.length cb,.int .i64 (i:Int),.pointer (some ⟨g',off'+i * 7,none⟩),.pointer (some ⟨g',off'+i * 7+1,none⟩),.string ⟨bk.name.toArray⟩,.bool false,.bool false,.bool false,.slice (some ⟨g,off,none⟩) L.length ca,.int .i64 (i:Int),.pointer (some ⟨g,off+i * 7,none⟩),.pointer (some ⟨g,off+i * 7+2,none⟩),.agg #[.int .i64 bk.sh.kind,.string ⟨bk.sh.of_.toArray⟩,.string ⟨bk.sh.name.toArray⟩,.slice qa.A bk.sh.names.length qa.c,.slice qa.P bk.sh.parts.length qa.d],.slice (some ⟨g',off',none⟩) L.length cb,.int .i64 (i:Int),.pointer (some ⟨g',off'+i * 7,none⟩),.pointer (some ⟨g',off'+i * 7+2,none⟩),.agg #[.int .i64 bk.sh.kind,.string ⟨bk.sh.of_.toArray⟩,.string ⟨bk.sh.name.toArray⟩,.slice qb.A bk.sh.names.length qb.c,.slice qb.P bk.sh.parts.length qb.d],.bool true,.bool false,.bool false]:List Value).getD j undef)) (by kernel_rfl) (by kernel_rfl) (by kernel_rfl) MtI.start ?_ ?_
   refine StepsInv.cons _ rfl (fun d u' W K' hI hd hw hK=> ?_) ?_
   {refine Z03 (v:= .slice (some ⟨g,off,none⟩) L.length ca) (W':=W) rfl ?_ (hK.out _ _ (hI.step rfl Y2))
    try dsimp only
    go_simp}
   refine StepsInv.cons _ rfl (fun d u' W K' hI hd hw hK=> ?_) ?_
   {refine Z03 (v:= .int .i64 (i:Int)) (W':=W) rfl ?_ (hK.out _ _ (hI.step rfl Y2))
    try dsimp only
    go_simp}
   refine StepsInv.cons _ rfl (fun d u' W K' hI hd hw hK=> ?_) ?_
   {have d0:u' 0= .slice (some ⟨g,off,none⟩) L.length ca:=hI.vals 0 (hw 0 (by kernel_rfl));have d1:u' 1= .int .i64 (i:Int):=hI.vals 1 (hw 1 (by kernel_rfl));refine Z03 (v:= .pointer (some ⟨g,off+i * 7,none⟩)) (W':=W) rfl ?_ (hK.out _ _ (hI.step rfl Y2))
    try dsimp only
    go_simp}
   refine StepsInv.cons _ rfl (fun d u' W K' hI hd hw hK=> ?_) ?_
   {have d2:u' 2= .pointer (some ⟨g,off+i * 7,none⟩):=hI.vals 2 (hw 2 (by kernel_rfl));refine Z03 (v:= .pointer (some ⟨g,off+i * 7,none⟩)) (W':=W) rfl ?_ (hK.out _ _ (hI.step rfl Y2))
    try dsimp only
    go_simp}
   refine StepsInv.cons _ rfl (fun d u' W K' hI hd hw hK=> ?_) ?_
   {have d3:u' 3= .pointer (some ⟨g,off+i * 7,none⟩):=hI.vals 3 (hw 3 (by kernel_rfl));have c0:=(hI.up.cell (p:=⟨g,off+i * 7,none⟩) HG.out.1).trans HX0.out;refine Z03 (v:= .string ⟨bk.of_.toArray⟩) (W':=W) rfl ?_ (hK.out _ _ (hI.step rfl Y2))
    try dsimp only
    go_simp}
   refine StepsInv.cons _ rfl (fun d u' W K' hI hd hw hK=> ?_) ?_
   {refine Z03 (v:= .slice (some ⟨g',off',none⟩) L.length cb) (W':=W) rfl ?_ (hK.out _ _ (hI.step rfl Y2))
    try dsimp only
    go_simp}
   refine StepsInv.cons _ rfl (fun d u' W K' hI hd hw hK=> ?_) ?_
   {refine Z03 (v:= .int .i64 (i:Int)) (W':=W) rfl ?_ (hK.out _ _ (hI.step rfl Y2))
    try dsimp only
    go_simp}
   refine StepsInv.cons _ rfl (fun d u' W K' hI hd hw hK=> ?_) ?_
   {have d5:u' 5= .slice (some ⟨g',off',none⟩) L.length cb:=hI.vals 5 (hw 5 (by kernel_rfl));have d6:u' 6= .int .i64 (i:Int):=hI.vals 6 (hw 6 (by kernel_rfl));refine Z03 (v:= .pointer (some ⟨g',off'+i * 7,none⟩)) (W':=W) rfl ?_ (hK.out _ _ (hI.step rfl Y2))
    try dsimp only
    go_simp}
   refine StepsInv.cons _ rfl (fun d u' W K' hI hd hw hK=> ?_) ?_
   {have d7:u' 7= .pointer (some ⟨g',off'+i * 7,none⟩):=hI.vals 7 (hw 7 (by kernel_rfl));refine Z03 (v:= .pointer (some ⟨g',off'+i * 7,none⟩)) (W':=W) rfl ?_ (hK.out _ _ (hI.step rfl Y2))
    try dsimp only
    go_simp}
   refine StepsInv.cons _ rfl (fun d u' W K' hI hd hw hK=> ?_) ?_
   {have d8:u' 8= .pointer (some ⟨g',off'+i * 7,none⟩):=hI.vals 8 (hw 8 (by kernel_rfl));have c0:=(hI.up.cell (p:=⟨g',off'+i * 7,none⟩) HG.out.2).trans HY0.out;refine Z03 (v:= .string ⟨bk.of_.toArray⟩) (W':=W) rfl ?_ (hK.out _ _ (hI.step rfl Y2))
    try dsimp only
    go_simp}
   refine StepsInv.cons _ rfl (fun d u' W K' hI hd hw hK=> ?_) ?_
   {have d4:u' 4= .string ⟨bk.of_.toArray⟩:=hI.vals 4 (hw 4 (by kernel_rfl));have d9:u' 9= .string ⟨bk.of_.toArray⟩:=hI.vals 9 (hw 9 (by kernel_rfl));refine Z03 (v:= .bool false) (W':=W) rfl ?_ (hK.out _ _ (hI.step rfl Y2))
    try dsimp only
    go_simp}
   refine StepsInv.cons _ rfl (fun d u' W K' hI hd hw hK=> ?_) ?_
   {have d10:u' 10= .bool false:=hI.vals 10 (hw 10 (by kernel_rfl));refine Z03 (v:= .bool false) (W':=W) rfl ?_ (hK.out _ _ (hI.step rfl Y2))
    try dsimp only
    go_simp}
   refine StepsInv.cons _ rfl (fun d u' W K' hI hd hw hK=> ?_) ?_
   {have d11:u' 11= .bool false:=hI.vals 11 (hw 11 (by kernel_rfl));refine Z03 (v:= .slice (some ⟨g,off,none⟩) L.length ca) (W':=W) (by simp[Region.wanted,yielded,d11]) ?_ (hK.out _ _ (hI.step rfl Y2))
    try dsimp only
    go_simp}
   refine StepsInv.cons _ rfl (fun d u' W K' hI hd hw hK=> ?_) ?_
   {have d11:u' 11= .bool false:=hI.vals 11 (hw 11 (by kernel_rfl));refine Z03 (v:= .int .i64 (i:Int)) (W':=W) (by simp[Region.wanted,yielded,d11]) ?_ (hK.out _ _ (hI.step rfl Y2))
    try dsimp only
    go_simp}
   refine StepsInv.cons _ rfl (fun d u' W K' hI hd hw hK=> ?_) ?_
   {have d11:u' 11= .bool false:=hI.vals 11 (hw 11 (by kernel_rfl));have d12:u' 12= .slice (some ⟨g,off,none⟩) L.length ca:=hI.vals 12 (hw 12 (by kernel_rfl));have d13:u' 13= .int .i64 (i:Int):=hI.vals 13 (hw 13 (by kernel_rfl));refine Z03 (v:= .pointer (some ⟨g,off+i * 7,none⟩)) (W':=W) (by simp[Region.wanted,yielded,d11]) ?_ (hK.out _ _ (hI.step rfl Y2))
    try dsimp only
    go_simp}
   refine StepsInv.cons _ rfl (fun d u' W K' hI hd hw hK=> ?_) ?_
   {have d11:u' 11= .bool false:=hI.vals 11 (hw 11 (by kernel_rfl));have d14:u' 14= .pointer (some ⟨g,off+i * 7,none⟩):=hI.vals 14 (hw 14 (by kernel_rfl));refine Z03 (v:= .pointer (some ⟨g,off+i * 7+1,none⟩)) (W':=W) (by simp[Region.wanted,yielded,d11]) ?_ (hK.out _ _ (hI.step rfl Y2))
    try dsimp only
    go_simp}
   refine StepsInv.cons _ rfl (fun d u' W K' hI hd hw hK=> ?_) ?_
   {have d11:u' 11= .bool false:=hI.vals 11 (hw 11 (by kernel_rfl));have d15:u' 15= .pointer (some ⟨g,off+i * 7+1,none⟩):=hI.vals 15 (hw 15 (by kernel_rfl));have c0:=(hI.up.cell (p:=⟨g,off+i * 7+1,none⟩) HG.out.1).trans HX1.out;refine Z03 (v:= .string ⟨bk.name.toArray⟩) (W':=W) (by simp[Region.wanted,yielded,d11]) ?_ (hK.out _ _ (hI.step rfl Y2))
    try dsimp only
    go_simp}
   refine StepsInv.cons _ rfl (fun d u' W K' hI hd hw hK=> ?_) ?_
   {have d11:u' 11= .bool false:=hI.vals 11 (hw 11 (by kernel_rfl));refine Z03 (v:= .slice (some ⟨g',off',none⟩) L.length cb) (W':=W) (by simp[Region.wanted,yielded,d11]) ?_ (hK.out _ _ (hI.step rfl Y2))
    try dsimp only
    go_simp}
   refine StepsInv.cons _ rfl (fun d u' W K' hI hd hw hK=> ?_) ?_
   {have d11:u' 11= .bool false:=hI.vals 11 (hw 11 (by kernel_rfl));refine Z03 (v:= .int .i64 (i:Int)) (W':=W) (by simp[Region.wanted,yielded,d11]) ?_ (hK.out _ _ (hI.step rfl Y2))
    try dsimp only
    go_simp}
   refine StepsInv.cons _ rfl (fun d u' W K' hI hd hw hK=> ?_) ?_
   {have d11:u' 11= .bool false:=hI.vals 11 (hw 11 (by kernel_rfl));have d17:u' 17= .slice (some ⟨g',off',none⟩) L.length cb:=hI.vals 17 (hw 17 (by kernel_rfl));have d18:u' 18= .int .i64 (i:Int):=hI.vals 18 (hw 18 (by kernel_rfl));refine Z03 (v:= .pointer (some ⟨g',off'+i * 7,none⟩)) (W':=W) (by simp[Region.wanted,yielded,d11]) ?_ (hK.out _ _ (hI.step rfl Y2))
    try dsimp only
    go_simp}
   refine StepsInv.cons _ rfl (fun d u' W K' hI hd hw hK=> ?_) ?_
   {have d11:u' 11= .bool false:=hI.vals 11 (hw 11 (by kernel_rfl));have d19:u' 19= .pointer (some ⟨g',off'+i * 7,none⟩):=hI.vals 19 (hw 19 (by kernel_rfl));refine Z03 (v:= .pointer (some ⟨g',off'+i * 7+1,none⟩)) (W':=W) (by simp[Region.wanted,yielded,d11]) ?_ (hK.out _ _ (hI.step rfl Y2))
    try dsimp only
    go_simp}
   refine StepsInv.cons _ rfl (fun d u' W K' hI hd hw hK=> ?_) ?_
   {have d11:u' 11= .bool false:=hI.vals 11 (hw 11 (by kernel_rfl));have d20:u' 20= .pointer (some ⟨g',off'+i * 7+1,none⟩):=hI.vals 20 (hw 20 (by kernel_rfl));have c0:=(hI.up.cell (p:=⟨g',off'+i * 7+1,none⟩) HG.out.2).trans HY1.out;refine Z03 (v:= .string ⟨bk.name.toArray⟩) (W':=W) (by simp[Region.wanted,yielded,d11]) ?_ (hK.out _ _ (hI.step rfl Y2))
    try dsimp only
    go_simp}
   refine StepsInv.cons _ rfl (fun d u' W K' hI hd hw hK=> ?_) ?_
   {have d11:u' 11= .bool false:=hI.vals 11 (hw 11 (by kernel_rfl));have d16:u' 16= .string ⟨bk.name.toArray⟩:=hI.vals 16 (hw 16 (by kernel_rfl));have d21:u' 21= .string ⟨bk.name.toArray⟩:=hI.vals 21 (hw 21 (by kernel_rfl));refine Z03 (v:= .bool false) (W':=W) (by simp[Region.wanted,yielded,d11]) ?_ (hK.out _ _ (hI.step rfl Y2))
    try dsimp only
    go_simp}
   refine StepsInv.cons _ rfl (fun d u' W K' hI hd hw hK=> ?_) ?_
   {have d11:u' 11= .bool false:=hI.vals 11 (hw 11 (by kernel_rfl));have d22:u' 22= .bool false:=hI.vals 22 (hw 22 (by kernel_rfl));refine Z03 (v:= .bool false) (W':=W) rfl ?_ (hK.out _ _ (hI.step rfl Y2))
    try dsimp only
    go_simp}
   refine StepsInv.cons _ rfl (fun d u' W K' hI hd hw hK=> ?_) ?_
   {have d23:u' 23= .bool false:=hI.vals 23 (hw 23 (by kernel_rfl));refine Z03 (v:= .bool false) (W':=W) rfl ?_ (hK.out _ _ (hI.step rfl Y2))
    try dsimp only
    go_simp}
   refine StepsInv.cons _ rfl (fun d u' W K' hI hd hw hK=> ?_) ?_
   {have d24:u' 24= .bool false:=hI.vals 24 (hw 24 (by kernel_rfl));refine Z03 (v:= .slice (some ⟨g,off,none⟩) L.length ca) (W':=W) (by simp[Region.wanted,yielded,d24]) ?_ (hK.out _ _ (hI.step rfl Y2))
    try dsimp only
    go_simp}
   refine StepsInv.cons _ rfl (fun d u' W K' hI hd hw hK=> ?_) ?_
   {have d24:u' 24= .bool false:=hI.vals 24 (hw 24 (by kernel_rfl));refine Z03 (v:= .int .i64 (i:Int)) (W':=W) (by simp[Region.wanted,yielded,d24]) ?_ (hK.out _ _ (hI.step rfl Y2))
    try dsimp only
    go_simp}
   refine StepsInv.cons _ rfl (fun d u' W K' hI hd hw hK=> ?_) ?_
   {have d24:u' 24= .bool false:=hI.vals 24 (hw 24 (by kernel_rfl));have d25:u' 25= .slice (some ⟨g,off,none⟩) L.length ca:=hI.vals 25 (hw 25 (by kernel_rfl));have d26:u' 26= .int .i64 (i:Int):=hI.vals 26 (hw 26 (by kernel_rfl));refine Z03 (v:= .pointer (some ⟨g,off+i * 7,none⟩)) (W':=W) (by simp[Region.wanted,yielded,d24]) ?_ (hK.out _ _ (hI.step rfl Y2))
    try dsimp only
    go_simp}
   refine StepsInv.cons _ rfl (fun d u' W K' hI hd hw hK=> ?_) ?_
   {have d24:u' 24= .bool false:=hI.vals 24 (hw 24 (by kernel_rfl));have d27:u' 27= .pointer (some ⟨g,off+i * 7,none⟩):=hI.vals 27 (hw 27 (by kernel_rfl));refine Z03 (v:= .pointer (some ⟨g,off+i * 7+2,none⟩)) (W':=W) (by simp[Region.wanted,yielded,d24]) ?_ (hK.out _ _ (hI.step rfl Y2))
    try dsimp only
    go_simp}
   refine StepsInv.cons _ rfl (fun d u' W K' hI hd hw hK=> ?_) ?_
   {have d24:u' 24= .bool false:=hI.vals 24 (hw 24 (by kernel_rfl));have d28:u' 28= .pointer (some ⟨g,off+i * 7+2,none⟩):=hI.vals 28 (hw 28 (by kernel_rfl));obtain ⟨c0,c1,c2,c3,c4⟩:=HXS.out.keep HG.out.1 hI.up;refine Z03 (v:= .agg #[.int .i64 bk.sh.kind,.string ⟨bk.sh.of_.toArray⟩,.string ⟨bk.sh.name.toArray⟩,.slice qa.A bk.sh.names.length qa.c,.slice qa.P bk.sh.parts.length qa.d]) (W':=W) (by simp[Region.wanted,yielded,d24]) ?_ (hK.out _ _ (hI.step rfl Y2))
    try dsimp only
    go_simp}
   refine StepsInv.cons _ rfl (fun d u' W K' hI hd hw hK=> ?_) ?_
   {have d24:u' 24= .bool false:=hI.vals 24 (hw 24 (by kernel_rfl));refine Z03 (v:= .slice (some ⟨g',off',none⟩) L.length cb) (W':=W) (by simp[Region.wanted,yielded,d24]) ?_ (hK.out _ _ (hI.step rfl Y2))
    try dsimp only
    go_simp}
   refine StepsInv.cons _ rfl (fun d u' W K' hI hd hw hK=> ?_) ?_
   {have d24:u' 24= .bool false:=hI.vals 24 (hw 24 (by kernel_rfl));refine Z03 (v:= .int .i64 (i:Int)) (W':=W) (by simp[Region.wanted,yielded,d24]) ?_ (hK.out _ _ (hI.step rfl Y2))
    try dsimp only
    go_simp}
   refine StepsInv.cons _ rfl (fun d u' W K' hI hd hw hK=> ?_) ?_
   {have d24:u' 24= .bool false:=hI.vals 24 (hw 24 (by kernel_rfl));have d30:u' 30= .slice (some ⟨g',off',none⟩) L.length cb:=hI.vals 30 (hw 30 (by kernel_rfl));have d31:u' 31= .int .i64 (i:Int):=hI.vals 31 (hw 31 (by kernel_rfl));refine Z03 (v:= .pointer (some ⟨g',off'+i * 7,none⟩)) (W':=W) (by simp[Region.wanted,yielded,d24]) ?_ (hK.out _ _ (hI.step rfl Y2))
    try dsimp only
    go_simp}
   refine StepsInv.cons _ rfl (fun d u' W K' hI hd hw hK=> ?_) ?_
   {have d24:u' 24= .bool false:=hI.vals 24 (hw 24 (by kernel_rfl));have d32:u' 32= .pointer (some ⟨g',off'+i * 7,none⟩):=hI.vals 32 (hw 32 (by kernel_rfl));refine Z03 (v:= .pointer (some ⟨g',off'+i * 7+2,none⟩)) (W':=W) (by simp[Region.wanted,yielded,d24]) ?_ (hK.out _ _ (hI.step rfl Y2))
    try dsimp only
    go_simp}
   refine StepsInv.cons _ rfl (fun d u' W K' hI hd hw hK=> ?_) ?_
   {have d24:u' 24= .bool false:=hI.vals 24 (hw 24 (by kernel_rfl));have d33:u' 33= .pointer (some ⟨g',off'+i * 7+2,none⟩):=hI.vals 33 (hw 33 (by kernel_rfl));obtain ⟨c0,c1,c2,c3,c4⟩:=HYS.out.keep HG.out.2 hI.up;refine Z03 (v:= .agg #[.int .i64 bk.sh.kind,.string ⟨bk.sh.of_.toArray⟩,.string ⟨bk.sh.name.toArray⟩,.slice qb.A bk.sh.names.length qb.c,.slice qb.P bk.sh.parts.length qb.d]) (W':=W) (by simp[Region.wanted,yielded,d24]) ?_ (hK.out _ _ (hI.step rfl Y2))
    try dsimp only
    go_simp}
   refine StepsInv.cons _ rfl (fun d u' W K' hI hd hw hK=> ?_) ?_
   {have d24:u' 24= .bool false:=hI.vals 24 (hw 24 (by kernel_rfl));have d29:u' 29= .agg #[.int .i64 bk.sh.kind,.string ⟨bk.sh.of_.toArray⟩,.string ⟨bk.sh.name.toArray⟩,.slice qa.A bk.sh.names.length qa.c,.slice qa.P bk.sh.parts.length qa.d]:=hI.vals 29 (hw 29 (by kernel_rfl));have d34:u' 34= .agg #[.int .i64 bk.sh.kind,.string ⟨bk.sh.of_.toArray⟩,.string ⟨bk.sh.name.toArray⟩,.slice qb.A bk.sh.names.length qb.c,.slice qb.P bk.sh.parts.length qb.d]:=hI.vals 34 (hw 34 (by kernel_rfl));refine Z3b (f:=11) (args:=#[.agg #[.int .i64 bk.sh.kind,.string ⟨bk.sh.of_.toArray⟩,.string ⟨bk.sh.name.toArray⟩,.slice qa.A bk.sh.names.length qa.c,.slice qa.P bk.sh.parts.length qa.d],.agg #[.int .i64 bk.sh.kind,.string ⟨bk.sh.of_.toArray⟩,.string ⟨bk.sh.name.toArray⟩,.slice qb.A bk.sh.names.length qb.c,.slice qb.P bk.sh.parts.length qb.d]]) (W':=W) (by simp[Region.wanted,yielded,d24]) ?_ ((HCL.out W hI.up).mono fun e w' ⟨he,hb⟩=>⟨_,he,hK.out _ _ (hI.step rfl hb)⟩)
    try dsimp only
    go_simp}
   refine StepsInv.cons _ rfl (fun d u' W K' hI hd hw hK=> ?_) ?_
   {have d24:u' 24= .bool false:=hI.vals 24 (hw 24 (by kernel_rfl));have d35:u' 35= .bool true:=hI.vals 35 (hw 35 (by kernel_rfl));refine Z03 (v:= .bool false) (W':=W) (by simp[Region.wanted,yielded,d24]) ?_ (hK.out _ _ (hI.step rfl Y2))
    try dsimp only
    go_simp}
   refine StepsInv.cons _ rfl (fun d u' W K' hI hd hw hK=> ?_) StepsInv.nil
   {have d24:u' 24= .bool false:=hI.vals 24 (hw 24 (by kernel_rfl));have d36:u' 36= .bool false:=hI.vals 36 (hw 36 (by kernel_rfl));refine Z03 (v:= .bool false) (W':=W) rfl ?_ (hK.out _ _ (hI.step rfl Y2))
    try dsimp only
    go_simp}
   intro dd z' W2 hI hdn
   try dsimp only
   rw[show z' 37= .bool false from hI.vals 37 (hdn 37 (by decide))];have HB2:=Y1 (Z02 HB.out hI.up);clear hI hdn;go_wp2
   go_roundw
   case rel=>exact ⟨i+1,by go_num,by omega,HB2⟩
   case measure=>simp[intOf]; omega}
  {have hi1: ¬(i:Int) < (L.length:Int):=by omega
   go_wp2;refine bodyPost_ret (v:= .bool true) (by simp[results,Tryd.results13,go_sem]) rfl ?_;exact ⟨rfl,HB.out⟩}
end
section
open Go.RowKit Shp
abbrev Ky:=List UInt8×List UInt8
def keyV (k:Ky):Value:= .agg #[.string ⟨k.1.toArray⟩,.string ⟨k.2.toArray⟩]
def Fine (k:Ky):Prop:=k.1.length<=9223372036854775807/\k.2.length<=9223372036854775807
theorem Zbr:laidOutB Tryd.prog=true:=by kernel_rfl
theorem ZbN: (76:TypeId) < Tryd.prog.types.size:=of_decide_eq_true (by kernel_rfl)
theorem Zbs: (match Tryd.prog.underlying 76 with | some (.array _ _) | some (.struct _)=>true | _=>false)=true:=by kernel_rfl
theorem ZbO:Tryd.prog.keyType 76=true:=by kernel_rfl
theorem Z6n:Tryd.prog.cellsOf 76=2:=by kernel_rfl
theorem ZbP:Tryd.prog.cellsOf 9=1:=by kernel_rfl
theorem Z2Z:Maps.Keyed Tryd.prog 76:=Maps.Keyed.of_law (deep_law_laid Zbr (m:=2) (by omega) ZbN (by kernel_rfl) Zbs)
theorem Zbt: ∃m,Tryd.prog.types.size=m+2:=⟨Tryd.prog.types.size - 2,by have:2<=Tryd.prog.types.size:=of_decide_eq_true (by kernel_rfl); omega⟩
def KL (k:Ky):Lit:= .string (keyBytes [.string k.1,.string k.2])
theorem keyOf_keyV {k:Ky} (h:Fine k):keyOf Tryd.prog 76 (keyV k)=some (KL k):=by
 obtain ⟨m,hm⟩:=Zbt;have h1: (⟨k.1.toArray⟩:ByteArray).size<=maxLen:=by rw[Z0G]; unfold maxLen; exact h.1
 have h2: (⟨k.2.toArray⟩:ByteArray).size<=maxLen:=by rw[Z0G]; unfold maxLen; exact h.2
 unfold keyOf keyV KL;simp only[Tryd.underlying76];rw[if_pos (by simp[ZbO,Value.formed,Tryd.underlying76,Z6n]),hm];unfold Program.keyLits;simp only[Tryd.underlying76,Value.cells];rw[if_pos ⟨by rw[Z6n]; rfl,by simp⟩];simp[ZbP,Program.keyLits,Tryd.underlying9,h1,h2]
theorem KL_inj {k k':Ky} (h:Fine k) (h':Fine k') (e:KL k=KL k'):k=k':=by
 have h1:=keyOf_keyV h;rw[e] at h1;have:=Z2Z.inj h1 (keyOf_keyV h');unfold keyV at this;simp at this;exact Prod.ext this.1 this.2
theorem KL_key (k:Ky):WideAt.IsKeyLit (KL k):=trivial
def slEl:Value->Option (DataW Unit×List MemPlace)
 | .slice none n c=>some (.agg [.lit (.int .i64 (n:Int)),.lit (.int .i64 (c:Int))],[])
 | .slice (some ⟨g,o,none⟩) n c=>some (.agg [.lit (.int .i64 (g:Int)),.lit (.int .i64 (o:Int)),.lit (.int .i64 (n:Int)),.lit (.int .i64 (c:Int))],[])
 | _=>none
theorem slEl_inj {v v':Value} {d:DataW Unit} {p p':List MemPlace} (h:slEl v=some (d,p)) (h':slEl v'=some (d,p')):v=v':=by
 unfold slEl at h h';split at h <;> split at h' <;> simp only[Option.some.injEq,Prod.mk.injEq,reduceCtorEq] at h h'
 {obtain ⟨rfl,_⟩:=h;simp at h';obtain ⟨⟨h1,h2⟩,_⟩:=h';congr 1 <;> omega}
 {obtain ⟨rfl,_⟩:=h;simp at h'}
 {obtain ⟨rfl,_⟩:=h;simp at h'}
 {obtain ⟨rfl,_⟩:=h;simp at h';obtain ⟨⟨h1,h2,h3,h4⟩,_⟩:=h';simp only[Value.slice.injEq,Option.some.injEq,Addr.mk.injEq,and_true];refine ⟨⟨?_, ?_⟩, ?_, ?_⟩ <;> omega}
theorem zero_sl (w:World): (zeroValue 90).run Tryd.prog w= .ok (.slice none 0 0) w:=by kernel_rfl
def Mp (W:World) (b N:Nat) (S:List Ky) (m:Ky->Value):Prop:=
 ∃D:DataW Unit,W.ownsMap Tryd.prog 76 slEl b N D/\Maps.size D=S.length/\S.Nodup/\(∀k∈S,Fine k)/\(∀k,Fine k->(Maps.has D (KL k)=true ↔ k∈S))/\
  ∀k,Fine k-> ∃p,slEl (if k∈S then m k else .slice none 0 0)=some (D.atKey (KL k) (.agg [.lit (.int .i64 0),.lit (.int .i64 0)]),p)
theorem Mp.made (W:World) (m:Ky->Value):Mp (W.alloc (.map #[] 0)) W.heap.size 0 [] m:=by
 refine ⟨.map [],World.ownsMap_made _ _ _ _,rfl,List.nodup_nil,nofun,fun k _=>⟨fun h=>by simp[Maps.has] at h,nofun⟩,fun k _=>⟨[], ?_⟩⟩;rw[if_neg (by simp)];rfl
theorem Mp.lt {W:World} {b N:Nat} {S:List Ky} {m:Ky->Value} (h:Mp W b N S m):b < W.heap.size:=by obtain ⟨_,h,_⟩:=h; exact h.lt
theorem Mp.kept {W W':World} {b N:Nat} {S:List Ky} {m:Ky->Value} (h:Mp W b N S m) {row:Option Nat} (hg:W.grownBy W' row) (hne:some b≠row):Mp W' b N S m:=by
 obtain ⟨D,h1,h2⟩:=h; exact ⟨D,h1.kept hg hne,h2⟩
theorem Mp.same {W W':World} {b N:Nat} {S:List Ky} {m:Ky->Value} (h:Mp W b N S m) (hb:W'.heap[b]? =W.heap[b]?):Mp W' b N S m:=by
 obtain ⟨D,⟨es,clock,h0,h1⟩,h2⟩:=h; exact ⟨D,⟨es,clock,hb.trans h0,h1⟩,h2⟩
theorem Mp.look {W:World} {b N:Nat} {S:List Ky} {m:Ky->Value} (h:Mp W b N S m) {k:Ky} (hk:Fine k):
 (Instr.lookup 67 (.map (some b)) (keyV k) false).run Tryd.prog W= .ok (if k∈S then m k else .slice none 0 0) W:=by
 obtain ⟨D,h1,_,_,_,_,h6⟩:=h;obtain ⟨v,ps,hr,hv⟩:=h1.lookup Z2Z Tryd.underlying67 (zero_sl W) (zd:= .agg [.lit (.int .i64 0),.lit (.int .i64 0)]) (zp:= []) rfl (keyOf_keyV hk);obtain ⟨p,hp⟩:=h6 k hk;rw[hr,slEl_inj hv hp]
theorem Mp.len {W:World} {b N:Nat} {S:List Ky} {m:Ky->Value} (h:Mp W b N S m) (ty:TypeId):
 (Builtin.len_ #[67] ty #[.map (some b)]).run Tryd.prog W= .ok (.int .i64 S.length) W:=by
 obtain ⟨D,h1,h2,_⟩:=h;rw[h1.len Tryd.underlying67 ty,h2]
theorem Mp.put {W:World} {b N:Nat} {S:List Ky} {m:Ky->Value} (h:Mp W b N S m) {k:Ky} (hk:Fine k) (hN:N < maxLen) {v:Value} {z:DataW Unit×List MemPlace} (hv:slEl v=some z):
 ∃W',(Instr.mapUpdate 67 (.map (some b)) (keyV k) v).run Tryd.prog W= .ok () W'/\Mp W' b (N+1) (if k∈S then S else k::S) (fun x=>if x=k then v else m x)/\W.mapTurned W' b:=by
 obtain ⟨D,h1,h2,h3,h4,h5,h6⟩:=h;obtain ⟨W',hr,ho,hg⟩:=h1.store Z2Z Tryd.underlying67 hN (keyOf_keyV hk) (ps:=z.2) (d:=z.1) (by rw[hv]);have hT:=h1.tidy Z2Z;have hsz:=Maps.size_put (k:=KL k) hT z.1;have hmem: ∀x,x∈(if k∈S then S else k::S) ↔ x=k\/x∈S:=fun x=>by
  by_cases e:k∈S
  {rw[if_pos e]; exact ⟨Or.inr,fun h=>h.elim (fun h=>h▸e) id⟩}
  {rw[if_neg e]; exact List.mem_cons}
 refine ⟨W',hr,⟨D.put (KL k) z.1,ho, ?_, ?_, ?_, ?_, ?_⟩,hg⟩
 {rw[hsz,h2];by_cases e:k∈S
  {rw[if_pos ((h5 k hk).2 e),if_pos e]}
  {rw[if_neg (fun h=>e ((h5 k hk).1 h)),if_neg e]; rfl}}
 {by_cases e:k∈S
  {rw[if_pos e]; exact h3}
  {rw[if_neg e]; exact List.nodup_cons.2 ⟨e,h3⟩}}
 {intro x hx;rcases (hmem x).1 hx with rfl | hx
  {exact hk}
  {exact h4 x hx}}
 {intro x hx;rw[hmem];by_cases e:x=k
  {subst e;exact ⟨fun _=>Or.inl rfl,fun _=>Maps.has_put_same h1.isMap (KL_key _) _⟩}
  {rw[Maps.has_put_other (fun h=>e (KL_inj hx hk h)),h5 x hx];exact ⟨Or.inr,fun h=>h.resolve_left e⟩}}
 {intro x hx;by_cases e:x=k
  {subst e;refine ⟨z.2, ?_⟩;rw[if_pos ((hmem _).2 (Or.inl rfl))];simp only[if_true];rw[Maps.atKey_put_same h1.isMap (KL_key _),hv]}
  {obtain ⟨p,hp⟩:=h6 x hx;refine ⟨p, ?_⟩;rw[Maps.atKey_put_other (fun h=>e (KL_inj hx hk h)), <-hp];by_cases e2:x∈S
   {rw[if_pos ((hmem x).2 (Or.inr e2)),if_pos e2]; simp only[if_neg e]}
   {rw[if_neg (fun h=>e2 (((hmem x).1 h).resolve_left e)),if_neg e2]}}}
theorem Mp.del {W:World} {b N:Nat} {S:List Ky} {m:Ky->Value} (h:Mp W b N S m) {k:Ky} (hk:Fine k) (ty:TypeId):
 ∃W',(Builtin.delete_ #[67,76] ty #[.map (some b),keyV k]).run Tryd.prog W= .ok (.tuple #[]) W'/\Mp W' b N (S.filter (· ≠k)) m/\W.mapTurned W' b:=by
 obtain ⟨D,h1,h2,h3,h4,h5,h6⟩:=h;obtain ⟨W',hr,ho,hg⟩:=h1.drop Z2Z Tryd.underlying67 (keyOf_keyV hk) ty;have hT:=h1.tidy Z2Z;have hsz:=Maps.size_del (k:=KL k) hT;have hmem: ∀x,x∈S.filter (· ≠k) ↔ x∈S/\x≠k:=fun x=>by simp[List.mem_filter]
 have hlen: (S.filter (· ≠k)).length+(if k∈S then 1 else 0)=S.length:=by
  clear h2 h4 h5 h6 hsz hmem;induction S with
  | nil=>rfl
  | cons a S ih=>
   rw[List.nodup_cons] at h3;have:=ih h3.2;by_cases e:a=k
   {subst e;have hf:S.filter (· ≠a)=S:=List.filter_eq_self.2 (fun x hx=>by simp; rintro rfl; exact h3.1 hx)
    rw[List.filter_cons_of_neg (by simp),hf,if_pos (by simp)]; rfl}
   {rw[List.filter_cons_of_pos (by simp[e]),List.length_cons,List.length_cons];have: (k∈a::S) ↔ k∈S:=by simp[Ne.symm e]
    by_cases e2:k∈S
    {rw[if_pos (this.2 e2)]; rw[if_pos e2] at *; omega}
    {rw[if_neg (fun h=>e2 (this.1 h))]; rw[if_neg e2] at *; omega}}
 refine ⟨W',hr,⟨D.del (KL k),ho, ?_, ?_, ?_, ?_, ?_⟩,hg⟩
 {rw[h2] at hsz;by_cases e:k∈S
  {rw[if_pos ((h5 k hk).2 e)] at hsz; rw[if_pos e] at hlen; omega}
  {rw[if_neg (fun h=>e ((h5 k hk).1 h))] at hsz; rw[if_neg e] at hlen; omega}}
 {exact h3.filter _}
 {exact fun x hx=>h4 x ((hmem x).1 hx).1}
 {intro x hx;rw[hmem];by_cases e:x=k
  {subst e;rw[Maps.has_del_same];exact ⟨nofun,fun h=>absurd rfl h.2⟩}
  {rw[Maps.has_del_other (fun h=>e (KL_inj hx hk h)),h5 x hx];exact ⟨fun h=>⟨h,e⟩,fun h=>h.1⟩}}
 {intro x hx;by_cases e:x=k
  {subst e;refine ⟨[], ?_⟩;rw[if_neg (fun h=>((hmem _).1 h).2 rfl),Maps.atKey_del_same]; rfl}
  {obtain ⟨p,hp⟩:=h6 x hx;refine ⟨p, ?_⟩;rw[Maps.atKey_del_other (fun h=>e (KL_inj hx hk h)), <-hp];by_cases e2:x∈S
   {rw[if_pos ((hmem x).2 ⟨e2,e⟩),if_pos e2]}
   {rw[if_neg (fun h=>e2 ((hmem x).1 h).1),if_neg e2]}}}
theorem Z27 {d:Nat->Bool} (i:Nat) {k:Nat} (h:d k=true):also d i k=true:=by
 by_cases e:k=i
 {subst e; unfold also; rw[Nat.beq_refl]; rfl}
 {unfold also;have:Nat.beq k i=false:=by cases hb:Nat.beq k i <;> first | rfl | exact absurd (Nat.eq_of_beq_eq_true hb) e
  rw[this]; exact h}
theorem ne11 (d:Nat->Bool) {i j:Nat} (h:j≠i):also d i j=d j:=by
 unfold also;have:Nat.beq j i=false:=by cases hb:Nat.beq j i <;> first | rfl | exact absurd (Nat.eq_of_beq_eq_true hb) h
 rw[this]; rfl
theorem Z6o (d:Nat->Bool) (i:Nat):also d i i=true:=by unfold also; rw[Nat.beq_refl]; rfl
structure UpG (b B:Nat) (w w':World):Prop where
 os:w'.os=w.os
 tape:w'.tape=w.tape
 output:w'.output=w.output
 size:w.heap.size<=w'.heap.size
 block: ∀x,x < B->x≠b->w'.heap[x]? =w.heap[x]?
section
variable {b B : Nat} {w w' w'' : World}
theorem UpG.refl (b B:Nat) (w:World):UpG b B w w:=⟨rfl,rfl,rfl,Nat.le_refl _,fun _ _ _=>rfl⟩
theorem UpG.trans (h:UpG b B w w') (k:UpG b B w' w''):UpG b B w w'':=
 ⟨k.os.trans h.os,k.tape.trans h.tape,k.output.trans h.output,Nat.le_trans h.size k.size,fun x h1 h2=>(k.block x h1 h2).trans (h.block x h1 h2)⟩
theorem UpG.low (h:UpG b B w w') {B':Nat} (h1:B'<=B) (h2:B'<=b):Below B' w w':=⟨h.os,h.tape,h.output,h.size,fun x hx=>h.block x (by omega) (by omega)⟩
theorem UpG.cell (h:UpG b B w w') {g k:Nat} (h1:g < B) (h2:g≠b):w'.cell? ⟨g,k,none⟩=w.cell? ⟨g,k,none⟩:=World.cell?_of_block (w:=w) (h.block g h1 h2)
end
def plV (p:Nat×Nat):Value:= .pointer (some ⟨p.1,p.2 * 5,none⟩)
structure Grp (W:World) (B b N:Nat) (S:List Ky) (m:Ky->Value) (ps:Ky->List (Nat×Nat)):Prop where
 mp:Mp W b N S m
 row: ∀k∈S,W.ownsRow B 71 1 (m k) (ps k).length ((ps k).map plV)
 ne: ∀k∈S,ps k≠ []
 no: ∀k,k∉S->ps k= []
 far: ∀k∈S,∀k'∈S,k≠k'->(m k).ownBlock≠(m k').ownBlock
 len: ∀k,(ps k).length<=N
 bB:b < B
 Bw:B<=W.heap.size
theorem Grp.keep {W W':World} {B b N:Nat} {S:List Ky} {m:Ky->Value} {ps:Ky->List (Nat×Nat)} (h:Grp W B b N S m ps) (hb:Below W.heap.size W W'):Grp W' B b N S m ps:=by
 have hg:W.grownBy W' none:=⟨hb.os,hb.tape,hb.output,hb.size,fun k h1 _=>hb.block k h1⟩;exact ⟨h.mp.kept hg (by simp),fun k hk=>(h.row k hk).kept hg (by cases (m k).ownBlock <;> simp),h.ne,h.no,h.far,h.len,h.bB,Nat.le_trans h.Bw hb.size⟩
theorem Grp.own {W:World} {B b N:Nat} {S:List Ky} {m:Ky->Value} {ps:Ky->List (Nat×Nat)} (h:Grp W B b N S m ps) {k:Ky} (hk:k∈S):
 ∃g c,m k= .slice (some ⟨g,0,none⟩) (ps k).length c/\B<=g/\g < W.heap.size/\ ∀j (hj:j < (ps k).length),W.cell? ⟨g,j,none⟩=some (plV ((ps k)[j]'hj)):=by
 have hr:=h.row k hk;have hne:=h.ne k hk;have hlen:0 < (ps k).length:=List.length_pos_iff.2 hne;obtain ⟨g,c,e,_,hlt⟩:=hr.form hlen;have hB:=hr.lt g (by rw[e]; rfl);refine ⟨g,c,e,hB.1,hlt,fun j hj=> ?_⟩;have:=hr.cells (g:=g) (by rw[e]; rfl) j (plV ((ps k)[j]'hj)) (by simp[hj]);have ha: (⟨g,0,none⟩:Addr).add j=⟨g,j,none⟩:=by unfold Addr.add; split <;> simp_all
 rwa [ha] at this
structure UpM (b:Nat) (S:List Ky) (m:Ky->Value) (w:World) (S':List Ky) (m':Ky->Value) (w':World):Prop where
 os:w'.os=w.os
 tape:w'.tape=w.tape
 output:w'.output=w.output
 size:w.heap.size<=w'.heap.size
 block: ∀x,x < w.heap.size->x≠b->(∀k∈S,(m k).ownBlock≠some x)->w'.heap[x]? =w.heap[x]?
 rows: ∀k∈S',∀x,(m' k).ownBlock=some x->(∃k0∈S,(m k0).ownBlock=some x)\/w.heap.size<=x
section
variable {b : Nat} {S S' S'' : List Ky} {m m' m'' : Ky -> Value} {w w' w'' : World}
theorem UpM.refl (b:Nat) (S:List Ky) (m:Ky->Value) (w:World):UpM b S m w S m w:=⟨rfl,rfl,rfl,Nat.le_refl _,fun _ _ _ _=>rfl,fun k hk x hx=>Or.inl ⟨k,hk,hx⟩⟩
theorem UpM.trans (h:UpM b S m w S' m' w') (k:UpM b S' m' w' S'' m'' w''):UpM b S m w S'' m'' w'':=by
 refine ⟨k.os.trans h.os,k.tape.trans h.tape,k.output.trans h.output,Nat.le_trans h.size k.size,fun x h1 h2 h3=> ?_,fun y hy x hx=> ?_⟩
 {refine (k.block x (Nat.lt_of_lt_of_le h1 h.size) h2 (fun y hy e=> ?_)).trans (h.block x h1 h2 h3);rcases h.rows y hy x e with ⟨k0,h4,h5⟩ | h4
  {exact h3 k0 h4 h5}
  {omega}}
 {rcases k.rows y hy x hx with ⟨k0,h4,h5⟩ | h4
  {exact h.rows k0 h4 x h5}
  {exact Or.inr (Nat.le_trans h.size h4)}}
theorem Z2w (S:List Ky) (m:Ky->Value) (h:Below w.heap.size w w'):UpM b S m w S m w':=⟨h.os,h.tape,h.output,h.size,fun x h1 _ _=>h.block x h1,fun k hk x hx=>Or.inl ⟨k,hk,hx⟩⟩
theorem UpM.cell (h:UpM b S m w S' m' w') {g k:Nat} (h1:g < w.heap.size) (h2:g≠b) (h3: ∀k∈S,(m k).ownBlock≠some g):w'.cell? ⟨g,k,none⟩=w.cell? ⟨g,k,none⟩:=World.cell?_of_block (w:=w) (h.block g h1 h2 h3)
end
theorem Grp.notRow {W:World} {B b N:Nat} {S:List Ky} {m:Ky->Value} {ps:Ky->List (Nat×Nat)} (h:Grp W B b N S m ps) {x:Nat} (hx:x < B\/W.heap.size<=x): ∀k∈S,(m k).ownBlock≠some x:=fun k hk e=>by
 have:=(h.row k hk).lt x e;omega
section
variable (W2 : World) (h b N B : Nat) (S : List Ky) (m : Ky -> Value) (ps : Ky -> List (Nat × Nat)) (k : Ky) (p : Nat × Nat)
def slOf:Value:=if k∈S then m k else .slice none 0 0
def opVal (j:Nat):Option Value:=match j with
 | 0=>some (.pointer (some ⟨h,0,none⟩))
 | 1=>some (.map (some b))
 | 2=>some (keyV k)
 | 3=>some (.pointer (some ⟨h,0,none⟩))
 | 4=>some (.map (some b))
 | 5=>some (keyV k)
 | 6=>some (slOf S m k)
 | 7=>some (plV p)
 | _=>none
def OpFin (W:World):Prop:=
 ∃S' m',Grp W B b (N+1) S' m' (fun x=>if x=k then ps x++ [p] else ps x)/\(∀x,x∈S' ↔ x=k\/x∈S)/\UpM b S m W2 S' m' W
structure OpI (d:Nat->Bool) (u:Nat->Value) (W:World):Prop where
 vals: ∀j,d j=true-> ∀v,opVal h b S m k p j=some v->u j=v
 c0:W.cell? ⟨h,0,none⟩=some (.map (some b))
 c1:W.cell? ⟨h+1,0,none⟩=some (.string ⟨k.1.toArray⟩)
 c2:W.cell? ⟨h+1,1,none⟩=some (.string ⟨k.2.toArray⟩)
 e9:d 9=true->d 6=true/\d 8=true
 e10:d 10=true-> ∀j,j < 10->d j=true
 lo:d 9=false->Below W2.heap.size W2 W
 a8:d 8=true-> ∃z,u 8= .slice (some ⟨z,0,none⟩) 1 1/\(d 9=false->W2.heap.size<=z/\z < W.heap.size/\W.cell? ⟨z,0,none⟩=some (plV p))
 a9:d 9=true->d 10=false-> ∃g cp,u 9= .slice (some ⟨g,0,none⟩) ((ps k).length+1) cp/\W.ownsRow B 71 1 (.slice (some ⟨g,0,none⟩) ((ps k).length+1) cp) ((ps k).length+1) ((ps k).map plV++ [plV p])/\
  W2.grownBy W (slOf S m k).ownBlock/\((slOf S m k).ownBlock=some g\/W2.heap.size<=g)
 fin:d 10=true->OpFin W2 b N B S m ps k p W
variable {W2 h b N B S m ps k p} {d : Nat -> Bool} {u : Nat -> Value} {W : World}
section
variable (H : OpI W2 h b N B S m ps k p d u W) {i : Nat}
include H i
theorem OpI.vals' {v:Value} (hv: ∀v',opVal h b S m k p i=some v'->v=v'): ∀j,also d i j=true-> ∀v',opVal h b S m k p j=some v'->upd u i v j=v':=fun j hj v' hv'=>by
 by_cases hij:j=i
 {subst hij; rw[Z06]; exact hv v' hv'}
 {rw[ne11 d hij] at hj; rw[Z01 u v hij]; exact H.vals j hj v' hv'}
theorem OpI.pure (hi:i < 8) {v:Value} (hv: ∀v',opVal h b S m k p i=some v'->v=v'):OpI W2 h b N B S m ps k p (also d i) (upd u i v) W:=by
 have k8:=ne11 d (i:=i) (j:=8) (by omega);have k9:=ne11 d (i:=i) (j:=9) (by omega);have k10:=ne11 d (i:=i) (j:=10) (by omega);have u8:=Z01 u (i:=i) (j:=8) v (by omega);have u9:=Z01 u (i:=i) (j:=9) v (by omega);refine ⟨H.vals' hv,H.c0,H.c1,H.c2, ?_, ?_, ?_, ?_, ?_, ?_⟩
 {rw[k9]; exact fun e=>⟨Z27 i (H.e9 e).1,Z27 i (H.e9 e).2⟩}
 {rw[k10]; exact fun e j hj=>Z27 i (H.e10 e j hj)}
 {rw[k9]; exact H.lo}
 {rw[k8,u8,k9]; exact H.a8}
 {rw[k9,k10,u9]; exact H.a9}
 {rw[k10]; exact H.fin}
theorem OpI.not10 (hi:i < 10) (hd:d i=false):d 10=false:=by
 cases e:d 10 with
 | false=>rfl
 | true=>have:=H.e10 e i hi; rw[hd] at this; cases this
theorem OpI.not9 (hi:i=6\/i=8) (hd:d i=false):d 9=false:=by
 cases e:d 9 with
 | false=>rfl
 | true=>rcases hi with rfl | rfl <;> have:=H.e9 e <;> rw[hd] at this <;> simp at this
end
end
theorem ZbR: (Tryd.prog.info? 71).map (fun i=>(i.zero,i.size,i.bytes))=some (some (.pointer none),1,8):=by kernel_rfl
section
variable {P : Program} {ρ : Operand -> Value} {o : Oper} {t : TypeId}
include P ρ o t
theorem Z7t {x ix:Operand} {ok:Bool} {W W':World} {v:Value} (ho:o.op=Op.lookup t x ix ok) (h: (Instr.lookup t (ρ x) (ρ ix) ok).run P W= .ok v W'): (execOp ρ o).run P W= .ok (.value v) W':=by
 simp[execOp,ho,h,Result.andThen]
theorem Z7u {m k x:Operand} {W W':World} (ho:o.op=Op.mapUpdate t m k x) (h: (Instr.mapUpdate t (ρ m) (ρ k) (ρ x)).run P W= .ok () W'): (execOp ρ o).run P W= .ok .skip W':=by
 simp[execOp,ho,h,Result.andThen]
end
theorem ZbS (p:Nat×Nat): ∀u∈ [plV p],u.oneCell'=true:=by intro u hu; simp at hu; subst hu; rfl
theorem Za6 (W:World) (B b N:Nat) (S:List Ky) (m:Ky->Value) (ps:Ky->List (Nat×Nat)) (k:Ky) (p:Nat×Nat) (hk:Fine k) (hG:Grp W B b N S m ps) (hN:N<=1000):
 Calls Tryd.prog 50 #[.agg #[.map (some b)],keyV k,plV p] W fun e W'=>e= .returned (.tuple #[])/\OpFin W b N B S m ps k p W':=by
 have hb2:Below W.heap.size W ((W.alloc (.cells #[.map (some b)] 69)).alloc (.cells #[.string ⟨k.1.toArray⟩,.string ⟨k.2.toArray⟩] 76)):=Z0i (Z00 _ _) _;have HB2:=Y1 hb2;have HG2:=Y1 (hG.keep hb2);have HG0:=Y1 hG;have HBw:=Y1 hG.Bw;have HbB:=Y1 hG.bB;have c0: ((W.alloc (.cells #[.map (some b)] 69)).alloc (.cells #[.string ⟨k.1.toArray⟩,.string ⟨k.2.toArray⟩] 76)).cell? ⟨W.heap.size,0,none⟩=some (.map (some b)):=by simp[go_sem]
 have c1: ((W.alloc (.cells #[.map (some b)] 69)).alloc (.cells #[.string ⟨k.1.toArray⟩,.string ⟨k.2.toArray⟩] 76)).cell? ⟨W.heap.size+1,0,none⟩=some (.string ⟨k.1.toArray⟩):=by simp[go_sem]
 have c2: ((W.alloc (.cells #[.map (some b)] 69)).alloc (.cells #[.string ⟨k.1.toArray⟩,.string ⟨k.2.toArray⟩] 76)).cell? ⟨W.heap.size+1,1,none⟩=some (.string ⟨k.2.toArray⟩):=by simp[go_sem]
 have C0:=Y1 c0;have C1:=Y1 c1;have C2:=Y1 c2;have HZ2:=Y1 (show W.heap.size+2=((W.alloc (.cells #[.map (some b)] 69)).alloc (.cells #[.string ⟨k.1.toArray⟩,.string ⟨k.2.toArray⟩] 76)).heap.size from by simp);obtain ⟨i0,hif,hz0,hz1,hz2⟩:=info_parts ZbR;clear hb2 hG c0 c1 c2;unfold keyV plV;go_enter Tryd.func50,Tryd.ntmps50;go_wp2;generalize (W.alloc (.cells #[.map (some b)] 69)).alloc (.cells #[.string ⟨k.1.toArray⟩,.string ⟨k.2.toArray⟩] 76)=W2 at HB2 HG2 C0 C1 C2 HZ2 ⊢;refine Z30 (rs:= [0,1,2,3,4,5,6,7,8,9,10])
  (fun u=> { tmps:=#[.agg #[.map (some b)],.agg #[.string ⟨k.1.toArray⟩,.string ⟨k.2.toArray⟩],.pointer (some ⟨p.1,p.2 * 5,none⟩),.pointer (some ⟨W.heap.size,0,none⟩),.pointer (some ⟨W.heap.size+1,0,none⟩),undef,u 0,u 1,u 2,u 3,u 4,u 5,u 6,u 7,u 8,u 9],defers:= [] })
  (fun _=>undef) (OpI W2 W.heap.size b N B S m ps k p) (by kernel_rfl) (by kernel_rfl) (by kernel_rfl) ?_ ?_ ?_
 {exact ⟨nofun,C0.out,C1.out,C2.out,nofun,nofun,fun _=>Y2.drew,nofun,nofun,nofun⟩}
 {refine StepsInv.cons _ rfl (fun d u W1 K' hI hd hw hK=> ?_) ?_
  {refine Z03 (v:= .pointer (some ⟨W.heap.size,0,none⟩)) (W':=W1) rfl ?_ (hK.out _ _ (hI.pure (by decide) (fun v' h=>by cases h; rfl)));go_simp}
  refine StepsInv.cons _ rfl (fun d u W1 K' hI hd hw hK=> ?_) ?_
  {have d0:u 0= .pointer (some ⟨W.heap.size,0,none⟩):=hI.vals 0 (hw 0 (by kernel_rfl)) _ rfl;have c0:=hI.c0;refine Z03 (v:= .map (some b)) (W':=W1) rfl ?_ (hK.out _ _ (hI.pure (by decide) (fun v' h=>by cases h; rfl)));go_simp}
  refine StepsInv.cons _ rfl (fun d u W1 K' hI hd hw hK=> ?_) ?_
  {have c1:=hI.c1;have c2:=hI.c2;refine Z03 (v:= .agg #[.string ⟨k.1.toArray⟩,.string ⟨k.2.toArray⟩]) (W':=W1) rfl ?_ (hK.out _ _ (hI.pure (by decide) (fun v' h=>by cases h; rfl)));go_simp}
  refine StepsInv.cons _ rfl (fun d u W1 K' hI hd hw hK=> ?_) ?_
  {refine Z03 (v:= .pointer (some ⟨W.heap.size,0,none⟩)) (W':=W1) rfl ?_ (hK.out _ _ (hI.pure (by decide) (fun v' h=>by cases h; rfl)));go_simp}
  refine StepsInv.cons _ rfl (fun d u W1 K' hI hd hw hK=> ?_) ?_
  {have d3:u 3= .pointer (some ⟨W.heap.size,0,none⟩):=hI.vals 3 (hw 3 (by kernel_rfl)) _ rfl;have c0:=hI.c0;refine Z03 (v:= .map (some b)) (W':=W1) rfl ?_ (hK.out _ _ (hI.pure (by decide) (fun v' h=>by cases h; rfl)));go_simp}
  refine StepsInv.cons _ rfl (fun d u W1 K' hI hd hw hK=> ?_) ?_
  {have c1:=hI.c1;have c2:=hI.c2;refine Z03 (v:= .agg #[.string ⟨k.1.toArray⟩,.string ⟨k.2.toArray⟩]) (W':=W1) rfl ?_ (hK.out _ _ (hI.pure (by decide) (fun v' h=>by cases h; rfl)));go_simp}
  refine StepsInv.cons _ rfl (fun d u W1 K' hI hd hw hK=> ?_) ?_
  {have d4:u 4= .map (some b):=hI.vals 4 (hw 4 (by kernel_rfl)) _ rfl;have d5:u 5=keyV k:=hI.vals 5 (hw 5 (by kernel_rfl)) _ rfl;have hlo:=hI.lo (hI.not9 (Or.inl rfl) hd);have hl:=(HG2.out.mp.same (hlo.block b (Nat.lt_of_lt_of_le HbB.out HG2.out.Bw))).look hk;refine Z03 (v:=slOf S m k) (W':=W1) rfl ?_ (hK.out _ _ (hI.pure (by decide) (fun v' h=>by cases h; rfl)));refine Z7t (t:=67) (x:= .tmp 10) (ix:= .tmp 11) rfl ?_;change (Instr.lookup _ (u 4) (u 5) false).run _ W1=_;rw[d4,d5];exact hl}
  refine StepsInv.cons _ rfl (fun d u W1 K' hI hd hw hK=> ?_) ?_
  {refine Z03 (v:= .pointer (some ⟨p.1,p.2 * 5,none⟩)) (W':=W1) rfl ?_ (hK.out _ _ (hI.pure (by decide) (fun v' h=>by cases h; rfl)));go_simp}
  refine StepsInv.cons _ rfl (fun d u W1 K' hI hd hw hK=> ?_) ?_
  {have d7:u 7= .pointer (some ⟨p.1,p.2 * 5,none⟩):=hI.vals 7 (hw 7 (by kernel_rfl)) _ rfl;refine Z03 (v:= .slice (some ⟨W1.heap.size,0,none⟩) 1 1) (W':=W1.alloc (.cells #[.pointer (some ⟨p.1,p.2 * 5,none⟩)] 71)) rfl ?_ (hK.out _ _ ?_)
   {go_simp}
   {have n9:=hI.not9 (Or.inr rfl) hd;have n10:=hI.not10 (by decide) hd;have hb:=Z00 W1 (.cells #[.pointer (some ⟨p.1,p.2 * 5,none⟩)] 71);have hlo:=hI.lo n9;have hz:W.heap.size+2<=W1.heap.size:=by have:=hlo.size; have:=HZ2.out; omega
    refine ⟨hI.vals' (by intro v' h; cases h),(hb.cell (p:=⟨W.heap.size,0,none⟩) (by show W.heap.size < _; omega)).trans hI.c0,(hb.cell (p:=⟨W.heap.size+1,0,none⟩) (by show W.heap.size+1 < _; omega)).trans hI.c1,(hb.cell (p:=⟨W.heap.size+1,1,none⟩) (by show W.heap.size+1 < _; omega)).trans hI.c2, ?_, ?_, ?_, ?_, ?_, ?_⟩
    {rw[ne11 d (by decide),n9]; nofun}
    {rw[ne11 d (by decide),n10]; nofun}
    {exact fun _=>Z02 hlo hb}
    {exact fun _=>⟨W1.heap.size,Z06 _ _ _,fun _=>⟨hlo.size,by simp,by simp[go_sem,plV]⟩⟩}
    {rw[ne11 d (by decide),n9]; nofun}
    {rw[ne11 d (by decide),n10]; nofun}}}
  refine StepsInv.cons _ rfl (fun d u W1 K' hI hd hw hK=> ?_) ?_
  {have d6:u 6=slOf S m k:=hI.vals 6 (hw 6 (by kernel_rfl)) _ rfl;have w6:=hw 6 (by kernel_rfl);have w8:=hw 8 (by kernel_rfl);have n10:=hI.not10 (by decide) hd;have hlo:=hI.lo hd;obtain ⟨z,u8,hz⟩:=hI.a8 w8;obtain ⟨z1,z2,z3⟩:=hz hd;have hgW:W2.grownBy W1 none:=⟨hlo.os,hlo.tape,hlo.output,hlo.size,fun x h1 _=>hlo.block x h1⟩;have hrow:W1.ownsRow B 71 1 (slOf S m k) (ps k).length ((ps k).map plV):=by
    unfold slOf;by_cases hS:k∈S
    {rw[if_pos hS]; exact (HG2.out.row k hS).kept hgW (by cases (m k).ownBlock <;> simp)}
    {rw[if_neg hS,HG2.out.no k hS]; exact World.ownsRow_nil _ _ _ _}
   have hlen:=HG2.out.len k;have hB1:B<=W1.heap.size:=Nat.le_trans HG2.out.Bw hlo.size;have hold: ∀x,(slOf S m k).ownBlock=some x->x < W.heap.size:=fun x hx=>by
    unfold slOf at hx;by_cases hS:k∈S
    {rw[if_pos hS] at hx; exact ((HG0.out.row k hS).lt x hx).2}
    {rw[if_neg hS] at hx; cases hx}
   refine step_append_lies W1 rfl _ _ 90 rfl B 71 i0 (.pointer none) 1 8 Tryd.underlying90 hif hz0 hz1 hz2 rfl (by decide) (slOf S m k) (ps k).length ((ps k).map plV) (by show u 6=_; exact d6) hrow ⟨z,0,none⟩ 1 1 [plV p] (by show u 8=_; exact u8) (by simp) (by
    intro j v hv;rcases j with _ | j
    {have ha: (⟨z,0,none⟩:Addr).add 0=⟨z,0,none⟩:=by unfold Addr.add; split <;> simp_all
     rw[ha,z3]; simpa using hv}
    · simp at hv) (ZbS p) (by decide) (by unfold maxLen; omega) (by omega) hB1 _ rfl ?_
   intro g cp W' hown hg hat hlt;refine hK.out _ _ ?_;have hzz:W.heap.size+2<=W1.heap.size:=by have:=hlo.size; have:=HZ2.out; omega
   have far: ∀(x o:Nat),x < W1.heap.size->W.heap.size<=x->W'.cell? ⟨x,o,none⟩=W1.cell? ⟨x,o,none⟩:=fun x o h1 h2=>hg.cell_far ⟨x,o,none⟩ h1 (fun e=>by have:=hold x e.symm; omega);refine ⟨hI.vals' (by intro v' h; cases h),(far _ _ (by omega) (by omega)).trans hI.c0,(far _ _ (by omega) (by omega)).trans hI.c1,(far _ _ (by omega) (by omega)).trans hI.c2, ?_, ?_, ?_, ?_, ?_, ?_⟩
   {exact fun _=>⟨Z27 9 w6,Z27 9 w8⟩}
   {rw[ne11 d (by decide),n10]; nofun}
   {rw[Z6o]; nofun}
   {exact fun _=>⟨z,by rw[Z01 u _ (by decide)]; exact u8,by rw[Z6o]; nofun⟩}
   {refine fun _ _=>⟨g,cp,Z06 _ _ _,hown, ?_, ?_⟩
    {exact World.grownBy.trans ⟨hlo.os,hlo.tape,hlo.output,hlo.size,fun x h1 _=>hlo.block x h1⟩ hg}
    {rcases hat with h | h
     {exact Or.inl h}
     {exact Or.inr (by rw[h]; exact hlo.size)}}}
   {rw[ne11 d (by decide),n10]; nofun}}
  refine StepsInv.cons _ rfl (fun d u W1 K' hI hd hw hK=> ?_) StepsInv.nil
  {have d1:u 1= .map (some b):=hI.vals 1 (hw 1 (by kernel_rfl)) _ rfl;have d2:u 2=keyV k:=hI.vals 2 (hw 2 (by kernel_rfl)) _ rfl;obtain ⟨g,cp,u9,hown,hg,hat⟩:=hI.a9 (hw 9 (by kernel_rfl)) hd;have hsl: ∀x,(slOf S m k).ownBlock=some x->k∈S/\(m k).ownBlock=some x:=fun x hx=>by
    unfold slOf at hx;by_cases hS:k∈S
    {rw[if_pos hS] at hx; exact ⟨hS,hx⟩}
    {rw[if_neg hS] at hx; cases hx}
   have hbB:=HbB.out;have hrowB: ∀x,(slOf S m k).ownBlock=some x->B<=x/\x < W2.heap.size:=fun x hx=>(HG2.out.row k (hsl x hx).1).lt x (hsl x hx).2;have hB2:=HG2.out.Bw;have hMp:=HG2.out.mp.same (hg.block b (by omega) (fun e=>by have:=(hrowB b e.symm).1; omega));obtain ⟨W',hr,hMp',hturn⟩:=hMp.put hk (by unfold maxLen; omega) (v:= .slice (some ⟨g,0,none⟩) ((ps k).length+1) cp) (z:=_) rfl;refine Z1I (W':=W') rfl ?_ (hK.out undef _ ?_)
   {refine Z7u (t:=67) (m:= .tmp 7) (k:= .tmp 8) (x:= .tmp 15) rfl ?_;change (Instr.mapUpdate _ (u 1) (u 2) (u 9)).run _ W1=_;rw[d1,d2,u9];exact hr}
   {have hgt:=hturn.grown;have hgB:B<=g/\g < W1.heap.size:=hown.lt g rfl;have hzz:W.heap.size+2<=W1.heap.size:=by have:=hg.size; have:=HZ2.out; omega
    have hBW:=HBw.out;have far: ∀(x o:Nat),x < W1.heap.size->W.heap.size<=x->W'.cell? ⟨x,o,none⟩=W1.cell? ⟨x,o,none⟩:=fun x o h1 h2=>hgt.cell_far ⟨x,o,none⟩ h1 (fun e=>by have e2:x=b:=Option.some.inj e; omega);refine ⟨hI.vals' (by intro v' h; cases h),(far _ _ (by omega) (by omega)).trans hI.c0,(far _ _ (by omega) (by omega)).trans hI.c1,(far _ _ (by omega) (by omega)).trans hI.c2, ?_, ?_, ?_, ?_, ?_, ?_⟩
    {exact fun _=>⟨Z27 10 (hw 6 (by kernel_rfl)),Z27 10 (hw 8 (by kernel_rfl))⟩}
    {intro _ j hj;refine Z27 10 (hw j ?_);rcases j with _ | _ | _ | _ | _ | _ | _ | _ | _ | _ | j
     {kernel_rfl}
     {kernel_rfl}
     {kernel_rfl}
     {kernel_rfl}
     {kernel_rfl}
     {kernel_rfl}
     {kernel_rfl}
     {kernel_rfl}
     {kernel_rfl}
     {kernel_rfl}
     {omega}}
    {rw[ne11 d (by decide),hw 9 (by kernel_rfl)]; nofun}
    {intro _;obtain ⟨z,u8,_⟩:=hI.a8 (hw 8 (by kernel_rfl));exact ⟨z,by rw[Z01 u _ (by decide)]; exact u8,by rw[ne11 d (by decide),hw 9 (by kernel_rfl)]; nofun⟩}
    {rw[Z6o]; intro _ h; cases h}
    {intro _;have hmem: ∀x,x∈(if k∈S then S else k::S) ↔ x=k\/x∈S:=fun x=>by
      by_cases e:k∈S
      {rw[if_pos e]; exact ⟨Or.inr,fun h=>h.elim (fun h=>h▸e) id⟩}
      {rw[if_neg e]; exact List.mem_cons}
     refine ⟨_,_,⟨hMp', ?_, ?_, ?_, ?_, ?_,hbB, ?_⟩,hmem,⟨hgt.os.trans hg.os,hgt.tape.trans hg.tape,hgt.output.trans hg.output,Nat.le_trans hg.size hgt.size, ?_, ?_⟩⟩
     {intro x hx;by_cases e:x=k
      {subst e;simp only[if_true,List.length_append,List.map_append,List.length_singleton,List.map_cons,List.map_nil];exact hown.kept hgt (Or.inr (fun e=>by have e2:g=b:=Option.some.inj e; omega))}
      {simp only[if_neg e];have hxS:=((hmem x).1 hx).resolve_left e;have hrx:=HG2.out.row x hxS;have h1:=hrx.kept hg (by
        cases hm: (m x).ownBlock with
        | none=>exact Or.inl rfl
        | some y=>
         refine Or.inr (fun e2=> ?_);obtain ⟨h3,h4⟩:=hsl y e2.symm;exact HG2.out.far x hxS k h3 e (by rw[hm,h4]))
       exact h1.kept hgt (by
        cases hm: (m x).ownBlock with
        | none=>exact Or.inl rfl
        | some y=>
         refine Or.inr (fun e2=> ?_);have:=(hrx.lt y hm).1;have:=Option.some.inj e2;omega)}}
     {intro x hx;by_cases e:x=k
      {simp only[if_pos e]; simp}
      {simp only[if_neg e]; exact HG2.out.ne x (((hmem x).1 hx).resolve_left e)}}
     {intro x hx;have e:x≠k:=fun e=>hx ((hmem x).2 (Or.inl e));simp only[if_neg e];exact HG2.out.no x (fun h=>hx ((hmem x).2 (Or.inr h)))}
     {have key: ∀x,x∈S->x≠k->(m x).ownBlock≠some g:=fun x hxS e h=>by
       rcases hat with h2 | h2
       {obtain ⟨h3,h4⟩:=hsl g h2;exact HG2.out.far x hxS k h3 e (by rw[h,h4])}
       {have:=((HG2.out.row x hxS).lt g h).2; omega}
      intro x hx y hy hxy;by_cases e:x=k
      {by_cases e2:y=k
       {exact absurd (e.trans e2.symm) hxy}
       {simp only[if_pos e,if_neg e2];exact fun h=>key y (((hmem y).1 hy).resolve_left e2) e2 h.symm}}
      {by_cases e2:y=k
       {simp only[if_neg e,if_pos e2];exact key x (((hmem x).1 hx).resolve_left e) e}
       {simp only[if_neg e,if_neg e2];exact HG2.out.far x (((hmem x).1 hx).resolve_left e) y (((hmem y).1 hy).resolve_left e2) hxy}}}
     {intro x;have:=HG2.out.len x;by_cases e:x=k
      {simp only[if_pos e,List.length_append,List.length_singleton]; omega}
      {simp only[if_neg e]; omega}}
     {exact Nat.le_trans hB2 (Nat.le_trans hg.size hgt.size)}
     {intro x h1 h2 h3;refine (hgt.block x (Nat.lt_of_lt_of_le h1 hg.size) (fun e=>h2 (Option.some.inj e))).trans (hg.block x h1 (fun e=> ?_));obtain ⟨h4,h5⟩:=hsl x e.symm;exact h3 k h4 h5}
     {intro y hy x hx;by_cases e:y=k
      {simp only[if_pos e] at hx;have e2:g=x:=Option.some.inj hx;subst e2;rcases hat with h2 | h2
       {exact Or.inl ⟨k,hsl g h2⟩}
       {exact Or.inr h2}}
      {simp only[if_neg e] at hx;exact Or.inl ⟨y,((hmem y).1 hy).resolve_left e,hx⟩}}}}}}
 {intro d u W1 hI hd;have hf:=hI.fin (hd 10 (by show 10 < 11; omega));go_wp2;refine bodyPost_end (v:= .tuple #[]) (by simp[results,Tryd.results50,go_sem]) rfl ?_;obtain ⟨S',m',h1,h2,h3⟩:=hf;exact ⟨rfl,S',m',h1,h2,(Z2w S m HB2.out).trans h3⟩}
end
section
open Go.RowKit Shp
open Expd (keys)
abbrev Plc:=Ky×Nat×Nat
inductive Pls (W:World) (B0:Nat):Nat->Nat->Sh->List Plc->Prop
 | name (g i:Nat) (t:Sh) (q:Ptr) (hk:t.kind=9) (hp:t.parts.length=0) (hg:g < B0) (hs:Sh5 W g (i * 5) t q) (hsm:Small t q) (hn:t.names.length=0):Pls W B0 g i t [((t.of_,t.name),g,i)]
 | node (g i:Nat) (t:Sh) (q:Ptr) (b:Nat) (pls:Nat->List Plc) (hk: ¬t.kind=9) (hg:g < B0) (hs:Sh5 W g (i * 5) t q) (hsm:Small t q) (hn:t.names.length=0\/ ∃bn,q.A=some ⟨bn,0,none⟩/\bn < B0/\ ∀j (h:j < t.names.length),W.cell? ⟨bn,j,none⟩=some (.string ⟨(t.names[j]'h).toArray⟩)) (hp:t.parts.length=0\/q.P=some ⟨b,0,none⟩/\b < B0)
  (hr: ∀j (h:j < t.parts.length),Pls W B0 b j (t.parts[j]'h) (pls j)):Pls W B0 g i t ((List.range t.parts.length).flatMap pls)
theorem Pls.of {W W':World} {B0 B1 g i:Nat} {t:Sh} {pl:List Plc} (h:Pls W B0 g i t pl) (hB:B0<=B1) (hc: ∀g k,g < B0->W'.cell? ⟨g,k,none⟩=W.cell? ⟨g,k,none⟩):Pls W' B1 g i t pl:=by
 induction h with
 | name g i t q hk hp hg hs hsm hn=>exact .name g i t q hk hp (by omega) (hs.of (fun k=>hc g k hg)) hsm hn
 | node g i t q b pls hk hg hs hsm hn hp hr ih=>
  refine .node g i t q b pls hk (by omega) (hs.of (fun k=>hc g k hg)) hsm ?_ (hp.imp id (fun h=>⟨h.1,by omega⟩)) ih;rcases hn with h | ⟨bn,h1,h2,h3⟩
  {exact Or.inl h}
  {exact Or.inr ⟨bn,h1,by omega,fun j hj=>(hc bn j h2).trans (h3 j hj)⟩}
theorem Pls.keys {W:World} {B0 g i:Nat} {t:Sh} {pl:List Plc} (h:Pls W B0 g i t pl):pl.map Prod.fst=Expd.keys t:=by
 induction h with
 | name g i t q hk hp hg hs hsm hn=>rw[Expd.keys_name hk]; rfl
 | node g i t q b pls hk hg hs hsm hn hp hr ih=>
  rw[Expd.keys_node hk,List.map_flatMap];have:t.parts.flatMap Expd.keys=(List.range t.parts.length).flatMap fun j=>(pls j).map Prod.fst:=by
   conv=>lhs; rw[show t.parts=(List.range t.parts.length).attach.map (fun j=>t.parts[j.1]'(List.mem_range.1 j.2)) from by
    refine List.ext_getElem (by simp) (fun n h1 h2=>by simp)]
   rw[List.flatMap_map]
   conv=>rhs; rw[<-List.attach_map_subtype_val (List.range t.parts.length),List.flatMap_map]
   congr 1;funext j;exact (ih j.1 (List.mem_range.1 j.2)).symm
  rw[this]
def more (ps:Ky->List (Nat×Nat)) (pl:List Plc):Ky->List (Nat×Nat):=fun k=>ps k++(pl.filter (fun e=>e.1=k)).map Prod.snd
section
variable (ps : Ky -> List (Nat × Nat))
include ps
theorem Zb2:more ps []=ps:=by funext k; simp[more]
theorem Z7v (l m:List Plc):more ps (l++m)=more (more ps l) m:=by
 funext k; simp[more,List.append_assoc]
theorem Zb3 (k:Ky) (p:Nat×Nat):more ps [(k,p)]=fun x=>if x=k then ps x++ [p] else ps x:=by
 funext x;unfold more;by_cases e:x=k
 {subst e; simp}
 {rw[if_neg e,List.filter_cons_of_neg (by simpa using fun h=>e h.symm)]; simp}
end
def NmFin (W0:World) (b N B:Nat) (S:List Ky) (m:Ky->Value) (ps:Ky->List (Nat×Nat)) (pl:List Plc) (W:World):Prop:=
 ∃S' m',Grp W B b (N+pl.length) S' m' (more ps pl)/\(∀x,x∈S' ↔ x∈S\/x∈pl.map Prod.fst)/\UpM b S m W0 S' m' W
theorem Z8I (W1:World) (B0:Nat) (g i:Nat) (t:Sh) (pl:List Plc) (h:Pls W1 B0 g i t pl): ∀(W:World) (B b N:Nat) (S:List Ky) (m:Ky->Value) (ps:Ky->List (Nat×Nat)),(∀g k,g < B0->W.cell? ⟨g,k,none⟩=W1.cell? ⟨g,k,none⟩)->B0<=b->Grp W B b N S m ps->N+pl.length<=1000->
 Calls Tryd.prog 31 #[.agg #[.map (some b)],plV (g,i)] W fun e W'=>e= .returned (.tuple #[])/\NmFin W b N B S m ps pl W':=by
 induction h with
 | name g i t q hk hp hg hs hsm hn=>
  intro W B b N S m ps hc hb hG hN;have hf:Fine (t.of_,t.name):=⟨hsm.o,hsm.n⟩;clear hsm hn;obtain ⟨s0,s1,s2,s3,s4⟩:=hs.of (fun k=>hc g k hg);have hb1:=Z00 W (.cells #[.map (some b)] 69);have hgW:g < W.heap.size:=by have:=hG.bB; have:=hG.Bw; omega
  have c0: (W.alloc (.cells #[.map (some b)] 69)).cell? ⟨W.heap.size,0,none⟩=some (.map (some b)):=by simp[go_sem]
  have hO:=Za6 (W.alloc (.cells #[.map (some b)] 69)).drew B b N S m ps (t.of_,t.name) (g,i) hf (hG.keep hb1.drew) (by simp at hN; omega);have HO:=Y1 hO;have HB1:=Y1 hb1;have HBw:=Y1 hG.Bw;have HGR:Hid (∀x,x < B-> ∀k∈S,(m k).ownBlock≠some x):=Y1 (fun x hx=>hG.notRow (Or.inl hx));have hbB:=hG.bB;have hk9:=Y4 9 hk rfl;rw[<-hb1.cell (p:=⟨g,i * 5,none⟩) hgW] at s0;rw[<-hb1.cell (p:=⟨g,i * 5+1,none⟩) hgW] at s1;rw[<-hb1.cell (p:=⟨g,i * 5+2,none⟩) hgW] at s2;rw[<-hb1.cell (p:=⟨g,i * 5+4,none⟩) hgW] at s4;clear hO hb1 hG hk hc hs s3;unfold plV;simp only;go_enter Tryd.func31,Tryd.ntmps31
  go_wp2_with fail
  generalize W.alloc (.cells #[.map (some b)] 69)=Wa at HO HB1 c0 s0 s1 s2 s4 ⊢
  go_still_tail 11,(by kernel_rfl)
  change wpList _ _ _ _ _ Wa.drew
  go_wp2_with fail
  refine HO.out.mono ?_;rintro e W2 ⟨rfl,hF⟩;obtain ⟨S',m',hG',hS',hU'⟩:=hF;have s4:=(hU'.cell (g:=g) (k:=i * 5+4) (by have h1:=HB1.out.size; show g < Wa.heap.size; omega) (by omega) (HGR.out g (by omega))).trans s4;have HG':=Y1 hG';have HS':=Y1 hS';have HU':=Y1 hU';have hp0: ¬(0:Int) < (t.parts.length:Int):=by omega
  clear hG' hS' hU' s0 s1 s2 hp
  go_wp2_with fail
  go_loopw [27] (fun c wr=>c= .int .i64 0/\wr=W2) (fun _ _=>0)
  case atStart=>exact ⟨rfl,rfl⟩
  case round=>
   obtain ⟨rfl,rfl⟩:=hrel;go_wp2;refine bodyPost_end (v:= .tuple #[]) (by simp[results,Tryd.results31,go_sem]) rfl ?_;refine ⟨rfl,S',m', ?_, ?_,(Z2w S m HB1.out.drew).trans HU'.out⟩
   {rw[Zb3]; exact HG'.out}
   {intro x; rw[HS'.out]; simp[or_comm]}
 | node g i t q b0 pls hk hg hs hsm hn hp hr ih=>
  intro W B b N S m ps hc hb hG hN;have hl:=hsm.m
  replace hp:=hp.imp id And.left
  clear hsm hn;obtain ⟨s0,s1,s2,s3,s4⟩:=hs.of (fun k=>hc g k hg);have hb1:=Z00 W (.cells #[.map (some b)] 69);have hbB:=hG.bB;have hBW:=hG.Bw;have hgW:g < W.heap.size:=by omega
  have c0: (W.alloc (.cells #[.map (some b)] 69)).cell? ⟨W.heap.size,0,none⟩=some (.map (some b)):=by simp[go_sem]
  have HB1:=Y1 hb1;have HG:=Y1 (hG.keep hb1);have hk9: (t.kind==9)=false:=by rw[beq_eq_false_iff_ne]; exact hk
  have hz1:W.heap.size+1=(W.alloc (.cells #[.map (some b)] 69)).heap.size:=by simp
  have HZ1:=Y1 hz1;rw[<-hb1.cell (p:=⟨g,i * 5,none⟩) hgW] at s0;rw[<-hb1.cell (p:=⟨g,i * 5+4,none⟩) hgW] at s4;have HS4:=Y1 s4;have HC0:=Y1 c0;have HP:=Y1 hp;have HIH:=Y1 ih;have HR:=Y1 hr;have HC:Hid (∀g k,g < B0->(W.alloc (.cells #[.map (some b)] 69)).cell? ⟨g,k,none⟩=W1.cell? ⟨g,k,none⟩):=Y1 (fun g k hgk=>(hb1.cell (p:=⟨g,k,none⟩) (by show g < _; omega)).trans (hc g k hgk));have HN:=Y1 hN;have HGR:Hid (∀x,x < B\/W.heap.size<=x-> ∀k∈S,(m k).ownBlock≠some x):=Y1 (fun x hx=>hG.notRow hx);clear hb1 hG hk hc hs s1 s2 s3 hp ih hr hz1 hN;unfold plV;simp only;go_enter Tryd.func31,Tryd.ntmps31
  go_wp2_with fail
  generalize W.alloc (.cells #[.map (some b)] 69)=Wa at HG HB1 HZ1 HC HS4 HC0 c0 s0 s4 ⊢
  go_loopw [27] (fun c wr=> ∃j:Nat,c= .int .i64 (j:Int)/\j<=t.parts.length/\Hid (∃S' m',Grp wr B b (N+((List.range j).flatMap pls).length) S' m' (more ps ((List.range j).flatMap pls))/\(∀x,x∈S' ↔ x∈S\/x∈((List.range j).flatMap pls).map Prod.fst)/\UpM b S m Wa S' m' wr)) (fun c _=>t.parts.length - (intOf c).toNat)
  case atStart=>
   refine ⟨0,rfl,Nat.zero_le _,Y1 ⟨S,m, ?_, ?_,UpM.refl _ _ _ _⟩⟩
   {simp only[List.range_zero,List.flatMap_nil,List.length_nil,Nat.add_zero,Zb2]; exact HG.out}
   {intro x; simp}
  case round=>
   obtain ⟨j,rfl,hj,HI⟩:=hrel;clear s0 s4 c0;obtain ⟨S',m',hG',hS',hU'⟩:=HI.out;have hzz:=HZ1.out;have c0:=(hU'.cell (g:=W.heap.size) (k:=0) (by omega) (by omega) (HGR.out W.heap.size (by omega))).trans HC0.out;have s4:=(hU'.cell (g:=g) (k:=i * 5+4) (by omega) (by omega) (HGR.out g (by omega))).trans HS4.out;have hsucc: ∀n,(List.range (n+1)).flatMap pls=(List.range n).flatMap pls++pls n:=fun n=>by rw[List.range_succ,List.flatMap_append]; simp
   by_cases hjn:j < t.parts.length
   {have hjn': (j:Int) < (t.parts.length:Int):=by omega
    have hq:q.P=some ⟨b0,0,none⟩:=HP.out.resolve_left (by omega);rw[hq] at s4;have hlen: ((List.range j).flatMap pls).length+(pls j).length<=((List.range t.parts.length).flatMap pls).length:=by
     have h1: ∀d,((List.range (j+1)).flatMap pls).length<=((List.range (j+1+d)).flatMap pls).length:=fun d=>by
      induction d with
      | zero=>exact Nat.le_refl _
      | succ d ihd=>rw[show j+1+(d+1)=(j+1+d)+1 from rfl,hsucc (j+1+d),List.length_append]; omega
     have h2:=h1 (t.parts.length - (j+1));rw[show j+1+(t.parts.length - (j+1))=t.parts.length by omega,hsucc j,List.length_append] at h2;exact h2
    have hdr:Below wr.heap.size wr wr.drew:=Y2.drew;have hIH:=HIH.out j hjn wr.drew B b (N+((List.range j).flatMap pls).length) S' m' (more ps ((List.range j).flatMap pls)) (fun g k hgk=>(hU'.cell (g:=g) (k:=k) (by omega) (by omega) (HGR.out g (by omega))).trans (HC.out g k hgk)) hb (hG'.keep hdr) (by have:=HN.out; omega);have IH:=Y1 hIH;have HU':=Y1 hU';have HS':=Y1 hS';have HDR:=Y1 hdr;have HSU:=Y1 hsucc;clear hIH hU' hS' hG' hdr hlen hsucc hq HI;unfold plV at IH;simp only at IH
    go_wp2_with fail
    go_still_tail 7,(by kernel_rfl)
    change wpList _ _ _ _ _ wr.drew
    go_wp2_with fail
    refine IH.out.mono ?_;rintro e w2 ⟨rfl,S2,m2,hG2,hS2,hU2⟩;have HG2:=Y1 hG2;have HS2:=Y1 hS2;have HU2:=Y1 hU2;clear hG2 hS2 hU2 IH;go_wp2
    go_roundw
    case rel=>
     refine ⟨j+1,by go_num,by omega,Y1 ⟨S2,m2, ?_, ?_,(HU'.out.trans (Z2w S' m' HDR.out)).trans HU2.out⟩⟩
     {rw[HSU.out,Z7v,List.length_append, <-Nat.add_assoc]; exact HG2.out}
     {intro x;rw[HS2.out,HS'.out,HSU.out,List.map_append,List.mem_append,or_assoc]}
    case measure=>simp[intOf]; omega}
   {obtain rfl:j=t.parts.length:=by omega
    have HG':=Y1 hG';have HU':=Y1 hU';have HS':=Y1 hS';clear hG' hU' hS' hsucc HI;go_wp2;refine bodyPost_end (v:= .tuple #[]) (by simp[results,Tryd.results31,go_sem]) rfl ?_;exact ⟨rfl,S',m',HG'.out,HS'.out,(Z2w S m HB1.out).trans HU'.out⟩}
end
section
open Go.RowKit Shp
theorem Z4i (W:World) (b N:Nat) (S:List Ky) (m:Ky->Value) (h:Mp W b N S m):
 Calls Tryd.prog 33 #[.agg #[.map (some b)]] W fun e W'=>e= .returned (.bool (decide (S= [])))/\Below W.heap.size W W':=by
 have hb1:=Z00 W (.cells #[.map (some b)] 69);have HB1:=Y1 hb1;have hM:Mp (W.alloc (.cells #[.map (some b)] 69)) b N S m:=h.same (hb1.block b h.lt);have c0: (W.alloc (.cells #[.map (some b)] 69)).cell? ⟨W.heap.size,0,none⟩=some (.map (some b)):=by simp[go_sem]
 have HM:=Y1 hM;clear hb1 hM h;go_enter Tryd.func33,Tryd.ntmps33;go_wp2;rw[HM.out.len];go_wp2;go_ret;refine ⟨Z0o ?_,HB1.out⟩;rw[Bool.eq_iff_iff,beq_iff_eq,decide_eq_true_eq];cases S with
 | nil=>simp
 | cons a l=>simp; omega
structure FR (W wr:World) (L:List (Nat×Nat)) (s:Sh) (q:Ptr):Prop where
 os:wr.os=W.os
 tape:wr.tape=W.tape
 output:wr.output=W.output
 size:wr.heap.size=W.heap.size
 block: ∀x,(∀p∈L,p.1≠x)->wr.heap[x]? =W.heap[x]?
 cell: ∀g c,(∀p∈L,¬(p.1=g/\p.2 * 5<=c/\c < p.2 * 5+5))->wr.cell? ⟨g,c,none⟩=W.cell? ⟨g,c,none⟩
 fz: ∀g c,wr.frozen? ⟨g,c,none⟩=W.frozen? ⟨g,c,none⟩
 ex: ∀g c,(∃v,W.cell? ⟨g,c,none⟩=some v)-> ∃v,wr.cell? ⟨g,c,none⟩=some v
 put: ∀p∈L,Sh5 wr p.1 (p.2 * 5) s q
theorem FR.refl (W:World) (s:Sh) (q:Ptr):FR W W [] s q:=⟨rfl,rfl,rfl,rfl,fun _ _=>rfl,fun _ _ _=>rfl,fun _ _=>rfl,fun _ _ h=>h,nofun⟩
def putAt (W:World) (g o:Nat) (s:Sh) (q:Ptr):World:=
 ((((W.setCell ⟨g,o,none⟩ (.int .i64 s.kind)).setCell ⟨g,o+1,none⟩ (.string ⟨s.of_.toArray⟩)).setCell ⟨g,o+2,none⟩ (.string ⟨s.name.toArray⟩)).setCell ⟨g,o+3,none⟩ (.slice q.A s.names.length q.c)).setCell ⟨g,o+4,none⟩ (.slice q.P s.parts.length q.d)
theorem Z0S (W:World) (g o:Nat) (s:Sh) (q:Ptr) {g' c:Nat} (h: ¬(g=g'/\o<=c/\c < o+5)): (putAt W g o s q).cell? ⟨g',c,none⟩=W.cell? ⟨g',c,none⟩:=by
 have ne: ∀k,k < 5->(⟨g,o+k,none⟩:Addr)≠⟨g',c,none⟩:=fun k hk e=>by
  simp only[Addr.mk.injEq,and_true] at e;exact h ⟨e.1,by omega,by omega⟩
 unfold putAt;exact (World.cell?_setCell_other _ _ _ _ (ne 4 (by omega))).trans ((World.cell?_setCell_other _ _ _ _ (ne 3 (by omega))).trans ((World.cell?_setCell_other _ _ _ _ (ne 2 (by omega))).trans ((World.cell?_setCell_other _ _ _ _ (ne 1 (by omega))).trans (World.cell?_setCell_other _ _ _ _ (ne 0 (by omega))))))
theorem Z2c {W:World} {g o:Nat} {s:Sh} {q:Ptr} (h: ∀k,k < 5-> ∃v,W.cell? ⟨g,o+k,none⟩=some v):Sh5 (putAt W g o s q) g o s q:=by
 obtain ⟨v0,h0⟩:=h 0 (by omega);obtain ⟨v1,h1⟩:=h 1 (by omega);obtain ⟨v2,h2⟩:=h 2 (by omega);obtain ⟨v3,h3⟩:=h 3 (by omega);obtain ⟨v4,h4⟩:=h 4 (by omega);have so: ∀(w:World) (j k:Nat) (v:Value),j≠k->(w.setCell ⟨g,o+j,none⟩ v).cell? ⟨g,o+k,none⟩=w.cell? ⟨g,o+k,none⟩:=fun w j k v hjk=>World.cell?_setCell_other _ _ _ _ (fun e=>by simp only[Addr.mk.injEq,true_and,and_true] at e; omega);have ss: ∀(w:World) (k:Nat) (v:Value) {u:Value},w.cell? ⟨g,o+k,none⟩=some u->(w.setCell ⟨g,o+k,none⟩ v).cell? ⟨g,o+k,none⟩=some v:=fun w k v u hu=>World.cell?_setCell_same _ _ _ hu;unfold putAt;refine ⟨?_, ?_, ?_, ?_, ?_⟩
 {exact (so _ 4 0 _ (by decide)).trans ((so _ 3 0 _ (by decide)).trans ((so _ 2 0 _ (by decide)).trans ((so _ 1 0 _ (by decide)).trans (ss _ 0 _ h0))))}
 {exact (so _ 4 1 _ (by decide)).trans ((so _ 3 1 _ (by decide)).trans ((so _ 2 1 _ (by decide)).trans (ss _ 1 _ ((so _ 0 1 _ (by decide)).trans h1))))}
 {exact (so _ 4 2 _ (by decide)).trans ((so _ 3 2 _ (by decide)).trans (ss _ 2 _ ((so _ 1 2 _ (by decide)).trans ((so _ 0 2 _ (by decide)).trans h2))))}
 {exact (so _ 4 3 _ (by decide)).trans (ss _ 3 _ ((so _ 2 3 _ (by decide)).trans ((so _ 1 3 _ (by decide)).trans ((so _ 0 3 _ (by decide)).trans h3))))}
 {exact ss _ 4 _ ((so _ 3 4 _ (by decide)).trans ((so _ 2 4 _ (by decide)).trans ((so _ 1 4 _ (by decide)).trans ((so _ 0 4 _ (by decide)).trans h4))))}
section
variable (W : World) (g o : Nat) (s : Sh) (q : Ptr)
include W g o s q
theorem Za7:Below 0 W (putAt W g o s q):=
 ((((((Below.refl 0 W).setCell (p:=⟨g,o,none⟩) (Nat.zero_le _) _).setCell (p:=⟨g,o+1,none⟩) (Nat.zero_le _) _).setCell (p:=⟨g,o+2,none⟩) (Nat.zero_le _) _).setCell (p:=⟨g,o+3,none⟩) (Nat.zero_le _) _).setCell (p:=⟨g,o+4,none⟩) (Nat.zero_le _) _)
theorem Z4U: (putAt W g o s q).heap.size=W.heap.size:=by unfold putAt; simp only[World.size_setCell]
theorem Zb4 (a:Addr): (putAt W g o s q).frozen? a=W.frozen? a:=by unfold putAt; simp only[World.frozen?_setCell]
theorem Z4V {x:Nat} (h:g≠x): (putAt W g o s q).heap[x]? =W.heap[x]? :=by
 unfold putAt;have hs: ∀(w:World) (k:Nat) (v:Value),(w.setCell ⟨g,k,none⟩ v).heap[x]? =w.heap[x]? :=fun w k v=>Below.heap_setCell w ⟨g,k,none⟩ v x (Ne.symm h);rw[hs,hs,hs,hs,hs]
end
theorem FR.snoc {W wr:World} {L:List (Nat×Nat)} {s:Sh} {q:Ptr} (h:FR W wr L s q) (p:Nat×Nat) (he: ∀k,k < 5-> ∃v,W.cell? ⟨p.1,p.2 * 5+k,none⟩=some v):FR W (putAt wr p.1 (p.2 * 5) s q) (L++ [p]) s q:=by
 have he': ∀k,k < 5-> ∃v,wr.cell? ⟨p.1,p.2 * 5+k,none⟩=some v:=fun k hk=>h.ex _ _ (he k hk);have hl:=Za7 wr p.1 (p.2 * 5) s q;refine ⟨hl.os.trans h.os,hl.tape.trans h.tape,hl.output.trans h.output,(Z4U _ _ _ _ _).trans h.size,fun x hx=> ?_,fun g c hc=> ?_,fun g c=> ?_,fun g c hv=> ?_,fun p' hp'=> ?_⟩
 {rw[Z4V _ _ _ _ _ (hx p (by simp))]; exact h.block x (fun p' hp'=>hx p' (by simp[hp']))}
 {rw[Z0S _ _ _ _ _ (hc p (by simp))]; exact h.cell g c (fun p' hp'=>hc p' (by simp[hp']))}
 {exact (Zb4 _ _ _ _ _ _).trans (h.fz g c)}
 {by_cases e:p.1=g/\p.2 * 5<=c/\c < p.2 * 5+5
  {obtain ⟨rfl,h1,h2⟩:=e;have hp:=Z2c (s:=s) (q:=q) he';obtain ⟨s0,s1,s2,s3,s4⟩:=hp;have:c=p.2 * 5\/c=p.2 * 5+1\/c=p.2 * 5+2\/c=p.2 * 5+3\/c=p.2 * 5+4:=by omega
   rcases this with rfl | rfl | rfl | rfl | rfl
   {exact ⟨_,s0⟩}
   {exact ⟨_,s1⟩}
   {exact ⟨_,s2⟩}
   {exact ⟨_,s3⟩}
   {exact ⟨_,s4⟩}}
  {rw[Z0S _ _ _ _ _ e]; exact h.ex g c hv}}
 {by_cases e:p'=p
  {subst e; exact Z2c he'}
  {have hp2:p'∈L:=by simpa[e] using hp'
   obtain ⟨s0,s1,s2,s3,s4⟩:=h.put p' hp2;have ne: ∀c,p'.2 * 5<=c->c < p'.2 * 5+5-> ¬(p.1=p'.1/\p.2 * 5<=c/\c < p.2 * 5+5):=fun c h1 h2 h3=>e (by
    obtain ⟨h4,h5,h6⟩:=h3;exact Prod.ext h4.symm (by omega))
   exact ⟨(Z0S _ _ _ _ _ (ne _ (by omega) (by omega))).trans s0,(Z0S _ _ _ _ _ (ne _ (by omega) (by omega))).trans s1,(Z0S _ _ _ _ _ (ne _ (by omega) (by omega))).trans s2,(Z0S _ _ _ _ _ (ne _ (by omega) (by omega))).trans s3,(Z0S _ _ _ _ _ (ne _ (by omega) (by omega))).trans s4⟩}}
structure FlOut (b:Nat) (W W':World) (L:List (Nat×Nat)) (s:Sh) (q:Ptr):Prop where
 os:W'.os=W.os
 tape:W'.tape=W.tape
 output:W'.output=W.output
 size:W.heap.size<=W'.heap.size
 block: ∀x,x < W.heap.size->x≠b->(∀p∈L,p.1≠x)->W'.heap[x]? =W.heap[x]?
 cell: ∀g c,g < W.heap.size->g≠b->(∀p∈L,¬(p.1=g/\p.2 * 5<=c/\c < p.2 * 5+5))->W'.cell? ⟨g,c,none⟩=W.cell? ⟨g,c,none⟩
 fz: ∀g c,g < W.heap.size->g≠b->W'.frozen? ⟨g,c,none⟩=W.frozen? ⟨g,c,none⟩
 ex: ∀g c,g < W.heap.size->g≠b->(∃v,W.cell? ⟨g,c,none⟩=some v)-> ∃v,W'.cell? ⟨g,c,none⟩=some v
 put: ∀p∈L,Sh5 W' p.1 (p.2 * 5) s q
theorem FlOut.pre {b:Nat} {W0 W W':World} {L:List (Nat×Nat)} {s:Sh} {q:Ptr} (hb:Below W0.heap.size W0 W) (h:FlOut b W W' L s q):FlOut b W0 W' L s q:=by
 have hz:=hb.size;refine ⟨h.os.trans hb.os,h.tape.trans hb.tape,h.output.trans hb.output,Nat.le_trans hz h.size,fun x h1 h2 h3=>(h.block x (by omega) h2 h3).trans (hb.block x h1),fun g c h1 h2 h3=>(h.cell g c (by omega) h2 h3).trans (hb.cell (p:=⟨g,c,none⟩) h1),
  fun g c h1 h2=>(h.fz g c (by omega) h2).trans (hb.frozen (p:=⟨g,c,none⟩) h1),fun g c h1 h2 h3=>h.ex g c (by omega) h2 ?_,h.put⟩
 obtain ⟨v,hv⟩:=h3;exact ⟨v,(hb.cell (p:=⟨g,c,none⟩) h1).trans hv⟩
theorem Z6p {b:Nat} {W W1 W':World} {L:List (Nat×Nat)} {s:Sh} {q:Ptr} (h:FR W W1 L s q) (ht:W1.mapTurned W' b) (hL: ∀p∈L,p.1≠b):FlOut b W W' L s q:=by
 have hg:=ht.grown;have hz: ∀x,x < W.heap.size->x < W1.heap.size:=fun x hx=>by rw[h.size]; exact hx
 have hc: ∀g c,g < W.heap.size->g≠b->W'.cell? ⟨g,c,none⟩=W1.cell? ⟨g,c,none⟩:=fun g c h1 h2=>hg.cell_far ⟨g,c,none⟩ (hz g h1) (fun e=>h2 (Option.some.inj e));refine ⟨hg.os.trans h.os,hg.tape.trans h.tape,hg.output.trans h.output,by have:=hg.size; rw[h.size] at this; exact this,fun x h1 h2 h3=>(hg.block x (hz x h1) (fun e=>h2 (Option.some.inj e))).trans (h.block x h3),fun g c h1 h2 h3=>(hc g c h1 h2).trans (h.cell g c h3),
  fun g c h1 h2=>(hg.frozen_far ⟨g,c,none⟩ (hz g h1) (fun e=>h2 (Option.some.inj e))).trans (h.fz g c),fun g c h1 h2 h3=> ?_,fun p hp=> ?_⟩
 {obtain ⟨v,hv⟩:=h.ex g c h3;exact ⟨v,(hc g c h1 h2).trans hv⟩}
 {have h5:=h.put p hp;have hlt:p.1 < W.heap.size:=by
   have:=h5.1;rcases Nat.lt_or_ge p.1 W1.heap.size with h' | h'
   {rw[h.size] at h'; exact h'}
   {simp[World.cell?,Array.getElem?_eq_none h'] at this}
  exact h5.of (fun c=>hc p.1 c hlt (hL p hp))}
abbrev shV (s:Sh) (q:Ptr):Value:= .agg (Y8 s q)
def flW (W:World) (b:Nat) (k:Ky) (s:Sh) (q:Ptr):World:=
 ((W.alloc (.cells #[.map (some b)] 69)).alloc (.cells #[.string ⟨k.1.toArray⟩,.string ⟨k.2.toArray⟩] 76)).alloc (.cells (Y8 s q) 25)
section
variable (W : World) (b : Nat) (k : Ky) (s : Sh) (q : Ptr)
include W b k s q
theorem Z7Z:Below W.heap.size W (flW W b k s q):=Z0i (Z0i (Z00 _ _) _) _
theorem Zb5: (flW W b k s q).heap.size=W.heap.size+3:=by simp[flW]
theorem Z5u: (flW W b k s q).cell? ⟨W.heap.size,0,none⟩=some (.map (some b))/\(flW W b k s q).cell? ⟨W.heap.size+1,0,none⟩=some (.string ⟨k.1.toArray⟩)/\(flW W b k s q).cell? ⟨W.heap.size+1,1,none⟩=some (.string ⟨k.2.toArray⟩)/\Sh5 (flW W b k s q) (W.heap.size+2) 0 s q:=by
 refine ⟨by simp[flW,go_sem],by simp[flW,go_sem],by simp[flW,go_sem],by simp[flW,go_sem],by simp[flW,go_sem],by simp[flW,go_sem],by simp[flW,go_sem],by simp[flW,go_sem]⟩
end
theorem Z4W {W W1 W':World} {B b N:Nat} {S:List Ky} {m:Ky->Value} {ps:Ky->List (Nat×Nat)} {k:Ky} {s:Sh} {q:Ptr} (hG:Grp W B b N S m ps) (h:FR W W1 (ps k) s q) (hL: ∀p∈ps k,p.1 < b) (hM:Mp W' b N (S.filter (· ≠k)) m) (ht:W1.mapTurned W' b):
 Grp W' B b N (S.filter (· ≠k)) m (fun x=>if x=k then [] else ps x):=by
 have hbB:=hG.bB;have hmem: ∀x,x∈S.filter (· ≠k) ↔ x∈S/\x≠k:=fun x=>by simp[List.mem_filter]
 have hg1: ∀v:Value,∀xs n,W.ownsRow B 71 1 v n xs->W'.ownsRow B 71 1 v n xs:=fun v xs n hr=>by
  obtain ⟨h1,h2⟩:=hr;refine ⟨h1, ?_⟩;rcases h2 with h2 | ⟨g,cap,cur,e1,e2,e3,e4⟩
  {exact Or.inl h2}
  {refine Or.inr ⟨g,cap,cur,e1,e2, ?_,e4⟩;have hlt:g < W.heap.size:=(Array.getElem?_eq_some_iff.1 e3).1;exact (ht.grown.block g (by rw[h.size]; exact hlt) (fun e=>by have e5:g=b:=Option.some.inj e; omega)).trans ((h.block g (fun p hp=>by have:=hL p hp; omega)).trans e3)}
 refine ⟨hM,fun x hx=> ?_,fun x hx=> ?_,fun x hx=> ?_,fun x hx y hy hxy=> ?_,fun x=> ?_,hbB, ?_⟩
 {simp only[if_neg ((hmem x).1 hx).2]; exact hg1 _ _ _ (hG.row x ((hmem x).1 hx).1)}
 {simp only[if_neg ((hmem x).1 hx).2]; exact hG.ne x ((hmem x).1 hx).1}
 {by_cases e:x=k
  {simp only[if_pos e]}
  {simp only[if_neg e]; exact hG.no x (fun hS=>hx ((hmem x).2 ⟨hS,e⟩))}}
 {exact hG.far x ((hmem x).1 hx).1 y ((hmem y).1 hy).1 hxy}
 {have:=hG.len x;by_cases e:x=k
  {simp only[if_pos e]; simp}
  {simp only[if_neg e]; exact this}}
 {have:=ht.grown.size; have:=h.size; have:=hG.Bw; omega}
section
variable (W : World) (B b N : Nat) (S : List Ky) (m : Ky -> Value) (ps : Ky -> List (Nat × Nat)) (k : Ky) (s : Sh) (q : Ptr) (hk : Fine k)
include W B b N S m ps k s q hk
theorem Za8 (hG:Grp W B b N S m ps) (hS:k∉S):
 Calls Tryd.prog 34 #[.agg #[.map (some b)],keyV k,shV s q] W fun e W'=>e= .returned (.tuple #[])/\Grp W' B b N (S.filter (· ≠k)) m (fun x=>if x=k then [] else ps x)/\FlOut b W W' (ps k) s q:=by
 obtain ⟨c0,c1,c2,c3,c4,c5,c6,c7⟩:=Z5u W b k s q;have hlow:=Z7Z W b k s q;have hG3:=hG.keep hlow;have HL:=Y1 hlow;have HG:=Y1 hG3;have hl:=hG3.mp.look hk;rw[if_neg hS] at hl;obtain ⟨W',hr,hM,ht⟩:=hG3.mp.del hk 0;have HF:Hid (Grp W' B b N (S.filter (· ≠k)) m (fun x=>if x=k then [] else ps x)/\FlOut b (flW W b k s q) W' (ps k) s q):=by
  have h0:=FR.refl (flW W b k s q) s q;rw[<-hG.no k hS] at h0;exact Y1 ⟨Z4W hG3 h0 (by rw[hG.no k hS]; nofun) hM ht,Z6p h0 ht (by rw[hG.no k hS]; nofun)⟩
 clear hlow hG3 hG hM ht hS;unfold keyV shV;unfold keyV at hl hr;go_enter Tryd.func34,Tryd.ntmps34
 go_wp2_with fail
 obtain ⟨W3,hW3⟩: ∃W3,flW W b k s q=W3:=⟨_,rfl⟩;rw[hW3] at hl hr c0 c1 c2 c3 c4 c5 c6 c7 HL HF;unfold flW at hW3;rw[hW3,hl];clear hW3
 go_wp2_with fail
 go_loopw [13] (fun c wr=>c= .int .i64 0/\wr=W3) (fun _ _=>0)
 case atStart=>exact ⟨rfl,rfl⟩
 case round=>
  obtain ⟨rfl,rfl⟩:=hrel;go_wp2;refine bodyPost_end (v:= .tuple #[]) (by simp[results,Tryd.results34,go_sem]) rfl ?_;exact ⟨rfl,HF.out.1,HF.out.2.pre HL.out⟩
theorem Za9 (hN:N<=1000) (hG:Grp W B b N S m ps) (hS:k∈S) (hL: ∀p∈ps k,p.1 < b/\(∀c,c < 5-> ∃v,W.cell? ⟨p.1,p.2 * 5+c,none⟩=some v)/\ ∀c,W.frozen? ⟨p.1,c,none⟩=false):
 Calls Tryd.prog 34 #[.agg #[.map (some b)],keyV k,shV s q] W fun e W'=>e= .returned (.tuple #[])/\Grp W' B b N (S.filter (· ≠k)) m (fun x=>if x=k then [] else ps x)/\FlOut b W W' (ps k) s q:=by
 obtain ⟨c0,c1,c2,c3,c4,c5,c6,c7⟩:=Z5u W b k s q;have hlow:=Z7Z W b k s q;have hsz:=Zb5 W b k s q;have hG3:=hG.keep hlow;have hbB:=hG.bB;have hBw:=hG.Bw;have hl:=hG3.mp.look hk;rw[if_pos hS] at hl;obtain ⟨gr,cr,hm,hgr1,hgr2,hcells⟩:=hG3.own hS;rw[hm] at hl;have hlen:=hG.len k;have hL3: ∀p∈ps k,p.1 < b/\(∀c,c < 5-> ∃v,(flW W b k s q).cell? ⟨p.1,p.2 * 5+c,none⟩=some v)/\ ∀c,(flW W b k s q).frozen? ⟨p.1,c,none⟩=false:=fun p hp=>by
  obtain ⟨h1,h2,h3⟩:=hL p hp;refine ⟨h1,fun c hc=> ?_,fun c=>(hlow.frozen (p:=⟨p.1,c,none⟩) (by show p.1 < _; omega)).trans (h3 c)⟩;obtain ⟨v,hv⟩:=h2 c hc;exact ⟨v,(hlow.cell (p:=⟨p.1,p.2 * 5+c,none⟩) (by show p.1 < _; omega)).trans hv⟩
 have HG:=Y1 hG3;have HL3:=Y1 hL3;have HLO:=Y1 hlow;have HCE:=Y1 hcells;have HS5:Hid (Sh5 (flW W b k s q) (W.heap.size+2) 0 s q):=Y1 ⟨c3,c4,c5,c6,c7⟩;have HC0:=Y1 c0;have HC12:=Y1 (And.intro c1 c2);have HZ:=Y1 hsz;have hgb:gr < W.heap.size:=by
  have:=(hG.row k hS).lt gr (by rw[hm]; rfl); exact this.2
 clear hlow hG3 hL3 hL hG hcells hm hsz;unfold keyV shV;unfold keyV at hl;go_enter Tryd.func34,Tryd.ntmps34
 go_wp2_with fail
 obtain ⟨W3,hW3⟩: ∃W3,flW W b k s q=W3:=⟨_,rfl⟩;rw[hW3] at hl c0 c1 c2 c3 c4 c5 c6 c7 HLO HG HL3 HCE HS5 HC0 HC12 HZ hgr2;unfold flW at hW3;rw[hW3,hl];clear hW3 hl c0 c1 c2 c3 c4 c5 c6 c7
 go_wp2_with fail
 go_loopw [13] (fun c wr=> ∃j:Nat,c= .int .i64 (j:Int)/\j<=(ps k).length/\Hid (FR W3 wr ((ps k).take j) s q)) (fun c _=>(ps k).length - (intOf c).toNat)
 case atStart=>exact ⟨0,rfl,Nat.zero_le _,Y1 (by rw[List.take_zero]; exact FR.refl _ _ _)⟩
 case round=>
  obtain ⟨j,rfl,hj,HI⟩:=hrel;have hz:=HZ.out;have far: ∀g c,b<=g->wr.cell? ⟨g,c,none⟩=W3.cell? ⟨g,c,none⟩:=fun g c hg=>HI.out.cell g c (fun p hp e=>by have:=(HL3.out p (List.mem_of_mem_take hp)).1; omega);by_cases hjn:j < (ps k).length
  {have hjn': (j:Int) < ((ps k).length:Int):=by omega
   obtain ⟨h1,h2,h3⟩:=HL3.out _ (List.getElem_mem hjn);have cr0:=(far gr j (by omega)).trans (HCE.out j hjn);obtain ⟨a0,a1,a2,a3,a4⟩:=HS5.out.of (w':=wr) (fun c=>far _ c (by omega));have hsn:=HI.out.snoc ((ps k)[j]'hjn) h2;rw[<-Z1m hjn] at hsn;have HSN:=Y1 hsn;obtain ⟨p,hp⟩: ∃p,p=(ps k)[j]'hjn:=⟨_,rfl⟩;rw[<-hp] at h1 h2 h3 cr0 HSN;unfold plV at cr0;obtain ⟨v0,x0⟩:=HI.out.ex _ _ (h2 0 (by omega));obtain ⟨v1,x1⟩:=HI.out.ex _ _ (h2 1 (by omega));obtain ⟨v2,x2⟩:=HI.out.ex _ _ (h2 2 (by omega));obtain ⟨v3,x3⟩:=HI.out.ex _ _ (h2 3 (by omega));obtain ⟨v4,x4⟩:=HI.out.ex _ _ (h2 4 (by omega));have z0:=(HI.out.fz p.1 (p.2 * 5)).trans (h3 _);have z1:=(HI.out.fz p.1 (p.2 * 5+1)).trans (h3 _);have z2:=(HI.out.fz p.1 (p.2 * 5+2)).trans (h3 _);have z3:=(HI.out.fz p.1 (p.2 * 5+3)).trans (h3 _);have z4:=(HI.out.fz p.1 (p.2 * 5+4)).trans (h3 _);simp only[Nat.add_zero,Nat.zero_add] at x0 a0 a1 a2 a3 a4;clear hsn h2 h3 far hz hp;go_wp2
   go_roundw
   case rel=>exact ⟨j+1,by go_num,by omega,HSN⟩
   case measure=>simp[intOf]; omega}
  {obtain rfl:j=(ps k).length:=by omega
   have hR:=HI.out;rw[List.take_length] at hR;have hbl:wr.heap[b]? =W3.heap[b]? :=hR.block b (fun p hp=>Nat.ne_of_lt (HL3.out p hp).1);obtain ⟨W',hr,hM,ht⟩:=(HG.out.mp.same hbl).del hk 0;have HF:Hid (Grp W' B b N (S.filter (· ≠k)) m (fun x=>if x=k then [] else ps x)/\FlOut b W3 W' (ps k) s q):=
    Y1 ⟨Z4W HG.out hR (fun p hp=>(HL3.out p hp).1) hM ht,Z6p hR ht (fun p hp=>Nat.ne_of_lt (HL3.out p hp).1)⟩
   have c0:=(far W.heap.size 0 (by omega)).trans HC0.out;have c1:=(far (W.heap.size+1) 0 (by omega)).trans HC12.out.1;have c2:=(far (W.heap.size+1) 1 (by omega)).trans HC12.out.2;unfold keyV at hr;clear hR hbl hM ht far hz HI;go_wp2;refine bodyPost_end (v:= .tuple #[]) (by simp[results,Tryd.results34,go_sem]) rfl ?_;exact ⟨rfl,HF.out.1,HF.out.2.pre HLO.out⟩}
theorem Zaa (hN:N<=1000) (hG:Grp W B b N S m ps) (hL: ∀p∈ps k,p.1 < b/\(∀c,c < 5-> ∃v,W.cell? ⟨p.1,p.2 * 5+c,none⟩=some v)/\ ∀c,W.frozen? ⟨p.1,c,none⟩=false):
 Calls Tryd.prog 34 #[.agg #[.map (some b)],keyV k,shV s q] W fun e W'=>e= .returned (.tuple #[])/\Grp W' B b N (S.filter (· ≠k)) m (fun x=>if x=k then [] else ps x)/\FlOut b W W' (ps k) s q:=by
 by_cases hS:k∈S
 {exact Za9 W B b N S m ps k s q hk hN hG hS hL}
 {exact Za8 W B b N S m ps k s q hk hG hS}
end
end
section
open Go.RowKit Shp
open Expd (Bd)
attribute [local go_sem] Oper.semAt_some
abbrev bdV (b:Bd) (q:Ptr):Value:= .agg #[.string ⟨b.of_.toArray⟩,.string ⟨b.name.toArray⟩,.int .i64 b.sh.kind,.string ⟨b.sh.of_.toArray⟩,.string ⟨b.sh.name.toArray⟩,.slice q.A b.sh.names.length q.c,.slice q.P b.sh.parts.length q.d]
structure Bk (w:World) (n0 h:Nat) (A:Option Addr) (c:Nat) (L:List Bd) (qs:Nat->Ptr) (g off:Nat):Prop where
 box:w.cell? ⟨h,0,none⟩=some (.slice A L.length c)
 n0h:n0<=h
 lt:h < w.heap.size
 at_:L.length=0\/A=some ⟨g,off,none⟩/\g < n0
 cells: ∀i (hi:i < L.length),BdAt w n0 g (off+i * 7) (L[i]'hi) (qs i)
 len:L.length<=1000
def BkK (n0 h:Nat) (w w':World):Prop:=Below n0 w w'/\w'.heap[h]? =w.heap[h]?
theorem BkK.trans {n0 h:Nat} {a b c:World} (x:BkK n0 h a b) (y:BkK n0 h b c):BkK n0 h a c:=⟨x.1.trans y.1,y.2.trans x.2⟩
theorem Bk.keep {w w':World} {n0 h:Nat} {A:Option Addr} {c:Nat} {L:List Bd} {qs:Nat->Ptr} {g off:Nat} (H:Bk w n0 h A c L qs g off) (k:BkK n0 h w w'):Bk w' n0 h A c L qs g off:=by
 have hsz:=k.1.size;refine ⟨(World.cell?_of_block (w:=w) k.2).trans H.box,H.n0h,Nat.lt_of_lt_of_le H.lt hsz,H.at_,fun i hi=> ?_,H.len⟩;have hg:g < n0:=by
  rcases H.at_ with h0 | h0
  {omega}
  {exact h0.2}
 exact (H.cells i hi).of (Nat.le_refl _) hg (fun g' k' h'=>k.1.cell (p:=⟨g',k',none⟩) h')
theorem Z5N (W:World) (A:Option Addr) (n c:Nat):Calls Tryd.prog 32 #[.slice A n c] W fun e W'=>e= .returned (.func (.func 51) #[] #[.pointer (some ⟨W.heap.size,0,none⟩)])/\W'.cell? ⟨W.heap.size,0,none⟩=some (.slice A n c)/\W'.heap.size=W.heap.size+1/\Below W.heap.size W W':=by
 go_enter Tryd.func32,Tryd.ntmps32;go_wp2;go_ret;exact ⟨rfl,by simp[go_sem],by simp,Z00 _ _⟩
def downTo (n k:Nat):List Nat:=(List.range n).reverse.take (n - k)
theorem Z8J {n k:Nat} (h:k<=n): (downTo n k).length=n - k:=by unfold downTo; rw[List.length_take,List.length_reverse,List.length_range]; omega
theorem Z8K (n:Nat):downTo n n= []:=by unfold downTo; simp
theorem Z2I (n:Nat):downTo n 0=(List.range n).reverse:=by unfold downTo; rw[Nat.sub_zero,List.take_of_length_le (by simp)]
theorem Z4j {n k:Nat} (h:k < n):downTo n k=downTo n (k+1)++ [k]:=by
 unfold downTo;rw[show n - k=(n - (k+1))+1 by omega,List.take_succ_eq_append_getElem (by simp; omega)];congr 2;rw[List.getElem_reverse];simp;omega
theorem Zb6 (n:Nat) (hn:1<=n) (w:World) (n0 h:Nat) (A:Option Addr) (c:Nat) (L:List Bd) (qs:Nat->Ptr) (g off:Nat) (H:Bk w n0 h A c L qs g off):
 SeqStopsK Fence.wide n Tryd.prog 51 #[.pointer (some ⟨h,0,none⟩)] (fun i:Nat=>#[.int .i64 (i:Int),bdV (L.getD i ⟨[],[],⟨0,[],[],[],[]⟩⟩) (qs i)]) (BkK n0 h)
  (fun xs=>xs=(List.range L.length).reverse) (fun pre=> ∃k,k < L.length/\pre=downTo L.length k) L.length w:=by
 intro l J Jx W hb hJ hJx hY h0;have HW:Bk W n0 h A c L qs g off:=H.keep ⟨hb.mono (by have:=H.n0h; have:=H.lt; omega),hb.block h H.lt⟩;refine callsIn_of_wp Tryd.func51 rfl trivial ?_ rfl;simp only[Tryd.ntmps51,List.size_toArray,List.length_cons,List.length_nil,Nat.reduceAdd,Nat.reduceSub,Array.replicate_succ,Array.replicate_zero,List.push_toArray,List.append_toArray,List.nil_append,List.cons_append];have c0:=HW.box;have HL:=HW.len;have HH:=Y1 HW;clear hb hJ hJx HW H
 gi_wp2_with fail
 gi_loopw [3] (fun i wr=> ∃k:Nat,k<=L.length/\i= .int .i64 ((k:Int) - 1)/\J (downTo L.length k) wr/\Hid (Bk wr n0 h A c L qs g off)) (fun i _=>(intOf i+1).toNat)
 case atStart=>exact ⟨L.length,Nat.le_refl _,rfl,by rw[Z8K]; exact h0,HH⟩
 case round=>
  clear HH c0 h0;obtain ⟨k,hk,rfl,hJk,HB⟩:=hrel;have c0:=HB.out.box;rcases k with _ | k
  {gi_wp2
   go_end0
   exact ⟨⟨_,rfl⟩,Or.inl ⟨_,rfl,by rw[<-Z2I]; exact hJk⟩⟩}
  {have hkl:k < L.length:=hk;have e1: ((k+1:Nat):Int) - 1=(k:Int):=by omega
   obtain ⟨x0,x1,⟨y0,y1,y2,y3,y4⟩,_⟩:=HB.out.cells k hkl;have hA:=HB.out.at_.resolve_left (by omega);rw[hA.1] at c0;have hD:L.getD k ⟨[],[],⟨0,[],[],[],[]⟩⟩=L[k]'hkl:=by simp[hkl]
   obtain ⟨fn,tmps,assign,body,hy,hR⟩:=hY (downTo L.length (k+1)) k wr hJk (by rw[Z8J hk]; omega);rw[hD] at hy;rw[<-Z4j hkl] at hR;obtain ⟨bk,hbk⟩: ∃bk,bk=L[k]'hkl:=⟨_,rfl⟩;rw[<-hbk] at x0 x1 y0 y1 y2 y3 y4 hy;rw[e1];change wr.cell? ⟨g,off+k * 7+3,none⟩=_ at y1;change wr.cell? ⟨g,off+k * 7+4,none⟩=_ at y2;change wr.cell? ⟨g,off+k * 7+5,none⟩=_ at y3;change wr.cell? ⟨g,off+k * 7+6,none⟩=_ at y4;clear hY hJk hD hbk e1 hA
   gi_wp2
   refine hR.mono ?_;rintro e W3 (⟨rfl,hJ3,hk3⟩ | ⟨rfl,hJx3⟩)
   {have hB3:=Y1 (HB.out.keep hk3);have HJ3:=Y1 hJ3;clear hk3 hJ3 c0 x0 x1 y0 y1 y2 y3 y4
    gi_wp2
    go_roundw
    case rel=>exact ⟨k,by omega,by go_num,HJ3.out,hB3⟩
    case measure=>simp[intOf]}
   {gi_wp2
    refine bodyPost_ret (results_none rfl _ _ _) rfl ?_;exact ⟨⟨_,rfl⟩,Or.inr ⟨_,⟨k,hkl,rfl⟩,hJx3⟩⟩}}
end
section
open Go.RowKit Shp
open Expd (Bd fill keys find)
theorem Pls.at_ {W:World} {B0 g i:Nat} {t:Sh} {pl:List Plc} (h:Pls W B0 g i t pl): ∀e∈pl,e.2.1 < B0/\ ∃(s:Sh) (q:Ptr),Sh5 W e.2.1 (e.2.2 * 5) s q/\s.kind=9/\(s.of_,s.name)=e.1:=by
 induction h with
 | name g i t q hk hp hg hs hsm hn=>intro e he; simp at he; subst he; exact ⟨hg,t,q,hs,hk,rfl⟩
 | node g i t q b pls hk hg hs hsm hn hp hr ih=>
  intro e he;obtain ⟨j,hj,he⟩:=List.mem_flatMap.1 he;exact ih j (List.mem_range.1 hj) e he
theorem Zb7 (f:Nat->List Plc) (l:List Sh): (∀j (h:j < l.length),(f j).length<=size (l[j]'h))->((List.range l.length).flatMap f).length<=sizes l:=by
 intro h;have: ∀n,n<=l.length->((List.range n).flatMap f).length<=sizes (l.take n):=fun n=>by
  induction n with
  | zero=>intro _; simp
  | succ n ih=>
   intro hn;rw[List.range_succ,List.flatMap_append,List.length_append,Z1L (by omega)];have h1:=ih (by omega);have h2:=h n (by omega);simp;simp at h1;omega
 have h1:=this l.length (Nat.le_refl _)
 rwa [List.take_length] at h1
theorem Zbu {W:World} {B0:Nat} {q:Ptr} {t:Sh} {F:List Nat} (h:Own W q t F): ∀(g i:Nat),g < B0->(∀b∈F,b < B0)->Sh5 W g (i * 5) t q->right t=true-> ∃pl,(∀W',(∀b∈F,∀k,W'.cell? ⟨b,k,none⟩=W.cell? ⟨b,k,none⟩)->(∀k,W'.cell? ⟨g,k,none⟩=W.cell? ⟨g,k,none⟩)->Pls W' B0 g i t pl)/\pl.length<=size t/\ ∀e∈pl,e.2.1=g\/e.2.1∈F:=by
 induction h with
 | mk q t F FN FP qs Fs hs hn hp hr hF ih=>
  subst hF;intro g i hg hF h5 hR;by_cases hk:t.kind=9
  {obtain ⟨h1,h2⟩:=Expd.name_bare hR hk;refine ⟨_,fun W' _ hc=> .name g i t q hk (by rw[h2]; rfl) hg (h5.of hc) hs (by rw[h1]; rfl),Z2i t, ?_⟩;intro e he; simp at he; subst he; exact Or.inl rfl}
  {have hN: ∀W':World,(∀b∈FN,∀k,W'.cell? ⟨b,k,none⟩=W.cell? ⟨b,k,none⟩)->t.names.length=0\/ ∃bn,q.A=some ⟨bn,0,none⟩/\bn < B0/\ ∀j (h:j < t.names.length),W'.cell? ⟨bn,j,none⟩=some (.string ⟨(t.names[j]'h).toArray⟩):=fun W' hW=>by
    rcases hn with ⟨h,_⟩ | ⟨b,h1,rfl,h3⟩
    {exact Or.inl h}
    {exact Or.inr ⟨b,h1,hF b (by simp),fun j hj=>(hW b (by simp) j).trans (h3.at_ j hj)⟩}
   rcases hp with ⟨h0,rfl⟩ | ⟨b,h1,rfl,hb⟩
   {refine ⟨_,fun W' hW hc=> .node g i t q 0 (fun _=> []) hk hg (h5.of hc) hs (hN W' (fun b hb=>hW b (by simp[hb]))) (Or.inl h0) (fun j hj=>absurd hj (by omega)), ?_, ?_⟩
    {simp[h0]}
    {simp[h0]}}
   {have hx:=fun j hj=>ih j hj b j (hF b (by simp)) (fun c hc=>hF c (List.mem_append_right _ (List.mem_flatMap.2 ⟨j,List.mem_range.2 hj,hc⟩))) (hb.at_ j hj) (Z05 hR (List.getElem_mem hj))
    let pls:Nat->List Plc:=fun j=>if h:j < t.parts.length then (hx j h).choose else []
    have hpl: ∀j (h:j < t.parts.length),(∀W',(∀c∈Fs j,∀k,W'.cell? ⟨c,k,none⟩=W.cell? ⟨c,k,none⟩)->(∀k,W'.cell? ⟨b,k,none⟩=W.cell? ⟨b,k,none⟩)->Pls W' B0 b j (t.parts[j]'h) (pls j))/\(pls j).length<=size (t.parts[j]'h)/\ ∀e∈pls j,e.2.1=b\/e.2.1∈Fs j:=fun j h=>by
     have:=(hx j h).choose_spec;simp only[pls,dif_pos h];exact this
    refine ⟨_,fun W' hW hc=> .node g i t q b pls hk hg (h5.of hc) hs (hN W' (fun c hc=>hW c (by simp[hc]))) (Or.inr ⟨h1,hF b (by simp)⟩) (fun j hj=>(hpl j hj).1 W' (fun c hc=>hW c (List.mem_append_right _ (List.mem_flatMap.2 ⟨j,List.mem_range.2 hj,hc⟩))) (hW b (by simp))), ?_, ?_⟩
    {rw[size_eq];have:=Zb7 pls t.parts (fun j hj=>(hpl j hj).2.1);omega}
    {intro e he;obtain ⟨j,hj,he⟩:=List.mem_flatMap.1 he;have hj:=List.mem_range.1 hj;rcases (hpl j hj).2.2 e he with h | h
     {exact Or.inr (by rw[h]; simp)}
     {exact Or.inr (List.mem_append_right _ (List.mem_flatMap.2 ⟨j,List.mem_range.2 hj,h⟩))}}}}
abbrev Lk:=Ky->Option (Sh×Ptr)
structure FlI (b:Nat) (W wr:World) (ps:Ky->List (Nat×Nat)) (lk:Lk):Prop where
 os:wr.os=W.os
 tape:wr.tape=W.tape
 output:wr.output=W.output
 size:W.heap.size<=wr.heap.size
 block: ∀x,x < W.heap.size->x≠b->(∀k,(lk k).isSome=true-> ∀p∈ps k,p.1≠x)->wr.heap[x]? =W.heap[x]?
 cell: ∀g c,g < W.heap.size->g≠b->(∀k,(lk k).isSome=true-> ∀p∈ps k,¬(p.1=g/\p.2 * 5<=c/\c < p.2 * 5+5))->wr.cell? ⟨g,c,none⟩=W.cell? ⟨g,c,none⟩
 fz: ∀g c,g < W.heap.size->g≠b->wr.frozen? ⟨g,c,none⟩=W.frozen? ⟨g,c,none⟩
 ex: ∀g c,g < W.heap.size->g≠b->(∃v,W.cell? ⟨g,c,none⟩=some v)-> ∃v,wr.cell? ⟨g,c,none⟩=some v
 put: ∀k s q,lk k=some (s,q)-> ∀p∈ps k,Sh5 wr p.1 (p.2 * 5) s q
theorem FlI.refl (b:Nat) (W:World) (ps:Ky->List (Nat×Nat)):FlI b W W ps (fun _=>none):=⟨rfl,rfl,rfl,Nat.le_refl _,fun _ _ _ _=>rfl,fun _ _ _ _ _=>rfl,fun _ _ _ _=>rfl,fun _ _ _ _ h=>h,nofun⟩
theorem FlI.next {b:Nat} {W wr w':World} {ps:Ky->List (Nat×Nat)} {lk:Lk} (h:FlI b W wr ps lk) (hb:Below wr.heap.size wr w') (hp: ∀k,∀p∈ps k,p.1 < W.heap.size):FlI b W w' ps lk:=by
 have hz:=h.size;refine ⟨hb.os.trans h.os,hb.tape.trans h.tape,hb.output.trans h.output,Nat.le_trans hz hb.size,fun x h1 h2 h3=>(hb.block x (by omega)).trans (h.block x h1 h2 h3),fun g c h1 h2 h3=>(hb.cell (p:=⟨g,c,none⟩) (by show g < _; omega)).trans (h.cell g c h1 h2 h3),
  fun g c h1 h2=>(hb.frozen (p:=⟨g,c,none⟩) (by show g < _; omega)).trans (h.fz g c h1 h2),fun g c h1 h2 h3=> ?_,fun k s q hk p hpk=>(h.put k s q hk p hpk).of (fun c=>hb.cell (p:=⟨p.1,c,none⟩) (by have:=hp k p hpk; show p.1 < _; omega))⟩
 obtain ⟨v,hv⟩:=h.ex g c h1 h2 h3;exact ⟨v,(hb.cell (p:=⟨g,c,none⟩) (by show g < _; omega)).trans hv⟩
def Lk.add (lk:Lk) (k0:Ky) (x:Sh×Ptr):Lk:=fun k=>(lk k).or (if k=k0 then some x else none)
theorem Z3i {lk:Lk} {k0 k:Ky} {x:Sh×Ptr} (h: (lk k).isSome=true):lk.add k0 x k=lk k:=by
 unfold Lk.add; cases e:lk k with
 | none=>rw[e] at h; cases h
 | some y=>rfl
theorem Z3j {lk:Lk} {k0 k:Ky} {x:Sh×Ptr} (h:lk k=none):lk.add k0 x k=if k=k0 then some x else none:=by unfold Lk.add; rw[h]; rfl
theorem FlI.fill {b:Nat} {W wr w':World} {ps:Ky->List (Nat×Nat)} {lk:Lk} {k0:Ky} {s:Sh} {q:Ptr} (h:FlI b W wr ps lk) (hf:FlOut b wr w' (if (lk k0).isSome then [] else ps k0) s q)
 (hp: ∀k,∀p∈ps k,p.1 < W.heap.size/\p.1≠b) (far: ∀k k',k≠k'-> ∀p∈ps k,p∉ps k'):FlI b W w' ps (lk.add k0 (s,q)):=by
 have hz:=h.size;have old: ∀k,(lk k).isSome=true->(lk.add k0 (s,q) k).isSome=true:=fun k hk=>by rw[Z3i hk]; exact hk
 have new: ∀p∈(if (lk k0).isSome then [] else ps k0),p∈ps k0/\(lk.add k0 (s,q) k0).isSome=true:=fun p hpk=>by
  by_cases e: (lk k0).isSome=true
  {rw[if_pos e] at hpk; cases hpk}
  {rw[if_neg e] at hpk;rw[Z3j (by simpa using e),if_pos rfl];exact ⟨hpk,rfl⟩}
 refine ⟨hf.os.trans h.os,hf.tape.trans h.tape,hf.output.trans h.output,Nat.le_trans hz hf.size,fun x h1 h2 h3=> ?_,fun g c h1 h2 h3=> ?_,fun g c h1 h2=>(hf.fz g c (by omega) h2).trans (h.fz g c h1 h2),fun g c h1 h2 h3=>hf.ex g c (by omega) h2 (h.ex g c h1 h2 h3),fun k s' q' hk p hpk=> ?_⟩
 {exact (hf.block x (by omega) h2 (fun p hpk=>h3 k0 (new p hpk).2 p (new p hpk).1)).trans (h.block x h1 h2 (fun k hk=>h3 k (old k hk)))}
 {exact (hf.cell g c (by omega) h2 (fun p hpk=>h3 k0 (new p hpk).2 p (new p hpk).1)).trans (h.cell g c h1 h2 (fun k hk=>h3 k (old k hk)))}
 {by_cases e: (lk k).isSome=true
  {rw[Z3i e] at hk;have h5:=h.put k s' q' hk p hpk;have hp1:=hp k p hpk;have hne: ∀p'∈(if (lk k0).isSome then [] else ps k0),p'≠p:=fun p' hp' e'=>by
    by_cases e2:k=k0
    {subst e2; rw[if_pos e] at hp'; cases hp'}
    {exact far k k0 e2 p hpk (e'▸(new p' hp').1)}
   have hc: ∀j,j < 5->w'.cell? ⟨p.1,p.2 * 5+j,none⟩=wr.cell? ⟨p.1,p.2 * 5+j,none⟩:=fun j hj=>hf.cell p.1 (p.2 * 5+j) (by omega) hp1.2 (fun p' hp' ⟨h1,h2,h3⟩=>hne p' hp' (Prod.ext h1 (by omega)));obtain ⟨a0,a1,a2,a3,a4⟩:=h5;exact ⟨(hc 0 (by omega)).trans a0,(hc 1 (by omega)).trans a1,(hc 2 (by omega)).trans a2,(hc 3 (by omega)).trans a3,(hc 4 (by omega)).trans a4⟩}
  {rw[Z3j (by simpa using e)] at hk;by_cases e2:k=k0
   {subst e2;rw[if_pos rfl] at hk;cases hk;exact hf.put p (by rw[if_neg e]; exact hpk)}
   {rw[if_neg e2] at hk; cases hk}}}
theorem Z4x {W:World} {g o:Nat} {s t:Sh} {q q':Ptr} (h:Sh5 W g o s q) (k:Sh5 W g o t q'):s.kind=t.kind/\(s.of_,s.name)=(t.of_,t.name):=by
 obtain ⟨h0,h1,h2,_,_⟩:=h;obtain ⟨k0,k1,k2,_,_⟩:=k;rw[h0] at k0;rw[h1] at k1;rw[h2] at k2;simp at k0 k1 k2;exact ⟨k0,Prod.ext k1 k2⟩
structure FlR (B0:Nat) (W wr:World) (ps:Ky->List (Nat×Nat)) (lk:Lk):Prop where
 cell: ∀g c,g < B0->(∀k,(lk k).isSome=true-> ∀p∈ps k,¬(p.1=g/\p.2 * 5<=c/\c < p.2 * 5+5))->wr.cell? ⟨g,c,none⟩=W.cell? ⟨g,c,none⟩
 put: ∀k s q,lk k=some (s,q)-> ∀p∈ps k,Sh5 wr p.1 (p.2 * 5) s q
theorem FlI.read {b B0:Nat} {W wr:World} {ps:Ky->List (Nat×Nat)} {lk:Lk} (h:FlI b W wr ps lk) (hB:B0<=W.heap.size) (hb:B0<=b):FlR B0 W wr ps lk:=
 ⟨fun g c hg hp=>h.cell g c (by omega) (by omega) hp,h.put⟩
theorem Zab {B0 BB:Nat} {W wr:World} {ps:Ky->List (Nat×Nat)} {lk:Lk} (h:FlR B0 W wr ps lk) (hBB:B0<=BB)
 (hpl: ∀k,∀p∈ps k,∃(s:Sh) (q:Ptr),Sh5 W p.1 (p.2 * 5) s q/\s.kind=9/\(s.of_,s.name)=k) (hsh: ∀k s q,lk k=some (s,q)->ShAt wr BB q s)
 {g i:Nat} {t:Sh} {pl:List Plc} (hP:Pls W B0 g i t pl): (∀e∈pl,e.2∈ps e.1)-> ∃q',Sh5 wr g (i * 5) (fill (fun o n=>(lk (o,n)).map Prod.fst) t) q'/\ShAt wr BB q' (fill (fun o n=>(lk (o,n)).map Prod.fst) t):=by
 induction hP with
 | name g i t q hk hp hg hs hsm hn=>
  intro hm;rw[Expd.fill_name hk];cases e:lk (t.of_,t.name) with
  | some x=>exact ⟨x.2,h.put _ x.1 x.2 e (g,i) (hm ((t.of_,t.name),g,i) (by simp)),hsh _ x.1 x.2 e⟩
  | none=>
   refine ⟨q, ?_,.mk q t 0 0 (fun _=>q) hsm (Or.inl (by rw[Z1A]; exact hn)) (Or.inl hp) (fun j hj=>absurd hj (by omega)) (fun j hj=>absurd hj (by omega))⟩;have hc: ∀j,j < 5->wr.cell? ⟨g,i * 5+j,none⟩=W.cell? ⟨g,i * 5+j,none⟩:=fun j hj=>h.cell g _ (by omega) (fun k hk' p hpk ⟨h1,h2,h3⟩=>by
    obtain ⟨s,q2,h5,_,h7⟩:=hpl k p hpk;have hi:p.2=i:=by omega
    rw[h1,hi] at h5;have:=(Z4x h5 hs).2;rw[<-h7,this,e] at hk';cases hk')
   obtain ⟨a0,a1,a2,a3,a4⟩:=hs;exact ⟨(hc 0 (by omega)).trans a0,(hc 1 (by omega)).trans a1,(hc 2 (by omega)).trans a2,(hc 3 (by omega)).trans a3,(hc 4 (by omega)).trans a4⟩
 | node g i t q b0 pls hk hg hs hsm hn hp hr ih=>
  intro hm;rw[Expd.fill_node hk];have hx:=fun j hj=>ih j hj (fun e he=>hm e (List.mem_flatMap.2 ⟨j,List.mem_range.2 hj,he⟩))
  let qs:Nat->Ptr:=fun j=>if h:j < t.parts.length then (hx j h).choose else q
  have hqs: ∀j (h:j < t.parts.length),Sh5 wr b0 (j * 5) (fill (fun o n=>(lk (o,n)).map Prod.fst) (t.parts[j]'h)) (qs j)/\ShAt wr BB (qs j) (fill (fun o n=>(lk (o,n)).map Prod.fst) (t.parts[j]'h)):=fun j h=>by
   have:=(hx j h).choose_spec;simp only[qs,dif_pos h];exact this
  have hl: (t.parts.map (fill (fun o n=>(lk (o,n)).map Prod.fst))).length=t.parts.length:=by simp
  refine ⟨q, ?_,.mk q _ b0 0 qs ⟨hsm.o,hsm.n,hsm.ns,hsm.l,by rw[hl]; exact hsm.m,hsm.c,by rw[hl]; exact hsm.d,hsm.A0,hsm.P0⟩ ?_ ?_ ?_ ?_⟩
  {have hc: ∀j,j < 5->wr.cell? ⟨g,i * 5+j,none⟩=W.cell? ⟨g,i * 5+j,none⟩:=fun j hj=>h.cell g _ (by omega) (fun k hk' p hpk ⟨h1,h2,h3⟩=>by
    obtain ⟨s,q2,h5,h6,_⟩:=hpl k p hpk;have hi:p.2=i:=by omega
    rw[h1,hi] at h5;exact hk ((Z4x h5 hs).1▸h6))
   obtain ⟨a0,a1,a2,a3,a4⟩:=hs;exact ⟨(hc 0 (by omega)).trans a0,(hc 1 (by omega)).trans a1,(hc 2 (by omega)).trans a2,(hc 3 (by omega)).trans a3,by rw[hl]; exact (hc 4 (by omega)).trans a4⟩}
  {rcases hn with hn | ⟨bn,h1,h2,h3⟩
   {exact Or.inl (by rw[Z1A]; exact hn)}
   {refine Or.inr ⟨bn,0,h1,by omega,fun j hj=> ?_⟩;rw[Z1A] at hj
    replace hj:j < t.names.length:=hj
    rw[Nat.zero_add];refine (h.cell bn j (by omega) (fun k hk' p hpk ⟨e1,e2,e3⟩=> ?_)).trans ((h3 j hj).trans (by simp[strs]));obtain ⟨s,q2,h5,_,_⟩:=hpl k p hpk;have e4:=h3 (p.2 * 5) (by omega);have e5:=h5.1;rw[e1,e4] at e5;cases e5}}
  {rw[hl]; exact hp.imp id (fun h=>⟨h.1,by omega⟩)}
  {intro j hj;rw[hl] at hj;rw[Nat.zero_add,List.getElem_map];exact (hqs j hj).1}
  {intro j hj;rw[hl] at hj;rw[List.getElem_map];exact (hqs j hj).2}
theorem Zb8 (l:List Bd) (o n:List UInt8):find l o n=(l.reverse.find? (fun b=>decide ((b.of_,b.name)=(o,n)))).map Bd.sh:=by
 induction l with
 | nil=>rfl
 | cons b l ih=>
  rw[Expd.find_cons,ih,List.reverse_cons,List.find?_append];cases e:l.reverse.find? (fun b=>decide ((b.of_,b.name)=(o,n))) with
  | some x=>rfl
  | none=>
   by_cases h:b.of_=o/\b.name=n
   {simp[h.1,h.2]}
   {rw[if_neg h];have: ¬((b.of_,b.name)=(o,n)):=fun e=>h (by simpa using e);simp only[List.find?_cons,List.find?_nil,decide_eq_false this];rfl}
abbrev noBd:Bd:=⟨[],[],⟨0,[],[],[],[]⟩⟩
def lkL (L:List Bd) (qs:Nat->Ptr) (pre:List Nat):Lk:=fun k=>(pre.find? (fun i=>decide (((L.getD i noBd).of_,(L.getD i noBd).name)=k))).map fun i=>((L.getD i noBd).sh,qs i)
theorem Zb9 (L:List Bd) (qs:Nat->Ptr) (pre:List Nat) (i:Nat):lkL L qs (pre++ [i])=(lkL L qs pre).add ((L.getD i noBd).of_,(L.getD i noBd).name) ((L.getD i noBd).sh,qs i):=by
 funext k;unfold lkL Lk.add;simp only;rw[List.find?_append];cases e:pre.find? (fun i=>decide (((L.getD i noBd).of_,(L.getD i noBd).name)=k)) with
 | some x=>rfl
 | none=>
  by_cases h:k=((L.getD i noBd).of_,(L.getD i noBd).name)
  {rw[if_pos h];have: ((L.getD i noBd).of_,(L.getD i noBd).name)=k:=h.symm;simp only[List.find?_cons,decide_eq_true this];rfl}
  {rw[if_neg h];have: ¬(((L.getD i noBd).of_,(L.getD i noBd).name)=k):=fun e=>h e.symm;simp only[List.find?_cons,List.find?_nil,decide_eq_false this];rfl}
theorem Z6q (L:List Bd) (qs:Nat->Ptr) (o n:List UInt8): (lkL L qs (List.range L.length).reverse (o,n)).map Prod.fst=find L o n:=by
 have hL:L=(List.range L.length).map (fun i=>L.getD i noBd):=by
  refine List.ext_getElem (by simp) (fun i h1 h2=> ?_);simp[h1]
 rw[Zb8]
 conv=>rhs; rw[hL, <-List.map_reverse,List.find?_map]
 unfold lkL;rw[Option.map_map,Option.map_map];rfl
section
variable {L : List Bd} {qs : Nat -> Ptr}
include L qs
theorem Zbv {k:Nat} {x:Ky} (h: (lkL L qs (downTo L.length k) x).isSome=true):lkL L qs (List.range L.length).reverse x=lkL L qs (downTo L.length k) x:=by
 have e: (List.range L.length).reverse=downTo L.length k++(List.range L.length).reverse.drop (L.length - k):=by unfold downTo; rw[List.take_append_drop]
 rw[e];unfold lkL at h ⊢;rw[List.find?_append];cases e2: (downTo L.length k).find? (fun i=>decide (((L.getD i noBd).of_,(L.getD i noBd).name)=x)) with
 | some y=>rfl
 | none=>rw[e2] at h; cases h
theorem early {k:Nat} {t:Sh} (h: ∀x∈keys t,(lkL L qs (downTo L.length k) x).isSome=true):
 Expd.put (find L) t=some (fill (fun o n=>(lkL L qs (downTo L.length k) (o,n)).map Prod.fst) t):=by
 have h1:=Expd.put_some (f:=fun o n=>(lkL L qs (downTo L.length k) (o,n)).map Prod.fst) t (fun x hx=>by rw[Option.isSome_map]; exact h x hx);rw[<-h1];refine (Expd.put_like t (fun x hx=> ?_)).symm;rw[<-Z6q L qs,Zbv (h x hx)]
theorem late {t:Sh} {x:Ky} (hx:x∈keys t) (h:lkL L qs (List.range L.length).reverse x=none):Expd.put (find L) t=none:=
 Expd.put_none t hx (by rw[<-Z6q L qs]; rw[show ((x.1,x.2):Ky)=x from rfl,h]; rfl)
end
theorem FlI.grown {b:Nat} {V wr W':World} {ps:Ky->List (Nat×Nat)} {lk:Lk} {row:Option Nat} (h:FlI b V wr ps lk) (hg:wr.grownBy W' row) (hr: ∀r,row=some r->V.heap.size<=r) (hp: ∀k,∀p∈ps k,p.1 < V.heap.size):FlI b V W' ps lk:=by
 have hz:=h.size;have hbl: ∀x,x < V.heap.size->W'.heap[x]? =wr.heap[x]? :=fun x hx=>hg.block x (by omega) (fun e=>by have:=hr x e.symm; omega);have hc: ∀g c,g < V.heap.size->W'.cell? ⟨g,c,none⟩=wr.cell? ⟨g,c,none⟩:=fun g c hx=>World.cell?_of_block (w:=wr) (hbl g hx);have hf: ∀g c,g < V.heap.size->W'.frozen? ⟨g,c,none⟩=wr.frozen? ⟨g,c,none⟩:=fun g c hx=>hg.frozen_far ⟨g,c,none⟩ (by show g < _; omega) (fun e=>by have:=hr g e.symm; omega);refine ⟨hg.os.trans h.os,hg.tape.trans h.tape,hg.output.trans h.output,Nat.le_trans hz hg.size,fun x h1 h2 h3=>(hbl x h1).trans (h.block x h1 h2 h3),fun g c h1 h2 h3=>(hc g c h1).trans (h.cell g c h1 h2 h3),
  fun g c h1 h2=>(hf g c h1).trans (h.fz g c h1 h2),fun g c h1 h2 h3=> ?_,fun k s q hk p hpk=>(h.put k s q hk p hpk).of (fun c=>hc p.1 c (hp k p hpk))⟩
 obtain ⟨v,hv⟩:=h.ex g c h1 h2 h3;exact ⟨v,(hc g c h1).trans hv⟩
theorem Grp.grown {W W':World} {B b N:Nat} {S:List Ky} {m:Ky->Value} {ps:Ky->List (Nat×Nat)} {row:Option Nat} (h:Grp W B b N S m ps) (hg:W.grownBy W' row) (hb:some b≠row) (hm: ∀k∈S,∀x,(m k).ownBlock=some x->row≠some x):Grp W' B b N S m ps:=
 ⟨h.mp.kept hg hb,fun k hk=>(h.row k hk).kept hg (by
  cases e: (m k).ownBlock with
  | none=>simp
  | some x=>exact Or.inr (fun e2=>hm k hk x e e2.symm)),h.ne,h.no,h.far,h.len,h.bB,Nat.le_trans h.Bw hg.size⟩
structure FJ (V:World) (b B N:Nat) (S:List Ky) (m:Ky->Value) (ps:Ky->List (Nat×Nat)) (lk:Lk) (W:World):Prop where
 fi:FlI b V W ps lk
 gr:Grp W B b N (S.filter fun k=>(lk k).isNone) m (fun k=>if (lk k).isSome then [] else ps k)
structure F0 (V:World) (b B N:Nat) (S:List Ky) (m:Ky->Value) (ps:Ky->List (Nat×Nat)):Prop where
 gr:Grp V B b N S m ps
 bV:b < V.heap.size
 pl: ∀k,∀p∈ps k,p.1 < b
 nine: ∀k,∀p∈ps k,∃(s:Sh) (q:Ptr),Sh5 V p.1 (p.2 * 5) s q/\s.kind=9/\(s.of_,s.name)=k
 fz: ∀k,∀p∈ps k,∀c,V.frozen? ⟨p.1,c,none⟩=false
section
variable {V W W' : World} {b B N : Nat} {S : List Ky} {m : Ky -> Value} {ps : Ky -> List (Nat × Nat)} {lk : Lk}
section
variable (h : F0 V b B N S m ps)
include h
theorem F0.far: ∀k k',k≠k'-> ∀p∈ps k,p∉ps k':=fun k k' hne p hp hp'=>by
 obtain ⟨s,q,h1,_,h2⟩:=h.nine k p hp;obtain ⟨s',q',h3,_,h4⟩:=h.nine k' p hp';exact hne (h2▸h4▸(Z4x h1 h3).2)
theorem F0.lt: ∀k,∀p∈ps k,p.1 < V.heap.size:=fun k p hp=>Nat.lt_trans (h.pl k p hp) h.bV
theorem F0.start:FJ V b B N S m ps (fun _=>none) V:=by
 refine ⟨FlI.refl _ _ _, ?_⟩;have h1: (S.filter fun k=>((fun _=>none:Lk) k).isNone)=S:=by simp
 have h2: (fun k=>if ((fun _=>none:Lk) k).isSome then [] else ps k)=ps:=by funext k; simp
 rw[h1,h2];exact h.gr
end
theorem FJ.grown (h:FJ V b B N S m ps lk W) (h0:F0 V b B N S m ps) {row:Option Nat} (hg:W.grownBy W' row) (hr: ∀r,row=some r->V.heap.size<=r):FJ V b B N S m ps lk W':=
 ⟨h.fi.grown hg hr h0.lt,h.gr.grown hg (fun e=>by have:=hr b e.symm; have:=h0.bV; omega) (fun k hk x hx e=>by
  have h1:=((h0.gr.row k (List.mem_filter.1 hk).1).lt x hx).2;have:=hr x e;omega)⟩
section
variable (h : FJ V b B N S m ps lk W) (h0 : F0 V b B N S m ps)
include h h0
theorem FJ.next (hb:Below W.heap.size W W'):FJ V b B N S m ps lk W':=
 h.grown h0 (row:=none) ⟨hb.os,hb.tape,hb.output,hb.size,fun k h1 _=>hb.block k h1⟩ nofun
theorem FJ.step {k0:Ky} {s:Sh} {q:Ptr}
 (hg:Grp W' B b N ((S.filter fun k=>(lk k).isNone).filter (· ≠k0)) m (fun x=>if x=k0 then [] else if (lk x).isSome then [] else ps x)) (hf:FlOut b W W' (if (lk k0).isSome then [] else ps k0) s q):
 FJ V b B N S m ps (lk.add k0 (s,q)) W':=by
 refine ⟨h.fi.fill hf (fun k p hp=>⟨h0.lt k p hp,by have:=h0.pl k p hp; omega⟩) h0.far, ?_⟩;have key: ∀k,(lk.add k0 (s,q) k).isSome=true ↔ k=k0\/(lk k).isSome=true:=fun k=>by
  by_cases e: (lk k).isSome=true
  {rw[Z3i e]; exact ⟨Or.inr,fun _=>e⟩}
  {rw[Z3j (by simpa using e)];by_cases e2:k=k0
   {rw[if_pos e2]; exact ⟨fun _=>Or.inl e2,fun _=>rfl⟩}
   {rw[if_neg e2]; exact ⟨fun h=>(by cases h),fun h=>(e (h.resolve_left e2)).elim⟩}}
 have h1: (S.filter fun k=>(lk.add k0 (s,q) k).isNone)=(S.filter fun k=>(lk k).isNone).filter (· ≠k0):=by
  rw[List.filter_filter];refine List.filter_congr (fun k _=> ?_);have hk:=key k;cases e1:lk.add k0 (s,q) k <;> cases e2:lk k <;> rw[e1,e2] at hk <;> simp at hk ⊢ <;> first | exact hk | skip
 have h2: (fun k=>if (lk.add k0 (s,q) k).isSome then [] else ps k)=fun x=>if x=k0 then [] else if (lk x).isSome then [] else ps x:=by
  funext k;by_cases e: (lk.add k0 (s,q) k).isSome=true
  {rw[if_pos e];rcases (key k).1 e with h | h
   {rw[if_pos h]}
   {rw[if_pos h]; simp}}
  {rw[if_neg e,if_neg (fun h=>e ((key k).2 (Or.inl h))),if_neg (fun h=>e ((key k).2 (Or.inr h)))]}
 rw[h1,h2];exact hg
theorem FJ.asks (k0:Ky): ∀p∈(if (lk k0).isSome then [] else ps k0),p.1 < b/\(∀c,c < 5-> ∃v,W.cell? ⟨p.1,p.2 * 5+c,none⟩=some v)/\ ∀c,W.frozen? ⟨p.1,c,none⟩=false:=fun p hp=>by
 have hp:p∈ps k0:=by
  by_cases e: (lk k0).isSome=true
  {rw[if_pos e] at hp; cases hp}
  {rw[if_neg e] at hp; exact hp}
 have h1:=h0.pl k0 p hp;have h2:=h0.lt k0 p hp;refine ⟨h1,fun c hc=>h.fi.ex _ _ h2 (by omega) ?_,fun c=>(h.fi.fz _ _ h2 (by omega)).trans (h0.fz k0 p hp c)⟩;obtain ⟨s,q,⟨s0,s1,s2,s3,s4⟩,_⟩:=h0.nine k0 p hp
 match c,hc with
 | 0,_=>exact ⟨_,s0⟩
 | 1,_=>exact ⟨_,s1⟩
 | 2,_=>exact ⟨_,s2⟩
 | 3,_=>exact ⟨_,s3⟩
 | 4,_=>exact ⟨_,s4⟩
end
theorem FJ.block (h:FJ V b B N S m ps lk W) {x:Nat} (h1:x < V.heap.size) (h2:x≠b) (h3: ∀k,∀p∈ps k,p.1≠x):W.heap[x]? =V.heap[x]? :=h.fi.block x h1 h2 (fun k _=>h3 k)
theorem FJ.cell (h:FJ V b B N S m ps lk W) {x:Nat} (h1:x < V.heap.size) (h2:x≠b) (h3: ∀k,∀p∈ps k,p.1≠x) (c:Nat):W.cell? ⟨x,c,none⟩=V.cell? ⟨x,c,none⟩:=World.cell?_of_block (w:=V) (h.block h1 h2 h3)
end
theorem Z2x {A C:World} (B:Nat) (h:Below A.heap.size A C):KeepsFrom B A C:=⟨h.size,fun k o _ hk _=>(h.block k (Array.getElem?_eq_some_iff.1 hk).1).trans hk⟩
theorem Z5i {b B:Nat} {W W':World} {L:List (Nat×Nat)} {s:Sh} {q:Ptr} (h:FlOut b W W' L s q) (hb:b < B) (hL: ∀p∈L,p.1 < b):KeepsFrom B W W':=
 ⟨h.size,fun k o hB hk _=>(h.block k (Array.getElem?_eq_some_iff.1 hk).1 (by omega) (fun p hp=>by have:=hL p hp; omega)).trans hk⟩
theorem ZbT {W:World} {q:Ptr} {t:Sh} {F:List Nat} (h:Own W q t F): ∀b∈F,∀k,W.frozen? ⟨b,k,none⟩=false:=by
 induction h with
 | mk q t F FN FP qs Fs hs hn hp hr hF ih=>
  subst hF;intro b hb;rcases List.mem_append.1 hb with hb | hb
  {rcases List.mem_append.1 hb with hb | hb
   {rcases hn with ⟨_,rfl⟩ | ⟨c,_,rfl,h3⟩
    {cases hb}
    {simp at hb; subst hb; exact h3.fz}}
   {rcases hp with ⟨_,rfl⟩ | ⟨c,_,rfl,h3⟩
    {cases hb}
    {simp at hb; subst hb; exact h3.fz}}}
  {obtain ⟨j,hj,hb⟩:=List.mem_flatMap.1 hb;exact ih j (List.mem_range.1 hj) b hb}
theorem Z1C {pl:List Plc} {k:Ky} {p:Nat×Nat}:p∈more (fun _=> []) pl k ↔ (k,p)∈pl:=by
 unfold more;simp only[List.nil_append,List.mem_map,List.mem_filter,decide_eq_true_eq];constructor
 {rintro ⟨e,⟨h1,h2⟩,h3⟩; subst h2 h3; exact h1}
 {intro h; exact ⟨(k,p),⟨h,rfl⟩,rfl⟩}
theorem mkGrp (W:World) (ty:TypeId):Grp ((W.alloc (.map #[] 0)).alloc (.cells #[.map (some W.heap.size)] ty)) (W.heap.size+2) W.heap.size 0 [] (fun _=> .slice none 0 0) (fun _=> []):=by
 refine ⟨(Mp.made W _).same ?_,nofun,nofun,fun _ _=>rfl,nofun,fun _=>Nat.le_refl _,by omega,by simp⟩;exact Below.heap_alloc _ _ _ (by simp)
theorem Zc3 {Wm V:World} {b B N h i:Nat} {S:List Ky} {m:Ky->Value} {t:Sh} {pl:List Plc} (hP:Pls Wm b h i t pl) (hb:Below b Wm V) (hG:Grp V B b N S m (more (fun _=> []) pl)) (hfz: ∀e∈pl,∀c,Wm.frozen? ⟨e.2.1,c,none⟩=false):
 F0 V b B N S m (more (fun _=> []) pl):=by
 have hPV:=hP.of (Nat.le_refl b) (fun g k hg=>hb.cell (p:=⟨g,k,none⟩) hg);refine ⟨hG,hG.mp.lt,fun k p hp=>(hP.at_ _ (Z1C.1 hp)).1,fun k p hp=> ?_,fun k p hp c=>(hb.frozen (p:=⟨p.1,c,none⟩) (hP.at_ _ (Z1C.1 hp)).1).trans (hfz _ (Z1C.1 hp) c)⟩;exact (hPV.at_ _ (Z1C.1 hp)).2
theorem answer {S:List Ky} {t:Sh} {L:List Bd} {qs:Nat->Ptr} {k:Nat} (hS: ∀x,x∈S ↔ x∈keys t) (h:k=0\/(S.filter fun x=>(lkL L qs (downTo L.length k) x).isNone)= []):
 decide ((S.filter fun x=>(lkL L qs (downTo L.length k) x).isNone)= [])=(Expd.put (find L) t).isSome/\((Expd.put (find L) t).isSome=true->Expd.put (find L) t=some (fill (fun o n=>(lkL L qs (downTo L.length k) (o,n)).map Prod.fst) t)):=by
 by_cases hc: (S.filter fun x=>(lkL L qs (downTo L.length k) x).isNone)= []
 {have he:=early (L:=L) (qs:=qs) (k:=k) (t:=t) (fun x hx=>by
   by_cases e: (lkL L qs (downTo L.length k) x).isSome=true
   {exact e}
   · have hm:x∈(S.filter fun x=>(lkL L qs (downTo L.length k) x).isNone):=List.mem_filter.2 ⟨(hS x).2 hx,by simpa using e⟩
     rw[hc] at hm;cases hm)
  rw[decide_eq_true hc,he];exact ⟨rfl,fun _=>rfl⟩}
 {have hk:=h.resolve_right hc;subst hk;obtain ⟨x,hx⟩:=List.exists_mem_of_ne_nil _ hc;obtain ⟨h1,h2⟩:=List.mem_filter.1 hx;rw[Z2I] at h2;have hl:=late ((hS x).1 h1) (by simpa using h2);rw[decide_eq_false hc,hl];exact ⟨rfl,fun h=>by cases h⟩}
def Ans (S:List Ky) (t:Sh) (L:List Bd) (qs:Nat->Ptr) (k:Nat):Prop:=
 decide ((S.filter fun x=>(lkL L qs (downTo L.length k) x).isNone)= [])=(Expd.put (find L) t).isSome/\((Expd.put (find L) t).isSome=true->Expd.put (find L) t=some (fill (fun o n=>(lkL L qs (downTo L.length k) (o,n)).map Prod.fst) t))
theorem FJ.low {V W:World} {b B N:Nat} {S:List Ky} {m:Ky->Value} {ps:Ky->List (Nat×Nat)} {lk:Lk} (h:FJ V b B N S m ps lk W) {n0:Nat} (hn:n0<=V.heap.size) (hb:n0<=b) (hp: ∀k,∀p∈ps k,n0<=p.1):Below n0 V W:=
 ⟨h.fi.os,h.fi.tape,h.fi.output,h.fi.size,fun x hx=>h.block (by omega) (by omega) (fun k p hpk=>by have:=hp k p hpk; omega)⟩
theorem Z5v {V W:World} {b n0 h i:Nat} {t:Sh} {pl:List Plc} {L:List Bd} {qs:Nat->Ptr} {k:Nat}
 (hJ:FlR b V W (more (fun _=> []) pl) (lkL L qs (downTo L.length k))) (hbW:b<=W.heap.size) (hb:n0<=b) (hk: ∀j (hj:j < L.length),ShAt W n0 (qs j) (L[j]'hj).sh) (hP:Pls V b h i t pl):
 ∃q',Sh5 W h (i * 5) (fill (fun o n=>(lkL L qs (downTo L.length k) (o,n)).map Prod.fst) t) q'/\ShAt W W.heap.size q' (fill (fun o n=>(lkL L qs (downTo L.length k) (o,n)).map Prod.fst) t):=by
 refine Zab hJ hbW (fun k p hp=>(hP.at_ _ (Z1C.1 hp)).2) (fun x s q e=> ?_) hP (fun e he=>Z1C.2 he);unfold lkL at e;obtain ⟨j,hj,e2⟩:=Option.map_eq_some_iff.1 e;have hjm:=List.mem_of_find?_eq_some hj;have hjl:j < L.length:=by
  unfold downTo at hjm;have:=List.mem_of_mem_take hjm;simpa using this
 have hd:L.getD j noBd=L[j]'hjl:=by simp[hjl]
 rw[hd] at e2;cases e2;exact (hk j hjl).of (by omega) (fun _ _ _=>rfl)
theorem Zba {W W':World} {g o:Nat} {s:Sh} {q q':Ptr} (h:Sh5 W g o s q) (k:Sh5 W' g o s q') (hc: ∀c,W'.cell? ⟨g,c,none⟩=W.cell? ⟨g,c,none⟩):q'=q:=by
 obtain ⟨_,_,_,h3,h4⟩:=h;obtain ⟨_,_,_,k3,k4⟩:=k;rw[hc,h3] at k3;rw[hc,h4] at k4;cases q; cases q';simp at k3 k4;simp[k3,k4]
theorem Z3N {W Wc:World} {r D:Nat} {u:Sh} {q':Ptr} (hbd:Below W.heap.size W Wc) (hr:r < W.heap.size) (hD:W.heap[D]? =some (.deferred (some []))) (hz: ∀k,k < 5-> ∃v,Wc.cell? ⟨r,0+k,none⟩=some v) (hne:D≠r):
 (putAt Wc r 0 u q').heap[D]? =some (.deferred (some []))/\W.heap.size<=((putAt Wc r 0 u q').putObj D (.deferred none)).heap.size/\Sh5 ((putAt Wc r 0 u q').putObj D (.deferred none)) r 0 u q'/\
 (∀g c,g < W.heap.size->g≠r->((putAt Wc r 0 u q').putObj D (.deferred none)).cell? ⟨g,c,none⟩=W.cell? ⟨g,c,none⟩)/\ ∀n0,n0<=r->n0<=D->Below n0 W ((putAt Wc r 0 u q').putObj D (.deferred none)):=by
 have hDl:=(Array.getElem?_eq_some_iff.1 hD).1;have h1: (putAt Wc r 0 u q').heap[D]? =some (.deferred (some [])):=(Z4V _ _ _ _ _ (Ne.symm hne)).trans ((hbd.block D hDl).trans hD);have hs:=Z4U Wc r 0 u q';have hsz:=hbd.size;have H5:=Y1 (Z2c (s:=u) (q:=q') hz);have hXc:Hid (∀g c,g≠r->(putAt Wc r 0 u q').cell? ⟨g,c,none⟩=Wc.cell? ⟨g,c,none⟩):=Y1 (fun g c hg=>Z0S _ _ _ _ _ (fun h=>hg h.1.symm));have hXb:Hid (∀n0,n0<=r->Below n0 W (putAt Wc r 0 u q')):=Y1 (fun n0 hn=>by
  have h0:Below n0 W Wc:=hbd.mono (by omega);unfold putAt;exact ((((h0.setCell (p:=⟨r,0,none⟩) hn _).setCell (p:=⟨r,1,none⟩) hn _).setCell (p:=⟨r,2,none⟩) hn _).setCell (p:=⟨r,3,none⟩) hn _).setCell (p:=⟨r,4,none⟩) hn _)
 generalize putAt Wc r 0 u q'=X at h1 hs H5 hXc hXb ⊢;have hg:=grownBy_putObj' X D (.deferred none);have h2: (X.putObj D (.deferred none)).heap[D]? =some (.deferred none):=by
  simp only[World.putObj,Array.getElem?_setIfInBounds];rw[if_pos True.intro,if_pos (by omega)]
 generalize X.putObj D (.deferred none)=Y at hg h2 ⊢;have hgz:=hg.size;have far: ∀g,g≠D->g < W.heap.size->Y.heap[g]? =X.heap[g]? :=fun g hgD hgl=>hg.block g (by omega) (fun e=>hgD (Option.some.inj e));refine ⟨h1,by omega,H5.out.of (fun c=>World.cell?_of_block (w:=X) (far r (Ne.symm hne) hr)),fun g c hgl hgr=> ?_,fun n0 hn hnD=> ?_⟩
 {by_cases e:g=D
  {subst e;simp[World.cell?,h2,hD]}
  {refine (World.cell?_of_block (w:=X) (far g e hgl)).trans ?_;exact (hXc.out g c hgr).trans (hbd.cell (p:=⟨g,c,none⟩) hgl)}}
 {have hb:=hXb.out n0 hn;exact ⟨hg.os.trans hb.os,hg.tape.trans hb.tape,hg.output.trans hb.output,Nat.le_trans hb.size hg.size,fun x hx=>(far x (by omega) (by omega)).trans (hb.block x hx)⟩}
end
section
open Go.RowKit Shp
open Expd (Bd fill keys find put)
attribute [local go_sem] Oper.semAt_some
def fdW (w:World) (t:Sh) (q:Ptr):World:=(w.alloc (.cells (Y8 t q) 25)).alloc (.cells Yb 25)
theorem ZbU (w:World) (t:Sh) (q:Ptr) (k:Nat): (fdW w t q).frozen? ⟨w.heap.size,k,none⟩=false:=by
 unfold fdW;rw[frozen?_alloc_cells,frozen?_alloc_cells];simp[World.frozen?]
def Zc4 (W:World) (h:Nat):Prop:=W.cell? ⟨h,0,none⟩=some (.int .i64 0)/\W.cell? ⟨h,1,none⟩=some (.string ⟨#[]⟩)/\W.cell? ⟨h,2,none⟩=some (.string ⟨#[]⟩)/\W.cell? ⟨h,3,none⟩=some (.slice none 0 0)/\W.cell? ⟨h,4,none⟩=some (.slice none 0 0)
def Res0 (W:World) (h:Nat):Prop:=Zc4 W h/\ ∀k,W.frozen? ⟨h,k,none⟩=false
theorem Z5j (w:World) (t:Sh) (q:Ptr):Res0 (fdW w t q) (w.heap.size+1):=by
 refine ⟨⟨by simp[fdW,go_sem],by simp[fdW,go_sem],by simp[fdW,go_sem],by simp[fdW,go_sem],by simp[fdW,go_sem]⟩,fun k=> ?_⟩;unfold fdW;rw[frozen?_alloc_cells,frozen?_alloc_cells];simp[World.frozen?]
theorem Res0.of {W W':World} {h:Nat} (H:Res0 W h) (hc: ∀k,W'.cell? ⟨h,k,none⟩=W.cell? ⟨h,k,none⟩) (hf: ∀k,W'.frozen? ⟨h,k,none⟩=W.frozen? ⟨h,k,none⟩):Res0 W' h:=by
 obtain ⟨⟨z0,z1,z2,z3,z4⟩,z⟩:=H;exact ⟨⟨(hc 0).trans z0,(hc 1).trans z1,(hc 2).trans z2,(hc 3).trans z3,(hc 4).trans z4⟩,fun k=>(hf k).trans (z k)⟩
theorem Res0.keep {W W':World} {h B:Nat} (H:Res0 W h) (hb:Below B W W') (hh:h < B):Res0 W' h:=H.of (fun k=>hb.cell (p:=⟨h,k,none⟩) hh) (fun k=>hb.frozen (p:=⟨h,k,none⟩) hh)
abbrev bdC (b:Bd) (q:Ptr):Array Value:=#[.string ⟨b.of_.toArray⟩,.string ⟨b.name.toArray⟩,.int .i64 b.sh.kind,.string ⟨b.sh.of_.toArray⟩,.string ⟨b.sh.name.toArray⟩,.slice q.A b.sh.names.length q.c,.slice q.P b.sh.parts.length q.d]
theorem Z4k (t:Sh) (q:Ptr) (L:List Bd) (A:Option Addr) (cap:Nat) (w:World) (hq:ShAt w w.heap.size q t) (hz:size t<=400) (hr:right t=true) (hL:BdsAt w w.heap.size A L) (hl:L.length<=1000):
 Calls Tryd.prog 21 #[shV t q,.slice A L.length cap] w fun e w'=> ∃(u:Sh) (q':Ptr) (ok:Bool),e= .returned (.tuple #[shV u q',.bool ok])/\ok=(put (find L) t).isSome/\(ok=true->put (find L) t=some u)/\ShAt w' w'.heap.size q' u/\Below w.heap.size w w':=by
 have hb0:Below w.heap.size w (fdW w t q):=Z0i (Z00 _ _) _;have hz0: (fdW w t q).heap.size=w.heap.size+2:=by simp[fdW]
 have c0:Sh5 (fdW w t q) w.heap.size 0 t q:=⟨by simp[fdW,go_sem],by simp[fdW,go_sem],by simp[fdW,go_sem],by simp[fdW,go_sem],by simp[fdW,go_sem]⟩;have HB0:=Y1 hb0;have HZ0:=Y1 hz0;have HQ:=Y1 (hq.next hb0);have HC0:=Y1 c0;obtain ⟨e0,e1,e2,e3,e4⟩:=c0;have HLL:=Y1 hL;have HR:=Y1 hr;have HSZ:=Y1 hz;have HLN:=Y1 hl;clear hb0 hz0 hq hr hz hL hl;unfold shV;refine (callsIn_wide (n:=6)).1 ?_;refine callsIn_of_wp_marks Tryd.func21 rfl trivial ?_ rfl;simp only[Tryd.ntmps21,List.size_toArray,List.length_cons,List.length_nil,Nat.reduceAdd,Nat.reduceSub,Array.replicate_succ,Array.replicate_zero,List.push_toArray,List.append_toArray,List.nil_append,List.cons_append]
 gi_wp2_with fail
 refine ⟨trivial,callsIn_wide.2 ?_⟩;change Calls _ _ _ (fdW w t q) _;have HS:=Y1 (Z4d t q (fdW w t q) HQ.out HSZ.out HR.out);have HFZ:Hid (∀k,(fdW w t q).frozen? ⟨w.heap.size,k,none⟩=false):=Y1 (ZbU w t q);have HZR:=Y1 (Z5j w t q);generalize fdW w t q=W0 at HB0 HZ0 HQ HC0 HS HFZ HZR e0 e1 e2 e3 e4 ⊢;refine HS.out.mono ?_;rintro e w1 ⟨q1,F,rfl,ho, -,hF,hb1⟩;have hz0:=HZ0.out;have hz1:=hb1.size;obtain ⟨a0,a1,a2,a3,a4⟩:=HC0.out.keep (show w.heap.size < W0.heap.size by omega) hb1;have fz: ∀k,w1.frozen? ⟨w.heap.size,k,none⟩=false:=fun k=>(hb1.frozen (p:=⟨w.heap.size,k,none⟩) (show w.heap.size < W0.heap.size by omega)).trans (HFZ.out k);have f0:=fz 0;have f1:=fz 1;have f2:=fz 2;have f3:=fz 3;have f4:=fz 4;have HO:=Y1 ho;have HF:=Y1 hF;have HB1:=Y1 hb1;have HF1:=Y1 fz;simp only[Nat.zero_add] at a0 a1 a2 a3 a4;clear ho hF hb1 fz e0 e1 e2 e3 e4 HS hz0 hz1 HFZ
 gi_wp2_with fail
 have hput:Sh5 (put5 w1 w.heap.size (.int .i64 t.kind) (.string ⟨t.of_.toArray⟩) (.string ⟨t.name.toArray⟩) (.slice q1.A t.names.length q1.c) (.slice q1.P t.parts.length q1.d)) w.heap.size 0 t q1:=by
  have:=Z2c (W:=w1) (g:=w.heap.size) (o:=0) (s:=t) (q:=q1) (fun k hk=>by
   match k,hk with
   | 0,_=>exact ⟨_,a0⟩
   | 1,_=>exact ⟨_,a1⟩
   | 2,_=>exact ⟨_,a2⟩
   | 3,_=>exact ⟨_,a3⟩
   | 4,_=>exact ⟨_,a4⟩)
  exact this
 have hown:Own (put5 w1 w.heap.size (.int .i64 t.kind) (.string ⟨t.of_.toArray⟩) (.string ⟨t.name.toArray⟩) (.slice q1.A t.names.length q1.c) (.slice q1.P t.parts.length q1.d)) q1 t F:=Z1a HO.out (fun x hx e=>by have:=HF.out x hx; have:=HZ0.out; omega) _ _ _ _ _;have hbel:Below w.heap.size w (put5 w1 w.heap.size (.int .i64 t.kind) (.string ⟨t.of_.toArray⟩) (.string ⟨t.name.toArray⟩) (.slice q1.A t.names.length q1.c) (.slice q1.P t.parts.length q1.d)):=Z0n (Z02 HB0.out HB1.out) (Nat.le_refl _) _ _ _ _ _;have hfz: ∀k,(put5 w1 w.heap.size (.int .i64 t.kind) (.string ⟨t.of_.toArray⟩) (.string ⟨t.name.toArray⟩) (.slice q1.A t.names.length q1.c) (.slice q1.P t.parts.length q1.d)).frozen? ⟨w.heap.size,k,none⟩=false:=fun k=>by
  unfold put5; simp only[World.frozen?_setCell]; exact HF1.out k
 have hsz:w1.heap.size=(put5 w1 w.heap.size (.int .i64 t.kind) (.string ⟨t.of_.toArray⟩) (.string ⟨t.name.toArray⟩) (.slice q1.A t.names.length q1.c) (.slice q1.P t.parts.length q1.d)).heap.size:=by simp[put5,World.setCell]
 have hres: ∀k,(put5 w1 w.heap.size (.int .i64 t.kind) (.string ⟨t.of_.toArray⟩) (.string ⟨t.name.toArray⟩) (.slice q1.A t.names.length q1.c) (.slice q1.P t.parts.length q1.d)).cell? ⟨w.heap.size+1,k,none⟩=W0.cell? ⟨w.heap.size+1,k,none⟩:=fun k=>by
  have ne: ∀j,(⟨w.heap.size,j,none⟩:Addr)≠⟨w.heap.size+1,k,none⟩:=fun j e=>by simp only[Addr.mk.injEq,and_true] at e; omega
  unfold put5;rw[World.cell?_setCell_other _ _ _ _ (ne 4),World.cell?_setCell_other _ _ _ _ (ne 3),World.cell?_setCell_other _ _ _ _ (ne 2),World.cell?_setCell_other _ _ _ _ (ne 1),World.cell?_setCell_other _ _ _ _ (ne 0)];exact HB1.out.cell (p:=⟨w.heap.size+1,k,none⟩) (by have:=HZ0.out; show w.heap.size+1 < _; omega)
 have hrf: ∀k,(put5 w1 w.heap.size (.int .i64 t.kind) (.string ⟨t.of_.toArray⟩) (.string ⟨t.name.toArray⟩) (.slice q1.A t.names.length q1.c) (.slice q1.P t.parts.length q1.d)).frozen? ⟨w.heap.size+1,k,none⟩=W0.frozen? ⟨w.heap.size+1,k,none⟩:=fun k=>by
  unfold put5; simp only[World.frozen?_setCell];exact HB1.out.frozen (p:=⟨w.heap.size+1,k,none⟩) (by have:=HZ0.out; show w.heap.size+1 < _; omega)
 have hR0:=HZR.out.of hres hrf;have hge:w.heap.size+2<=w1.heap.size:=by have:=HZ0.out; have:=HB1.out.size; omega
 rw[hsz] at hge;clear hres hrf;unfold put5 at hput hown hbel hfz hsz hR0 hge;generalize ((((w1.setCell ⟨w.heap.size,0,none⟩ (.int .i64 t.kind)).setCell ⟨w.heap.size,1,none⟩ (.string ⟨t.of_.toArray⟩)).setCell ⟨w.heap.size,2,none⟩ (.string ⟨t.name.toArray⟩)).setCell ⟨w.heap.size,3,none⟩ (.slice q1.A t.names.length q1.c)).setCell ⟨w.heap.size,4,none⟩ (.slice q1.P t.parts.length q1.d)=W1 at hput hown hbel hfz hsz hR0 hge ⊢;have HPU:=Y1 hput;have HOW:=Y1 hown;have HBE:=Y1 hbel;have HFZ:=Y1 hfz;have HRS:=Y1 hR0;have HGE:=Y1 hge;clear HZR hput hown hbel hfz hR0 hge hsz a0 a1 a2 a3 a4 f0 f1 f2 f3 f4;rw[run_makeMap]
 gi_wp2_with fail
 refine ⟨trivial,callsIn_wide.2 ?_⟩;have hlt:w.heap.size < W1.heap.size:=by have:=HGE.out; omega
 have hFlt:=HOW.out.lt;have hb2:Below W1.heap.size W1 ((W1.alloc (.map #[] 0)).alloc (.cells #[.map (some W1.heap.size)] 69)):=Z0i (Z00 _ _) _;obtain ⟨pl,hPW,hpl1,hpl2⟩:=Zbu (HOW.out.of (fun b hb=>⟨fun k=>hb2.cell (p:=⟨b,k,none⟩) (hFlt b hb),fun k=>hb2.frozen (p:=⟨b,k,none⟩) (hFlt b hb)⟩) hb2.size) w.heap.size 0 hlt hFlt ((HPU.out).keep hlt hb2) HR.out;have hP:=hPW _ (fun _ _ _=>rfl) (fun _=>rfl);have hfz2: ∀e∈pl,∀c,((W1.alloc (.map #[] 0)).alloc (.cells #[.map (some W1.heap.size)] 69)).frozen? ⟨e.2.1,c,none⟩=false:=fun e he c=>by
  refine (hb2.frozen (p:=⟨e.2.1,c,none⟩) (hP.at_ e he).1).trans ?_;rcases hpl2 e he with h | h
  {rw[h]; exact HFZ.out c}
  {exact ZbT HOW.out _ h c}
 have hN:=Z8I _ W1.heap.size w.heap.size 0 t pl hP ((W1.alloc (.map #[] 0)).alloc (.cells #[.map (some W1.heap.size)] 69)) (W1.heap.size+2) W1.heap.size 0 [] (fun _=> .slice none 0 0) (fun _=> []) (fun _ _ _=>rfl) (Nat.le_refl _) (mkGrp W1 _) (by have:=HSZ.out; omega);have c1: ((W1.alloc (.map #[] 0)).alloc (.cells #[.map (some W1.heap.size)] 69)).cell? ⟨W1.heap.size+1,0,none⟩=some (.map (some W1.heap.size)):=by simp[go_sem]
 have hsz2: ((W1.alloc (.map #[] 0)).alloc (.cells #[.map (some W1.heap.size)] 69)).heap.size=W1.heap.size+2:=by simp
 have HN:=Y1 hN;have HP:=Y1 hP;have HPW:=Y1 hPW;have HP2:=Y1 (And.intro hpl1 hpl2);have HFZ2:=Y1 hfz2;have HB2:=Y1 hb2;have HZ2:=Y1 hsz2;have HC1:=Y1 c1;clear hlt hFlt hb2 hP hPW hpl1 hpl2 hfz2 hN c1 hsz2;generalize (W1.alloc (.map #[] 0)).alloc (.cells #[.map (some W1.heap.size)] 69)=Wm at HN HP HPW HFZ2 HB2 HZ2 HC1 ⊢;refine HN.out.mono ?_;rintro e W2 ⟨rfl,S,m,hG,hS,hU⟩;have hbm:Below W1.heap.size Wm W2:=⟨hU.os,hU.tape,hU.output,hU.size,fun x hx=>hU.block x (by have:=HZ2.out; omega) (by omega) nofun⟩;have c2:=(hU.cell (g:=W1.heap.size+1) (k:=0) (by have:=HZ2.out; omega) (by omega) nofun).trans HC1.out;have HG:=Y1 hG;have HS2:=Y1 hS;have HBM:=Y1 hbm;have HC2:=Y1 c2;clear hG hS hU hbm c2 HN HC1
 gi_wp2_with fail
 refine ⟨trivial,callsIn_wide.2 ?_⟩;refine (Z5N W2 A L.length cap).mono ?_;rintro e V ⟨rfl,hbx,hsV,hbV⟩;have hw1:w.heap.size<=W1.heap.size:=HBE.out.size;have hw2:W1.heap.size+2<=W2.heap.size:=by have:=HZ2.out; have:=HBM.out.size; omega
 have hbl:Below w.heap.size w V:=((HBE.out.trans (HB2.out.mono hw1)).trans (HBM.out.mono hw1)).trans (hbV.mono (by omega));have hG:=HG.out.keep hbV;have h0:F0 V W1.heap.size (W1.heap.size+2) (0+pl.length) S m (more (fun _=> []) pl):=Zc3 HP.out (HBM.out.trans (hbV.mono (by omega))) hG HFZ2.out;obtain ⟨g,off,qs,hBk⟩: ∃(g off:Nat) (qs:Nat->Ptr),Bk V w.heap.size W2.heap.size A cap L qs g off:=by
  have hll:=HLN.out;rcases HLL.out with h | ⟨g,off,qs,h1,h2,h3⟩
  {exact ⟨0,0,fun _=>q,hbx,by omega,by omega,Or.inl h,fun i hi=>absurd hi (by omega),hll⟩}
  {exact ⟨g,off,qs,hbx,by omega,by omega,Or.inr ⟨h1,h2⟩,fun i hi=>(h3 i hi).of (Nat.le_refl _) h2 (fun g k hg=>hbl.cell (p:=⟨g,k,none⟩) hg),hll⟩}
 have c3:=(hbV.cell (p:=⟨W1.heap.size+1,0,none⟩) (show W1.heap.size+1 < W2.heap.size by omega)).trans HC2.out;have H0:=Y1 h0;have HBK:=Y1 hBk;have HBL:=Y1 hbl;have HC3:=Y1 c3;have HBV:=Y1 hbV;have HSV:=Y1 hsV;have hps: ∀k,∀p∈more (fun _=> []) pl k,w.heap.size<=p.1/\p.1≠w.heap.size+1:=fun k p hp=>by
  rcases HP2.out.2 _ (Z1C.1 hp) with h | h
  {have h:p.1=w.heap.size:=h;omega}
  {have:=HF.out _ h;have:=HZ0.out;show w.heap.size<=p.1/\p.1≠w.heap.size+1;have h1:W0.heap.size<=p.1:=HF.out _ h;omega}
 have hRV:Res0 V (w.heap.size+1):=((HRS.out.keep HB2.out (by have:=HGE.out; omega)).keep HBM.out (by have:=HGE.out; omega)).keep hbV (by have:=HGE.out; omega);have hPV:=HP.out.of (Nat.le_refl _) (fun g k hg=>(HBM.out.trans (hbV.mono (by omega))).cell (p:=⟨g,k,none⟩) hg);have hSk: ∀x,x∈S ↔ x∈keys t:=fun x=>by rw[HS2.out, <-HP.out.keys]; simp
 have HPS:=Y1 hps;have HRV:=Y1 hRV;have HPV:=Y1 hPV;have HSK:=Y1 hSk;have HW:=Y1 (And.intro hw1 hw2);clear hbx hsV hbV hw1 hw2 hbl hG h0 hBk c3 HC2 HG hps hRV hPV hSk
 gi_wp2_with fail
 refine wpIn_rangeFunc_ownH rfl (by omega) (gf:=51) (lb:=#[.pointer (some ⟨W2.heap.size,0,none⟩)]) rfl trivial (enters_of Tryd.func51 (by kernel_rfl) rfl)
  (Zb6 5 (by omega) V w.heap.size W2.heap.size A cap L qs g off HBK.out) (fun h k=>h.trans k) ?kb Y2 (fun _=>rfl)
  (fun pre W=>FJ V W1.heap.size (W1.heap.size+2) (0+pl.length) S m (more (fun _=> []) pl) (lkL L qs pre) W)
  (fun c pre W=>c= .exit 0/\ ∃pre0 x,pre=pre0++ [x]/\FJ V W1.heap.size (W1.heap.size+2) (0+pl.length) S m (more (fun _=> []) pl) (lkL L qs pre0) W/\(S.filter fun k=>(lkL L qs pre0 k).isNone)= [])
  ?oI ?oIx (H0.out.start) (fun x a' W=> ∃Bx,V.heap.size<=Bx/\W.heap[Bx]? =some (.cells (bdC (L.getD x noBd) (qs x)) 54)/\a'= { tmps:=#[.agg (Y8 t q),.slice A L.length cap,.pointer (some ⟨w.heap.size,0,none⟩),undef,.pointer (some ⟨w.heap.size+1,0,none⟩),.bool false,.pointer (some ⟨W1.heap.size+1,0,none⟩),undef,.pointer (some ⟨Bx,0,none⟩),
   .agg (Y8 t q),.agg (Y8 t q1),.map (some W1.heap.size),.agg #[.map (some W1.heap.size)],.agg #[.map (some W1.heap.size)],.tuple #[],.slice A L.length cap,.func (.func 51) #[] #[.pointer (some ⟨W2.heap.size,0,none⟩)],.int .i64 (x:Int),bdV (L.getD x noBd) (qs x),undef,undef,undef,undef,undef,undef,undef,undef,undef,undef,undef,undef,undef,undef],defers:= [] }) ?oAx ?assign ?body ?done ?stop
 case kb=>
  have h1:=HBL.out.size;have h2:=HSV.out;intro W l o o' hl ho hc hwk;exact ⟨belowK_b (w:=V) h1 W l o o' hl ho hc hwk,(grownBy_putObj' W l o').block W2.heap.size (by have:=(Array.getElem?_eq_some_iff.1 ho).1; omega) (fun e=>by cases e; omega)⟩
 case oI=>exact fun pre X Y row hs hg hr=>hs.grown H0.out hg (fun r e=>(hr r e).1)
 case oIx=>exact fun c pre X Y row ⟨h1,pre0,x,h2,h3,h4⟩ hg hr=>⟨h1,pre0,x,h2,h3.grown H0.out hg (fun r e=>(hr r e).1),h4⟩
 case oAx=>
  intro x a' _ X Y row ⟨Bx,h1,h2,h3⟩ hg hr;refine ⟨Bx,h1,(hg.block Bx (Array.getElem?_eq_some_iff.1 h2).1 (fun e=> ?_)).trans h2,h3⟩;obtain ⟨_,o,ho,hc⟩:=hr Bx e.symm;rw[h2] at ho;cases ho;cases hc
 case assign=>
  rintro l pre x W K hI hK;generalize hbk:L.getD x noBd=bk at hK ⊢
  gi_wp2
  have hb:=Z00 W (.cells (bdC bk (qs x)) 54);exact hK _ _ (Z2x _ hb) ⟨hb.mono (by have:=HBL.out.size; have:=hI.fi.size; omega),hb.block _ (by have:=hI.fi.size; have:=HSV.out; omega)⟩ (hI.next H0.out hb) ⟨W.heap.size,hI.fi.size,World.alloc_heap_new W _,rfl⟩
 case body=>
  rintro l pre x a' W hl hrec hI ⟨Bx,hBx,hbx,rfl⟩ hlt;have c3:=(hI.cell (x:=W1.heap.size+1) (by have:=HSV.out; have:=HW.out.2; omega) (by omega) (fun k p hp=>by have:=H0.out.pl k p hp; omega) 0).trans HC3.out;generalize hbk:L.getD x noBd=bk at hbx ⊢
  gi_wp2_with fail
  refine ⟨trivial,CallsIn.inRound l (callsIn_wide.2 ?_)⟩;refine (Z4i W W1.heap.size (0+pl.length) _ m hI.gr.mp).mono ?_;rintro e Wc ⟨rfl,hbc⟩;have hIc:=hI.next H0.out hbc;have hkc:=Z2x V.heap.size hbc;have hzW:=hI.fi.size;have hzV:=HSV.out;have hzw:=HBL.out.size;have hbkc:BkK w.heap.size W2.heap.size W Wc:=⟨hbc.mono (by omega),hbc.block _ (by omega)⟩;have c4:=(hbc.cell (p:=⟨W1.heap.size+1,0,none⟩) (show W1.heap.size+1 < W.heap.size by have:=HW.out.2; omega)).trans c3;have hxb:=(hbc.block Bx (Array.getElem?_eq_some_iff.1 hbx).1).trans hbx;by_cases hcl: (S.filter fun k=>(lkL L qs pre k).isNone)= []
  {rw[decide_eq_true hcl];clear hrec hbx c3 hbc hxb hbkc
   gi_wp2
   exact ⟨hkc,rfl,pre,x,rfl,hIc,hcl⟩}
  {rw[decide_eq_false hcl];have b0:Wc.cell? ⟨Bx,0,none⟩=some (.string ⟨bk.of_.toArray⟩):=by simp[World.cell?,hxb]
   have b1:Wc.cell? ⟨Bx,1,none⟩=some (.string ⟨bk.name.toArray⟩):=by simp[World.cell?,hxb]
   have b2:Wc.cell? ⟨Bx,2,none⟩=some (.int .i64 bk.sh.kind):=by simp[World.cell?,hxb]
   have b3:Wc.cell? ⟨Bx,3,none⟩=some (.string ⟨bk.sh.of_.toArray⟩):=by simp[World.cell?,hxb]
   have b4:Wc.cell? ⟨Bx,4,none⟩=some (.string ⟨bk.sh.name.toArray⟩):=by simp[World.cell?,hxb]
   have b5:Wc.cell? ⟨Bx,5,none⟩=some (.slice (qs x).A bk.sh.names.length (qs x).c):=by simp[World.cell?,hxb]
   have b6:Wc.cell? ⟨Bx,6,none⟩=some (.slice (qs x).P bk.sh.parts.length (qs x).d):=by simp[World.cell?,hxb]
   have HIC:=Y1 hIc;have HKC:=Y1 hkc;have HBKC:=Y1 hbkc;have HZZ:=Y1 (And.intro hzW (And.intro hzV hzw));have HZC:=Y1 hbc.size;clear hrec hbx c3 hbc hxb hbkc hIc hkc hI hzW hzV hzw
   gi_wp2_with fail
   have hfine:Fine (bk.of_,bk.name):=by
    rw[<-hbk];by_cases hxl:x < L.length
    {have:=(HBK.out.cells x hxl).2.2.2.2;rw[show L.getD x noBd=L[x]'hxl by simp[hxl]];exact this}
    {rw[show L.getD x noBd=noBd by simp[hxl]];exact ⟨by simp,by simp⟩}
   have hplen:0+pl.length<=1000:=by have:=HP2.out.1; have:=HSZ.out; omega
   refine ⟨trivial,CallsIn.inRound l (callsIn_wide.2 ?_)⟩;refine (Zaa Wc (W1.heap.size+2) W1.heap.size (0+pl.length) _ m _ (bk.of_,bk.name) bk.sh (qs x) hfine hplen HIC.out.gr (HIC.out.asks H0.out _)).mono ?_;rintro e Wf ⟨rfl,hgf,hff⟩;have hstep:=HIC.out.step H0.out hgf hff;have hask: ∀p∈(if (lkL L qs pre (bk.of_,bk.name)).isSome then [] else more (fun _=> []) pl (bk.of_,bk.name)),p.1 < W1.heap.size/\w.heap.size<=p.1:=fun p hp=>by
    refine ⟨(HIC.out.asks H0.out _ p hp).1, ?_⟩;by_cases e: (lkL L qs pre (bk.of_,bk.name)).isSome=true
    {rw[if_pos e] at hp; cases hp}
    {rw[if_neg e] at hp; exact (HPS.out _ p hp).1}
   have hkf:=Z5i (B:=V.heap.size) hff H0.out.bV (fun p hp=>(hask p hp).1);have hzz:=HZZ.out;have hzc:=HZC.out;have hww:=HW.out;have hbf:BkK w.heap.size W2.heap.size Wc Wf:=⟨⟨hff.os,hff.tape,hff.output,hff.size,fun y hy=>hff.block y (by omega) (by omega) (fun p hp=>by have:=(hask p hp).2; omega)⟩,hff.block _ (by omega) (by omega) (fun p hp=>by have:=(hask p hp).1; omega)⟩;have HST:=Y1 hstep;have HKF:=Y1 (HKC.out.trans hkf);have HBF:=Y1 (HBKC.out.trans hbf);clear hstep hgf hff hkf hbf hask hfine b0 b1 b2 b3 b4 b5 b6
   gi_wp2
   refine ⟨HKF.out,HBF.out, ?_⟩;show FJ V W1.heap.size (W1.heap.size+2) (0+pl.length) S m (more (fun _=> []) pl) (lkL L qs (pre++ [x])) Wf;rw[Zb9,hbk];exact HST.out}
 all_goals first
  | (
   rintro D xs W hD rfl hI hK;obtain ⟨k0,hI,han⟩: ∃k0,FJ V W1.heap.size (W1.heap.size+2) (0+pl.length) S m (more (fun _=> []) pl) (lkL L qs (downTo L.length k0)) W/\Ans S t L qs k0:=⟨0,by rw[Z2I]; exact hI,answer HSK.out (Or.inl rfl)⟩)
  | (
   rintro D c pre W hD ⟨k0,hk0,rfl⟩ ⟨rfl,pre0,x,hpre,hI,hcl⟩ hK;obtain rfl:pre0=downTo L.length (k0+1):=by
    rw[Z4j hk0] at hpre;exact ((List.append_inj' hpre rfl).1).symm
   obtain ⟨k0,hI,han⟩: ∃k0,FJ V W1.heap.size (W1.heap.size+2) (0+pl.length) S m (more (fun _=> []) pl) (lkL L qs (downTo L.length k0)) W/\Ans S t L qs k0:=⟨k0+1,hI,answer HSK.out (Or.inr hcl)⟩;clear hcl hpre hk0)
 all_goals
  have hzW:=hI.fi.size;have hzV:=HSV.out;have hzw:=HBL.out.size;have hww:=HW.out;have hge:=HGE.out;have hlow:=hI.low (n0:=w.heap.size) hzw hww.1 (fun k p hp=>(HPS.out k p hp).1);obtain ⟨q',hs5,hat⟩:=Z5v (hI.fi.read (by omega) (Nat.le_refl _)) (by omega) hww.1 (fun j hj=>(HBK.out.cells j hj).2.2.2.1.of (Nat.le_refl _) (fun g c hg=>hlow.cell (p:=⟨g,c,none⟩) hg)) HPV.out;have hbV:=HBM.out.trans (HBV.out.mono (by omega));have hend: ∀Wf:World,W.heap.size<=Wf.heap.size->(∀g c,g < W.heap.size->g≠w.heap.size+1->Wf.cell? ⟨g,c,none⟩=W.cell? ⟨g,c,none⟩)->ShAt Wf Wf.heap.size q' (fill (fun o n=>(lkL L qs (downTo L.length k0) (o,n)).map Prod.fst) t):=fun Wf hz hc=>by
   obtain ⟨o,ho⟩: ∃o,Wf.heap[w.heap.size+1]? =some o:=⟨Wf.heap[w.heap.size+1]'(by omega),Array.getElem?_eq_getElem (by omega)⟩;have e1: (V.putObj (w.heap.size+1) o).heap[w.heap.size+1]? =some o:=by
    simp only[World.putObj,Array.getElem?_setIfInBounds];rw[if_pos True.intro,if_pos (by omega)]
   have e2: ∀g,g≠w.heap.size+1->(V.putObj (w.heap.size+1) o).heap[g]? =V.heap[g]? :=fun g hg=>by
    simp only[World.putObj,Array.getElem?_setIfInBounds];rw[if_neg (fun e=>hg e.symm)]
   have c1: ∀c,(V.putObj (w.heap.size+1) o).cell? ⟨w.heap.size+1,c,none⟩=Wf.cell? ⟨w.heap.size+1,c,none⟩:=fun c=>World.cell?_of_block (w:=Wf) (e1.trans ho.symm);have c2: ∀g c,g≠w.heap.size+1->(V.putObj (w.heap.size+1) o).cell? ⟨g,c,none⟩=V.cell? ⟨g,c,none⟩:=fun g c hg=>World.cell?_of_block (w:=V) (e2 g hg);have hF2: ∀x∈F,x≠w.heap.size+1:=fun x hx e=>by have:=HF.out x hx; have:=HZ0.out; omega
   have hFl: ∀x∈F,x < W1.heap.size:=fun x hx=>HOW.out.lt x hx;have hP2:=HPW.out (V.putObj (w.heap.size+1) o) (fun x hx k=>(c2 x k (hF2 x hx)).trans (hbV.cell (p:=⟨x,k,none⟩) (hFl x hx))) (fun k=>(c2 _ k (by omega)).trans (hbV.cell (p:=⟨w.heap.size,k,none⟩) (show w.heap.size < W1.heap.size by omega)));have hR2:FlR W1.heap.size (V.putObj (w.heap.size+1) o) Wf (more (fun _=> []) pl) (lkL L qs (downTo L.length k0)):=⟨fun g c hg hp=>by
    by_cases e:g=w.heap.size+1
    {subst e; exact (c1 c).symm}
    · exact (hc g c (by omega) e).trans ((hI.fi.cell g c (by omega) (by omega) hp).trans (c2 g c e).symm),
    fun k s q e p hp=>(hI.fi.put k s q e p hp).of (fun c=>hc p.1 c (by have:=H0.out.lt k p hp; omega) (HPS.out k p hp).2)⟩
   obtain ⟨q2,h52,hat2⟩:=Z5v hR2 (by omega) hww.1 (fun j hj=>(HBK.out.cells j hj).2.2.2.1.of (Nat.le_refl _) (fun g c hg=>(hc g c (by omega) (by omega)).trans (hlow.cell (p:=⟨g,c,none⟩) hg))) hP2;have:=Zba hs5 h52 (fun c=>hc _ c (by omega) (by omega));subst this;exact hat2
  clear hat hbV;have c4:=(hI.cell (x:=W1.heap.size+1) (by omega) (by omega) (fun k p hp=>by have:=H0.out.pl k p hp; omega) 0).trans HC3.out;have hR:Res0 W (w.heap.size+1):=HRV.out.of (fun k=>hI.cell (by omega) (by omega) (fun k p hp=>(HPS.out k p hp).2) k) (fun k=>hI.fi.fz _ k (by omega) (by omega));have hmp:=hI.gr.mp;obtain ⟨a1,a2⟩:=han;have hcw: ∀W',W'.heap[W1.heap.size]? =W.heap[W1.heap.size]? ->Calls Tryd.prog 33 #[.agg #[.map (some W1.heap.size)]] W' fun e W''=>e= .returned (.bool (put (find L) t).isSome)/\Below W'.heap.size W' W'':=fun W' h=>by
   rw[<-a1]; exact Z4i W' W1.heap.size (0+pl.length) _ m (hmp.same h)
  have HCW:=Y1 hcw;generalize hdc: (put (find L) t).isSome=dc at HCW a2;have HDC:=Y1 hdc;clear hdc;generalize fill (fun o n=>(lkL L qs (downTo L.length k0) (o,n)).map Prod.fst) t=u at hs5 hend a2;clear a1;obtain ⟨s0,s1,s2,s3,s4⟩:=hs5;simp only[Nat.zero_mul,Nat.zero_add] at s0 s1 s2 s3 s4;have HEND:=Y1 hend;have HRW:=Y1 hR;have HLW:=Y1 (HBL.out.trans hlow);have HAN:=Y1 a2;have HD:=Y1 hK;have HZA:=Y1 (And.intro hzW (And.intro hzV (And.intro hzw (And.intro hww hge))));have r0:=hR.1.1;have r1:=hR.1.2.1;have r2:=hR.1.2.2.1;have r3:=hR.1.2.2.2.1;have r4:=hR.1.2.2.2.2;have y0:=hR.2 0;have y1:=hR.2 1;have y2:=hR.2 2;have y3:=hR.2 3;have y4:=hR.2 4;have HS5:Hid (Sh5 W w.heap.size 0 u q'):=Y1 ⟨s0,s1,s2,s3,s4⟩;clear hend hR hlow hI hK hzW hzV hzw hww hge a2 hmp hcw;have hmx:Tryd.prog.follows .mixedOrders=true:=by kernel_rfl
  gi_wp2_with fail
  refine wpIn_region_any (by assumption) ?_;change wpAnyIn _ _ _ _ _ _ _ _ _ (World.drew _);refine wpAnyIn_ready (rs:= [0,1]) (by kernel_rfl) (by simp) ?_;refine AllReadyIn.cons rfl (fun K hK=> ?_) (AllReadyIn.cons rfl (fun K hK=> ?_) AllReadyIn.nil)
  {go_simp;refine hK _ _ ?_;clear hK K;refine wpAnyIn_ready (rs:= [1]) (by kernel_rfl) (by simp) ?_;refine AllReadyIn.cons rfl (fun K hK=> ?_) AllReadyIn.nil;go_simp;refine hK _ _ ?_;clear hK K;refine wpAnyIn_ready (rs:= [2]) (by kernel_rfl) (by simp) ?_;refine AllReadyIn.cons rfl (fun K hK=> ?_) AllReadyIn.nil;go_simp
   gi_wp2_with fail
   refine ⟨trivial,callsIn_wide.2 ?_⟩;refine (HCW.out W.drew rfl).mono ?_;rintro e Wc ⟨rfl,hbc⟩;obtain ⟨hz1,hz2,hz3,hz4,hz5⟩:=HZA.out;have hbd:Below W.heap.size W Wc:=(Below.refl _ W).drew.trans hbc;obtain ⟨s0,s1,s2,s3,s4⟩:=HS5.out.keep (show w.heap.size < W.heap.size by omega) hbd;obtain ⟨⟨r0,r1,r2,r3,r4⟩,rf⟩:=HRW.out.keep hbd (show w.heap.size+1 < W.heap.size by omega);have y0:=rf 0;have y1:=rf 1;have y2:=rf 2;have y3:=rf 3;have y4:=rf 4;have HBD:=Y1 hbd;clear hz1 hz2 hz3 hz4 hz5 hbc rf hbd;simp only;refine hK _ _ ?_;clear hK K;refine wpAnyIn_ready (rs:= [3]) (by kernel_rfl) (by simp) ?_;refine AllReadyIn.cons rfl (fun K hK=> ?_) AllReadyIn.nil;go_simp;refine hK _ _ ?_;clear hK K;refine wpAnyIn_ready (rs:= [4]) (by kernel_rfl) (by simp) ?_;refine AllReadyIn.cons rfl (fun K hK=> ?_) AllReadyIn.nil;go_simp;refine hK _ _ ?_;clear hK K;refine wpAnyIn_done (by kernel_rfl) ?_ _
   gi_wp2
   obtain ⟨hz1,hz2,hz3,hz4,hz5⟩:=HZA.out;have hE:=Z3N (u:=u) (q':=q') HBD.out (show w.heap.size+1 < W.heap.size by omega) HD.out (fun k hk=>by
    match k,hk with
    | 0,_=>exact ⟨_,r0⟩
    | 1,_=>exact ⟨_,r1⟩
    | 2,_=>exact ⟨_,r2⟩
    | 3,_=>exact ⟨_,r3⟩
    | 4,_=>exact ⟨_,r4⟩) (by omega)
   change bodyPostM _ _ _ _ _ _ _ (putAt Wc (w.heap.size+1) 0 u q');generalize putAt Wc (w.heap.size+1) 0 u q'=Wf at hE ⊢;obtain ⟨g1,g2,⟨p0,p1,p2,p3,p4⟩,g4,g5⟩:=hE;have HAT:=Y1 (HEND.out _ g2 g4);have HFB:=Y1 (HLW.out.trans (g5 w.heap.size (by omega) (by omega)));simp only[Nat.zero_add] at p0 p1 p2 p3 p4;refine ⟨by simp,.inl ⟨_,_,rfl,run_takeDeferred g1, ?_⟩⟩;refine ⟨.tuple #[shV u q',.bool dc], ?_,u,q',dc,rfl,HDC.out.symm,HAN.out,HAT.out,HFB.out⟩;simp[results,Tryd.results21,go_sem,p0,p1,p2,p3,p4]}
  {go_simp;refine hK _ _ ?_;clear hK K;refine wpAnyIn_ready (rs:= [0,2]) (by kernel_rfl) (by simp) ?_;refine AllReadyIn.cons rfl (fun K hK=> ?_) (AllReadyIn.cons rfl (fun K hK=> ?_) AllReadyIn.nil)
   {go_simp;refine hK _ _ ?_;clear hK K;refine wpAnyIn_ready (rs:= [2]) (by kernel_rfl) (by simp) ?_;refine AllReadyIn.cons rfl (fun K hK=> ?_) AllReadyIn.nil;go_simp
    gi_wp2_with fail
    refine ⟨trivial,callsIn_wide.2 ?_⟩;refine (HCW.out W.drew rfl).mono ?_;rintro e Wc ⟨rfl,hbc⟩;obtain ⟨hz1,hz2,hz3,hz4,hz5⟩:=HZA.out;have hbd:Below W.heap.size W Wc:=(Below.refl _ W).drew.trans hbc;obtain ⟨s0,s1,s2,s3,s4⟩:=HS5.out.keep (show w.heap.size < W.heap.size by omega) hbd;obtain ⟨⟨r0,r1,r2,r3,r4⟩,rf⟩:=HRW.out.keep hbd (show w.heap.size+1 < W.heap.size by omega);have y0:=rf 0;have y1:=rf 1;have y2:=rf 2;have y3:=rf 3;have y4:=rf 4;have HBD:=Y1 hbd;clear hz1 hz2 hz3 hz4 hz5 hbc rf hbd;simp only;refine hK _ _ ?_;clear hK K;refine wpAnyIn_ready (rs:= [3]) (by kernel_rfl) (by simp) ?_;refine AllReadyIn.cons rfl (fun K hK=> ?_) AllReadyIn.nil;go_simp;refine hK _ _ ?_;clear hK K;refine wpAnyIn_ready (rs:= [4]) (by kernel_rfl) (by simp) ?_;refine AllReadyIn.cons rfl (fun K hK=> ?_) AllReadyIn.nil;go_simp;refine hK _ _ ?_;clear hK K;refine wpAnyIn_done (by kernel_rfl) ?_ _
    gi_wp2
    obtain ⟨hz1,hz2,hz3,hz4,hz5⟩:=HZA.out;have hE:=Z3N (u:=u) (q':=q') HBD.out (show w.heap.size+1 < W.heap.size by omega) HD.out (fun k hk=>by
     match k,hk with
     | 0,_=>exact ⟨_,r0⟩
     | 1,_=>exact ⟨_,r1⟩
     | 2,_=>exact ⟨_,r2⟩
     | 3,_=>exact ⟨_,r3⟩
     | 4,_=>exact ⟨_,r4⟩) (by omega)
    change bodyPostM _ _ _ _ _ _ _ (putAt Wc (w.heap.size+1) 0 u q');generalize putAt Wc (w.heap.size+1) 0 u q'=Wf at hE ⊢;obtain ⟨g1,g2,⟨p0,p1,p2,p3,p4⟩,g4,g5⟩:=hE;have HAT:=Y1 (HEND.out _ g2 g4);have HFB:=Y1 (HLW.out.trans (g5 w.heap.size (by omega) (by omega)));simp only[Nat.zero_add] at p0 p1 p2 p3 p4;refine ⟨by simp,.inl ⟨_,_,rfl,run_takeDeferred g1, ?_⟩⟩;refine ⟨.tuple #[shV u q',.bool dc], ?_,u,q',dc,rfl,HDC.out.symm,HAN.out,HAT.out,HFB.out⟩;simp[results,Tryd.results21,go_sem,p0,p1,p2,p3,p4]}
   {go_simp
    gi_wp2_with fail
    refine ⟨trivial,callsIn_wide.2 ?_⟩;refine (HCW.out W.drew rfl).mono ?_;rintro e Wc ⟨rfl,hbc⟩;obtain ⟨hz1,hz2,hz3,hz4,hz5⟩:=HZA.out;have hbd:Below W.heap.size W Wc:=(Below.refl _ W).drew.trans hbc;obtain ⟨s0,s1,s2,s3,s4⟩:=HS5.out.keep (show w.heap.size < W.heap.size by omega) hbd;obtain ⟨⟨r0,r1,r2,r3,r4⟩,rf⟩:=HRW.out.keep hbd (show w.heap.size+1 < W.heap.size by omega);have y0:=rf 0;have y1:=rf 1;have y2:=rf 2;have y3:=rf 3;have y4:=rf 4;have HBD:=Y1 hbd;clear hz1 hz2 hz3 hz4 hz5 hbc rf hbd;simp only;refine hK _ _ ?_;clear hK K;refine wpAnyIn_ready (rs:= [0]) (by kernel_rfl) (by simp) ?_;refine AllReadyIn.cons rfl (fun K hK=> ?_) AllReadyIn.nil;go_simp;refine hK _ _ ?_;clear hK K;refine wpAnyIn_ready (rs:= [3]) (by kernel_rfl) (by simp) ?_;refine AllReadyIn.cons rfl (fun K hK=> ?_) AllReadyIn.nil;go_simp;refine hK _ _ ?_;clear hK K;refine wpAnyIn_ready (rs:= [4]) (by kernel_rfl) (by simp) ?_;refine AllReadyIn.cons rfl (fun K hK=> ?_) AllReadyIn.nil;go_simp;refine hK _ _ ?_;clear hK K;refine wpAnyIn_done (by kernel_rfl) ?_ _
    gi_wp2
    obtain ⟨hz1,hz2,hz3,hz4,hz5⟩:=HZA.out;have hE:=Z3N (u:=u) (q':=q') HBD.out (show w.heap.size+1 < W.heap.size by omega) HD.out (fun k hk=>by
     match k,hk with
     | 0,_=>exact ⟨_,r0⟩
     | 1,_=>exact ⟨_,r1⟩
     | 2,_=>exact ⟨_,r2⟩
     | 3,_=>exact ⟨_,r3⟩
     | 4,_=>exact ⟨_,r4⟩) (by omega)
    change bodyPostM _ _ _ _ _ _ _ (putAt Wc (w.heap.size+1) 0 u q');generalize putAt Wc (w.heap.size+1) 0 u q'=Wf at hE ⊢;obtain ⟨g1,g2,⟨p0,p1,p2,p3,p4⟩,g4,g5⟩:=hE;have HAT:=Y1 (HEND.out _ g2 g4);have HFB:=Y1 (HLW.out.trans (g5 w.heap.size (by omega) (by omega)));simp only[Nat.zero_add] at p0 p1 p2 p3 p4;refine ⟨by simp,.inl ⟨_,_,rfl,run_takeDeferred g1, ?_⟩⟩;refine ⟨.tuple #[shV u q',.bool dc], ?_,u,q',dc,rfl,HDC.out.symm,HAN.out,HAT.out,HFB.out⟩;simp[results,Tryd.results21,go_sem,p0,p1,p2,p3,p4]}}
end
section
open Go.RowKit Shp
open Expd (Bd fill keys find put Z0W)
def ResIs (w:World) (L:List Bd) (t:Sh) (e:Ending) (w':World):Prop:=
 ∃q',e= .returned (.tuple #[shV (Expd.resolve L t).1 q',.int .i64 (Expd.resolve L t).2])/\ShAt w' w'.heap.size q' (Expd.resolve L t).1/\Below w.heap.size w w'
theorem Z5l (w:World) (B:Nat):ShAt w B ⟨none,0,none,0⟩ Z0W:=by
 refine .mk _ _ 0 0 (fun _=>⟨none,0,none,0⟩) ⟨?_, ?_, ?_, ?_, ?_, ?_, ?_,fun _=>rfl,fun _=>rfl⟩ (Or.inl rfl) (Or.inl rfl) (fun i h=>absurd h (by simp[Z0W])) (fun i h=>absurd h (by simp[Z0W])) <;> simp[Z0W]
theorem Z13 (t:Sh) (q:Ptr) (L:List Bd) (A:Option Addr) (cap:Nat) (w:World) (hq:ShAt w w.heap.size q t) (hL:BdsAt w w.heap.size A L) (hl:L.length<=1000) (hg:WGlobs w):
 Calls Tryd.prog 9 #[shV t q,.slice A L.length cap] w (ResIs w L t):=by
 have hb0:Below w.heap.size w (fdW w t q):=Z0i (Z00 _ _) _;have c0:Sh5 (fdW w t q) w.heap.size 0 t q:=⟨by simp[fdW,go_sem],by simp[fdW,go_sem],by simp[fdW,go_sem],by simp[fdW,go_sem],by simp[fdW,go_sem]⟩;have hz0:w.heap.size+1 < (fdW w t q).heap.size:=by simp[fdW]
 have HB0:=Y1 hb0;have HZ0:=Y1 hz0;have HQ:=Y1 (hq.next hb0);have HC0:=Y1 c0;have HR0:=Y1 (Z5j w t q);have HLL:=Y1 (hL.next hb0);have HG:=Y1 (hg.next hb0);have HLN:=Y1 hl;obtain ⟨e0,e1,e2,e3,e4⟩:=c0;clear hb0 hq hL hl hg hz0;unfold shV;go_enter Tryd.func9,Tryd.ntmps9
 go_wp2_with fail
 change Calls _ _ _ (fdW w t q) _;generalize fdW w t q=W0 at HB0 HZ0 HQ HC0 HR0 HLL HG e0 e1 e2 e3 e4 ⊢;refine (Z1g t q W0 HQ.out HG.out).mono ?_;rintro e W1 ⟨rfl,hb1⟩;have hz1:=hb1.size;have HB1:=Y1 (HB0.out.trans (hb1.mono (by have:=HB0.out.size; omega)));have hR1:=HR0.out.keep hb1 HZ0.out;have HC1:=Y1 (HC0.out.keep (show w.heap.size < W0.heap.size by have:=HZ0.out; omega) hb1);have HQ1:=Y1 (HQ.out.next hb1);have HL1:=Y1 (HLL.out.next hb1);have HG1:=Y1 (HG.out.next hb1);have HR1:=Y1 hR1;have HZ1:=Y1 (show w.heap.size+1 < W1.heap.size by have:=HZ0.out; omega);clear hb1 hR1 hz1 e0 e1 e2 e3 e4 HB0 HZ0 HQ HC0 HR0 HLL HG;by_cases hc:check t=0
 {rw[hc];obtain ⟨hz,_,hr⟩:=Z0f hc;have HCK:=Y1 hc;obtain ⟨x0,x1,x2,x3,x4⟩:=HC1.out;simp only[Nat.zero_add] at x0 x1 x2 x3 x4;have HF:=Y1 (Z4k t q L A cap W1 HQ1.out hz hr HL1.out HLN.out);clear hc hz hr;unfold shV at HF
  go_wp2_with fail
  refine HF.out.mono ?_;rintro e W2 ⟨u,q',ok,rfl,hok,hu,hat,hb2⟩;have hb3:=Z02 hb2 (Z00 W2 (.cells (Y8 u q') 25));have hB3:=Z07 W2 u q';have hlt:=Nat.lt_of_lt_of_le HZ1.out hb2.size;have hat3:=hat.next (Z00 W2 (.cells (Y8 u q') 25));have hR2:=HR1.out.keep hb2 HZ1.out;have hR3:=HR1.out.keep hb3 HZ1.out;have hne:w.heap.size+1≠W2.heap.size:=by omega
  have HOK:=Y1 hok;have HU:=Y1 hu;clear hok hu hat hb2 HF x0 x1 x2 x3 x4;simp only;cases ok with
  | false=>
   obtain ⟨W3,hW3⟩: ∃W3,W2.alloc (.cells (Y8 u q') 25)=W3:=⟨_,rfl⟩;rw[hW3] at hR3 hb3;obtain ⟨⟨r0,r1,r2,r3,r4⟩,rf⟩:=hR3;have y0:=rf 0;have y1:=rf 1;have y2:=rf 2;have y3:=rf 3;have y4:=rf 4;have HB3:=Y1 hb3;clear rf hat3 hB3 hb3 hR2;go_wp2;have hn:put (find L) t=none:=by
    have:=HOK.out;cases e:put (find L) t with
    | none=>rfl
    | some y=>rw[e] at this; cases this
   have hr:=Expd.resolve_name HCK.out hn;refine bodyPost_ret (v:= .tuple #[.agg #[.int .i64 0,.string ⟨#[]⟩,.string ⟨#[]⟩,.slice none 0 0,.slice none 0 0],.int .i64 110]) (by simp[results,Tryd.results9,go_sem,r0,r1,r2,r3,r4]) rfl ?_;refine ⟨⟨none,0,none,0⟩, ?_, ?_, ?_⟩
   {rw[hr]; rfl}
   {rw[hr]; exact Z5l _ _}
   {exact Z0n (HB1.out.trans (HB3.out.mono (by have:=HB1.out.size; omega))) (Nat.le_succ _) _ _ _ _ _}
  | true=>
   have hput:=HU.out rfl;have HP:=Y1 hput;have HB3:=Y1 hb3;have HR3:=Y1 hR3;have HA3:=Y1 hat3;have HG3:=Y1 (HG1.out.next hb3);have HBX:=Y1 hB3;obtain ⟨_,⟨b0,b1,b2,b3,b4⟩,_⟩:=hB3;clear hput hb3 hR3 hR2 hat3 HOK HU;have HL3:=Y1 (show w.heap.size+1 < (W2.alloc (.cells (Y8 u q') 25)).heap.size from by simp; omega);have HW2:=Y1 hlt;clear hlt hne
   go_wp2_with fail
   generalize W2.alloc (.cells (Y8 u q') 25)=W3 at HB3 HR3 HA3 HG3 HBX HL3 b0 b1 b2 b3 b4 ⊢;refine (Z1g u q' W3 HA3.out HG3.out).mono ?_;rintro e W4 ⟨rfl,hb4⟩;have hR4:=HR3.out.keep hb4 HL3.out;have HB4:=Y1 ((HB1.out.trans (HB3.out.mono (by have:=HB1.out.size; omega))).trans (hb4.mono (by have:=HB1.out.size; have:=HB3.out.size; omega)));have HA4:=Y1 (HA3.out.next hb4);have HG4:=Y1 (HG3.out.next hb4);have HL4:=Y1 (Nat.lt_of_lt_of_le HL3.out hb4.size);have HR4:=Y1 hR4;clear b0 b1 b2 b3 b4;obtain ⟨_,⟨b0,b1,b2,b3,b4⟩,_⟩:=HBX.out.next hb4;clear hR4 hb4 HB3 HR3 HA3 HG3 HBX HL3;by_cases hcu:check u=0
   {rw[hcu];have HCU:=Y1 hcu;have HS:=Y1 (Z3S u q' W4 HA4.out HG4.out hcu);clear hcu
    go_wp2_with fail
    refine HS.out.mono ?_;rintro e W5 ⟨q5,F5,rfl,ho5,hF5,hb5⟩;obtain ⟨⟨r0,r1,r2,r3,r4⟩,rf⟩:=HR4.out.keep hb5 HL4.out;have y0:=rf 0;have y1:=rf 1;have y2:=rf 2;have y3:=rf 3;have y4:=rf 4;have HO5:=Y1 ho5;have HF5:=Y1 hF5;have HB5:=Y1 (HB4.out.trans (hb5.mono (by have:=HB4.out.size; omega)));obtain ⟨z,hz'⟩: ∃z,z=sorted u:=⟨_,rfl⟩;rw[<-hz'] at HO5 ⊢;have HZ:=Y1 hz';clear rf ho5 hF5 hb5 hz' b0 b1 b2 b3 b4;go_wp2;refine bodyPost_ret (v:= .tuple #[.agg (Y8 z q5),.int .i64 0]) (by simp[results,Tryd.results9,go_sem,r0,r1,r2,r3,r4]) rfl ?_;have hr:=Expd.resolve_ok HCK.out HP.out HCU.out;rw[<-HZ.out] at hr;have h5:=Z1a (b:=w.heap.size+1) HO5.out (fun x hx e=>by have:=HF5.out x hx; have:=HL4.out; omega) (.int .i64 z.kind) (.string ⟨z.of_.toArray⟩) (.string ⟨z.name.toArray⟩) (.slice q5.A z.names.length q5.c) (.slice q5.P z.parts.length q5.d);refine ⟨q5, ?_, ?_, ?_⟩
    {rw[hr]}
    {rw[hr]; exact h5.at_ h5.lt}
    {exact Z0n HB5.out (Nat.le_succ _) _ _ _ _ _}}
   {have hcu': (check u !=0)=true:=by simpa using hcu
    have HCU:=Y1 hcu;obtain ⟨⟨r0,r1,r2,r3,r4⟩,rf⟩:=HR4.out;have y0:=rf 0;have y1:=rf 1;have y2:=rf 2;have y3:=rf 3;have y4:=rf 4;clear rf hcu;go_wp2;refine bodyPost_ret (v:= .tuple #[.agg #[.int .i64 0,.string ⟨#[]⟩,.string ⟨#[]⟩,.slice none 0 0,.slice none 0 0],.int .i64 (check u)]) (by simp[results,Tryd.results9,go_sem,r0,r1,r2,r3,r4]) rfl ?_;have hr:=Expd.resolve_great HCK.out HP.out HCU.out;refine ⟨⟨none,0,none,0⟩, ?_, ?_, ?_⟩
    {rw[hr]; rfl}
    {rw[hr]; exact Z5l _ _}
    {exact Z0n HB4.out (Nat.le_succ _) _ _ _ _ _}}}
 {have hc': (check t !=0)=true:=by simpa using hc
  have HCK:=Y1 hc;obtain ⟨⟨r0,r1,r2,r3,r4⟩,rf⟩:=HR1.out;have y0:=rf 0;have y1:=rf 1;have y2:=rf 2;have y3:=rf 3;have y4:=rf 4;clear rf hc;go_wp2;refine bodyPost_ret (v:= .tuple #[.agg #[.int .i64 0,.string ⟨#[]⟩,.string ⟨#[]⟩,.slice none 0 0,.slice none 0 0],.int .i64 (check t)]) (by simp[results,Tryd.results9,go_sem,r0,r1,r2,r3,r4]) rfl ?_;refine ⟨⟨none,0,none,0⟩, ?_, ?_, ?_⟩
  {rw[Expd.resolve_bad HCK.out]; rfl}
  {rw[Expd.resolve_bad HCK.out]; exact Z5l _ _}
  {exact Z0n HB1.out (Nat.le_succ _) _ _ _ _ _}}
end
end Go.Proofs.YtchklpedlbkgaaaDoor
