/- What the proofs of ExpandDeclares want, part 14. -/
import Derived.Test.YtmeiijjpomcgcaaDoorK0n13
set_option linter.unusedVariables false
set_option linter.unusedSimpArgs false
set_option linter.unusedSectionVars false
set_option maxRecDepth 100000
set_option maxHeartbeats 16000000
namespace Go.Proofs.YtmeiijjpomcgcaaDoor
section
open Go.RowKit Shp Sub SubM
open Expd (Bd)
structure Dx (W:World) (g:Nat) (k:Int) (nm:List UInt8) (t:Sh) (q:Ptr):Prop where
 lt:g < W.heap.size
 c0:W.cell? ⟨g,0,none⟩=some (.int .i64 k)
 c1:W.cell? ⟨g,1,none⟩=some (.string ⟨nm.toArray⟩)
 c2:W.cell? ⟨g,2,none⟩=some (.int .i64 t.kind)
 c3:W.cell? ⟨g,3,none⟩=some (.string ⟨t.of_.toArray⟩)
 c4:W.cell? ⟨g,4,none⟩=some (.string ⟨t.name.toArray⟩)
 c5:W.cell? ⟨g,5,none⟩=some (.slice q.A t.names.length q.c)
 c6:W.cell? ⟨g,6,none⟩=some (.slice q.P t.parts.length q.d)
structure Box5c (W:World) (g:Nat) (t:Sh) (q:Ptr):Prop where
 lt:g < W.heap.size
 c0:W.cell? ⟨g,0,none⟩=some (.int .i64 t.kind)
 c1:W.cell? ⟨g,1,none⟩=some (.string ⟨t.of_.toArray⟩)
 c2:W.cell? ⟨g,2,none⟩=some (.string ⟨t.name.toArray⟩)
 c3:W.cell? ⟨g,3,none⟩=some (.slice q.A t.names.length q.c)
 c4:W.cell? ⟨g,4,none⟩=some (.slice q.P t.parts.length q.d)
theorem Box5c.next {W W':World} {g:Nat} {t:Sh} {q:Ptr} (h:Box5c W g t q) (hb:Below W.heap.size W W'):Box5c W' g t q:=by
 have c:=fun j=>hb.cell (p:=⟨g,j,none⟩) h.lt;exact ⟨Nat.lt_of_lt_of_le h.lt hb.size,(c 0).trans h.c0,(c 1).trans h.c1,(c 2).trans h.c2,(c 3).trans h.c3,(c 4).trans h.c4⟩
theorem Dx.next {W W':World} {g:Nat} {k:Int} {nm:List UInt8} {t:Sh} {q:Ptr} (h:Dx W g k nm t q) {B:Nat} (hb:Below B W W') (hB:g < B):Dx W' g k nm t q:=by
 have c:=fun j=>hb.cell (p:=⟨g,j,none⟩) hB;exact ⟨Nat.lt_of_lt_of_le h.lt hb.size,(c 0).trans h.c0,(c 1).trans h.c1,(c 2).trans h.c2,(c 3).trans h.c3,(c 4).trans h.c4,(c 5).trans h.c5,(c 6).trans h.c6⟩
theorem Z74 (L:List Bd) (A:Option Addr) (cap:Nat) (self:List UInt8) (k:Int) (nm:List UInt8) (t:Sh) (q:Ptr) (r0 r1 r2 r3 r4 r5 r6 r7 r8 r9:Value) (w:World) (hL:BdsAt w w.heap.size A L) (hl:L.length<=60) (hc:L.length<=cap) (hz:A=none->cap=0) (hs: ∀b∈L,size b.sh<=800/\Thin b.sh) (hsf:self.length<=9223372036854775807) (hnm:nm.length<=9223372036854775807) (hq:ShAt w w.heap.size q t) (hg:WGlobs w):
 Calls Tryd.prog 16 #[.slice A L.length cap,.string ⟨self.toArray⟩,.agg #[.int .i64 k,.string ⟨nm.toArray⟩,.int .i64 t.kind,.string ⟨t.of_.toArray⟩,.string ⟨t.name.toArray⟩,.slice q.A t.names.length q.c,.slice q.P t.parts.length q.d,r0,r1,r2,r3,r4,r5,r6,r7,r8,r9]] w fun e w'=> ∃A' c',e= .returned (.tuple #[.slice A' (Expd.declare L self k nm t).1.length c',.int .i64 (Expd.declare L self k nm t).2])/\BdsAt w' w'.heap.size A' (Expd.declare L self k nm t).1/\Below w.heap.size w w':=by
 have hbb:=Z01 w (.cells #[.int .i64 k,.string ⟨nm.toArray⟩,.int .i64 t.kind,.string ⟨t.of_.toArray⟩,.string ⟨t.name.toArray⟩,.slice q.A t.names.length q.c,.slice q.P t.parts.length q.d,r0,r1,r2,r3,r4,r5,r6,r7,r8,r9] 47);have hdx:Dx (w.alloc (.cells #[.int .i64 k,.string ⟨nm.toArray⟩,.int .i64 t.kind,.string ⟨t.of_.toArray⟩,.string ⟨t.name.toArray⟩,.slice q.A t.names.length q.c,.slice q.P t.parts.length q.d,r0,r1,r2,r3,r4,r5,r6,r7,r8,r9] 47)) w.heap.size k nm t q:=by refine ⟨by simp, ?_, ?_, ?_, ?_, ?_, ?_, ?_⟩ <;> simp[go_sem]
 obtain ⟨W0,hW0⟩: ∃W0,w.alloc (.cells #[.int .i64 k,.string ⟨nm.toArray⟩,.int .i64 t.kind,.string ⟨t.of_.toArray⟩,.string ⟨t.name.toArray⟩,.slice q.A t.names.length q.c,.slice q.P t.parts.length q.d,r0,r1,r2,r3,r4,r5,r6,r7,r8,r9] 47)=W0:=⟨_,rfl⟩;rw[hW0] at hbb hdx;have HB:=Y1 hbb;have HD:=Y1 hdx;have HL:=Y1 (hL.next hbb);have HQ:=Y1 (hq.next hbb);have HG:=Y1 (hg.next hbb);have HS:=Y1 hs;have HZ:=Y1 hz;obtain ⟨_,c0,c1,c2,c3,c4,c5,c6⟩:=hdx;clear hbb hL hq hg hs hz;by_cases hk:k≠1/\k≠2
 {have hde:Expd.declare L self k nm t=(L,0):=by unfold Expd.declare; rw[if_pos hk]
  have e1: (k !=1)=true:=by simp[hk.1]
  have e2: (k !=2)=true:=by simp[hk.2]
  rw[hde];clear hk hde;have HF:=Y1 (Z2Z L A cap W0 HL.out (by omega) hc HZ.out HS.out);go_enter Tryd.func16,Tryd.ntmps16
  go_wp2_with fail
  refine HF.out.mono ?_;rintro e w1 ⟨A',c',lN,rfl,hkt⟩;have HK:=Y1 hkt;clear hkt HF;go_wp2;refine bodyPost_ret (v:= .tuple #[.slice A' lN.length c',.int .i64 0]) (by simp[results,Tryd.results16,go_sem]) rfl ?_;exact ⟨A',c',by rw[HK.out.len],HK.out.bds,Z03 HB.out HK.out.up⟩}
 have HR:=Y1 (Z2y t q L A cap W0 HQ.out HL.out (by omega) HG.out);unfold shV at HR;obtain ⟨j,hj⟩: ∃j,j=(Expd.resolve L t).1:=⟨_,rfl⟩;obtain ⟨er,her⟩: ∃er,er=(Expd.resolve L t).2:=⟨_,rfl⟩;have HJ:=Y1 (And.intro hj her);clear hj her;by_cases hk1:k=1
 {obtain rfl:k=1:=hk1;have e1: ((1:Int) !=1)=false:=by decide
  have e2: ((1:Int) !=2)=true:=by decide
  have e3: ((1:Int)==2)=false:=by decide
  clear hk;go_enter Tryd.func16,Tryd.ntmps16
  go_wp2_with fail
  refine HR.out.mono ?_;rintro e v1 ⟨q1,he,hat,hb1⟩;rw[<-HJ.out.1, <-HJ.out.2] at he;rw[<-HJ.out.1] at hat;unfold shV at he;subst he;have hb2:=Z01 v1 (.cells (Y8 j q1) 25);have hbb:=Z03 hb1 hb2;have HXj:=Y1 (Z07 v1 j q1);have HAj:=Y1 (hat.next hb2);obtain ⟨V,hV⟩: ∃W,v1.alloc (.cells (Y8 j q1) 25)=W:=⟨_,rfl⟩;rw[hV] at HXj HAj hbb;have HBV:=Y1 (Z03 HB.out hbb);have HBJ:=Y1 hbb;have HV1:Hid (W0.heap.size<=v1.heap.size):=Y1 hb1.size;have HLV0:Hid (∀W,Below W0.heap.size W0 W->BdsAt W W.heap.size A L):=Y1 (fun W hb=>HL.out.next hb);have HLV:=Y1 (HL.out.next hbb);have HDV:=Y1 (HD.out.next hbb HD.out.lt);have HJN:Hid (j.of_.length<=9223372036854775807):=Y1 hat.small.o;clear hb1 hb2 hbb hat c0 c1 c2 c3 c4 c5 c6 HR;obtain ⟨_,c0,c1,_⟩:=HDV.out;by_cases her0:er=0
  {have e4: (er !=0)=false:=by simp[her0]
   have hde:Expd.declare L self 1 nm t=(L++ [⟨[],nm,j⟩],0):=by
    unfold Expd.declare;rw[if_neg (by decide),if_neg (by rw[<-HJ.out.2]; exact fun h=>h her0)];rw[if_neg (by decide), <-HJ.out.1]
   have HDE:=Y1 hde;clear hde her0
   go_wp2_with fail
   have HX8:Hid (Box5c V v1.heap.size j q1):=Y1 (by obtain ⟨h0,⟨h1,h2,h3,h4,h5⟩,_⟩:=HXj.out; simp only[Nat.zero_add] at h1 h2 h3 h4 h5; exact ⟨h0,h1,h2,h3,h4,h5⟩);clear hV;obtain ⟨ib,hifb,hzb,hsb,hbb7⟩:=Z1o Z1H;refine Z1Z (rs:= [0,1,2,3,4,5,6,7,8,9])
    (fun u'=> { tmps:=#[.slice A L.length cap,.string { data:=self.toArray },.agg #[.int .i64 1,.string { data:=nm.toArray },.int .i64 t.kind,.string { data:=t.of_.toArray },.string { data:=t.name.toArray },.slice q.A t.names.length q.c,.slice q.P t.parts.length q.d,r0,r1,r2,r3,r4,r5,r6,r7,r8,r9],undef,undef,.pointer (some { block:=w.heap.size,off:=0 }),u' 8,u' 9,.pointer (some { block:=v1.heap.size,off:=0 }),.int .i64 er,.pointer (some { block:=w.heap.size,off:=0 }),.int .i64 1,.bool false,.bool false,undef,undef,undef,.bool false,undef,undef,.tuple #[.agg (Y8 j q1),.int .i64 er],.pointer (some { block:=w.heap.size,off:=2 }),.agg (Y8 t q),.slice A L.length cap,.tuple #[.agg (Y8 j q1),.int .i64 er],.agg (Y8 j q1),.int .i64 er,.int .i64 er,.bool false,undef,.pointer (some { block:=w.heap.size,off:=0 }),.int .i64 1,.bool false,undef,undef,undef,undef,u' 0,u' 1,u' 2,u' 3,u' 4,u' 5,u' 6,u' 7],defers:= [] })
    (fun j=>([undef,undef,undef,undef,undef,undef,undef,undef,.slice none 0 0,.int .i64 0]:List Value).getD j undef) (DI V (fun jj=>match jj with | 0=>some (.slice A L.length cap) | 2=>some (.pointer (some ⟨w.heap.size,1,none⟩)) | 3=>some (.string ⟨nm.toArray⟩) | 4=>some (.agg (Y8 j q1)) | 5=>some (.agg #[.string ⟨([]:List UInt8).toArray⟩,.string ⟨nm.toArray⟩,.int .i64 j.kind,.string ⟨j.of_.toArray⟩,.string ⟨j.name.toArray⟩,.slice q1.A j.names.length q1.c,.slice q1.P j.parts.length q1.d]) | 9=>some (.int .i64 0) | _=>none) L ((⟨[],nm,j⟩:Bd),q1)) (by kernel_rfl) (by kernel_rfl) (by kernel_rfl) DI.start ?_ ?_
   refine StepsInv.cons2 _ rfl (fun d u' W K' hs hI hd hw hK=> ?_) ?_
   {refine Z00 (v:= .slice A L.length cap) (W':=W) rfl ?_ (hK.out _ _ (hI.pure (by decide) (fun v' h=>by cases h; rfl)));go_simp}
   refine StepsInv.cons2 _ rfl (fun d u' W K' hs hI hd hw hK=> ?_) ?_
   {have d7:d 7=false:=Z0e hs rfl (by kernel_rfl) hd;have d0:u' 0= .slice A L.length cap:=hI.vals 0 (hw 0 (by kernel_rfl)) _ rfl;refine Z1n (f:=28) (args:=#[.slice A L.length cap]) (W':=W) rfl ?_ ((Z2Z L A cap W (HLV.out.next hI.up) (by omega) hc HZ.out HS.out).mono fun e w' ⟨A',c',lN,he,hkt⟩=>⟨_,he,hK.out _ _ (hI.call rfl d7 hkt)⟩);go_simp}
   refine StepsInv.cons2 _ rfl (fun d u' W K' hs hI hd hw hK=> ?_) ?_
   {refine Z00 (v:= .pointer (some ⟨w.heap.size,1,none⟩)) (W':=W) rfl ?_ (hK.out _ _ (hI.pure (by decide) (fun v' h=>by cases h; rfl)));go_simp}
   refine StepsInv.cons2 _ rfl (fun d u' W K' hs hI hd hw hK=> ?_) ?_
   {have d2:u' 2= .pointer (some ⟨w.heap.size,1,none⟩):=hI.vals 2 (hw 2 (by kernel_rfl)) _ rfl;obtain ⟨_,y0,y1,_⟩:=HDV.out.next hI.up HDV.out.lt;refine Z00 (v:= .string ⟨nm.toArray⟩) (W':=W) rfl ?_ (hK.out _ _ (hI.pure (by decide) (fun v' h=>by cases h; rfl)));go_simp}
   refine StepsInv.cons2 _ rfl (fun d u' W K' hs hI hd hw hK=> ?_) ?_
   {obtain ⟨_,y0,y1,y2,y3,y4⟩:=HX8.out.next hI.up;refine Z00 (v:= .agg (Y8 j q1)) (W':=W) rfl ?_ (hK.out _ _ (hI.pure (by decide) (fun v' h=>by cases h; rfl)));go_simp}
   refine StepsInv.cons2 _ rfl (fun d u' W K' hs hI hd hw hK=> ?_) ?_
   {have d3:u' 3= .string ⟨nm.toArray⟩:=hI.vals 3 (hw 3 (by kernel_rfl)) _ rfl;have d4:u' 4= .agg (Y8 j q1):=hI.vals 4 (hw 4 (by kernel_rfl)) _ rfl;refine Z00 (v:= .agg #[.string ⟨([]:List UInt8).toArray⟩,.string ⟨nm.toArray⟩,.int .i64 j.kind,.string ⟨j.of_.toArray⟩,.string ⟨j.name.toArray⟩,.slice q1.A j.names.length q1.c,.slice q1.P j.parts.length q1.d]) (W':=W) rfl ?_ (hK.out _ _ (hI.pure (by decide) (fun v' h=>by cases h; rfl)));go_simp}
   refine StepsInv.cons2 _ rfl (fun d u' W K' hs hI hd hw hK=> ?_) ?_
   {have d7:d 7=false:=Z0e hs rfl (by kernel_rfl) hd;have d5:u' 5= .agg #[.string ⟨([]:List UInt8).toArray⟩,.string ⟨nm.toArray⟩,.int .i64 j.kind,.string ⟨j.of_.toArray⟩,.string ⟨j.name.toArray⟩,.slice q1.A j.names.length q1.c,.slice q1.P j.parts.length q1.d]:=hI.vals 5 (hw 5 (by kernel_rfl)) _ rfl;refine Z00 (v:= .slice (some ⟨W.heap.size,0,none⟩) 1 1) (W':=W.alloc (.cells #[.string ⟨([]:List UInt8).toArray⟩,.string ⟨nm.toArray⟩,.int .i64 j.kind,.string ⟨j.of_.toArray⟩,.string ⟨j.name.toArray⟩,.slice q1.A j.names.length q1.c,.slice q1.P j.parts.length q1.d] 54)) rfl ?_ (hK.out _ _ (hI.mkS rfl d7));go_simp}
   refine StepsInv.cons2 _ rfl (fun d u' W K' hs hI hd hw hK=> ?_) ?_
   {have d7:d 7=false:=hd;have d8:d 8=false:=Z0e hs rfl (by kernel_rfl) hd;have w1:=hw 1 (by kernel_rfl);have w6:=hw 6 (by kernel_rfl);obtain ⟨A',c',lN,e1',em,hkp,hrw,_⟩:=hI.cl w1;obtain ⟨zb,e6,_,_,z5⟩:=hI.sl w6 d7;have hln:lN.length=L.length:=by have:=congrArg List.length em; simpa using this
    refine Z0k rfl _ _ 26 rfl V.heap.size 54 ib (.agg #[.string ByteArray.empty,.string ByteArray.empty,.int .i64 0,.string ByteArray.empty,.string ByteArray.empty,.slice none 0 0,.slice none 0 0]) 7 120 Tryd.underlying26 hifb hzb hsb hbb7 rfl (by decide) (.slice A' lN.length c') lN.length (cellsB lN) (by show u' 1=_; exact e1') (hrw d7) (some ⟨zb,0,none⟩) 1 1 (cellsB [((⟨[],nm,j⟩:Bd),q1)]) (by show u' 6=_; exact e6) nofun (by rw[Z0u]; rfl) (by intro ad e j v hv; cases e; rw[Z0d,Nat.zero_add]; exact z5 j v (by rw[<-Z0R]; exact hv)) (Z0D _) (by unfold maxLen; omega) (by omega) hI.up.size ?_;intro v' w' hown hg hat;rw[rowB_own] at hg hat;exact hK.out _ _ (hI.app rfl w1 d7 d8 e1' em hkp (hrw d7) (by rw[Z0o]; exact hown) hg hat)}
   refine StepsInv.cons2 _ rfl (fun d u' W K' hs hI hd hw hK=> ?_) ?_
   {refine Z00 (v:=u' 7) (W':=W) rfl ?_ (hK.out _ _ (hI.fin rfl));go_simp}
   refine StepsInv.cons2 _ rfl (fun d u' W K' hs hI hd hw hK=> ?_) StepsInv.nil
   {refine Z00 (v:= .int .i64 0) (W':=W) rfl ?_ (hK.out _ _ (hI.pure (by decide) (fun v' h=>by cases h; rfl)));go_simp}
   intro d z' W2 hI hdn
   try dsimp only
   obtain ⟨A',c',e8,hbd⟩:=hI.out (hdn 1 (by decide)) (hdn 7 (by decide)) (hdn 8 (by decide)) HAj.out (Nat.zero_le _) hnm;rw[e8,show z' 9= .int .i64 0 from hI.vals 9 (hdn 9 (by decide)) _ rfl];have HBE:=Y1 (Z03 HBV.out hI.up);have HBD:=Y1 hbd;clear hI hdn e8 hbd;go_wp2;refine bodyPost_ret (v:= .tuple #[.slice A' (L.length+1) c',.int .i64 0]) (by simp[results,Tryd.results16,go_sem]) rfl ?_
   first
    | exact ⟨A',⟨c',by rw[HDE.out]; simp⟩,by rw[HDE.out]; exact HBD.out,HBE.out⟩
    | exact ⟨A',c',by rw[HDE.out]; simp,by rw[HDE.out]; exact HBD.out,HBE.out⟩}
  {have e4: (er !=0)=true:=by simp[her0]
   have hde:Expd.declare L self 1 nm t=([],er):=by
    unfold Expd.declare;rw[if_neg (by decide),if_pos (by rw[<-HJ.out.2]; exact her0), <-HJ.out.2]
   have HDE:=Y1 hde;clear hde her0;go_wp2;refine bodyPost_ret (v:= .tuple #[.slice none 0 0,.int .i64 er]) (by simp[results,Tryd.results16,go_sem]) rfl ?_;exact ⟨none,0,by rw[HDE.out]; rfl,by rw[HDE.out]; exact Or.inl rfl,HBV.out⟩}}
 have hk1:k=2:=by omega
 obtain rfl:k=2:=hk1;have e1: ((2:Int) !=1)=true:=by decide
 have e2: ((2:Int) !=2)=false:=by decide
 have e3: ((2:Int)==2)=true:=by decide
 clear hk;go_enter Tryd.func16,Tryd.ntmps16
 go_wp2_with fail
 refine HR.out.mono ?_;rintro e v1 ⟨q1,he,hat,hb1⟩;rw[<-HJ.out.1, <-HJ.out.2] at he;rw[<-HJ.out.1] at hat;unfold shV at he;subst he;have hb2:=Z01 v1 (.cells (Y8 j q1) 25);have hbb:=Z03 hb1 hb2;have HXj:=Y1 (Z07 v1 j q1);have HAj:=Y1 (hat.next hb2);obtain ⟨V,hV⟩: ∃W,v1.alloc (.cells (Y8 j q1) 25)=W:=⟨_,rfl⟩;rw[hV] at HXj HAj hbb;have HBV:=Y1 (Z03 HB.out hbb);have HBJ:=Y1 hbb;have HV1:Hid (W0.heap.size<=v1.heap.size):=Y1 hb1.size;have HLV0:Hid (∀W,Below W0.heap.size W0 W->BdsAt W W.heap.size A L):=Y1 (fun W hb=>HL.out.next hb);have HLV:=Y1 (HL.out.next hbb);have HDV:=Y1 (HD.out.next hbb HD.out.lt);have HJN:Hid (j.of_.length<=9223372036854775807):=Y1 hat.small.o;clear hb1 hb2 hbb hat c0 c1 c2 c3 c4 c5 c6 HR;obtain ⟨_,c0,c1,_⟩:=HDV.out;by_cases her0:er=0
 {have e4: (er !=0)=false:=by simp[her0]
  have hde:Expd.declare L self 2 nm t=(L++ [⟨[],nm,Expd.opq self nm⟩],0):=by
   unfold Expd.declare;rw[if_neg (by decide),if_neg (by rw[<-HJ.out.2]; exact fun h=>h her0)];rw[if_pos rfl]
  have HDE:=Y1 hde;clear hde her0
  go_wp2_with fail
  refine (Z4r self nm V).mono ?_;rintro e v2 ⟨rfl,hbb⟩;unfold sv;have hXg:=HXj.out.next hbb;have HB2:=Y1 (Z03 HBV.out hbb);have HL2:=Y1 (HLV.out.next hbb);have HD2:=Y1 (HDV.out.next hbb HDV.out.lt);obtain ⟨hgl,⟨a0,a1,a2,a3,a4⟩,f0,f1,f2,f3,f4⟩:=hXg;simp only[Nat.zero_add] at a0 a1 a2 a3 a4;have hcx: ∀i,i < 5-> ∃v,v2.cell? ⟨v1.heap.size,i,none⟩=some v:=fun i hi=>by
   rcases i with _ | _ | _ | _ | _ | i
   {exact ⟨_,a0⟩}
   {exact ⟨_,a1⟩}
   {exact ⟨_,a2⟩}
   {exact ⟨_,a3⟩}
   {exact ⟨_,a4⟩}
   {omega}
  have hla:=RX.lay_at (Expd.opq self nm) noQ hcx;have hlu:=RX.lay_upd v2 v1.heap.size (Expd.opq self nm) noQ;have hW0v:W0.heap.size<=v1.heap.size:=HV1.out;have hbl:Below W0.heap.size v2 (RX.lay v2 v1.heap.size (Expd.opq self nm) noQ):=hlu.below (by omega) (fun b hb=>by rw[hb]; exact hW0v);have HB3:=Y1 ((HB2.out).trans (hbl.mono HB.out.size));have HL3:=Y1 (HLV0.out _ ((HBJ.out.trans (hbb.mono HBJ.out.size)).trans hbl));have HD3:=Y1 (HD2.out.next hbl HD.out.lt);obtain ⟨b0,b1,b2,b3,b4⟩:=hla;simp only[Nat.zero_add] at b0 b1 b2 b3 b4;obtain ⟨V2,hV2⟩: ∃W,RX.lay v2 v1.heap.size (Expd.opq self nm) noQ=W:=⟨_,rfl⟩;rw[hV2] at b0 b1 b2 b3 b4 HB3 HL3 HD3;unfold RX.lay at hV2;have hgl2:v1.heap.size < V2.heap.size:=by rw[<-hV2]; simpa[World.setCell] using hgl
  have HX8:Hid (Box5c V2 v1.heap.size (Expd.opq self nm) noQ):=Y1 ⟨hgl2,b0,b1,b2,b3,b4⟩;obtain ⟨_,cc0,cc1,_⟩:=HD3.out;have HSA:Hid (ShAt V2 V2.heap.size noQ (Expd.opq self nm)):=Y1 (Z6Y _ _ _ _ hsf hnm);clear hlu hbl hcx hbb hgl2
  go_wp2_with fail
  clear hV2;obtain ⟨ib,hifb,hzb,hsb,hbb7⟩:=Z1o Z1H;refine Z1Z (rs:= [0,1,2,3,4,5,6,7,8,9])
   (fun u'=> { tmps:=#[.slice A L.length cap,.string { data:=self.toArray },.agg #[.int .i64 2,.string { data:=nm.toArray },.int .i64 t.kind,.string { data:=t.of_.toArray },.string { data:=t.name.toArray },.slice q.A t.names.length q.c,.slice q.P t.parts.length q.d,r0,r1,r2,r3,r4,r5,r6,r7,r8,r9],undef,undef,.pointer (some { block:=w.heap.size,off:=0 }),u' 8,u' 9,.pointer (some { block:=v1.heap.size,off:=0 }),.int .i64 er,.pointer (some { block:=w.heap.size,off:=0 }),.int .i64 2,.bool true,.bool true,.pointer (some { block:=w.heap.size,off:=0 }),.int .i64 2,.bool false,.bool false,undef,undef,.tuple #[.agg (Y8 j q1),.int .i64 er],.pointer (some { block:=w.heap.size,off:=2 }),.agg (Y8 t q),.slice A L.length cap,.tuple #[.agg (Y8 j q1),.int .i64 er],.agg (Y8 j q1),.int .i64 er,.int .i64 er,.bool false,undef,.pointer (some { block:=w.heap.size,off:=0 }),.int .i64 2,.bool true,.string { data:=self.toArray },.pointer (some { block:=w.heap.size,off:=1 }),.string { data:=nm.toArray },.agg (Y8 (Expd.opq self nm) noQ),u' 0,u' 1,u' 2,u' 3,u' 4,u' 5,u' 6,u' 7],defers:= [] })
   (fun j=>([undef,undef,undef,undef,undef,undef,undef,undef,.slice none 0 0,.int .i64 0]:List Value).getD j undef) (DI V2 (fun jj=>match jj with | 0=>some (.slice A L.length cap) | 2=>some (.pointer (some ⟨w.heap.size,1,none⟩)) | 3=>some (.string ⟨nm.toArray⟩) | 4=>some (.agg (Y8 (Expd.opq self nm) noQ)) | 5=>some (.agg #[.string ⟨([]:List UInt8).toArray⟩,.string ⟨nm.toArray⟩,.int .i64 (Expd.opq self nm).kind,.string ⟨(Expd.opq self nm).of_.toArray⟩,.string ⟨(Expd.opq self nm).name.toArray⟩,.slice noQ.A (Expd.opq self nm).names.length noQ.c,.slice noQ.P (Expd.opq self nm).parts.length noQ.d]) | 9=>some (.int .i64 0) | _=>none) L ((⟨[],nm,(Expd.opq self nm)⟩:Bd),noQ)) (by kernel_rfl) (by kernel_rfl) (by kernel_rfl) DI.start ?_ ?_
  refine StepsInv.cons2 _ rfl (fun d u' W K' hs hI hd hw hK=> ?_) ?_
  {refine Z00 (v:= .slice A L.length cap) (W':=W) rfl ?_ (hK.out _ _ (hI.pure (by decide) (fun v' h=>by cases h; rfl)));go_simp}
  refine StepsInv.cons2 _ rfl (fun d u' W K' hs hI hd hw hK=> ?_) ?_
  {have d7:d 7=false:=Z0e hs rfl (by kernel_rfl) hd;have d0:u' 0= .slice A L.length cap:=hI.vals 0 (hw 0 (by kernel_rfl)) _ rfl;refine Z1n (f:=28) (args:=#[.slice A L.length cap]) (W':=W) rfl ?_ ((Z2Z L A cap W (HL3.out.next hI.up) (by omega) hc HZ.out HS.out).mono fun e w' ⟨A',c',lN,he,hkt⟩=>⟨_,he,hK.out _ _ (hI.call rfl d7 hkt)⟩);go_simp}
  refine StepsInv.cons2 _ rfl (fun d u' W K' hs hI hd hw hK=> ?_) ?_
  {refine Z00 (v:= .pointer (some ⟨w.heap.size,1,none⟩)) (W':=W) rfl ?_ (hK.out _ _ (hI.pure (by decide) (fun v' h=>by cases h; rfl)));go_simp}
  refine StepsInv.cons2 _ rfl (fun d u' W K' hs hI hd hw hK=> ?_) ?_
  {have d2:u' 2= .pointer (some ⟨w.heap.size,1,none⟩):=hI.vals 2 (hw 2 (by kernel_rfl)) _ rfl;obtain ⟨_,y0,y1,_⟩:=HD3.out.next hI.up HD3.out.lt;refine Z00 (v:= .string ⟨nm.toArray⟩) (W':=W) rfl ?_ (hK.out _ _ (hI.pure (by decide) (fun v' h=>by cases h; rfl)));go_simp}
  refine StepsInv.cons2 _ rfl (fun d u' W K' hs hI hd hw hK=> ?_) ?_
  {obtain ⟨_,y0,y1,y2,y3,y4⟩:=HX8.out.next hI.up;refine Z00 (v:= .agg (Y8 (Expd.opq self nm) noQ)) (W':=W) rfl ?_ (hK.out _ _ (hI.pure (by decide) (fun v' h=>by cases h; rfl)));go_simp}
  refine StepsInv.cons2 _ rfl (fun d u' W K' hs hI hd hw hK=> ?_) ?_
  {have d3:u' 3= .string ⟨nm.toArray⟩:=hI.vals 3 (hw 3 (by kernel_rfl)) _ rfl;have d4:u' 4= .agg (Y8 (Expd.opq self nm) noQ):=hI.vals 4 (hw 4 (by kernel_rfl)) _ rfl;refine Z00 (v:= .agg #[.string ⟨([]:List UInt8).toArray⟩,.string ⟨nm.toArray⟩,.int .i64 (Expd.opq self nm).kind,.string ⟨(Expd.opq self nm).of_.toArray⟩,.string ⟨(Expd.opq self nm).name.toArray⟩,.slice noQ.A (Expd.opq self nm).names.length noQ.c,.slice noQ.P (Expd.opq self nm).parts.length noQ.d]) (W':=W) rfl ?_ (hK.out _ _ (hI.pure (by decide) (fun v' h=>by cases h; rfl)));go_simp}
  refine StepsInv.cons2 _ rfl (fun d u' W K' hs hI hd hw hK=> ?_) ?_
  {have d7:d 7=false:=Z0e hs rfl (by kernel_rfl) hd;have d5:u' 5= .agg #[.string ⟨([]:List UInt8).toArray⟩,.string ⟨nm.toArray⟩,.int .i64 (Expd.opq self nm).kind,.string ⟨(Expd.opq self nm).of_.toArray⟩,.string ⟨(Expd.opq self nm).name.toArray⟩,.slice noQ.A (Expd.opq self nm).names.length noQ.c,.slice noQ.P (Expd.opq self nm).parts.length noQ.d]:=hI.vals 5 (hw 5 (by kernel_rfl)) _ rfl;refine Z00 (v:= .slice (some ⟨W.heap.size,0,none⟩) 1 1) (W':=W.alloc (.cells #[.string ⟨([]:List UInt8).toArray⟩,.string ⟨nm.toArray⟩,.int .i64 (Expd.opq self nm).kind,.string ⟨(Expd.opq self nm).of_.toArray⟩,.string ⟨(Expd.opq self nm).name.toArray⟩,.slice noQ.A (Expd.opq self nm).names.length noQ.c,.slice noQ.P (Expd.opq self nm).parts.length noQ.d] 54)) rfl ?_ (hK.out _ _ (hI.mkS rfl d7));go_simp}
  refine StepsInv.cons2 _ rfl (fun d u' W K' hs hI hd hw hK=> ?_) ?_
  {have d7:d 7=false:=hd;have d8:d 8=false:=Z0e hs rfl (by kernel_rfl) hd;have w1:=hw 1 (by kernel_rfl);have w6:=hw 6 (by kernel_rfl);obtain ⟨A',c',lN,e1',em,hkp,hrw,_⟩:=hI.cl w1;obtain ⟨zb,e6,_,_,z5⟩:=hI.sl w6 d7;have hln:lN.length=L.length:=by have:=congrArg List.length em; simpa using this
   refine Z0k rfl _ _ 26 rfl V2.heap.size 54 ib (.agg #[.string ByteArray.empty,.string ByteArray.empty,.int .i64 0,.string ByteArray.empty,.string ByteArray.empty,.slice none 0 0,.slice none 0 0]) 7 120 Tryd.underlying26 hifb hzb hsb hbb7 rfl (by decide) (.slice A' lN.length c') lN.length (cellsB lN) (by show u' 1=_; exact e1') (hrw d7) (some ⟨zb,0,none⟩) 1 1 (cellsB [((⟨[],nm,(Expd.opq self nm)⟩:Bd),noQ)]) (by show u' 6=_; exact e6) nofun (by rw[Z0u]; rfl) (by intro ad e j v hv; cases e; rw[Z0d,Nat.zero_add]; exact z5 j v (by rw[<-Z0R]; exact hv)) (Z0D _) (by unfold maxLen; omega) (by omega) hI.up.size ?_;intro v' w' hown hg hat;rw[rowB_own] at hg hat;exact hK.out _ _ (hI.app rfl w1 d7 d8 e1' em hkp (hrw d7) (by rw[Z0o]; exact hown) hg hat)}
  refine StepsInv.cons2 _ rfl (fun d u' W K' hs hI hd hw hK=> ?_) ?_
  {refine Z00 (v:=u' 7) (W':=W) rfl ?_ (hK.out _ _ (hI.fin rfl));go_simp}
  refine StepsInv.cons2 _ rfl (fun d u' W K' hs hI hd hw hK=> ?_) StepsInv.nil
  {refine Z00 (v:= .int .i64 0) (W':=W) rfl ?_ (hK.out _ _ (hI.pure (by decide) (fun v' h=>by cases h; rfl)));go_simp}
  intro d z' W2 hI hdn
  try dsimp only
  obtain ⟨A',c',e8,hbd⟩:=hI.out (hdn 1 (by decide)) (hdn 7 (by decide)) (hdn 8 (by decide)) HSA.out (Nat.zero_le _) hnm;rw[e8,show z' 9= .int .i64 0 from hI.vals 9 (hdn 9 (by decide)) _ rfl];have HBE:=Y1 (Z03 HB3.out hI.up);have HBD:=Y1 hbd;clear hI hdn e8 hbd;go_wp2;refine bodyPost_ret (v:= .tuple #[.slice A' (L.length+1) c',.int .i64 0]) (by simp[results,Tryd.results16,go_sem]) rfl ?_
  first
   | exact ⟨A',⟨c',by rw[HDE.out]; simp⟩,by rw[HDE.out]; exact HBD.out,HBE.out⟩
   | exact ⟨A',c',by rw[HDE.out]; simp,by rw[HDE.out]; exact HBD.out,HBE.out⟩}
 {have e4: (er !=0)=true:=by simp[her0]
  have hde:Expd.declare L self 2 nm t=([],er):=by
   unfold Expd.declare;rw[if_neg (by decide),if_pos (by rw[<-HJ.out.2]; exact her0), <-HJ.out.2]
  have HDE:=Y1 hde;clear hde her0;go_wp2;refine bodyPost_ret (v:= .tuple #[.slice none 0 0,.int .i64 er]) (by simp[results,Tryd.results16,go_sem]) rfl ?_;exact ⟨none,0,by rw[HDE.out]; rfl,by rw[HDE.out]; exact Or.inl rfl,HBV.out⟩}
end
end Go.Proofs.YtmeiijjpomcgcaaDoor
namespace Go.Proofs.YtmeiijjpomcgcaaDoor
open Go.RowKit Shp Sub
namespace SubM
theorem Z75 {g gm hi b:Nat} (hg:hi<=g) (hh:gm < hi) (hb:rowB (some ⟨g,0,none⟩)=some b) (e:b=gm):False:=by
 have e2:g=b:=by simpa[rowB] using hb
 omega
section
variable {w0 W W1 : World} {gm hi : Nat} {k : Int} {o nm : List UInt8} {nl : List (List UInt8)} {l : List El} {AN AP : Option Addr} {cN cP : Nat}
theorem Mk.ups (h:Mk w0 gm hi k o nm nl l AN cN AP cP W) {b:Nat} (hb:b=gm\/rowB AN=some b\/rowB AP=some b):w0.heap.size<=b:=by
 rcases hb with rfl | hb | hb
 {exact h.lo}
 {have:=(Z0a h.rN b hb).1; have:=h.lo; have:=h.gh; omega}
 {have:=(Z0a h.rP b hb).1; have:=h.lo; have:=h.gh; omega}
theorem soc3 {W:World} {b x y:Nat} {v:Value} (h:x≠y): (W.setCell ⟨b,x,none⟩ v).cell? ⟨b,y,none⟩=W.cell? ⟨b,y,none⟩:=RX.soc h
section
variable (h : Mk w0 gm hi k o nm nl l AN cN AP cP W) {g c : Nat}
include h g c
theorem Mk.putN {n:List UInt8} (hg:W.grownBy W1 (rowB AN)) (hrow:W1.ownsRow hi 9 1 (.slice (some ⟨g,0,none⟩) (nl.length+1) c) (nl.length+1) (namesE nl++ [.string ⟨n.toArray⟩]))
 (hat:rowB AN=some g\/g=W.heap.size):Mk w0 gm hi k o nm (nl++ [n]) l (some ⟨g,0,none⟩) c AP cP (W1.setCell ⟨gm,3,none⟩ (.slice (some ⟨g,0,none⟩) (nl.length+1) c)):=by
 have hgm:gm < W.heap.size:=Nat.lt_of_lt_of_le h.gh h.hw;have hu:Upd (fun b=>rowB AN=some b) W W1:=(Upd.refl _ W).grown hg (fun k h _=>h);have hn: ¬rowB AN=some gm:=fun e=>by have:=(Z0a h.rN _ e).1; have:=h.gh; omega
 have hu2:Upd (fun b=>b=gm) W1 (W1.setCell ⟨gm,3,none⟩ (.slice (some ⟨g,0,none⟩) (nl.length+1) c)):=Upd.set (Upd.refl (fun b=>b=gm) W1) ⟨gm,3,none⟩ (fun _=>rfl) _;have hgh:=h.gh;have hgg:=(Z0a hrow g rfl).1;refine ⟨h.up.trans (((hu.mono (T:=fun b=>b=gm\/rowB AN=some b\/rowB AP=some b) (fun b _ hb=>Or.inr (Or.inl hb))).trans (hu2.mono (fun b _ hb=>Or.inl hb))).below h.up.size (fun b hb=>h.ups hb)),h.lo,h.gh,Nat.le_trans h.hw (Nat.le_trans hu.size hu2.size),
  (soc3 (by omega)).trans ((hu.cell hgm hn).trans h.c0),(soc3 (by omega)).trans ((hu.cell hgm hn).trans h.c1),(soc3 (by omega)).trans ((hu.cell hgm hn).trans h.c2), ?_,(soc3 (by omega)).trans ((hu.cell hgm hn).trans h.c4),fun j=>(World.frozen?_setCell ..).trans ((hu.frozen hgm hn).trans (h.fz j)), ?_, ?_,Or.inr ?_⟩
 {rw[List.length_append]; exact World.cell?_setCell_same _ _ _ ((hu.cell hgm hn).trans h.c3)}
 {rw[List.length_append,namesE_append]; exact Z0t hrow hu2 (fun b hb e=>Z75 hgg hgh hb e)}
 {refine Z0t (Z0t h.rP hu (fun b hb e=> ?_)) hu2 (fun b hb e=> ?_)
  {rcases h.ne with hne | hne
   {rw[hne] at e; cases e}
   {exact hne (e.trans hb.symm)}}
  {have:=(Z0a h.rP b hb).1;have e3:b=gm:=e;omega}}
 {intro e;have e2:rowB AP=some g:=by rw[<-e]; rfl
  rcases hat with h1 | h1
  {rcases h.ne with hne | hne
   {rw[hne] at h1; cases h1}
   {exact hne (h1.trans e2.symm)}}
  {have:=(Z0a h.rP g e2).2; omega}}
theorem Mk.putP {x:El} (hg:W.grownBy W1 (rowB AP)) (hrow:W1.ownsRow hi 25 5 (.slice (some ⟨g,0,none⟩) (l.length+1) c) (l.length+1) (cellsE l++cells5 x))
 (hat:rowB AP=some g\/g=W.heap.size):Mk w0 gm hi k o nm nl (l++ [x]) AN cN (some ⟨g,0,none⟩) c (W1.setCell ⟨gm,4,none⟩ (.slice (some ⟨g,0,none⟩) (l.length+1) c)):=by
 have hgm:gm < W.heap.size:=Nat.lt_of_lt_of_le h.gh h.hw;have hu:Upd (fun b=>rowB AP=some b) W W1:=(Upd.refl _ W).grown hg (fun k h _=>h);have hn: ¬rowB AP=some gm:=fun e=>by have:=(Z0a h.rP _ e).1; have:=h.gh; omega
 have hu2:Upd (fun b=>b=gm) W1 (W1.setCell ⟨gm,4,none⟩ (.slice (some ⟨g,0,none⟩) (l.length+1) c)):=Upd.set (Upd.refl (fun b=>b=gm) W1) ⟨gm,4,none⟩ (fun _=>rfl) _;have hgh:=h.gh;have hgg:=(Z0a hrow g rfl).1;refine ⟨h.up.trans (((hu.mono (T:=fun b=>b=gm\/rowB AN=some b\/rowB AP=some b) (fun b _ hb=>Or.inr (Or.inr hb))).trans (hu2.mono (fun b _ hb=>Or.inl hb))).below h.up.size (fun b hb=>h.ups hb)),h.lo,h.gh,Nat.le_trans h.hw (Nat.le_trans hu.size hu2.size),
  (soc3 (by omega)).trans ((hu.cell hgm hn).trans h.c0),(soc3 (by omega)).trans ((hu.cell hgm hn).trans h.c1),(soc3 (by omega)).trans ((hu.cell hgm hn).trans h.c2),(soc3 (by omega)).trans ((hu.cell hgm hn).trans h.c3), ?_,fun j=>(World.frozen?_setCell ..).trans ((hu.frozen hgm hn).trans (h.fz j)), ?_, ?_, ?_⟩
 {rw[List.length_append]; exact World.cell?_setCell_same _ _ _ ((hu.cell hgm hn).trans h.c4)}
 {refine Z0t (Z0t h.rN hu (fun b hb e=> ?_)) hu2 (fun b hb e=> ?_)
  {rcases h.ne with hne | hne
   {rw[hne] at hb; cases hb}
   {exact hne (hb.trans e.symm)}}
  {have:=(Z0a h.rN b hb).1;have e3:b=gm:=e;omega}}
 {rw[List.length_append,cellsE_append,cellsE_one]; exact Z0t hrow hu2 (fun b hb e=>Z75 hgg hgh hb e)}
 {rcases h.ne with hne | hne
  {exact Or.inl hne}
  {refine Or.inr (fun e=> ?_);have e2:rowB AN=some g:=by rw[e]; rfl
   rcases hat with h1 | h1
   {exact hne (e2.trans h1.symm)}
   {have:=(Z0a h.rN g e2).2; omega}}}
end
end
end SubM
end Go.Proofs.YtmeiijjpomcgcaaDoor
namespace Go.Proofs.YtmeiijjpomcgcaaDoor
open Go.RowKit Shp Sub
namespace SubM
def PIs (n0:Nat) (o:Option Sh) (w:World) (e:Ending) (w':World):Prop:=
 ∃(t:Sh) (q:Ptr),e= .returned (.tuple #[sv t q,.bool o.isSome])/\Below w.heap.size w w'/\ ∀j,o=some j->t=j/\Kept (fun b=>b < n0\/w.heap.size<=b) w' (j,q)
theorem ZbL {S:Nat->Prop} {W:World} {C n0:Nat} {t:Sh} {q:Ptr} {l:List El} {AP:Option Addr} {cP:Nat} (ht:ShAt W n0 q t) (hn:n0<=W.heap.size) (sO: ∀b,b < n0->S b)
 (rP:W.ownsRow C 25 5 (.slice AP l.length cP) l.length (cellsE l)) (sP: ∀b,rowB AP=some b->S b) (hk: ∀x∈l,Kept S W x) (hm:l.length<=1000000):
 Kept S W (⟨t.kind,t.of_,t.name,t.names,l.map Prod.fst⟩,⟨q.A,q.c,AP,cP⟩):=by
 intro W' hz hs;have hP:=slice_form rP;have kept: ∀x∈l,ShAt W' W'.heap.size x.2 x.1:=fun x hx=>hk x hx W' hz hs;refine .mk _ _ ((rowB AP).getD 0) 0 (fun i=>(l[i]?.map Prod.snd).getD ⟨none,0,none,0⟩) ⟨ht.small.o,ht.small.n,ht.small.ns,ht.small.l,by show (l.map Prod.fst).length<=_; rw[List.length_map]; omega,ht.small.c, ?_,ht.small.A0, ?_⟩ ?_ ?_ ?_ ?_
 {show (l.map Prod.fst).length<=cP;rw[List.length_map];rcases hP with ⟨_,h1,h2⟩ | ⟨_,_,h1⟩ <;> omega}
 {intro (e:AP=none);show cP=0;rcases hP with ⟨_,h1,h2⟩ | ⟨g,h1,_⟩
  {exact h2}
  {rw[e] at h1; cases h1}}
 {have h2:ShAt W' W'.heap.size q t:=ht.of (Nat.le_trans hn hz) (fun g k hg=>World.cell?_of_block (w:=W) (hs g (Nat.lt_of_lt_of_le hg hn) (sO g hg)));exact h2.strs}
 {show (l.map Prod.fst).length=0\/_;rcases hP with ⟨_,h1,_⟩ | ⟨g,rfl,_⟩
  {exact Or.inl (by rw[List.length_map]; exact h1)}
  {exact Or.inr ⟨rfl,Nat.lt_of_lt_of_le (Z0a rP g rfl).2 hz⟩}}
 {intro i hi;have hi':i < l.length:=by simpa using hi
  rcases hP with ⟨_,h1,_⟩ | ⟨g,rfl,_⟩
  {omega}
  {have hg:=Z0a rP g rfl;have e1: ∀j,W'.cell? ⟨g,j,none⟩=W.cell? ⟨g,j,none⟩:=fun j=>World.cell?_of_block (w:=W) (hs g hg.2 (sP g rfl));have e2: ∀c v,c < 5->(cells5 (l[i]'hi'))[c]? =some v->W'.cell? ⟨g,0+i * 5+c,none⟩=some v:=fun c v hc hv=>by
    rw[Nat.zero_add,e1];exact Z2u rP (by rw[cellsE_at hi' hc]; exact hv)
   simp only[List.getElem_map];rw[List.getElem?_eq_getElem hi'];exact ⟨e2 0 _ (by omega) rfl,e2 1 _ (by omega) rfl,e2 2 _ (by omega) rfl,e2 3 _ (by omega) rfl,e2 4 _ (by omega) rfl⟩}}
 {intro i hi;have hi':i < l.length:=by simpa using hi
  simp only[List.getElem_map];rw[List.getElem?_eq_getElem hi'];exact kept _ (List.getElem_mem _)}
structure KPo (w0 w4:World) (n0 gm hi rc:Nat) (t:Sh) (q:Ptr) (ps:List Sh) (l:List El) (AP:Option Addr) (cP:Nat) (W:World):Prop where
 dn:Below w0.heap.size w0 W
 lo:w0.heap.size<=gm
 gh:gm < hi
 hw:hi<=W.heap.size
 c0:W.cell? ⟨gm,0,none⟩=some (.int .i64 t.kind)
 c1:W.cell? ⟨gm,1,none⟩=some (.string ⟨t.of_.toArray⟩)
 c2:W.cell? ⟨gm,2,none⟩=some (.string ⟨t.name.toArray⟩)
 c3:W.cell? ⟨gm,3,none⟩=some (.slice q.A t.names.length q.c)
 c4:W.cell? ⟨gm,4,none⟩=some (.slice AP l.length cP)
 fz: ∀j,W.frozen? ⟨gm,j,none⟩=false
 rP:W.ownsRow hi 25 5 (.slice AP l.length cP) l.length (cellsE l)
 eq:l.map Prod.fst=ps
 kp: ∀x∈l,Kept (fun b=>b < n0\/(hi<=b/\rowB AP≠some b)) W x
 rr:Rc rc W
 up:Upd (fun b=>b=gm\/hi<=b) w4 W
section
variable {w0 w4 W W' : World} {n0 gm hi rc : Nat} {t : Sh} {q : Ptr} {ps : List Sh} {l : List El} {AP : Option Addr} {cP : Nat}
section
variable (h : KPo w0 w4 n0 gm hi rc t q ps l AP cP W)
include h
theorem KPo.len:l.length=ps.length:=by have:=congrArg List.length h.eq; simpa using this
theorem KPo.gw:gm < W.heap.size:=Nat.lt_of_lt_of_le h.gh h.hw
end
theorem KPo.new (h:KPo w0 w4 n0 gm hi rc t q ps l AP cP W) (hb:Below W.heap.size W W'):KPo w0 w4 n0 gm hi rc t q ps l AP cP W':=by
 have hu:Upd (fun _=>False) W W':=Upd.new hb;have c:=fun j=>hu.cell (k:=j) h.gw (fun h=>h);exact ⟨h.dn.trans (hb.mono h.dn.size),h.lo,h.gh,Nat.le_trans h.hw hb.size,(c 0).trans h.c0,(c 1).trans h.c1,(c 2).trans h.c2,(c 3).trans h.c3,(c 4).trans h.c4,fun j=>(hu.frozen h.gw (fun h=>h)).trans (h.fz j),
  Z0t h.rP hu (fun _ _ h=>h),h.eq,fun x hx=>(h.kp x hx).upd hu (fun _ _ _ h=>h),h.rr.upd hu (fun h=>h),h.up.trans (Upd.new hb)⟩
theorem KPo.putP {Wb W1:World} {pb e:Nat} {x:El} (hK:KPo w0 w4 n0 gm hi rc t q ps l AP cP W) (hng:n0<=gm) (hrc:rc < gm) (hx:Kept (fun b=>b < n0\/(pb<=b/\b < e)) W x) (he:e<=W.heap.size) (hpb:hi<=pb)
 (rp: ∀b,rowB AP=some b->b < pb\/e<=b) (hb:Below W.heap.size W Wb) {g c:Nat} (hg:Wb.grownBy W1 (rowB AP)) (hrow:W1.ownsRow hi 25 5 (.slice (some ⟨g,0,none⟩) (l.length+1) c) (l.length+1) (cellsE l++cells5 x))
 (hat:rowB AP=some g\/g=Wb.heap.size):KPo w0 w4 n0 gm hi rc t q (ps++ [x.1]) (l++ [x]) (some ⟨g,0,none⟩) c (W1.setCell ⟨gm,4,none⟩ (.slice (some ⟨g,0,none⟩) (l.length+1) c)):=by
 have hgh:=hK.gh;have hhw:=hK.hw;have hu1:Upd (fun b=>rowB AP=some b) W W1:=(Upd.new (S:=fun b=>rowB AP=some b) hb).grown hg (fun k h _=>h);have hu2:Upd (fun b=>b=gm) W1 (W1.setCell ⟨gm,4,none⟩ (.slice (some ⟨g,0,none⟩) (l.length+1) c)):=Upd.set (Upd.refl (fun b=>b=gm) W1) ⟨gm,4,none⟩ (fun _=>rfl) _;have hu:Upd (fun b=>b=gm\/rowB AP=some b) W (W1.setCell ⟨gm,4,none⟩ (.slice (some ⟨g,0,none⟩) (l.length+1) c)):=(hu1.mono (fun _ _ h=>Or.inr h)).trans (hu2.mono (fun _ _ h=>Or.inl h));have hgw:rowB AP=some g\/W.heap.size<=g:=hat.imp id (fun h=>by have:=hb.size; omega);have hrp:=fun b h=>Z0a hK.rP b h;have hn1: ¬rowB AP=some gm:=fun e=>by have:=(hrp gm e).1; omega
 have hgg:=(Z0a hrow g rfl).1;have cc:=fun j=>hu1.cell (k:=j) hK.gw hn1;refine ⟨hK.dn.trans (hu.below hK.dn.size (fun b hb=> ?_)),hK.lo,hK.gh,Nat.le_trans hK.hw hu.size,(soc3 (by omega)).trans ((cc 0).trans hK.c0),(soc3 (by omega)).trans ((cc 1).trans hK.c1),(soc3 (by omega)).trans ((cc 2).trans hK.c2),(soc3 (by omega)).trans ((cc 3).trans hK.c3), ?_,
  fun j=>(World.frozen?_setCell ..).trans ((hu1.frozen hK.gw hn1).trans (hK.fz j)), ?_,by rw[List.map_append,hK.eq]; rfl,fun y hy=> ?_,hK.rr.upd hu (fun ht=> ?_),hK.up.trans (hu.mono (fun b _ hb=>hb.imp id (fun h=>(hrp b h).1)))⟩
 {have:=hK.lo;rcases hb with hb | hb
  {omega}
  {have:=(hrp b hb).1; omega}}
 {rw[List.length_append]; exact World.cell?_setCell_same _ _ _ ((cc 4).trans hK.c4)}
 {rw[List.length_append,cellsE_append,cellsE_one]; exact Z0t hrow hu2 (fun b hb e=>Z75 hgg hgh hb e)}
 {rcases List.mem_append.1 hy with hy | hy
  {refine (hK.kp y hy).move hu (fun b hb hf=>⟨fun ht=> ?_, ?_⟩)
   {rcases hf with hf | ⟨hf,f2⟩
    {rcases ht with ht | ht
     {omega}
     {have:=(hrp b ht).1; omega}}
    {rcases ht with ht | ht
     {omega}
     {exact f2 ht}}}
   {rcases hf with hf | ⟨hf,f2⟩
    {exact Or.inl hf}
    {refine Or.inr ⟨hf,fun e=> ?_⟩;have e:g=b:=by simpa[rowB] using e
     subst e;exact hgw.elim f2 (fun h=>by omega)}}}
  {rw[List.mem_singleton.1 hy];refine hx.move hu (fun b hb hf=>⟨fun ht=> ?_, ?_⟩)
   {rcases hf with hf | hf
    {rcases ht with ht | ht
     {omega}
     {have:=(hrp b ht).1; omega}}
    {rcases ht with ht | ht
     {omega}
     {have:=rp b ht; omega}}}
   {rcases hf with hf | hf
    {exact Or.inl hf}
    {refine Or.inr ⟨by omega,fun e=> ?_⟩;have e:g=b:=by simpa[rowB] using e
     rcases hgw with h | h
     {have:=rp g h; omega}
     {omega}}}}}
 {rcases ht with ht | ht
  {omega}
  {have:=(hrp rc ht).1; omega}}
theorem KPo.fin (h:KPo w0 w4 n0 gm hi rc t q ps l AP cP W) (ht:ShAt W n0 q t) (hn:n0<=W.heap.size) (h4:ps.length<=1000):
 Sh5 W gm 0 ⟨t.kind,t.of_,t.name,t.names,ps⟩ ⟨q.A,q.c,AP,cP⟩/\Kept (fun b=>b < n0\/hi<=b) W (⟨t.kind,t.of_,t.name,t.names,ps⟩,⟨q.A,q.c,AP,cP⟩):=by
 have hl:=h.len;have hk:=ZbL (S:=fun b=>b < n0\/hi<=b) ht hn (fun b hb=>Or.inl hb) h.rP (fun b hb=>Or.inr (Z0a h.rP b hb).1) (fun x hx=>(h.kp x hx).more (fun b _ hf=>hf.imp id (fun h=>h.1))) (by omega);rw[h.eq] at hk;refine ⟨⟨h.c0,h.c1,h.c2,h.c3, ?_⟩,hk⟩;have:=h.c4;rw[hl] at this;exact this
end
theorem Zcc {o:Option Sh} {r:Sh} {q:Ptr} {n0 hi rc:Nat} {w W:World} (ho:o=some r) (hn:n0<=w.heap.size) (h1:w.heap.size<=rc) (h2:rc < hi) (hb:Below w.heap.size w W) (hk:Kept (fun b=>b < n0\/hi<=b) W (r,q)):
 PIs n0 o w (.returned (.tuple #[sv r q,.bool true])) (RX.lay W rc r q):=by
 have hu:=RX.lay_upd W rc r q;refine ⟨r,q,by rw[ho]; rfl,hb.trans (hu.below hb.size (fun x hx=>by omega)),fun j hj=> ?_⟩;rw[ho] at hj;cases hj;exact ⟨rfl,hk.move hu (fun b _ hf=>⟨fun e=>by have e:b=rc:=e; rcases hf with hf | hf <;> omega,by rcases hf with hf | hf <;> omega⟩)⟩
theorem ZbM {o:Option Sh} {n0 rc:Nat} {w W:World} (ho:o=none) (h1:w.heap.size<=rc) (hb:Below w.heap.size w W):
 PIs n0 o w (.returned (.tuple #[.agg #[.int .i64 0,.string ⟨#[]⟩,.string ⟨#[]⟩,.slice none 0 0,.slice none 0 0],.bool false])) (put5 W rc (.int .i64 0) (.string ⟨#[]⟩) (.string ⟨#[]⟩) (.slice none 0 0) (.slice none 0 0)):=
 ⟨⟨0,[],[],[],[]⟩,⟨none,0,none,0⟩,by rw[ho]; rfl,Z0j hb h1 _ _ _ _ _,fun j hj=>by rw[ho] at hj; cases hj⟩
end SubM
end Go.Proofs.YtmeiijjpomcgcaaDoor
namespace Go.Proofs.YtmeiijjpomcgcaaDoor
section
open Go.RowKit Shp
open Expd (Bd fill keys find put Z0L)
section
variable {L : List Bd} {o n : List UInt8} {k : Nat} (hk : k < L.length) (h : find (L.drop (k + 1)) o n = none)
include L o n k hk h
theorem Z5N (hn: ¬((L[k]'hk).of_=o/\(L[k]'hk).name=n)):find (L.drop k) o n=none:=by
 rw[List.drop_eq_getElem_cons hk,Expd.find_cons,h];exact if_neg hn
theorem Z5O (hn: (L[k]'hk).of_=o/\(L[k]'hk).name=n):find L o n=some (L[k]'hk).sh:=by
 have h1:find (L.drop k) o n=some (L[k]'hk).sh:=by
  rw[List.drop_eq_getElem_cons hk,Expd.find_cons,h];exact if_pos hn
 have h2:=Expd.find_append (L.take k) (L.drop k) o n;rw[List.take_append_drop,h1] at h2;exact h2
end
def FndN (n0:Nat) (w:World) (r:Option Sh) (e:Ending) (w':World):Prop:=
 ∃(s:Sh) (q:Ptr),e= .returned (.tuple #[shV s q,.bool r.isSome])/\(∀x,r=some x->s=x)/\(r=none->s=Z0L)/\ShAt w' n0 q s/\Below w.heap.size w w'
theorem Z9x (n0:Nat) (L:List Bd) (A:Option Addr) (cap:Nat) (o n:List UInt8) (w:World) (hL:BdsAt w n0 A L) (hn0:n0<=w.heap.size) (hl:L.length<=1000):
 Calls Tryd.prog 39 #[.slice A L.length cap,.string ⟨o.toArray⟩,.string ⟨n.toArray⟩] w (FndN n0 w (find L o n)):=by
 have hb1:=Z01 w (.cells Yb 25);have HB1:=Y1 hb1;have HL:=Y1 (hL.keep hb1 hn0);have HZ:Hid (Res0 (w.alloc (.cells Yb 25)) w.heap.size):=by
  refine Y1 ⟨⟨by simp[go_sem],by simp[go_sem],by simp[go_sem],by simp[go_sem],by simp[go_sem]⟩,fun k=> ?_⟩;rw[frozen?_alloc_cells];simp[World.frozen?]
 have HN0:=Y1 hn0;clear hb1 hL hn0;go_enter Tryd.func39,Tryd.ntmps39
 go_wp2_with fail
 generalize w.alloc (.cells Yb 25)=W1 at HB1 HL HZ ⊢
 go_loopw [8] (fun i wr=>wr=W1/\ ∃k:Nat,k<=L.length/\i= .int .i64 ((k:Int) - 1)/\Hid (find (L.drop k) o n=none)) (fun i _=>(intOf i+1).toNat)
 case atStart=>exact ⟨rfl,L.length,Nat.le_refl _,rfl,Y1 (by rw[List.drop_length]; rfl)⟩
 case round=>
  obtain ⟨rfl,k,hk,rfl,hN⟩:=hrel;obtain ⟨⟨r0,r1,r2,r3,r4⟩,rf⟩:=HZ.out;have y0:=rf 0;have y1:=rf 1;have y2:=rf 2;have y3:=rf 3;have y4:=rf 4;clear rf;rcases k with _ | k
  {go_wp2;refine bodyPost_ret (v:= .tuple #[.agg #[.int .i64 0,.string ⟨#[]⟩,.string ⟨#[]⟩,.slice none 0 0,.slice none 0 0],.bool false]) (by simp[results,Tryd.results39,go_sem,r0,r1,r2,r3,r4]) rfl ?_;have hf:find L o n=none:=hN.out;rw[hf];exact ⟨Z0L,⟨none,0,none,0⟩,rfl,nofun,fun _=>rfl,Z1I _ _,Z0j HB1.out (Nat.le_refl _) _ _ _ _ _⟩}
  {have hkl:k < L.length:=hk;have e0: ((k+1:Nat):Int) - 1=(k:Int):=by omega
   rw[e0];have hk0: (0:Int)<=(k:Int):=by omega
   have hkl': (k:Int) < (L.length:Int):=by omega
   have hSTEP:Hid (¬((L[k]'hkl).of_=o/\(L[k]'hkl).name=n)->find (L.drop k) o n=none):=Y1 (Z5N hkl hN.out);have hHERE:Hid ((L[k]'hkl).of_=o/\(L[k]'hkl).name=n->find L o n=some (L[k]'hkl).sh):=Y1 (Z5O hkl hN.out);obtain ⟨g,off,qs,hA,hg,hc⟩:=HL.out.resolve_left (by omega);subst hA;obtain ⟨x0,x1,⟨z0,z1,z2,z3,z4⟩,hat,_⟩:=hc k hkl;change wr.cell? ⟨g,off+k * 7+3,none⟩=_ at z1;change wr.cell? ⟨g,off+k * 7+4,none⟩=_ at z2;change wr.cell? ⟨g,off+k * 7+5,none⟩=_ at z3;change wr.cell? ⟨g,off+k * 7+6,none⟩=_ at z4;obtain ⟨bk,hbk⟩: ∃bk,bk=L[k]'hkl:=⟨_,rfl⟩;rw[<-hbk] at x0 x1 z0 z1 z2 z3 z4 hat hSTEP hHERE;have HAT:=Y1 hat;have HNE:Hid (g < w.heap.size):=Y1 (Nat.lt_of_lt_of_le hg HN0.out);clear hc hbk hat hN hg e0;cases e1: (bk.of_==o) with
   | false=>
    have h1: ¬(bk.of_=o/\bk.name=n):=fun h=>by rw[h.1] at e1; simp at e1
    have HS:=Y1 (hSTEP.out h1);clear h1 hSTEP hHERE;go_wp2
    go_roundw
    case rel=>exact ⟨trivial,k,by omega,by go_num,HS⟩
    case measure=>simp[intOf]
   | true=>
    cases e2: (bk.name==n) with
    | false=>
     have h1: ¬(bk.of_=o/\bk.name=n):=fun h=>by rw[h.2] at e2; simp at e2
     have HS:=Y1 (hSTEP.out h1);clear h1 hSTEP hHERE;go_wp2
     go_roundw
     case rel=>exact ⟨trivial,k,by omega,by go_num,HS⟩
     case measure=>simp[intOf]
    | true=>
     have HF:=Y1 (hHERE.out ⟨by simpa using e1,by simpa using e2⟩);have hne:g≠w.heap.size:=by have:=HNE.out; omega
     clear hSTEP hHERE;go_wp2;refine bodyPost_ret (v:= .tuple #[.agg #[.int .i64 bk.sh.kind,.string ⟨bk.sh.of_.toArray⟩,.string ⟨bk.sh.name.toArray⟩,.slice (qs k).A bk.sh.names.length (qs k).c,.slice (qs k).P bk.sh.parts.length (qs k).d],.bool true]) (by simp[results,Tryd.results39,go_sem,r0,r1,r2,r3,r4]) rfl ?_;rw[HF.out];refine ⟨bk.sh,qs k,rfl,fun x h=>by cases h; rfl,nofun,HAT.out.of (Nat.le_refl _) (fun g c hg=> ?_),Z0j HB1.out (Nat.le_refl _) _ _ _ _ _⟩;have ne: ∀j,(⟨w.heap.size,j,none⟩:Addr)≠⟨g,c,none⟩:=fun j e=>by simp only[Addr.mk.injEq,and_true] at e; have:=HN0.out; omega
     rw[World.cell?_setCell_other _ _ _ _ (ne 4),World.cell?_setCell_other _ _ _ _ (ne 3),World.cell?_setCell_other _ _ _ _ (ne 2),World.cell?_setCell_other _ _ _ _ (ne 1),World.cell?_setCell_other _ _ _ _ (ne 0)]}
end
end Go.Proofs.YtmeiijjpomcgcaaDoor
