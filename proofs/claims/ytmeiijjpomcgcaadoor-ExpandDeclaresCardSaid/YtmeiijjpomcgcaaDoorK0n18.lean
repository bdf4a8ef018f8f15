/- What the proofs of ExpandDeclares want, part 18. -/
import Derived.Test.YtmeiijjpomcgcaaDoorK0n17
set_option linter.unusedVariables false
set_option linter.unusedSimpArgs false
set_option linter.unusedSectionVars false
set_option maxRecDepth 100000
set_option maxHeartbeats 16000000
namespace Go.Proofs.YtmeiijjpomcgcaaDoor
section
open Go.RowKit Shp Sub SubM
open Expd (Bd)
structure CK (W0:World) (val:Nat->Option Value) (lA:List BE) (b:BE) (d:Nat->Bool) (u:Nat->Value) (W:World):Prop where
 ci:CI W0 val false lA [] b 0 2 8 99 7 d u W
 al:d 9=true->u 9=u 8
 nn:d 99=false
section
variable {W0 W W' : World} {val : Nat -> Option Value} {lA : List BE} {b : BE} {d : Nat -> Bool} {u : Nat -> Value}
theorem CK.start {u:Nat->Value}:CK W0 val lA b (fun _=>false) u W0.drew:=⟨CI.start,nofun,rfl⟩
section
variable (h : CK W0 val lA b d u W)
include h
theorem CK.on {i:Nat} {v:Value} (hi:i≠8/\i≠9/\i≠99) (hc:CI W0 val false lA [] b 0 2 8 99 7 (also d i) (upd u i v) W'):CK W0 val lA b (also d i) (upd u i v) W':=
 ⟨hc,by rw[Z08 d (Ne.symm hi.2.1),Z02 u v (Ne.symm hi.1),Z02 u v (Ne.symm hi.2.1)]; exact h.al,by rw[Z08 d (Ne.symm hi.2.2)]; exact h.nn⟩
theorem CK.on8 {v:Value} (h9:d 9=false) (hc:CI W0 val false lA [] b 0 2 8 99 7 (also d 8) (upd u 8 v) W'):CK W0 val lA b (also d 8) (upd u 8 v) W':=
 ⟨hc,by rw[Z08 d (by decide),h9]; exact fun h=>(by cases h),by rw[Z08 d (by decide)]; exact h.nn⟩
theorem CK.on9 (hc:CI W0 val false lA [] b 0 2 8 99 7 (also d 9) (upd u 9 (u 8)) W'):CK W0 val lA b (also d 9) (upd u 9 (u 8)) W':=
 ⟨hc,fun _=>by rw[Z06,Z02 u _ (by decide)],by rw[Z08 d (by decide)]; exact h.nn⟩
end
end
theorem Z66 (L:List Bd) (A:Option Addr) (cap:Nat) (self:List UInt8) (k:Int) (nm:List UInt8) (t:Sh) (q:Ptr) (r0 r1 r2 r3 r4 r5 r6 r7 r8 r9:Value) (w:World) (hL:BdsAt w w.heap.size A L) (hl:L.length<=60) (hc:L.length<=cap) (hz:A=none->cap=0) (hsf:self.length<=9223372036854775807) (hnm:nm.length<=9223372036854775807) (hq:ShAt w w.heap.size q t):
 Calls Tryd.prog 17 #[.slice A L.length cap,.string ⟨self.toArray⟩,.agg #[.int .i64 k,.string ⟨nm.toArray⟩,.int .i64 t.kind,.string ⟨t.of_.toArray⟩,.string ⟨t.name.toArray⟩,.slice q.A t.names.length q.c,.slice q.P t.parts.length q.d,r0,r1,r2,r3,r4,r5,r6,r7,r8,r9]] w fun e w'=> ∃A' c',e= .returned (.tuple #[.slice A' (Expd.declare L self k nm t).1.length c',.int .i64 (Expd.declare L self k nm t).2])/\BdsAt w' w'.heap.size A' (Expd.declare L self k nm t).1/\Below w.heap.size w w':=by
 have hbb:=Z01 w (.cells #[.int .i64 k,.string ⟨nm.toArray⟩,.int .i64 t.kind,.string ⟨t.of_.toArray⟩,.string ⟨t.name.toArray⟩,.slice q.A t.names.length q.c,.slice q.P t.parts.length q.d,r0,r1,r2,r3,r4,r5,r6,r7,r8,r9] 47);have hdx:Dx (w.alloc (.cells #[.int .i64 k,.string ⟨nm.toArray⟩,.int .i64 t.kind,.string ⟨t.of_.toArray⟩,.string ⟨t.name.toArray⟩,.slice q.A t.names.length q.c,.slice q.P t.parts.length q.d,r0,r1,r2,r3,r4,r5,r6,r7,r8,r9] 47)) w.heap.size k nm t q:=by refine ⟨by simp, ?_, ?_, ?_, ?_, ?_, ?_, ?_⟩ <;> simp[go_sem]
 obtain ⟨W0,hW0⟩: ∃W0,w.alloc (.cells #[.int .i64 k,.string ⟨nm.toArray⟩,.int .i64 t.kind,.string ⟨t.of_.toArray⟩,.string ⟨t.name.toArray⟩,.slice q.A t.names.length q.c,.slice q.P t.parts.length q.d,r0,r1,r2,r3,r4,r5,r6,r7,r8,r9] 47)=W0:=⟨_,rfl⟩;rw[hW0] at hbb hdx;have HB:=Y1 hbb;have HD:=Y1 hdx;have HL:=Y1 (hL.next hbb);have HQ:=Y1 (hq.next hbb);have HZ:=Y1 hz;obtain ⟨_,c0,c1,c2,c3,c4,c5,c6⟩:=hdx;clear hbb hL hq hz;by_cases hk:k≠1/\k≠2
 {have hde:Expd.declare L self k nm t=(L,0):=by unfold Expd.declare; rw[if_pos hk]
  have e1: (k !=1)=true:=by simp[hk.1]
  have e2: (k !=2)=true:=by simp[hk.2]
  rw[hde];clear hk hde;go_enter Tryd.func17,Tryd.ntmps17;go_wp2;refine bodyPost_ret (v:= .tuple #[.slice A L.length cap,.int .i64 0]) (by simp[results,Tryd.results17,go_sem]) rfl ?_
  first
   | exact ⟨A,cap,rfl,HL.out,HB.out⟩
   | exact ⟨A,⟨cap,rfl⟩,HL.out,HB.out⟩}
 have HR:=Y1 (Z65 t q L A cap W0 HQ.out HL.out (by omega));unfold shV at HR;obtain ⟨j,hj⟩: ∃j,j=(Expd.resolve L t).1:=⟨_,rfl⟩;obtain ⟨er,her⟩: ∃er,er=(Expd.resolve L t).2:=⟨_,rfl⟩;have HJ:=Y1 (And.intro hj her);clear hj her;by_cases hk1:k=1
 {obtain rfl:k=1:=hk1;have e1: ((1:Int) !=1)=false:=by decide
  have e2: ((1:Int) !=2)=true:=by decide
  have e3: ((1:Int)==2)=false:=by decide
  clear hk;go_enter Tryd.func17,Tryd.ntmps17
  go_wp2_with fail
  refine HR.out.mono ?_;rintro e v1 ⟨q1,he,hat,hb1⟩;rw[<-HJ.out.1, <-HJ.out.2] at he;rw[<-HJ.out.1] at hat;unfold shV at he;subst he;have hb2:=Z01 v1 (.cells (Y8 j q1) 25);have hbb:=Z03 hb1 hb2;have HXj:=Y1 (Z07 v1 j q1);have HAj:=Y1 (hat.next hb2);obtain ⟨V,hV⟩: ∃W,v1.alloc (.cells (Y8 j q1) 25)=W:=⟨_,rfl⟩;rw[hV] at HXj HAj hbb;have HBV:=Y1 (Z03 HB.out hbb);have HBJ:=Y1 hbb;have HV1:Hid (W0.heap.size<=v1.heap.size):=Y1 hb1.size;have HLV0:Hid (∀W,Below W0.heap.size W0 W->BdsAt W W.heap.size A L):=Y1 (fun W hb=>HL.out.next hb);have HLV:=Y1 (HL.out.next hbb);have HDV:=Y1 (HD.out.next hbb HD.out.lt);have HJN:Hid (j.of_.length<=9223372036854775807):=Y1 hat.small.o;clear hb1 hb2 hbb hat c0 c1 c2 c3 c4 c5 c6 HR;obtain ⟨_,c0,c1,_⟩:=HDV.out;by_cases her0:er=0
  {have e4: (er !=0)=false:=by simp[her0]
   have hde:Expd.declare L self 1 nm t=(L++ [⟨[],nm,j⟩],0):=by
    unfold Expd.declare;rw[if_neg (by decide),if_neg (by rw[<-HJ.out.2]; exact fun h=>h her0)];rw[if_neg (by decide), <-HJ.out.1]
   have HDE:=Y1 hde;clear hde her0;have HX8:Hid (Box5c V v1.heap.size j q1):=Y1 (by obtain ⟨h0,⟨h1,h2,h3,h4,h5⟩,_⟩:=HXj.out; simp only[Nat.zero_add] at h1 h2 h3 h4 h5; exact ⟨h0,h1,h2,h3,h4,h5⟩)
   go_wp2_with fail
   clear hV;obtain ⟨ib,hifb,hzb,hsb,hbb7⟩:=Z1o Z1H;obtain ⟨lE,hlE,hok,hcl⟩:=Z4g HLV.out;have hlen:lE.length=L.length:=by have:=congrArg List.length hlE; simpa using this
   have HOK:=Y1 hok;have HCL:=Y1 hcl;have HLE:=Y1 hlE;clear hok hcl hlE;have hdis:Dis 0 2 8 99 7:=by decide
   refine Z1Z (rs:= [0,1,2,3,4,5,6,7,8,9,10])
    (fun u'=> { tmps:=#[.slice A L.length cap,.string { data:=self.toArray },.agg #[.int .i64 1,.string { data:=nm.toArray },.int .i64 t.kind,.string { data:=t.of_.toArray },.string { data:=t.name.toArray },.slice q.A t.names.length q.c,.slice q.P t.parts.length q.d,r0,r1,r2,r3,r4,r5,r6,r7,r8,r9],undef,undef,.pointer (some { block:=w.heap.size,off:=0 }),u' 9,u' 10,.pointer (some { block:=v1.heap.size,off:=0 }),.int .i64 er,.pointer (some { block:=w.heap.size,off:=0 }),.int .i64 1,.bool false,.bool false,undef,undef,undef,.bool false,undef,.tuple #[.agg (Y8 j q1),.int .i64 er],.pointer (some { block:=w.heap.size,off:=2 }),.agg (Y8 t q),.slice A L.length cap,.tuple #[.agg (Y8 j q1),.int .i64 er],.agg (Y8 j q1),.int .i64 er,.int .i64 er,.bool false,undef,.pointer (some { block:=w.heap.size,off:=0 }),.int .i64 1,.bool false,undef,undef,undef,undef,u' 0,u' 1,u' 2,u' 3,u' 4,u' 5,u' 6,u' 7,u' 8],defers:= [] })
    (fun j=>([undef,undef,undef,undef,undef,undef,undef,undef,undef,.slice none 0 0,.int .i64 0]:List Value).getD j undef) (CK V (fun jj=>match jj with | 1=>some (.slice A L.length cap) | 3=>some (.pointer (some ⟨w.heap.size,1,none⟩)) | 4=>some (.string ⟨nm.toArray⟩) | 5=>some (.agg (Y8 j q1)) | 6=>some (.agg #[.string ⟨([]:List UInt8).toArray⟩,.string ⟨nm.toArray⟩,.int .i64 j.kind,.string ⟨j.of_.toArray⟩,.string ⟨j.name.toArray⟩,.slice q1.A j.names.length q1.c,.slice q1.P j.parts.length q1.d]) | 10=>some (.int .i64 0) | _=>none) lE ((⟨[],nm,j⟩:Bd),q1)) (by kernel_rfl) (by kernel_rfl) (by kernel_rfl) CK.start ?_ ?_
   refine StepsInv.cons2 _ rfl (fun d u' W K' hs hI hd hw hK=> ?_) ?_
   {refine Z00 (v:= .slice (some ⟨W.heap.size,0,none⟩) 0 0) (W':=W.alloc (.cells #[] 54)) rfl ?_ (hK.out _ _ (hI.on (by decide) (hI.ci.mk0 hdis rfl)));go_simp}
   refine StepsInv.cons2 _ rfl (fun d u' W K' hs hI hd hw hK=> ?_) ?_
   {refine Z00 (v:= .slice A L.length cap) (W':=W) rfl ?_ (hK.out _ _ (hI.on (by decide) (hI.ci.pure (by decide) (fun v' h=>by cases h; rfl) Y2)));go_simp}
   refine StepsInv.cons2 _ rfl (fun d u' W K' hs hI hd hw hK=> ?_) ?_
   {have d2:d 2=false:=hd;have d8:d 8=false:=Z0e hs rfl (by kernel_rfl) hd;have w0:=hw 0 (by kernel_rfl);have d1:u' 1= .slice A L.length cap:=hI.ci.vals 1 (hw 1 (by kernel_rfl)) _ rfl;refine Z0k rfl _ _ 26 rfl V.heap.size 54 ib (.agg #[.string ByteArray.empty,.string ByteArray.empty,.int .i64 0,.string ByteArray.empty,.string ByteArray.empty,.slice none 0 0,.slice none 0 0]) 7 120 Tryd.underlying26 hifb hzb hsb hbb7 rfl (by decide) (u' 0) 0 [] rfl (hI.ci.r0 w0 d2) A L.length cap (cellsB lE) (by show u' 1=_; exact d1) (fun h=>by have:=HZ.out h; omega) (by rw[Z0u,hlen]) (by
     intro ad e j v hv;rcases HCL.out with h0 | ⟨g,off,hA,hg,hc⟩
     {rw[h0] at hv; simp[cellsB] at hv}
     · rw[hA] at e; cases e; rw[Z0d]; exact (hI.ci.up.cell (p:=⟨g,off+j,none⟩) hg).trans (hc j v hv)) (Z0D _) (by unfold maxLen; omega) (by omega) hI.ci.up.size ?_
    intro v' w' hown hg hat;exact hK.out _ _ (hI.on (by decide) (hI.ci.ap1 hdis rfl w0 d2 d8 hI.nn (by rw[hlen]; rwa [Nat.zero_add,List.nil_append] at hown) hg hat))}
   refine StepsInv.cons2 _ rfl (fun d u' W K' hs hI hd hw hK=> ?_) ?_
   {refine Z00 (v:= .pointer (some ⟨w.heap.size,1,none⟩)) (W':=W) rfl ?_ (hK.out _ _ (hI.on (by decide) (hI.ci.pure (by decide) (fun v' h=>by cases h; rfl) Y2)));go_simp}
   refine StepsInv.cons2 _ rfl (fun d u' W K' hs hI hd hw hK=> ?_) ?_
   {have d3:u' 3= .pointer (some ⟨w.heap.size,1,none⟩):=hI.ci.vals 3 (hw 3 (by kernel_rfl)) _ rfl;obtain ⟨_,y0,y1,_⟩:=HDV.out.next hI.ci.up HDV.out.lt;refine Z00 (v:= .string ⟨nm.toArray⟩) (W':=W) rfl ?_ (hK.out _ _ (hI.on (by decide) (hI.ci.pure (by decide) (fun v' h=>by cases h; rfl) Y2)));go_simp}
   refine StepsInv.cons2 _ rfl (fun d u' W K' hs hI hd hw hK=> ?_) ?_
   {obtain ⟨_,y0,y1,y2,y3,y4⟩:=HX8.out.next hI.ci.up;refine Z00 (v:= .agg (Y8 j q1)) (W':=W) rfl ?_ (hK.out _ _ (hI.on (by decide) (hI.ci.pure (by decide) (fun v' h=>by cases h; rfl) Y2)));go_simp}
   refine StepsInv.cons2 _ rfl (fun d u' W K' hs hI hd hw hK=> ?_) ?_
   {have d4:u' 4= .string ⟨nm.toArray⟩:=hI.ci.vals 4 (hw 4 (by kernel_rfl)) _ rfl;have d5:u' 5= .agg (Y8 j q1):=hI.ci.vals 5 (hw 5 (by kernel_rfl)) _ rfl;refine Z00 (v:= .agg #[.string ⟨([]:List UInt8).toArray⟩,.string ⟨nm.toArray⟩,.int .i64 j.kind,.string ⟨j.of_.toArray⟩,.string ⟨j.name.toArray⟩,.slice q1.A j.names.length q1.c,.slice q1.P j.parts.length q1.d]) (W':=W) rfl ?_ (hK.out _ _ (hI.on (by decide) (hI.ci.pure (by decide) (fun v' h=>by cases h; rfl) Y2)));go_simp}
   refine StepsInv.cons2 _ rfl (fun d u' W K' hs hI hd hw hK=> ?_) ?_
   {have d6:u' 6= .agg #[.string ⟨([]:List UInt8).toArray⟩,.string ⟨nm.toArray⟩,.int .i64 j.kind,.string ⟨j.of_.toArray⟩,.string ⟨j.name.toArray⟩,.slice q1.A j.names.length q1.c,.slice q1.P j.parts.length q1.d]:=hI.ci.vals 6 (hw 6 (by kernel_rfl)) _ rfl;refine Z00 (v:= .slice (some ⟨W.heap.size,0,none⟩) 1 1) (W':=W.alloc (.cells #[.string ⟨([]:List UInt8).toArray⟩,.string ⟨nm.toArray⟩,.int .i64 j.kind,.string ⟨j.of_.toArray⟩,.string ⟨j.name.toArray⟩,.slice q1.A j.names.length q1.c,.slice q1.P j.parts.length q1.d] 54)) rfl ?_ (hK.out _ _ (hI.on (by decide) (hI.ci.mkb hdis rfl)));go_simp}
   refine StepsInv.cons2 _ rfl (fun d u' W K' hs hI hd hw hK=> ?_) ?_
   {have d8:d 8=false:=hd;have d9:d 9=false:=Z0e hs rfl (by kernel_rfl) hd;have w2:=hw 2 (by kernel_rfl);obtain ⟨zb,e7,z1,z2,_,_,z5⟩:=hI.ci.rb (hw 7 (by kernel_rfl)) d8
    try dsimp only at e7
    refine Z0k rfl _ _ 26 rfl V.heap.size 54 ib (.agg #[.string ByteArray.empty,.string ByteArray.empty,.int .i64 0,.string ByteArray.empty,.string ByteArray.empty,.slice none 0 0,.slice none 0 0]) 7 120 Tryd.underlying26 hifb hzb hsb hbb7 rfl (by decide) (u' 2) lE.length (cellsB lE) rfl (hI.ci.r1 w2 d8) (some ⟨zb,0,none⟩) 1 1 (cellsB [((⟨[],nm,j⟩:Bd),q1)]) (by show u' 7=_; exact e7) (nofun) (by rw[Z0u]; rfl) (by intro ad e j v hv; cases e; rw[Z0d,Nat.zero_add]; exact z5 j v (by rw[<-Z0R]; exact hv)) (Z0D _) (by unfold maxLen; omega) (by omega) hI.ci.up.size ?_;intro v' w' hown hg hat;exact hK.out _ _ (hI.on8 d9 (hI.ci.ap2 hdis rfl w2 d8 hI.nn (by rw[Z0o]; exact hown) hg))}
   refine StepsInv.cons2 _ rfl (fun d u' W K' hs hI hd hw hK=> ?_) ?_
   {have w8:=hw 8 (by kernel_rfl);refine Z00 (v:=u' 8) (W':=W) rfl ?_ (hK.out _ _ (hI.on9 (hI.ci.pure (by decide) (fun v' h=>by cases h) Y2)));go_simp}
   refine StepsInv.cons2 _ rfl (fun d u' W K' hs hI hd hw hK=> ?_) StepsInv.nil
   {refine Z00 (v:= .int .i64 0) (W':=W) rfl ?_ (hK.out _ _ (hI.on (by decide) (hI.ci.pure (by decide) (fun v' h=>by cases h; rfl) Y2)));go_simp}
   intro d z' W2 hI hdn
   try dsimp only
   have hrow:=hI.ci.r2 (hdn 8 (by decide)) hI.nn;obtain ⟨g3,c3,e8⟩:=Z21 hrow (by omega);rw[hI.al (hdn 9 (by decide)),show z' 10= .int .i64 0 from hI.ci.vals 10 (hdn 10 (by decide)) _ rfl];rw[e8] at hrow ⊢;rw[hlen] at hrow ⊢;have HBE:=Y1 (Z03 HBV.out hI.ci.up);have HBD:Hid (BdsAt W2 W2.heap.size (some ⟨g3,0,none⟩) (L++ [((⟨[],nm,j⟩:Bd),q1).1])):=Y1 (by
    have h:=Z2l hrow (by rw[List.length_append,hlen]; rfl) (fun y hy=>by
     rcases List.mem_append.1 hy with hy | hy
     {exact ⟨(HOK.out y hy).1.next hI.ci.up,(HOK.out y hy).2⟩}
     · rw[List.mem_singleton.1 hy]; exact ⟨HAj.out.next hI.ci.up,Nat.zero_le _,hnm⟩)
    rw[List.map_append,HLE.out] at h;exact h)
   clear hI hdn e8 hrow hlen;go_wp2;refine bodyPost_ret (v:= .tuple #[.slice (some ⟨g3,0,none⟩) (L.length+1) c3,.int .i64 0]) (by simp[results,Tryd.results17,go_sem]) rfl ?_
   first
    | exact ⟨some ⟨g3,0,none⟩,⟨c3,by rw[HDE.out]; simp⟩,by rw[HDE.out]; exact HBD.out,HBE.out⟩
    | exact ⟨some ⟨g3,0,none⟩,c3,by rw[HDE.out]; simp; rfl,by rw[HDE.out]; exact HBD.out,HBE.out⟩}
  {have e4: (er !=0)=true:=by simp[her0]
   have hde:Expd.declare L self 1 nm t=([],er):=by
    unfold Expd.declare;rw[if_neg (by decide),if_pos (by rw[<-HJ.out.2]; exact her0), <-HJ.out.2]
   have HDE:=Y1 hde;clear hde her0;go_wp2;refine bodyPost_ret (v:= .tuple #[.slice none 0 0,.int .i64 er]) (by simp[results,Tryd.results17,go_sem]) rfl ?_;exact ⟨none,0,by rw[HDE.out]; rfl,by rw[HDE.out]; exact Or.inl rfl,HBV.out⟩}}
 have hk1:k=2:=by omega
 obtain rfl:k=2:=hk1;have e1: ((2:Int) !=1)=true:=by decide
 have e2: ((2:Int) !=2)=false:=by decide
 have e3: ((2:Int)==2)=true:=by decide
 clear hk;go_enter Tryd.func17,Tryd.ntmps17
 go_wp2_with fail
 refine HR.out.mono ?_;rintro e v1 ⟨q1,he,hat,hb1⟩;rw[<-HJ.out.1, <-HJ.out.2] at he;rw[<-HJ.out.1] at hat;unfold shV at he;subst he;have hb2:=Z01 v1 (.cells (Y8 j q1) 25);have hbb:=Z03 hb1 hb2;have HXj:=Y1 (Z07 v1 j q1);have HAj:=Y1 (hat.next hb2);obtain ⟨V,hV⟩: ∃W,v1.alloc (.cells (Y8 j q1) 25)=W:=⟨_,rfl⟩;rw[hV] at HXj HAj hbb;have HBV:=Y1 (Z03 HB.out hbb);have HBJ:=Y1 hbb;have HV1:Hid (W0.heap.size<=v1.heap.size):=Y1 hb1.size;have HLV0:Hid (∀W,Below W0.heap.size W0 W->BdsAt W W.heap.size A L):=Y1 (fun W hb=>HL.out.next hb);have HLV:=Y1 (HL.out.next hbb);have HDV:=Y1 (HD.out.next hbb HD.out.lt);have HJN:Hid (j.of_.length<=9223372036854775807):=Y1 hat.small.o;clear hb1 hb2 hbb hat c0 c1 c2 c3 c4 c5 c6 HR;obtain ⟨_,c0,c1,_⟩:=HDV.out;by_cases her0:er=0
 {have e4: (er !=0)=false:=by simp[her0]
  have hde:Expd.declare L self 2 nm t=(L++ [⟨[],nm,Expd.opq self nm⟩],0):=by
   unfold Expd.declare;rw[if_neg (by decide),if_neg (by rw[<-HJ.out.2]; exact fun h=>h her0)];rw[if_pos rfl]
  have HDE:=Y1 hde;clear hde her0;obtain ⟨hgl,⟨a0,a1,a2,a3,a4⟩,f0,f1,f2,f3,f4⟩:=HXj.out;simp only[Nat.zero_add] at a0 a1 a2 a3 a4;have hcx: ∀i,i < 5-> ∃v,V.cell? ⟨v1.heap.size,i,none⟩=some v:=fun i hi=>by
   rcases i with _ | _ | _ | _ | _ | i
   {exact ⟨_,a0⟩}
   {exact ⟨_,a1⟩}
   {exact ⟨_,a2⟩}
   {exact ⟨_,a3⟩}
   {exact ⟨_,a4⟩}
   {omega}
  have hla:=RX.lay_at (Expd.opq self nm) noQ hcx;have hlu:=RX.lay_upd V v1.heap.size (Expd.opq self nm) noQ;have hW0v:W0.heap.size<=v1.heap.size:=HV1.out;have hbl:Below W0.heap.size V (RX.lay V v1.heap.size (Expd.opq self nm) noQ):=hlu.below (by omega) (fun b hb=>by rw[hb]; exact hW0v);have HB3:=Y1 (HBV.out.trans (hbl.mono HB.out.size));have HL3:=Y1 (HLV0.out _ (HBJ.out.trans hbl));have HD3:=Y1 (HDV.out.next hbl HD.out.lt);obtain ⟨b0,b1,b2,b3,b4⟩:=hla;simp only[Nat.zero_add] at b0 b1 b2 b3 b4;obtain ⟨V2,hV2⟩: ∃W,RX.lay V v1.heap.size (Expd.opq self nm) noQ=W:=⟨_,rfl⟩;rw[hV2] at b0 b1 b2 b3 b4 HB3 HL3 HD3;unfold RX.lay at hV2;have hgl2:v1.heap.size < V2.heap.size:=by rw[<-hV2]; simpa[World.setCell] using hgl
  have HX8:Hid (Box5c V2 v1.heap.size (Expd.opq self nm) noQ):=Y1 ⟨hgl2,b0,b1,b2,b3,b4⟩;change (((((V.setCell ⟨v1.heap.size,0,none⟩ (.int .i64 10)).setCell ⟨v1.heap.size,1,none⟩ (.string ⟨self.toArray⟩)).setCell ⟨v1.heap.size,2,none⟩ (.string ⟨nm.toArray⟩)).setCell ⟨v1.heap.size,3,none⟩ (.slice none 0 0)).setCell ⟨v1.heap.size,4,none⟩ (.slice none 0 0))=V2 at hV2;have HSA:Hid (ShAt V2 V2.heap.size noQ (Expd.opq self nm)):=Y1 (Z6Y _ _ _ _ hsf hnm);clear hlu hbl hcx hgl2
  go_wp2_with fail
  clear hV2;obtain ⟨ib,hifb,hzb,hsb,hbb7⟩:=Z1o Z1H;obtain ⟨lE,hlE,hok,hcl⟩:=Z4g HL3.out;have hlen:lE.length=L.length:=by have:=congrArg List.length hlE; simpa using this
  have HOK:=Y1 hok;have HCL:=Y1 hcl;have HLE:=Y1 hlE;clear hok hcl hlE;have hdis:Dis 0 2 8 99 7:=by decide
  refine Z1Z (rs:= [0,1,2,3,4,5,6,7,8,9,10])
   (fun u'=> { tmps:=#[.slice A L.length cap,.string { data:=self.toArray },.agg #[.int .i64 2,.string { data:=nm.toArray },.int .i64 t.kind,.string { data:=t.of_.toArray },.string { data:=t.name.toArray },.slice q.A t.names.length q.c,.slice q.P t.parts.length q.d,r0,r1,r2,r3,r4,r5,r6,r7,r8,r9],undef,undef,.pointer (some { block:=w.heap.size,off:=0 }),u' 9,u' 10,.pointer (some { block:=v1.heap.size,off:=0 }),.int .i64 er,.pointer (some { block:=w.heap.size,off:=0 }),.int .i64 2,.bool true,.bool true,.pointer (some { block:=w.heap.size,off:=0 }),.int .i64 2,.bool false,.bool false,undef,.tuple #[.agg (Y8 j q1),.int .i64 er],.pointer (some { block:=w.heap.size,off:=2 }),.agg (Y8 t q),.slice A L.length cap,.tuple #[.agg (Y8 j q1),.int .i64 er],.agg (Y8 j q1),.int .i64 er,.int .i64 er,.bool false,undef,.pointer (some { block:=w.heap.size,off:=0 }),.int .i64 2,.bool true,.string { data:=self.toArray },.pointer (some { block:=w.heap.size,off:=1 }),.string { data:=nm.toArray },.agg #[.int .i64 10,.string { data:=self.toArray },.string { data:=nm.toArray },.slice none 0 0,.slice none 0 0],u' 0,u' 1,u' 2,u' 3,u' 4,u' 5,u' 6,u' 7,u' 8],defers:= [] })
   (fun j=>([undef,undef,undef,undef,undef,undef,undef,undef,undef,.slice none 0 0,.int .i64 0]:List Value).getD j undef) (CK V2 (fun jj=>match jj with | 1=>some (.slice A L.length cap) | 3=>some (.pointer (some ⟨w.heap.size,1,none⟩)) | 4=>some (.string ⟨nm.toArray⟩) | 5=>some (.agg (Y8 (Expd.opq self nm) noQ)) | 6=>some (.agg #[.string ⟨([]:List UInt8).toArray⟩,.string ⟨nm.toArray⟩,.int .i64 (Expd.opq self nm).kind,.string ⟨(Expd.opq self nm).of_.toArray⟩,.string ⟨(Expd.opq self nm).name.toArray⟩,.slice noQ.A (Expd.opq self nm).names.length noQ.c,.slice noQ.P (Expd.opq self nm).parts.length noQ.d]) | 10=>some (.int .i64 0) | _=>none) lE ((⟨[],nm,(Expd.opq self nm)⟩:Bd),noQ)) (by kernel_rfl) (by kernel_rfl) (by kernel_rfl) CK.start ?_ ?_
  refine StepsInv.cons2 _ rfl (fun d u' W K' hs hI hd hw hK=> ?_) ?_
  {refine Z00 (v:= .slice (some ⟨W.heap.size,0,none⟩) 0 0) (W':=W.alloc (.cells #[] 54)) rfl ?_ (hK.out _ _ (hI.on (by decide) (hI.ci.mk0 hdis rfl)));go_simp}
  refine StepsInv.cons2 _ rfl (fun d u' W K' hs hI hd hw hK=> ?_) ?_
  {refine Z00 (v:= .slice A L.length cap) (W':=W) rfl ?_ (hK.out _ _ (hI.on (by decide) (hI.ci.pure (by decide) (fun v' h=>by cases h; rfl) Y2)));go_simp}
  refine StepsInv.cons2 _ rfl (fun d u' W K' hs hI hd hw hK=> ?_) ?_
  {have d2:d 2=false:=hd;have d8:d 8=false:=Z0e hs rfl (by kernel_rfl) hd;have w0:=hw 0 (by kernel_rfl);have d1:u' 1= .slice A L.length cap:=hI.ci.vals 1 (hw 1 (by kernel_rfl)) _ rfl;refine Z0k rfl _ _ 26 rfl V2.heap.size 54 ib (.agg #[.string ByteArray.empty,.string ByteArray.empty,.int .i64 0,.string ByteArray.empty,.string ByteArray.empty,.slice none 0 0,.slice none 0 0]) 7 120 Tryd.underlying26 hifb hzb hsb hbb7 rfl (by decide) (u' 0) 0 [] rfl (hI.ci.r0 w0 d2) A L.length cap (cellsB lE) (by show u' 1=_; exact d1) (fun h=>by have:=HZ.out h; omega) (by rw[Z0u,hlen]) (by
    intro ad e j v hv;rcases HCL.out with h0 | ⟨g,off,hA,hg,hc⟩
    {rw[h0] at hv; simp[cellsB] at hv}
    · rw[hA] at e; cases e; rw[Z0d]; exact (hI.ci.up.cell (p:=⟨g,off+j,none⟩) hg).trans (hc j v hv)) (Z0D _) (by unfold maxLen; omega) (by omega) hI.ci.up.size ?_
   intro v' w' hown hg hat;exact hK.out _ _ (hI.on (by decide) (hI.ci.ap1 hdis rfl w0 d2 d8 hI.nn (by rw[hlen]; rwa [Nat.zero_add,List.nil_append] at hown) hg hat))}
  refine StepsInv.cons2 _ rfl (fun d u' W K' hs hI hd hw hK=> ?_) ?_
  {refine Z00 (v:= .pointer (some ⟨w.heap.size,1,none⟩)) (W':=W) rfl ?_ (hK.out _ _ (hI.on (by decide) (hI.ci.pure (by decide) (fun v' h=>by cases h; rfl) Y2)));go_simp}
  refine StepsInv.cons2 _ rfl (fun d u' W K' hs hI hd hw hK=> ?_) ?_
  {have d3:u' 3= .pointer (some ⟨w.heap.size,1,none⟩):=hI.ci.vals 3 (hw 3 (by kernel_rfl)) _ rfl;obtain ⟨_,y0,y1,_⟩:=HD3.out.next hI.ci.up HD3.out.lt;refine Z00 (v:= .string ⟨nm.toArray⟩) (W':=W) rfl ?_ (hK.out _ _ (hI.on (by decide) (hI.ci.pure (by decide) (fun v' h=>by cases h; rfl) Y2)));go_simp}
  refine StepsInv.cons2 _ rfl (fun d u' W K' hs hI hd hw hK=> ?_) ?_
  {obtain ⟨_,y0,y1,y2,y3,y4⟩:=HX8.out.next hI.ci.up;refine Z00 (v:= .agg (Y8 (Expd.opq self nm) noQ)) (W':=W) rfl ?_ (hK.out _ _ (hI.on (by decide) (hI.ci.pure (by decide) (fun v' h=>by cases h; rfl) Y2)));go_simp}
  refine StepsInv.cons2 _ rfl (fun d u' W K' hs hI hd hw hK=> ?_) ?_
  {have d4:u' 4= .string ⟨nm.toArray⟩:=hI.ci.vals 4 (hw 4 (by kernel_rfl)) _ rfl;have d5:u' 5= .agg (Y8 (Expd.opq self nm) noQ):=hI.ci.vals 5 (hw 5 (by kernel_rfl)) _ rfl;refine Z00 (v:= .agg #[.string ⟨([]:List UInt8).toArray⟩,.string ⟨nm.toArray⟩,.int .i64 (Expd.opq self nm).kind,.string ⟨(Expd.opq self nm).of_.toArray⟩,.string ⟨(Expd.opq self nm).name.toArray⟩,.slice noQ.A (Expd.opq self nm).names.length noQ.c,.slice noQ.P (Expd.opq self nm).parts.length noQ.d]) (W':=W) rfl ?_ (hK.out _ _ (hI.on (by decide) (hI.ci.pure (by decide) (fun v' h=>by cases h; rfl) Y2)));go_simp}
  refine StepsInv.cons2 _ rfl (fun d u' W K' hs hI hd hw hK=> ?_) ?_
  {have d6:u' 6= .agg #[.string ⟨([]:List UInt8).toArray⟩,.string ⟨nm.toArray⟩,.int .i64 (Expd.opq self nm).kind,.string ⟨(Expd.opq self nm).of_.toArray⟩,.string ⟨(Expd.opq self nm).name.toArray⟩,.slice noQ.A (Expd.opq self nm).names.length noQ.c,.slice noQ.P (Expd.opq self nm).parts.length noQ.d]:=hI.ci.vals 6 (hw 6 (by kernel_rfl)) _ rfl;refine Z00 (v:= .slice (some ⟨W.heap.size,0,none⟩) 1 1) (W':=W.alloc (.cells #[.string ⟨([]:List UInt8).toArray⟩,.string ⟨nm.toArray⟩,.int .i64 (Expd.opq self nm).kind,.string ⟨(Expd.opq self nm).of_.toArray⟩,.string ⟨(Expd.opq self nm).name.toArray⟩,.slice noQ.A (Expd.opq self nm).names.length noQ.c,.slice noQ.P (Expd.opq self nm).parts.length noQ.d] 54)) rfl ?_ (hK.out _ _ (hI.on (by decide) (hI.ci.mkb hdis rfl)));go_simp}
  refine StepsInv.cons2 _ rfl (fun d u' W K' hs hI hd hw hK=> ?_) ?_
  {have d8:d 8=false:=hd;have d9:d 9=false:=Z0e hs rfl (by kernel_rfl) hd;have w2:=hw 2 (by kernel_rfl);obtain ⟨zb,e7,z1,z2,_,_,z5⟩:=hI.ci.rb (hw 7 (by kernel_rfl)) d8
   try dsimp only at e7
   refine Z0k rfl _ _ 26 rfl V2.heap.size 54 ib (.agg #[.string ByteArray.empty,.string ByteArray.empty,.int .i64 0,.string ByteArray.empty,.string ByteArray.empty,.slice none 0 0,.slice none 0 0]) 7 120 Tryd.underlying26 hifb hzb hsb hbb7 rfl (by decide) (u' 2) lE.length (cellsB lE) rfl (hI.ci.r1 w2 d8) (some ⟨zb,0,none⟩) 1 1 (cellsB [((⟨[],nm,(Expd.opq self nm)⟩:Bd),noQ)]) (by show u' 7=_; exact e7) (nofun) (by rw[Z0u]; rfl) (by intro ad e j v hv; cases e; rw[Z0d,Nat.zero_add]; exact z5 j v (by rw[<-Z0R]; exact hv)) (Z0D _) (by unfold maxLen; omega) (by omega) hI.ci.up.size ?_;intro v' w' hown hg hat;exact hK.out _ _ (hI.on8 d9 (hI.ci.ap2 hdis rfl w2 d8 hI.nn (by rw[Z0o]; exact hown) hg))}
  refine StepsInv.cons2 _ rfl (fun d u' W K' hs hI hd hw hK=> ?_) ?_
  {have w8:=hw 8 (by kernel_rfl);refine Z00 (v:=u' 8) (W':=W) rfl ?_ (hK.out _ _ (hI.on9 (hI.ci.pure (by decide) (fun v' h=>by cases h) Y2)));go_simp}
  refine StepsInv.cons2 _ rfl (fun d u' W K' hs hI hd hw hK=> ?_) StepsInv.nil
  {refine Z00 (v:= .int .i64 0) (W':=W) rfl ?_ (hK.out _ _ (hI.on (by decide) (hI.ci.pure (by decide) (fun v' h=>by cases h; rfl) Y2)));go_simp}
  intro d z' W2 hI hdn
  try dsimp only
  have hrow:=hI.ci.r2 (hdn 8 (by decide)) hI.nn;obtain ⟨g3,c3,e8⟩:=Z21 hrow (by omega);rw[hI.al (hdn 9 (by decide)),show z' 10= .int .i64 0 from hI.ci.vals 10 (hdn 10 (by decide)) _ rfl];rw[e8] at hrow ⊢;rw[hlen] at hrow ⊢;have HBE:=Y1 (Z03 HB3.out hI.ci.up);have HBD:Hid (BdsAt W2 W2.heap.size (some ⟨g3,0,none⟩) (L++ [((⟨[],nm,(Expd.opq self nm)⟩:Bd),noQ).1])):=Y1 (by
   have h:=Z2l hrow (by rw[List.length_append,hlen]; rfl) (fun y hy=>by
    rcases List.mem_append.1 hy with hy | hy
    {exact ⟨(HOK.out y hy).1.next hI.ci.up,(HOK.out y hy).2⟩}
    · rw[List.mem_singleton.1 hy]; exact ⟨HSA.out.next hI.ci.up,Nat.zero_le _,hnm⟩)
   rw[List.map_append,HLE.out] at h;exact h)
  clear hI hdn e8 hrow hlen;go_wp2;refine bodyPost_ret (v:= .tuple #[.slice (some ⟨g3,0,none⟩) (L.length+1) c3,.int .i64 0]) (by simp[results,Tryd.results17,go_sem]) rfl ?_
  first
   | exact ⟨some ⟨g3,0,none⟩,⟨c3,by rw[HDE.out]; simp⟩,by rw[HDE.out]; exact HBD.out,HBE.out⟩
   | exact ⟨some ⟨g3,0,none⟩,c3,by rw[HDE.out]; simp; rfl,by rw[HDE.out]; exact HBD.out,HBE.out⟩}
 {have e4: (er !=0)=true:=by simp[her0]
  have hde:Expd.declare L self 2 nm t=([],er):=by
   unfold Expd.declare;rw[if_neg (by decide),if_pos (by rw[<-HJ.out.2]; exact her0), <-HJ.out.2]
  have HDE:=Y1 hde;clear hde her0;go_wp2;refine bodyPost_ret (v:= .tuple #[.slice none 0 0,.int .i64 er]) (by simp[results,Tryd.results17,go_sem]) rfl ?_;exact ⟨none,0,by rw[HDE.out]; rfl,by rw[HDE.out]; exact Or.inl rfl,HBV.out⟩}
end
end Go.Proofs.YtmeiijjpomcgcaaDoor
namespace Go.Proofs.YtmeiijjpomcgcaaDoor
namespace Expd
open Shp
mutual
def mB (o n:List UInt8):Sh->Bool
 | ⟨k,o',n',_,ps⟩=>mBs o n ps||(decide (k=9)&&decide (o'=o)&&decide (n'=n))
def mBs (o n:List UInt8):List Sh->Bool
 | []=>false
 | p::ps=>mB o n p||mBs o n ps
end
end Expd
open Go.RowKit Shp Sub
open Expd (Bd mB mBs)
namespace SubM
structure MtI (W0:World) (tk:Nat->Value->Prop) (d:Nat->Bool) (u:Nat->Value) (W:World):Prop where
 up:Below W0.heap.size W0 W
 vals: ∀j,d j=true->tk j (u j)
theorem MtI.start {W0:World} {tk:Nat->Value->Prop} {u:Nat->Value}:MtI W0 tk (fun _=>false) u W0.drew:=⟨Y2.drew,nofun⟩
theorem MtI.step {W0 W W':World} {tk:Nat->Value->Prop} {d:Nat->Bool} {u:Nat->Value} (h:MtI W0 tk d u W) {i:Nat} {v:Value} (hv:tk i v) (hb:Below W.heap.size W W'):MtI W0 tk (also d i) (upd u i v) W':=
 ⟨Z03 h.up hb,fun j hj=>by
  by_cases e:j=i
  {subst e; rw[Z06]; exact hv}
  · rw[Z02 u v e]; rw[Z2X e] at hj; exact h.vals j hj⟩
end SubM
end Go.Proofs.YtmeiijjpomcgcaaDoor
namespace Go.Proofs.YtmeiijjpomcgcaaDoor
section
open Go.RowKit Shp SubM
open Expd (Bd)
theorem Z5j (L:List Bd) (A C:Option Addr) (ca cb:Nat) (w:World) (hL:BdsAt w w.heap.size A L) (hM:BdsAt w w.heap.size C L) (hl:L.length<=1000):
 Y9 13 #[.slice A L.length ca,.slice C L.length cb] w (.bool true):=by
 have HL:=Y1 hL;have HM:=Y1 hM;have hne: ((L.length:Int) !=(L.length:Int))=false:=by simp
 clear hL hM;go_enter Tryd.func13,Tryd.ntmps13
 go_wp2_with fail
 clear hne
 go_loopw [5] (fun ii wr=> ∃i:Nat,ii= .int .i64 i/\i<=L.length/\Hid (Below w.heap.size w wr)) (fun i _=>L.length - (intOf i).toNat)
 case atStart=>exact ⟨0,rfl,Nat.zero_le _,Y1 Y2⟩
 case round=>
  obtain ⟨i,rfl,hi,HB⟩:=hrel;by_cases hlt:i < L.length
  {have hi1: (i:Int) < (L.length:Int):=by omega
   rcases HL.out.next HB.out with h0 | ⟨g,off,qs,hA,hg,hc⟩
   {omega}
   rcases HM.out.next HB.out with h0 | ⟨g',off',qs',hC,hg',hc'⟩
   {omega}
   subst hA hC;obtain ⟨x0,x1,xs,hat,_⟩:=hc i hlt;obtain ⟨y0,y1,ys,hat',_⟩:=hc' i hlt;obtain ⟨bk,hbk⟩: ∃bk,bk=L[i]'hlt:=⟨_,rfl⟩;obtain ⟨qa,hqa⟩: ∃q,q=qs i:=⟨_,rfl⟩;obtain ⟨qb,hqb⟩: ∃q,q=qs' i:=⟨_,rfl⟩;rw[<-hbk] at x0 x1 y0 y1;rw[<-hbk, <-hqa] at xs hat;rw[<-hbk, <-hqb] at ys hat';have hne1: (bk.of_ !=bk.of_)=false:=by simp
   have hne2: (bk.name !=bk.name)=false:=by simp
   have HCL:Hid (∀W,Below wr.heap.size wr W->Y9 11 #[.agg #[.int .i64 bk.sh.kind,.string ⟨bk.sh.of_.toArray⟩,.string ⟨bk.sh.name.toArray⟩,.slice qa.A bk.sh.names.length qa.c,.slice qa.P bk.sh.parts.length qa.d],.agg #[.int .i64 bk.sh.kind,.string ⟨bk.sh.of_.toArray⟩,.string ⟨bk.sh.name.toArray⟩,.slice qb.A bk.sh.names.length qb.c,.slice qb.P bk.sh.parts.length qb.d]] W (.bool true)):=Y1 (fun W hb=>by
    have h:=Z4v bk.sh bk.sh qa qb W (hat.next hb) (hat'.next hb);rw[Z3n] at h;exact h)
   have HX0:=Y1 x0;have HX1:=Y1 x1;have HXS:=Y1 xs;have HY0:=Y1 y0;have HY1:=Y1 y1;have HYS:=Y1 ys;have HG:=Y1 (And.intro hg hg');clear hc hc' hat hat' hbk hqa hqb x0 x1 xs y0 y1 ys hg hg'
   go_wp2_with fail
   refine Z3a (rs:= [0,1,2,3,4,5,6,7,8,9,10,11,12,13,14,15,16,17,18,19,20,21,22,23,24,25,26,27,28,29,30,31,32,33,34,35,36,37])
    (fun u'=> { tmps:=#[.slice (some { block:=g,off:=off }) L.length ca,.slice (some { block:=g',off:=off' }) L.length cb,undef,undef,u4,.int .i64 ↑i,.slice (some { block:=g,off:=off }) L.length ca,.int .i64 ↑L.length,.slice (some { block:=g',off:=off' }) L.length cb,.int .i64 ↑L.length,.bool false,.int .i64 ↑i,.slice (some { block:=g,off:=off }) L.length ca,.int .i64 ↑L.length,.bool true,u15,u16,u' 0,u' 1,u' 2,u' 3,u' 4,u' 5,u' 6,u' 7,u' 8,u' 9,u' 10,u' 11,u' 12,u' 13,u' 14,u' 15,u' 16,u' 17,u' 18,u' 19,u' 20,u' 21,u' 22,u' 23,u' 24,u' 25,u' 26,u' 27,u' 28,u' 29,u' 30,u' 31,u' 32,u' 33,u' 34,u' 35,u' 36,u' 37],defers:= [] })
    (fun j=>([u17,u18,u19,u20,u21,u22,u23,u24,u25,u26,u27,u28,u29,u30,u31,u32,u33,u34,u35,u36,u37,u38,u39,u40,u41,u42,u43,u44,u45,u46,u47,u48,u49,u50,u51,u52,u53,u54]:List Value).getD j undef) (MtI wr (fun j v=>v=([.slice (some ⟨g,off,none⟩) L.length ca,.int .i64 (i:Int),.pointer (some ⟨g,off+i * 7,none⟩),.pointer (some ⟨g,off+i * 7,none⟩),.string ⟨bk.of_.toArray⟩,.slice (some ⟨g',off',none⟩) L.length cb,.int .i64 (i:Int),.pointer (some ⟨g',off'+i * 7,none⟩),.pointer (some ⟨g',off'+i * 7,none⟩),.string ⟨bk.of_.toArray⟩,.bool false,.bool false,.slice (some ⟨g,off,none⟩) L.length ca,.int .i64 (i:Int),.pointer (some ⟨g,off+i * 7,none⟩),.pointer (some ⟨g,off+i * 7+1,none⟩),.string ⟨bk.name.toArray⟩,.slice (some ⟨g',off',none⟩) L.length cb,.int .i64 (i:Int),.pointer (some ⟨g',off'+i * 7,none⟩),.pointer (some ⟨g',off'+i * 7+1,none⟩),.string ⟨bk.name.toArray⟩,.bool false,.bool false,.bool false,.slice (some ⟨g,off,none⟩) L.length ca,.int .i64 (i:Int),.pointer (some ⟨g,off+i * 7,none⟩),.pointer (some ⟨g,off+i * 7+2,none⟩),.agg #[.int .i64 bk.sh.kind,.string ⟨bk.sh.of_.toArray⟩,.string ⟨bk.sh.name.toArray⟩,.slice qa.A bk.sh.names.length qa.c,.slice qa.P bk.sh.parts.length qa.d],.slice (some ⟨g',off',none⟩) L.length cb,.int .i64 (i:Int),.pointer (some ⟨g',off'+i * 7,none⟩),.pointer (some ⟨g',off'+i * 7+2,none⟩),.agg #[.int .i64 bk.sh.kind,.string ⟨bk.sh.of_.toArray⟩,.string ⟨bk.sh.name.toArray⟩,.slice qb.A bk.sh.names.length qb.c,.slice qb.P bk.sh.parts.length qb.d],.bool true,.bool false,.bool false]:List Value).getD j undef)) (by kernel_rfl) (by kernel_rfl) (by kernel_rfl) MtI.start ?_ ?_
   refine StepsInv.cons _ rfl (fun d u' W K' hI hd hw hK=> ?_) ?_
   {refine Z00 (v:= .slice (some ⟨g,off,none⟩) L.length ca) (W':=W) rfl ?_ (hK.out _ _ (hI.step rfl Y2))
    try dsimp only
    go_simp}
   refine StepsInv.cons _ rfl (fun d u' W K' hI hd hw hK=> ?_) ?_
   {refine Z00 (v:= .int .i64 (i:Int)) (W':=W) rfl ?_ (hK.out _ _ (hI.step rfl Y2))
    try dsimp only
    go_simp}
   refine StepsInv.cons _ rfl (fun d u' W K' hI hd hw hK=> ?_) ?_
   {have d0:u' 0= .slice (some ⟨g,off,none⟩) L.length ca:=hI.vals 0 (hw 0 (by kernel_rfl));have d1:u' 1= .int .i64 (i:Int):=hI.vals 1 (hw 1 (by kernel_rfl));refine Z00 (v:= .pointer (some ⟨g,off+i * 7,none⟩)) (W':=W) rfl ?_ (hK.out _ _ (hI.step rfl Y2))
    try dsimp only
    go_simp}
   refine StepsInv.cons _ rfl (fun d u' W K' hI hd hw hK=> ?_) ?_
   {have d2:u' 2= .pointer (some ⟨g,off+i * 7,none⟩):=hI.vals 2 (hw 2 (by kernel_rfl));refine Z00 (v:= .pointer (some ⟨g,off+i * 7,none⟩)) (W':=W) rfl ?_ (hK.out _ _ (hI.step rfl Y2))
    try dsimp only
    go_simp}
   refine StepsInv.cons _ rfl (fun d u' W K' hI hd hw hK=> ?_) ?_
   {have d3:u' 3= .pointer (some ⟨g,off+i * 7,none⟩):=hI.vals 3 (hw 3 (by kernel_rfl));have c0:=(hI.up.cell (p:=⟨g,off+i * 7,none⟩) HG.out.1).trans HX0.out;refine Z00 (v:= .string ⟨bk.of_.toArray⟩) (W':=W) rfl ?_ (hK.out _ _ (hI.step rfl Y2))
    try dsimp only
    go_simp}
   refine StepsInv.cons _ rfl (fun d u' W K' hI hd hw hK=> ?_) ?_
   {refine Z00 (v:= .slice (some ⟨g',off',none⟩) L.length cb) (W':=W) rfl ?_ (hK.out _ _ (hI.step rfl Y2))
    try dsimp only
    go_simp}
   refine StepsInv.cons _ rfl (fun d u' W K' hI hd hw hK=> ?_) ?_
   {refine Z00 (v:= .int .i64 (i:Int)) (W':=W) rfl ?_ (hK.out _ _ (hI.step rfl Y2))
    try dsimp only
    go_simp}
   refine StepsInv.cons _ rfl (fun d u' W K' hI hd hw hK=> ?_) ?_
   {have d5:u' 5= .slice (some ⟨g',off',none⟩) L.length cb:=hI.vals 5 (hw 5 (by kernel_rfl));have d6:u' 6= .int .i64 (i:Int):=hI.vals 6 (hw 6 (by kernel_rfl));refine Z00 (v:= .pointer (some ⟨g',off'+i * 7,none⟩)) (W':=W) rfl ?_ (hK.out _ _ (hI.step rfl Y2))
    try dsimp only
    go_simp}
   refine StepsInv.cons _ rfl (fun d u' W K' hI hd hw hK=> ?_) ?_
   {have d7:u' 7= .pointer (some ⟨g',off'+i * 7,none⟩):=hI.vals 7 (hw 7 (by kernel_rfl));refine Z00 (v:= .pointer (some ⟨g',off'+i * 7,none⟩)) (W':=W) rfl ?_ (hK.out _ _ (hI.step rfl Y2))
    try dsimp only
    go_simp}
   refine StepsInv.cons _ rfl (fun d u' W K' hI hd hw hK=> ?_) ?_
   {have d8:u' 8= .pointer (some ⟨g',off'+i * 7,none⟩):=hI.vals 8 (hw 8 (by kernel_rfl));have c0:=(hI.up.cell (p:=⟨g',off'+i * 7,none⟩) HG.out.2).trans HY0.out;refine Z00 (v:= .string ⟨bk.of_.toArray⟩) (W':=W) rfl ?_ (hK.out _ _ (hI.step rfl Y2))
    try dsimp only
    go_simp}
   refine StepsInv.cons _ rfl (fun d u' W K' hI hd hw hK=> ?_) ?_
   {have d4:u' 4= .string ⟨bk.of_.toArray⟩:=hI.vals 4 (hw 4 (by kernel_rfl));have d9:u' 9= .string ⟨bk.of_.toArray⟩:=hI.vals 9 (hw 9 (by kernel_rfl));refine Z00 (v:= .bool false) (W':=W) rfl ?_ (hK.out _ _ (hI.step rfl Y2))
    try dsimp only
    go_simp}
   refine StepsInv.cons _ rfl (fun d u' W K' hI hd hw hK=> ?_) ?_
   {have d10:u' 10= .bool false:=hI.vals 10 (hw 10 (by kernel_rfl));refine Z00 (v:= .bool false) (W':=W) rfl ?_ (hK.out _ _ (hI.step rfl Y2))
    try dsimp only
    go_simp}
   refine StepsInv.cons _ rfl (fun d u' W K' hI hd hw hK=> ?_) ?_
   {have d11:u' 11= .bool false:=hI.vals 11 (hw 11 (by kernel_rfl));refine Z00 (v:= .slice (some ⟨g,off,none⟩) L.length ca) (W':=W) (by simp[Region.wanted,yielded,d11]) ?_ (hK.out _ _ (hI.step rfl Y2))
    try dsimp only
    go_simp}
   refine StepsInv.cons _ rfl (fun d u' W K' hI hd hw hK=> ?_) ?_
   {have d11:u' 11= .bool false:=hI.vals 11 (hw 11 (by kernel_rfl));refine Z00 (v:= .int .i64 (i:Int)) (W':=W) (by simp[Region.wanted,yielded,d11]) ?_ (hK.out _ _ (hI.step rfl Y2))
    try dsimp only
    go_simp}
   refine StepsInv.cons _ rfl (fun d u' W K' hI hd hw hK=> ?_) ?_
   {have d11:u' 11= .bool false:=hI.vals 11 (hw 11 (by kernel_rfl));have d12:u' 12= .slice (some ⟨g,off,none⟩) L.length ca:=hI.vals 12 (hw 12 (by kernel_rfl));have d13:u' 13= .int .i64 (i:Int):=hI.vals 13 (hw 13 (by kernel_rfl));refine Z00 (v:= .pointer (some ⟨g,off+i * 7,none⟩)) (W':=W) (by simp[Region.wanted,yielded,d11]) ?_ (hK.out _ _ (hI.step rfl Y2))
    try dsimp only
    go_simp}
   refine StepsInv.cons _ rfl (fun d u' W K' hI hd hw hK=> ?_) ?_
   {have d11:u' 11= .bool false:=hI.vals 11 (hw 11 (by kernel_rfl));have d14:u' 14= .pointer (some ⟨g,off+i * 7,none⟩):=hI.vals 14 (hw 14 (by kernel_rfl));refine Z00 (v:= .pointer (some ⟨g,off+i * 7+1,none⟩)) (W':=W) (by simp[Region.wanted,yielded,d11]) ?_ (hK.out _ _ (hI.step rfl Y2))
    try dsimp only
    go_simp}
   refine StepsInv.cons _ rfl (fun d u' W K' hI hd hw hK=> ?_) ?_
   {have d11:u' 11= .bool false:=hI.vals 11 (hw 11 (by kernel_rfl));have d15:u' 15= .pointer (some ⟨g,off+i * 7+1,none⟩):=hI.vals 15 (hw 15 (by kernel_rfl));have c0:=(hI.up.cell (p:=⟨g,off+i * 7+1,none⟩) HG.out.1).trans HX1.out;refine Z00 (v:= .string ⟨bk.name.toArray⟩) (W':=W) (by simp[Region.wanted,yielded,d11]) ?_ (hK.out _ _ (hI.step rfl Y2))
    try dsimp only
    go_simp}
   refine StepsInv.cons _ rfl (fun d u' W K' hI hd hw hK=> ?_) ?_
   {have d11:u' 11= .bool false:=hI.vals 11 (hw 11 (by kernel_rfl));refine Z00 (v:= .slice (some ⟨g',off',none⟩) L.length cb) (W':=W) (by simp[Region.wanted,yielded,d11]) ?_ (hK.out _ _ (hI.step rfl Y2))
    try dsimp only
    go_simp}
   refine StepsInv.cons _ rfl (fun d u' W K' hI hd hw hK=> ?_) ?_
   {have d11:u' 11= .bool false:=hI.vals 11 (hw 11 (by kernel_rfl));refine Z00 (v:= .int .i64 (i:Int)) (W':=W) (by simp[Region.wanted,yielded,d11]) ?_ (hK.out _ _ (hI.step rfl Y2))
    try dsimp only
    go_simp}
   refine StepsInv.cons _ rfl (fun d u' W K' hI hd hw hK=> ?_) ?_
   {have d11:u' 11= .bool false:=hI.vals 11 (hw 11 (by kernel_rfl));have d17:u' 17= .slice (some ⟨g',off',none⟩) L.length cb:=hI.vals 17 (hw 17 (by kernel_rfl));have d18:u' 18= .int .i64 (i:Int):=hI.vals 18 (hw 18 (by kernel_rfl));refine Z00 (v:= .pointer (some ⟨g',off'+i * 7,none⟩)) (W':=W) (by simp[Region.wanted,yielded,d11]) ?_ (hK.out _ _ (hI.step rfl Y2))
    try dsimp only
    go_simp}
   refine StepsInv.cons _ rfl (fun d u' W K' hI hd hw hK=> ?_) ?_
   {have d11:u' 11= .bool false:=hI.vals 11 (hw 11 (by kernel_rfl));have d19:u' 19= .pointer (some ⟨g',off'+i * 7,none⟩):=hI.vals 19 (hw 19 (by kernel_rfl));refine Z00 (v:= .pointer (some ⟨g',off'+i * 7+1,none⟩)) (W':=W) (by simp[Region.wanted,yielded,d11]) ?_ (hK.out _ _ (hI.step rfl Y2))
    try dsimp only
    go_simp}
   refine StepsInv.cons _ rfl (fun d u' W K' hI hd hw hK=> ?_) ?_
   {have d11:u' 11= .bool false:=hI.vals 11 (hw 11 (by kernel_rfl));have d20:u' 20= .pointer (some ⟨g',off'+i * 7+1,none⟩):=hI.vals 20 (hw 20 (by kernel_rfl));have c0:=(hI.up.cell (p:=⟨g',off'+i * 7+1,none⟩) HG.out.2).trans HY1.out;refine Z00 (v:= .string ⟨bk.name.toArray⟩) (W':=W) (by simp[Region.wanted,yielded,d11]) ?_ (hK.out _ _ (hI.step rfl Y2))
    try dsimp only
    go_simp}
   refine StepsInv.cons _ rfl (fun d u' W K' hI hd hw hK=> ?_) ?_
   {have d11:u' 11= .bool false:=hI.vals 11 (hw 11 (by kernel_rfl));have d16:u' 16= .string ⟨bk.name.toArray⟩:=hI.vals 16 (hw 16 (by kernel_rfl));have d21:u' 21= .string ⟨bk.name.toArray⟩:=hI.vals 21 (hw 21 (by kernel_rfl));refine Z00 (v:= .bool false) (W':=W) (by simp[Region.wanted,yielded,d11]) ?_ (hK.out _ _ (hI.step rfl Y2))
    try dsimp only
    go_simp}
   refine StepsInv.cons _ rfl (fun d u' W K' hI hd hw hK=> ?_) ?_
   {have d11:u' 11= .bool false:=hI.vals 11 (hw 11 (by kernel_rfl));have d22:u' 22= .bool false:=hI.vals 22 (hw 22 (by kernel_rfl));refine Z00 (v:= .bool false) (W':=W) rfl ?_ (hK.out _ _ (hI.step rfl Y2))
    try dsimp only
    go_simp}
   refine StepsInv.cons _ rfl (fun d u' W K' hI hd hw hK=> ?_) ?_
   {have d23:u' 23= .bool false:=hI.vals 23 (hw 23 (by kernel_rfl));refine Z00 (v:= .bool false) (W':=W) rfl ?_ (hK.out _ _ (hI.step rfl Y2))
    try dsimp only
    go_simp}
   refine StepsInv.cons _ rfl (fun d u' W K' hI hd hw hK=> ?_) ?_
   {have d24:u' 24= .bool false:=hI.vals 24 (hw 24 (by kernel_rfl));refine Z00 (v:= .slice (some ⟨g,off,none⟩) L.length ca) (W':=W) (by simp[Region.wanted,yielded,d24]) ?_ (hK.out _ _ (hI.step rfl Y2))
    try dsimp only
    go_simp}
   refine StepsInv.cons _ rfl (fun d u' W K' hI hd hw hK=> ?_) ?_
   {have d24:u' 24= .bool false:=hI.vals 24 (hw 24 (by kernel_rfl));refine Z00 (v:= .int .i64 (i:Int)) (W':=W) (by simp[Region.wanted,yielded,d24]) ?_ (hK.out _ _ (hI.step rfl Y2))
    try dsimp only
    go_simp}
   refine StepsInv.cons _ rfl (fun d u' W K' hI hd hw hK=> ?_) ?_
   {have d24:u' 24= .bool false:=hI.vals 24 (hw 24 (by kernel_rfl));have d25:u' 25= .slice (some ⟨g,off,none⟩) L.length ca:=hI.vals 25 (hw 25 (by kernel_rfl));have d26:u' 26= .int .i64 (i:Int):=hI.vals 26 (hw 26 (by kernel_rfl));refine Z00 (v:= .pointer (some ⟨g,off+i * 7,none⟩)) (W':=W) (by simp[Region.wanted,yielded,d24]) ?_ (hK.out _ _ (hI.step rfl Y2))
    try dsimp only
    go_simp}
   refine StepsInv.cons _ rfl (fun d u' W K' hI hd hw hK=> ?_) ?_
   {have d24:u' 24= .bool false:=hI.vals 24 (hw 24 (by kernel_rfl));have d27:u' 27= .pointer (some ⟨g,off+i * 7,none⟩):=hI.vals 27 (hw 27 (by kernel_rfl));refine Z00 (v:= .pointer (some ⟨g,off+i * 7+2,none⟩)) (W':=W) (by simp[Region.wanted,yielded,d24]) ?_ (hK.out _ _ (hI.step rfl Y2))
    try dsimp only
    go_simp}
   refine StepsInv.cons _ rfl (fun d u' W K' hI hd hw hK=> ?_) ?_
   {have d24:u' 24= .bool false:=hI.vals 24 (hw 24 (by kernel_rfl));have d28:u' 28= .pointer (some ⟨g,off+i * 7+2,none⟩):=hI.vals 28 (hw 28 (by kernel_rfl));obtain ⟨c0,c1,c2,c3,c4⟩:=HXS.out.keep HG.out.1 hI.up;refine Z00 (v:= .agg #[.int .i64 bk.sh.kind,.string ⟨bk.sh.of_.toArray⟩,.string ⟨bk.sh.name.toArray⟩,.slice qa.A bk.sh.names.length qa.c,.slice qa.P bk.sh.parts.length qa.d]) (W':=W) (by simp[Region.wanted,yielded,d24]) ?_ (hK.out _ _ (hI.step rfl Y2))
    try dsimp only
    go_simp}
   refine StepsInv.cons _ rfl (fun d u' W K' hI hd hw hK=> ?_) ?_
   {have d24:u' 24= .bool false:=hI.vals 24 (hw 24 (by kernel_rfl));refine Z00 (v:= .slice (some ⟨g',off',none⟩) L.length cb) (W':=W) (by simp[Region.wanted,yielded,d24]) ?_ (hK.out _ _ (hI.step rfl Y2))
    try dsimp only
    go_simp}
   refine StepsInv.cons _ rfl (fun d u' W K' hI hd hw hK=> ?_) ?_
   {have d24:u' 24= .bool false:=hI.vals 24 (hw 24 (by kernel_rfl));refine Z00 (v:= .int .i64 (i:Int)) (W':=W) (by simp[Region.wanted,yielded,d24]) ?_ (hK.out _ _ (hI.step rfl Y2))
    try dsimp only
    go_simp}
   refine StepsInv.cons _ rfl (fun d u' W K' hI hd hw hK=> ?_) ?_
   {have d24:u' 24= .bool false:=hI.vals 24 (hw 24 (by kernel_rfl));have d30:u' 30= .slice (some ⟨g',off',none⟩) L.length cb:=hI.vals 30 (hw 30 (by kernel_rfl));have d31:u' 31= .int .i64 (i:Int):=hI.vals 31 (hw 31 (by kernel_rfl));refine Z00 (v:= .pointer (some ⟨g',off'+i * 7,none⟩)) (W':=W) (by simp[Region.wanted,yielded,d24]) ?_ (hK.out _ _ (hI.step rfl Y2))
    try dsimp only
    go_simp}
   refine StepsInv.cons _ rfl (fun d u' W K' hI hd hw hK=> ?_) ?_
   {have d24:u' 24= .bool false:=hI.vals 24 (hw 24 (by kernel_rfl));have d32:u' 32= .pointer (some ⟨g',off'+i * 7,none⟩):=hI.vals 32 (hw 32 (by kernel_rfl));refine Z00 (v:= .pointer (some ⟨g',off'+i * 7+2,none⟩)) (W':=W) (by simp[Region.wanted,yielded,d24]) ?_ (hK.out _ _ (hI.step rfl Y2))
    try dsimp only
    go_simp}
   refine StepsInv.cons _ rfl (fun d u' W K' hI hd hw hK=> ?_) ?_
   {have d24:u' 24= .bool false:=hI.vals 24 (hw 24 (by kernel_rfl));have d33:u' 33= .pointer (some ⟨g',off'+i * 7+2,none⟩):=hI.vals 33 (hw 33 (by kernel_rfl));obtain ⟨c0,c1,c2,c3,c4⟩:=HYS.out.keep HG.out.2 hI.up;refine Z00 (v:= .agg #[.int .i64 bk.sh.kind,.string ⟨bk.sh.of_.toArray⟩,.string ⟨bk.sh.name.toArray⟩,.slice qb.A bk.sh.names.length qb.c,.slice qb.P bk.sh.parts.length qb.d]) (W':=W) (by simp[Region.wanted,yielded,d24]) ?_ (hK.out _ _ (hI.step rfl Y2))
    try dsimp only
    go_simp}
   refine StepsInv.cons _ rfl (fun d u' W K' hI hd hw hK=> ?_) ?_
   {have d24:u' 24= .bool false:=hI.vals 24 (hw 24 (by kernel_rfl));have d29:u' 29= .agg #[.int .i64 bk.sh.kind,.string ⟨bk.sh.of_.toArray⟩,.string ⟨bk.sh.name.toArray⟩,.slice qa.A bk.sh.names.length qa.c,.slice qa.P bk.sh.parts.length qa.d]:=hI.vals 29 (hw 29 (by kernel_rfl));have d34:u' 34= .agg #[.int .i64 bk.sh.kind,.string ⟨bk.sh.of_.toArray⟩,.string ⟨bk.sh.name.toArray⟩,.slice qb.A bk.sh.names.length qb.c,.slice qb.P bk.sh.parts.length qb.d]:=hI.vals 34 (hw 34 (by kernel_rfl));refine Z1n (f:=11) (args:=#[.agg #[.int .i64 bk.sh.kind,.string ⟨bk.sh.of_.toArray⟩,.string ⟨bk.sh.name.toArray⟩,.slice qa.A bk.sh.names.length qa.c,.slice qa.P bk.sh.parts.length qa.d],.agg #[.int .i64 bk.sh.kind,.string ⟨bk.sh.of_.toArray⟩,.string ⟨bk.sh.name.toArray⟩,.slice qb.A bk.sh.names.length qb.c,.slice qb.P bk.sh.parts.length qb.d]]) (W':=W) (by simp[Region.wanted,yielded,d24]) ?_ ((HCL.out W hI.up).mono fun e w' ⟨he,hb⟩=>⟨_,he,hK.out _ _ (hI.step rfl hb)⟩)
    try dsimp only
    go_simp}
   refine StepsInv.cons _ rfl (fun d u' W K' hI hd hw hK=> ?_) ?_
   {have d24:u' 24= .bool false:=hI.vals 24 (hw 24 (by kernel_rfl));have d35:u' 35= .bool true:=hI.vals 35 (hw 35 (by kernel_rfl));refine Z00 (v:= .bool false) (W':=W) (by simp[Region.wanted,yielded,d24]) ?_ (hK.out _ _ (hI.step rfl Y2))
    try dsimp only
    go_simp}
   refine StepsInv.cons _ rfl (fun d u' W K' hI hd hw hK=> ?_) StepsInv.nil
   {have d24:u' 24= .bool false:=hI.vals 24 (hw 24 (by kernel_rfl));have d36:u' 36= .bool false:=hI.vals 36 (hw 36 (by kernel_rfl));refine Z00 (v:= .bool false) (W':=W) rfl ?_ (hK.out _ _ (hI.step rfl Y2))
    try dsimp only
    go_simp}
   intro dd z' W2 hI hdn
   try dsimp only
   rw[show z' 37= .bool false from hI.vals 37 (hdn 37 (by decide))];have HB2:=Y1 (Z03 HB.out hI.up);clear hI hdn;go_wp2
   go_roundw
   case rel=>exact ⟨i+1,by go_num,by omega,HB2⟩
   case measure=>simp[intOf]; omega}
  {have hi1: ¬(i:Int) < (L.length:Int):=by omega
   go_wp2;refine bodyPost_ret (v:= .bool true) (by simp[results,Tryd.results13,go_sem]) rfl ?_;exact ⟨rfl,HB.out⟩}
end
section
open Go.RowKit Shp
open Expd (Bd)
def smallB (L:List Bd):Bool:=decide (L.length<=60)&&L.all (fun b=>decide (size b.sh<=800))
section
variable {L : List Bd} (h : smallB L = true)
include L h
theorem Z9F:L.length<=60:=by
 unfold smallB at h;simp only[Bool.and_eq_true,decide_eq_true_eq] at h;exact h.1
theorem Z4w: ∀b∈L,size b.sh<=800:=fun b hb=>by
 unfold smallB at h;simp only[Bool.and_eq_true,List.all_eq_true,decide_eq_true_eq] at h;exact h.2 b hb
end
theorem Z9G (L:List Bd) (A:Option Addr) (cap:Nat) (w:World) (hL:BdsAt w w.heap.size A L) (hl:L.length<=9223372036854775807):
 Y9 7 #[.slice A L.length cap] w (.bool (smallB L)):=by
 by_cases h60:60 < L.length
 {have hF:smallB L=false:=by unfold smallB; rw[decide_eq_false (by omega)]; rfl
  have h60': (60:Int) < (L.length:Int):=by omega
  rw[hF];clear hF hL;go_enter Tryd.func7,Tryd.ntmps7;go_wp2;go_ret;exact ⟨rfl,Below.refl _ _⟩}
 {have h60': ¬(60:Int) < (L.length:Int):=by omega
  have HL:=Y1 hL;clear hL;go_enter Tryd.func7,Tryd.ntmps7
  go_wp2_with fail
  go_loopw [3] (fun i wr=> ∃k:Nat,k<=L.length/\i= .int .i64 (k:Int)/\Hid (∀j (hj:j < L.length),j < k->size (L[j]'hj).sh<=800)/\Hid (Below w.heap.size w wr)) (fun i _=>L.length - (intOf i).toNat)
  case atStart=>exact ⟨0,Nat.zero_le _,rfl,Y1 (fun _ _ h=>absurd h (by omega)),Y1 Y2⟩
  case round=>
   obtain ⟨k,hk,rfl,hS,HB⟩:=hrel;by_cases hkl:k < L.length
   {have hkl': (k:Int) < (L.length:Int):=by omega
    obtain ⟨g,off,qs,hA,hg,hc⟩:=(HL.out.keep HB.out (Nat.le_refl _)).resolve_left (by omega);subst hA;obtain ⟨x0,x1,⟨z0,z1,z2,z3,z4⟩,hat,_⟩:=hc k hkl;change wr.cell? ⟨g,off+k * 7+3,none⟩=_ at z1;change wr.cell? ⟨g,off+k * 7+4,none⟩=_ at z2;change wr.cell? ⟨g,off+k * 7+5,none⟩=_ at z3;change wr.cell? ⟨g,off+k * 7+6,none⟩=_ at z4;obtain ⟨bk,hbk⟩: ∃bk,bk=L[k]'hkl:=⟨_,rfl⟩;rw[<-hbk] at x0 x1 z0 z1 z2 z3 z4 hat;have hcl:=Z5i bk.sh (qs k) 800 wr (hat.of HB.out.size (fun _ _ _=>rfl)) (by omega);rw[show (((800:Nat):Int))=(800:Int) from rfl] at hcl;have HC:=Y1 hcl;have HBK:=Y1 hbk;clear hc hat hg hbk hcl x0 x1
    go_wp2_with fail
    refine HC.out.mono ?_;rintro e wk ⟨rfl,hb2⟩;have HB2:=Y1 (HB.out.trans (hb2.mono HB.out.size));clear hb2 HC z0 z1 z2 z3 z4;by_cases h8:800 < size bk.sh
    {have hx: (800:Int) < (sizeTo 800 bk.sh:Int):=by unfold sizeTo; omega
     have hF:smallB L=false:=by
      cases hs:smallB L with
      | false=>rfl
      | true=>
       have:=Z4w hs (L[k]'hkl) (List.getElem_mem hkl);rw[<-HBK.out] at this;omega
     go_wp2;refine bodyPost_ret (v:= .bool false) (by simp[results,Tryd.results7,go_sem]) rfl ?_;exact ⟨by rw[hF],HB2.out⟩}
    {have hx: ¬(800:Int) < (sizeTo 800 bk.sh:Int):=by unfold sizeTo; omega
     have HS2:Hid (∀j (hj:j < L.length),j < k+1->size (L[j]'hj).sh<=800):=Y1 (fun j hj hjk=>by
      by_cases e:j=k
      {subst e; rw[<-HBK.out]; omega}
      · exact hS.out j hj (by omega))
     clear hS h8;go_wp2
     go_roundw
     case rel=>exact ⟨k+1,by omega,by go_num,HS2,HB2⟩
     case measure=>simp[intOf]; omega}}
   {obtain rfl:k=L.length:=by omega
    have hkl': ¬(L.length:Int) < (L.length:Int):=by omega
    have hT:smallB L=true:=by
     unfold smallB;rw[decide_eq_true (by omega),Bool.true_and,List.all_eq_true];intro b hb;obtain ⟨j,hj,rfl⟩:=List.getElem_of_mem hb;rw[decide_eq_true_eq];exact hS.out j hj hj
    clear hS;go_wp2;refine bodyPost_ret (v:= .bool true) (by simp[results,Tryd.results7,go_sem]) rfl ?_;exact ⟨by first | rfl | rw[hT],HB.out⟩}}
end
end Go.Proofs.YtmeiijjpomcgcaaDoor
