/- What the proofs of ExpandDeclares want, part 16. -/
import Derived.Test.YtmeiijjpomcgcaaDoorK0n15
set_option linter.unusedVariables false
set_option linter.unusedSimpArgs false
set_option linter.unusedSectionVars false
set_option maxRecDepth 100000
set_option maxHeartbeats 16000000
namespace Go.Proofs.YtmeiijjpomcgcaaDoor
section
open Go.RowKit Shp
def valN (ob sb:Nat) (AN:Option Addr) (m cN k:Nat) (qA:Option Addr) (tn qc i:Nat) (pn:Addr) (y:List UInt8):Nat->Option Value
 | 1=>some (.pointer (some ⟨ob,3,none⟩))
 | 2=>some (.slice AN m cN)
 | 3=>some (.int .i64 (k:Int))
 | 4=>some (.slice AN k cN)
 | 6=>some (.pointer (some ⟨sb,3,none⟩))
 | 7=>some (.slice qA tn qc)
 | 8=>some (.int .i64 (i:Int))
 | 9=>some (.pointer (some pn))
 | 10=>some (.string ⟨y.toArray⟩)
 | 13=>some (.pointer (some ⟨ob,3,none⟩))
 | 14=>some (.slice AN m cN)
 | 15=>some (.int .i64 (k:Int))
 | 16=>some (.slice (hiA AN k cN 1) (m - k) (cN - k))
 | 18=>some (.pointer (some ⟨ob,3,none⟩))
 | _=>none
def valP (ob:Nat) (AP:Option Addr) (m cP k:Nat) (z:Sh) (q':Ptr):Nat->Option Value
 | 1=>some (.pointer (some ⟨ob,4,none⟩))
 | 2=>some (.slice AP m cP)
 | 3=>some (.int .i64 (k:Int))
 | 4=>some (.slice AP k cP)
 | 6=>some (.agg (Y8 z q'))
 | 9=>some (.pointer (some ⟨ob,4,none⟩))
 | 10=>some (.slice AP m cP)
 | 11=>some (.int .i64 (k:Int))
 | 12=>some (.slice (hiA AP k cP 5) (m - k) (cP - k))
 | 14=>some (.pointer (some ⟨ob,4,none⟩))
 | _=>none
theorem FinC.size {W0 W:World} {ob c ty size n:Nat} {xs:List Value} (h:FinC W0 ob c ty size n xs W):W0.heap.size<=W.heap.size:=by
 obtain ⟨Wm,g,cap,b1,_,_,rfl⟩:=h;simpa[World.setCell] using b1.size
section
variable {W0 W : World} {ob c ty size n : Nat} {xs : List Value} (h : FinC W0 ob c ty size n xs W)
include W0 W ob c ty size n xs h
theorem FinC.same {b:Nat} (hb:b < W0.heap.size) (hne:b≠ob):Z0y W0 W b:=by
 obtain ⟨Wm,g,cap,b1,_,_,rfl⟩:=h;exact (Z0y.below b1 hb).trans (Z0i _ _ _ (fun e=>hne e.symm))
theorem FinC.other (hb:ob < W0.heap.size) {j:Nat} (hne:j≠c):W.cell? ⟨ob,j,none⟩=W0.cell? ⟨ob,j,none⟩:=by
 obtain ⟨Wm,g,cap,b1,_,_,rfl⟩:=h;exact (World.cell?_setCell_other _ _ _ _ (fun e=>hne (congrArg Addr.off e).symm)).trans (b1.cell (p:=⟨ob,j,none⟩) hb)
end
theorem FinC.frozen {W0 W:World} {ob c ty size n:Nat} {xs:List Value} (h:FinC W0 ob c ty size n xs W) (hb:ob < W0.heap.size) (j:Nat):W.frozen? ⟨ob,j,none⟩=W0.frozen? ⟨ob,j,none⟩:=by
 obtain ⟨Wm,g,cap,b1,_,_,rfl⟩:=h;rw[World.frozen?_setCell]; exact b1.frozen (p:=⟨ob,j,none⟩) hb
theorem FinC.row {W0 W:World} {ob c ty size n:Nat} {xs:List Value} (h:FinC W0 ob c ty size n xs W) {B e s m cc:Nat} {A:Option Addr} {ys:List Value} (hr:W0.ownsRow B e s (.slice A m cc) m ys) (hne:rowB A≠some ob):W.ownsRow B e s (.slice A m cc) m ys:=by
 obtain ⟨Wm,g,cap,b1,_,_,rfl⟩:=h;refine Z20 (hr.kept (row:=none) ⟨b1.os,b1.tape,b1.output,b1.size,fun j hj _=>b1.block j hj⟩ ?_) (a:=⟨ob,c,none⟩) (by rw[rowB_own]; exact hne) _;cases hq:Value.ownBlock (.slice A m cc) with
 | none=>exact Or.inl rfl
 | some b=>exact Or.inr nofun
theorem FinC.undrew {W0 W:World} {ob c ty size n:Nat} {xs:List Value} (h:FinC W0.drew ob c ty size n xs W):FinC W0 ob c ty size n xs W:=by
 obtain ⟨Wm,g,cap,b1,r1,h1,h2⟩:=h;exact ⟨Wm,g,cap,⟨b1.os,b1.tape,b1.output,b1.size,b1.block⟩,r1,h1,h2⟩
section
variable {W W' : World} {B e m c k : Nat} {A : Option Addr} {l : List (List UInt8)} (h : W.ownsRow B e 1 (.slice A m c) m (namesE l)) (hk : k <= m) (hb : Below W.heap.size W W')
include W W' B e m c k A l h hk hb
theorem Zcd:
 ∀ad,A=some ad-> ∀j u,(namesE (l.take k))[j]? =some u->W'.cell? (ad.add j)=some u:=by
 have:=Zb0 h hk hb;rw[Nat.mul_one] at this;simpa[namesE,List.map_take] using this
theorem Zce:
 ∀ad,hiA A k c 1=some ad-> ∀j u,(namesE (l.drop k))[j]? =some u->W'.cell? (ad.add j)=some u:=by
 have:=Zb1 h hk hb;rw[Nat.mul_one] at this;simpa[namesE,List.map_drop] using this
end
theorem Z8a (l:List El) (k:Nat): (cellsE l).take (k * 5)=cellsE (l.take k):=by
 rcases Nat.lt_or_ge l.length k with h | h
 {rw[List.take_of_length_le (by rw[cellsE_len]; omega),List.take_of_length_le (by omega)]}
 {conv=>lhs; rw[<-List.take_append_drop k l,cellsE_append]
  have: (cellsE (l.take k)).length=k * 5:=by rw[cellsE_len,List.length_take,Nat.min_eq_left h]
  rw[<-this,List.take_left]}
theorem Z8b (l:List El) (k:Nat): (cellsE l).drop (k * 5)=cellsE (l.drop k):=by
 rcases Nat.lt_or_ge l.length k with h | h
 {rw[List.drop_of_length_le (by rw[cellsE_len]; omega),List.drop_of_length_le (by omega)]; rfl}
 {conv=>lhs; rw[<-List.take_append_drop k l,cellsE_append]
  have: (cellsE (l.take k)).length=k * 5:=by rw[cellsE_len,List.length_take,Nat.min_eq_left h]
  rw[<-this,List.drop_left]}
section
variable {W W' : World} {B e m c k : Nat} {A : Option Addr} {l : List El} (h : W.ownsRow B e 5 (.slice A m c) m (cellsE l)) (hk : k <= m) (hb : Below W.heap.size W W')
include W W' B e m c k A l h hk hb
theorem Zcf:
 ∀ad,A=some ad-> ∀j u,(cellsE (l.take k))[j]? =some u->W'.cell? (ad.add j)=some u:=by
 have:=Zb0 h hk hb
 rwa [Z8a] at this
theorem Zcg:
 ∀ad,hiA A k c 5=some ad-> ∀j u,(cellsE (l.drop k))[j]? =some u->W'.cell? (ad.add j)=some u:=by
 have:=Zb1 h hk hb
 rwa [Z8b] at this
end
theorem Z64 (t:Sh) (q:Ptr) (w:World) (hq:ShAt w w.heap.size q t) (hz:t.parts.length<=400) (hn:t.names≠ []) (hlen:t.names.length=t.parts.length) (hf:Rs7 t):
 Calls Tryd.prog 40 #[.agg #[.int .i64 t.kind,.string ⟨t.of_.toArray⟩,.string ⟨t.name.toArray⟩,.slice q.A t.names.length q.c,.slice q.P t.parts.length q.d]] w
  fun e w'=> ∃q' F,e= .returned (.agg #[.int .i64 (sorted t).kind,.string ⟨(sorted t).of_.toArray⟩,.string ⟨(sorted t).name.toArray⟩,.slice q'.A (sorted t).names.length q'.c,.slice q'.P (sorted t).parts.length q'.d])/\Own w' q' (sorted t) F/\(∀b∈F,w.heap.size<=b)/\Below w.heap.size w w':=by
 have HS:Hid (sorted t=⟨t.kind,t.of_,t.name,(sortF (t.names.zip (t.parts.map sorted))).map Prod.fst,(sortF (t.names.zip (t.parts.map sorted))).map Prod.snd⟩):=Y1 (by rw[Z0c,if_neg hn]);have HZL:Hid ((t.names.zip (t.parts.map sorted)).length=t.parts.length):=Y1 (by rw[List.length_zip,List.length_map]; omega);have HZA:Hid (∀i (h:i < t.parts.length) (h1:i < t.names.length) (h2:i < (t.names.zip (t.parts.map sorted)).length),(t.names.zip (t.parts.map sorted))[i]'h2=(t.names[i]'h1,sorted (t.parts[i]'h))):=Y1 (fun i h h1 h2=>by rw[List.getElem_zip,List.getElem_map]);have HBW:=Y1 (Z76 w t q);have HBA:=Y1 (ZaX w t q);have HBR:=Y1 (ZaY w t q);have HBO:=Y1 (ZaZ w t q);have HSZ:=Y1 (Z8u w t q);have HQ:=Y1 hq;have HP:=Y1 hq.part;have HT:=Y1 hq.strs;have HF:=Y1 hf;have HLEN:=Y1 hlen;have hn0: ((t.names.length:Int)==0)=false:=by
  rw[beq_eq_false_iff_ne];intro e;exact hn (List.eq_nil_of_length_eq_zero (by omega))
 have HB0:=Y1 (Z07 w t q);obtain ⟨b1,⟨c0,c1,c2,c3,c4⟩,b2⟩:=HB0.out;clear hq hf hn b1 b2 hlen;go_enter Tryd.func40,Tryd.ntmps40
 go_wp2_with fail
 clear c0 c1 c2 c3 c4 HB0;change Code.wp _ _ _ _ (rW w t q);obtain ⟨ob,hob⟩: ∃ob,ob=w.heap.size+1+1:=⟨_,rfl⟩;have HOB:=Y1 hob;have HBO2:Hid (OutS (rW w t q) (rW w t q) ob t.kind t.of_ t.name [] [] none 0 none 0):=Y1 (by rw[hob]; exact HBO.out);rw[<-hob];generalize rW w t q=W1 at HBW HBA HBR HBO2 HSZ ⊢;have hsw:w.heap.size≠ob:=by omega
 clear HBO hob
 go_loopw [4] (fun ii wr=> ∃i:Nat,ii= .int .i64 i/\i<=t.parts.length/\Hid (Rn7 W1 wr ob t i)) (fun i _=>t.parts.length - (intOf i).toNat)
 case atStart=>exact ⟨0,rfl,Nat.zero_le _,Y1 ⟨[],none,0,none,0,HBO2.out,rfl⟩⟩
 case round=>
  obtain ⟨i,rfl,hi,HR⟩:=hrel;obtain ⟨l,AN,cN,AP,cP,hO,hl⟩:=HR.out;have hli:l.length=i:=by
   have:=congrArg List.length hl;rw[(Z0x _).length_eq,List.length_map,List.length_take] at this;have:=HZL.out;omega
  have hbw:Below w.heap.size w wr:=hO.up.old HBW.out (by have:=HOB.out; omega);have HBX:=Y1 (hO.box HBA.out hsw);obtain ⟨b1,⟨c0,c1,c2,c3,c4⟩,b2⟩:=HBX.out;simp only[Nat.zero_add] at c0 c1 c2 c3 c4;clear b1 b2;by_cases hlt:i < t.parts.length
  {rcases HP.out with h0 | ⟨g,off,qs,hqP,hg,hc,hr⟩
   {omega}
   {have hin:i < t.names.length:=by have:=HLEN.out; omega
    rcases HT.out.cell7 with h0 | ⟨gn,offn,hqA,hgn,hcn⟩
    {omega}
    have y1:=(hbw.cell (p:=⟨gn,offn+i,none⟩) hgn).trans (hcn i hin);obtain ⟨x,hx⟩: ∃x,x=t.parts[i]:=⟨_,rfl⟩;obtain ⟨y,hy⟩: ∃y,y=t.names[i]'hin:=⟨_,rfl⟩;obtain ⟨p0,p1,p2,p3,p4⟩:=(hc i hlt).keep hg hbw;have IH:=Y1 (HF.out t.parts[i] (List.getElem_mem _) (qs i) wr ((hr i hlt).keep hbw (Nat.le_refl _) |>.more hbw.size));rw[<-hx] at p0 p1 p2 p3 p4 IH;rw[<-hy] at y1;have HZI:Hid (∀h,(t.names.zip (t.parts.map sorted))[i]'h=(y,sorted x)):=Y1 (fun h=>by rw[hx,hy]; exact HZA.out i hlt hin h);have HL:=Y1 hl;have HO:=Y1 hO;have HLI:=Y1 hli;have hl400:l.length<=400:=by omega
    have HBWR:=Y1 hbw;have HY1:=Y1 y1;have HGN:Hid (gn < w.heap.size):=Y1 hgn;have hi1: (i:Int) < (t.parts.length:Int):=by omega
    have hi2: (i:Int) < (t.names.length:Int):=by omega
    have hgw:g < wr.heap.size:=Nat.lt_of_lt_of_le hg hbw.size;rw[hqP] at c4;have HQA:=Y1 hqA;clear hx hy hl hO hli hbw hc hr hqP HR hqA hcn y1 hin
    go_wp2_with fail
    refine IH.out.mono ?_;rintro e w2 ⟨q',F,rfl,ho,hF,hb2⟩;obtain ⟨z,hz'⟩: ∃z,z=sorted x:=⟨_,rfl⟩;rw[<-hz'] at ho HZI ⊢;have HPB:Hid (w2.heap.size≠ob):=Y1 (by have:=HO.out.lt; have:=HO.out.up.size; have:=hb2.size; omega);have HO3:=Y1 ((HO.out.below hb2).below (Z01 w2 (.cells #[.int .i64 z.kind,.string ⟨z.of_.toArray⟩,.string ⟨z.name.toArray⟩,.slice q'.A z.names.length q'.c,.slice q'.P z.parts.length q'.d] 25)));have HBX3:=Y1 ((HBX.out.next hb2).next (Z01 w2 (.cells #[.int .i64 z.kind,.string ⟨z.of_.toArray⟩,.string ⟨z.name.toArray⟩,.slice q'.A z.names.length q'.c,.slice q'.P z.parts.length q'.d] 25)));have HNZ:=Y1 (Z07 w2 z q');have HOW:=Y1 (Z0K ho (Z01 w2 (.cells #[.int .i64 z.kind,.string ⟨z.of_.toArray⟩,.string ⟨z.name.toArray⟩,.slice q'.A z.names.length q'.c,.slice q'.P z.parts.length q'.d] 25)));have HFB:Hid (∀b∈F,W1.heap.size<=b/\rowB AN≠some b/\rowB AP≠some b):=Y1 (fun b hb=>by
     have h1:=hF b hb;have h2:=HO.out.up.size;refine ⟨by omega,fun e=> ?_,fun e=> ?_⟩
     {have:=(OutS.row HO.out.rN b e).2; omega}
     · have:=(OutS.row HO.out.rP b e).2; omega)
    have hbw3:=Z03 (Z03 HBWR.out (hb2.mono (Nat.le_refl _))) (Z01 w2 (.cells #[.int .i64 z.kind,.string ⟨z.of_.toArray⟩,.string ⟨z.name.toArray⟩,.slice q'.A z.names.length q'.c,.slice q'.P z.parts.length q'.d] 25));have HBW3:=Y1 hbw3;have HY3:Hid ((w2.alloc (.cells #[.int .i64 z.kind,.string ⟨z.of_.toArray⟩,.string ⟨z.name.toArray⟩,.slice q'.A z.names.length q'.c,.slice q'.P z.parts.length q'.d] 25)).cell? ⟨gn,offn+i,none⟩=some (.string ⟨y.toArray⟩)):=Y1 ((((Z03 hb2 (Z01 w2 (.cells #[.int .i64 z.kind,.string ⟨z.of_.toArray⟩,.string ⟨z.name.toArray⟩,.slice q'.A z.names.length q'.c,.slice q'.P z.parts.length q'.d] 25)))).cell (p:=⟨gn,offn+i,none⟩) (Nat.lt_of_lt_of_le HGN.out HBWR.out.size)).trans HY1.out);obtain ⟨b1,⟨k0,k1,k2,k3,k4⟩,b2⟩:=HBX3.out;simp only[Nat.zero_add] at k0 k1 k2 k3 k4;clear ho hF hz' b1 b2 c0 c1 c2 c3 c4 p0 p1 p2 p3 p4 IH hbw3 hb2
    go_upto_block 2 with fail
    generalize w2.alloc (.cells #[.int .i64 z.kind,.string ⟨z.of_.toArray⟩,.string ⟨z.name.toArray⟩,.slice q'.A z.names.length q'.c,.slice q'.P z.parts.length q'.d] 25)=W3 at HO3 HBX3 HNZ HOW HBW3 HY3 k0 k1 k2 k3 k4 ⊢;clear k0 k1 k2 k3 k4
    go_cut [6] (fun kk wx=> ∃k:Nat,kk= .int .i64 k/\k<=l.length/\Hid (Ahead l y k)/\Hid (∀h:k < l.length,¬(l[k]'h).n < y)/\Hid (Below W3.heap.size W3 wx))
    case first=>
     go_wp2_with fail
     go_loopw [6] (fun kk wr=> ∃k:Nat,kk= .int .i64 k/\k<=l.length/\Hid (Ahead l y k)/\Hid (Below W3.heap.size W3 wr)) (fun k _=>l.length - (intOf k).toNat)
     case atStart=>exact ⟨0,rfl,Nat.zero_le _,Y1 (fun j _ h=>absurd h (by omega)),Y1 Y2⟩
     case round=>
      obtain ⟨k,rfl,hk,HA,HBK⟩:=hrel;have HO4:=Y1 (HO3.out.below HBK.out);have HBX4:=Y1 (HBX3.out.next HBK.out);have HY4:Hid (wr.cell? ⟨gn,offn+i,none⟩=some (.string ⟨y.toArray⟩)):=Y1 ((HBK.out.cell (p:=⟨gn,offn+i,none⟩) (Nat.lt_of_lt_of_le HGN.out HBW3.out.size)).trans HY3.out);have hgn4:gn < wr.heap.size:=Nat.lt_of_lt_of_le HGN.out (Nat.le_trans HBW3.out.size HBK.out.size);obtain ⟨b1,⟨k0,k1,k2,k3,k4⟩,b2⟩:=HBX4.out;simp only[Nat.zero_add] at k0 k1 k2 k3 k4;rw[HQA.out] at k3;have o3:=HO4.out.c3;rw[List.length_map] at o3;have hy4:=HY4.out;clear b1 b2;by_cases hkl:k < l.length
      {have HOC:Hid (wr.ownsRow W1.heap.size 9 1 (.slice AN (l.map El.n).length cN) (l.map El.n).length (namesE (l.map El.n))):=Y1 HO4.out.rN;rcases slice_form HOC.out with ⟨_,h0,_⟩ | ⟨gN,hgN,hcN⟩
       {rw[List.length_map] at h0; omega}
       {have HGN2:=Y1 hgN;rw[hgN] at o3;have oc:wr.cell? ⟨gN,k,none⟩=some (.string ⟨((l[k]'hkl).n).toArray⟩):=by
         have hr:=HOC.out;rw[hgN] at hr;rw[hr.cellAt k (by rw[List.length_map]; omega)];simp[namesE,hkl]
        have hgnl:gN < wr.heap.size:=Z1N oc;obtain ⟨v,hv⟩: ∃v,v=(l[k]'hkl).n:=⟨_,rfl⟩;rw[<-hv] at oc;have HV:=Y1 hv;have hkl1: (k:Int) < (l.length:Int):=by omega
        clear hgN hcN hv;by_cases hvy:v < y
        {have hless:Op.bytesLess v.toArray.toList y.toArray.toList=true:=by rw[Z4c]; simpa using hvy
         have HAN:Hid (Ahead l y (k+1)):=Y1 (fun j h hj=>by
          rcases Nat.lt_or_eq_of_le (Nat.le_of_lt_succ hj) with h1 | rfl
          {exact HA.out j h h1}
          · rw[<-HV.out]; exact hvy)
         clear hvy
         go_wp2_with fail
         go_quiet (fail)
         go_wp2
         go_roundw
         case rel=>exact ⟨k+1,by go_num,by omega,HAN,Y1 (Z0Q HBK.out _)⟩
         case measure=>simp[intOf]; omega}
        {have hless:Op.bytesLess v.toArray.toList y.toArray.toList=false:=by rw[Z4c]; simpa using hvy
         have HND:Hid (∀h:k < l.length,¬(l[k]'h).n < y):=Y1 (fun h=>by rw[<-HV.out]; exact hvy);clear hvy
         go_wp2_with fail
         go_quiet (fail)
         go_wp2_with fail
         go_meet
         exact ⟨k,rfl,hk,HA,HND,Y1 (Z0Q HBK.out _)⟩}}}
      {have HND:Hid (∀h:k < l.length,¬(l[k]'h).n < y):=Y1 (fun h=>absurd h hkl);have hkl1: ¬(k:Int) < (l.length:Int):=by omega
       go_wp2_with fail
       go_quiet (fail)
       go_wp2_with fail
       go_meet
       exact ⟨k,rfl,hk,HA,HND,Y1 (Z0Q HBK.out _)⟩}
    case rest=>
     obtain ⟨k,rfl,hk,HA,HND,HBK⟩:=hcut
     go_wp2_with fail
     have HBK2:=Y1 (HBK.out.drew);obtain ⟨wd,hwd⟩: ∃wd,wd=wc.drew:=⟨_,rfl⟩;rw[<-hwd] at HBK2;have HO4:=Y1 (HO3.out.below HBK2.out);have HBX4:=Y1 (HBX3.out.next HBK2.out);have HNZ4:=Y1 (HNZ.out.next HBK2.out);have HOW4:=Y1 (Z0K HOW.out HBK2.out);have HY4:Hid (wd.cell? ⟨gn,offn+i,none⟩=some (.string ⟨y.toArray⟩)):=Y1 ((HBK2.out.cell (p:=⟨gn,offn+i,none⟩) (Nat.lt_of_lt_of_le HGN.out HBW3.out.size)).trans HY3.out);have HGD:Hid (gn < wd.heap.size):=Y1 (Nat.lt_of_lt_of_le HGN.out (Nat.le_trans HBW3.out.size HBK2.out.size));have HOBD:Hid (ob < wd.heap.size):=Y1 (Nat.lt_of_lt_of_le HO4.out.lt HO4.out.up.size);have HRN:Hid (wd.ownsRow W1.heap.size 9 1 (.slice AN l.length cN) l.length (namesE (l.map El.n))):=Y1 (by have:=HO4.out.rN; rwa [List.length_map] at this);have HRP:Hid (wd.ownsRow W1.heap.size 25 5 (.slice AP l.length cP) l.length (cellsE l)):=Y1 HO4.out.rP;have HCN:Hid (l.length<=cN):=Y1 (by rcases slice_form HRN.out with ⟨_,h1,_⟩ | ⟨_,_,h1⟩ <;> omega);have HCP:Hid (l.length<=cP):=Y1 (by rcases slice_form HRP.out with ⟨_,h1,_⟩ | ⟨_,_,h1⟩ <;> omega);have HC3:Hid (wd.cell? ⟨ob,3,none⟩=some (.slice AN l.length cN)):=Y1 (by have:=HO4.out.c3; rwa [List.length_map] at this);obtain ⟨i0n,hin,hzn0,hzn1,hzn2⟩:=info_parts (P:=Tryd.prog) (e:=9) (z:= .string ByteArray.empty) (size:=1) (bytes:=16) Z40;obtain ⟨i0p,hip,hzp0,hzp1,hzp2⟩:=info_parts (P:=Tryd.prog) (e:=25) (z:= .agg #[.int .i64 0,.string ByteArray.empty,.string ByteArray.empty,.slice none 0 0,.slice none 0 0]) (size:=5) (bytes:=88) Z26;rw[hwd] at HO4 HBX4 HNZ4 HOW4 HY4 HGD HOBD HRN HRP HC3;refine Z3a (rs:= [0,1,2,3,4,5,6,7,8,9,10,11,12,13,14,15,16,17,18,19])
      (fun u'=> { tmps:=#[.agg #[.int .i64 t.kind,.string { data:=t.of_.toArray },.string { data:=t.name.toArray },.slice q.A t.names.length q.c,.slice q.P t.parts.length q.d],.pointer (some { block:=w.heap.size,off:=0 }),.pointer (some { block:=w.heap.size+1,off:=0 }),.pointer (some { block:=ob,off:=0 }),.int .i64 ↑i,.pointer (some { block:=w2.heap.size,off:=0 }),.int .i64 ↑k,.pointer (some { block:=w.heap.size,off:=0 }),.int .i64 t.kind,.pointer (some { block:=w.heap.size,off:=1 }),.string { data:=t.of_.toArray },.pointer (some { block:=w.heap.size,off:=2 }),.string { data:=t.name.toArray },.agg #[.int .i64 t.kind,.string { data:=t.of_.toArray },.string { data:=t.name.toArray },.slice none 0 0,.slice none 0 0],.int .i64 ↑i,.pointer (some { block:=w.heap.size,off:=4 }),.slice (some { block:=g,off:=off }) t.parts.length q.d,.int .i64 ↑t.parts.length,.bool true,u19,u20,.pointer (some { block:=w.heap.size,off:=4 }),.slice (some { block:=g,off:=off }) t.parts.length q.d,.int .i64 ↑i,.pointer (some { block:=g,off:=off+i * 5 }),.agg #[.int .i64 x.kind,.string { data:=x.of_.toArray },.string { data:=x.name.toArray },.slice (qs i).A x.names.length (qs i).c,.slice (qs i).P x.parts.length (qs i).d],.agg #[.int .i64 z.kind,.string { data:=z.of_.toArray },.string { data:=z.name.toArray },.slice q'.A z.names.length q'.c,.slice q'.P z.parts.length q'.d],.pointer (some { block:=w.heap.size,off:=3 }),.slice q.A t.names.length q.c,.int .i64 ↑t.names.length,.bool false,u31,u32,u33,u34,u35,u36,u37,u38,u39,u40,u41,u42,u43,u44,u45,u46,u47,u48,u49,u50,u51,u52,u53,u54,u55,u56,u' 0,u' 1,u' 2,u' 3,u' 4,u' 5,u' 6,u' 7,u' 8,u' 9,u' 10,u' 11,u' 12,u' 13,u' 14,u' 15,u' 16,u' 17,u' 18,u76,u77,u78,u79,u80,u81,u82,u83,u84,u85,u86,u87,u88,u89,u90,undef],defers:= [] })
      (fun j=>([u57,u58,u59,u60,u61,u62,u63,u64,u65,u66,u67,u68,u69,u70,u71,u72,u73,u74,u75,undef]:List Value).getD j undef) (InvC 19 (ChN wc.drew 9 1 (valN ob w.heap.size AN l.length cN k (some ⟨gn,offn,none⟩) t.names.length q.c i ⟨gn,offn+i,none⟩ y) ([]++namesE ((l.map El.n).take k)) [.string ⟨y.toArray⟩] (namesE ((l.map El.n).drop k)) (0+k) (l.length - k)) (FinC wc.drew ob 3 9 1 (l.length+1) (namesE ((l.map El.n).take k)++ [.string ⟨y.toArray⟩]++namesE ((l.map El.n).drop k)))) (by kernel_rfl) (by kernel_rfl) (by kernel_rfl) (Or.inl ⟨rfl,ChN.start _ _ _ _ _ _ _ _ _ _⟩) ?_ ?_
     refine StepsInv.cons _ rfl (fun d u' W K' hI hd hw hK=> ?_) ?_
     {obtain ⟨hS,hC⟩:=hI.open hd (by decide);refine Z00 (v:= .slice (some ⟨W.heap.size,0,none⟩) 0 0) (W':=W.alloc (.cells #[] 9)) rfl ?_ (hK.out _ _ (InvC.next hS (by decide) (hC.mkA hd rfl)))
      try dsimp only
      go_simp}
     refine StepsInv.cons _ rfl (fun d u' W K' hI hd hw hK=> ?_) ?_
     {obtain ⟨hS,hC⟩:=hI.open hd (by decide);refine Z00 (v:= .pointer (some ⟨ob,3,none⟩)) (W':=W) rfl ?_ (hK.out _ _ (InvC.next hS (by decide) (hC.pure (by decide) _ (fun v' h=>by cases h; rfl))))
      try dsimp only
      go_simp}
     refine StepsInv.cons _ rfl (fun d u' W K' hI hd hw hK=> ?_) ?_
     {obtain ⟨hS,hC⟩:=hI.open hd (by decide);have d1:u' 1= .pointer (some ⟨ob,3,none⟩):=hC.vals 1 (hw 1 (by kernel_rfl)) _ rfl;have o3:=(hC.bel.cell (p:=⟨ob,3,none⟩) HOBD.out).trans HC3.out;refine Z00 (v:= .slice AN l.length cN) (W':=W) rfl ?_ (hK.out _ _ (InvC.next hS (by decide) (hC.pure (by decide) _ (fun v' h=>by cases h; rfl))))
      try dsimp only
      go_simp}
     refine StepsInv.cons _ rfl (fun d u' W K' hI hd hw hK=> ?_) ?_
     {obtain ⟨hS,hC⟩:=hI.open hd (by decide);refine Z00 (v:= .int .i64 (k:Int)) (W':=W) rfl ?_ (hK.out _ _ (InvC.next hS (by decide) (hC.pure (by decide) _ (fun v' h=>by cases h; rfl))))
      try dsimp only
      go_simp}
     refine StepsInv.cons _ rfl (fun d u' W K' hI hd hw hK=> ?_) ?_
     {obtain ⟨hS,hC⟩:=hI.open hd (by decide);have d2:u' 2= .slice AN l.length cN:=hC.vals 2 (hw 2 (by kernel_rfl)) _ rfl;have d3:u' 3= .int .i64 (k:Int):=hC.vals 3 (hw 3 (by kernel_rfl)) _ rfl;refine Z00 (v:= .slice AN k cN) (W':=W) rfl (Z1p rfl ?_) (hK.out _ _ (InvC.next hS (by decide) (hC.pure (by decide) _ (fun v' h=>by cases h; rfl))));show (Instr.sliceAt 22 (u' 2) none (some (u' 3)) none).run _ _=_;rw[d2,d3,Z9z _ _ _ _ _ (by have:=HCN.out; omega),Z5P HRN.out]}
     refine StepsInv.cons _ rfl (fun d u' W K' hI hd hw hK=> ?_) ?_
     {obtain ⟨hS,hC⟩:=hI.open hd (by decide);have hp:=hw 0 (by kernel_rfl);have d4:u' 4= .slice AN k cN:=hC.vals 4 (hw 4 (by kernel_rfl)) _ rfl;refine Z0k rfl (.tmp 57) (.tmp 61) 22 rfl wc.drew.heap.size 9 i0n (.string ByteArray.empty) 1 16 Tryd.underlying22 hin hzn0 hzn1 hzn2 rfl (by decide) (u' 0) 0 [] rfl (hC.rA hp hd) AN k cN (namesE ((l.map El.n).take k)) d4 (Z8x HRN.out hk) (by simp only[namesE_len,cellsE_len,List.length_take,List.length_drop,List.length_map] <;> omega) (Zcd HRN.out hk hC.bel) (Z31 _) (by unfold maxLen; omega) (by omega) hC.bel.size ?_;intro v' w' hown hg hat;exact (hK.out _ _ (InvC.next hS (by decide) (hC.apB hd rfl hp hown hg hat)))}
     refine StepsInv.cons _ rfl (fun d u' W K' hI hd hw hK=> ?_) ?_
     {obtain ⟨hS,hC⟩:=hI.open hd (by decide);refine Z00 (v:= .pointer (some ⟨w.heap.size,3,none⟩)) (W':=W) rfl ?_ (hK.out _ _ (InvC.next hS (by decide) (hC.pure (by decide) _ (fun v' h=>by cases h; rfl))))
      try dsimp only
      go_simp}
     refine StepsInv.cons _ rfl (fun d u' W K' hI hd hw hK=> ?_) ?_
     {obtain ⟨hS,hC⟩:=hI.open hd (by decide);have d6:u' 6= .pointer (some ⟨w.heap.size,3,none⟩):=hC.vals 6 (hw 6 (by kernel_rfl)) _ rfl;obtain ⟨_,⟨y0,y1,y2,y3,y4⟩,_⟩:=HBX4.out.next hC.bel;simp only[Nat.zero_add] at y0 y1 y2 y3 y4;rw[HQA.out] at y3;refine Z00 (v:= .slice (some ⟨gn,offn,none⟩) t.names.length q.c) (W':=W) rfl ?_ (hK.out _ _ (InvC.next hS (by decide) (hC.pure (by decide) _ (fun v' h=>by cases h; rfl))))
      try dsimp only
      go_simp}
     refine StepsInv.cons _ rfl (fun d u' W K' hI hd hw hK=> ?_) ?_
     {obtain ⟨hS,hC⟩:=hI.open hd (by decide);refine Z00 (v:= .int .i64 (i:Int)) (W':=W) rfl ?_ (hK.out _ _ (InvC.next hS (by decide) (hC.pure (by decide) _ (fun v' h=>by cases h; rfl))))
      try dsimp only
      go_simp}
     refine StepsInv.cons _ rfl (fun d u' W K' hI hd hw hK=> ?_) ?_
     {obtain ⟨hS,hC⟩:=hI.open hd (by decide);have d7:u' 7= .slice (some ⟨gn,offn,none⟩) t.names.length q.c:=hC.vals 7 (hw 7 (by kernel_rfl)) _ rfl;have d8:u' 8= .int .i64 (i:Int):=hC.vals 8 (hw 8 (by kernel_rfl)) _ rfl;have hin2:=hi2;have hpl2:=hz;have hnl2:=HLEN.out;refine Z00 (v:= .pointer (some ⟨gn,offn+i,none⟩)) (W':=W) rfl ?_ (hK.out _ _ (InvC.next hS (by decide) (hC.pure (by decide) _ (fun v' h=>by cases h; rfl))))
      try dsimp only
      go_simp}
     refine StepsInv.cons _ rfl (fun d u' W K' hI hd hw hK=> ?_) ?_
     {obtain ⟨hS,hC⟩:=hI.open hd (by decide);have d9:u' 9= .pointer (some ⟨gn,offn+i,none⟩):=hC.vals 9 (hw 9 (by kernel_rfl)) _ rfl;have oy:=(hC.bel.cell (p:=⟨gn,offn+i,none⟩) HGD.out).trans HY4.out;refine Z00 (v:= .string ⟨y.toArray⟩) (W':=W) rfl ?_ (hK.out _ _ (InvC.next hS (by decide) (hC.pure (by decide) _ (fun v' h=>by cases h; rfl))))
      try dsimp only
      go_simp}
     refine StepsInv.cons _ rfl (fun d u' W K' hI hd hw hK=> ?_) ?_
     {obtain ⟨hS,hC⟩:=hI.open hd (by decide);have d10:u' 10= .string ⟨y.toArray⟩:=hC.vals 10 (hw 10 (by kernel_rfl)) _ rfl;refine Z00 (v:= .slice (some ⟨W.heap.size,0,none⟩) 1 1) (W':=W.alloc (.cells #[.string ⟨y.toArray⟩] 9)) rfl ?_ (hK.out _ _ (InvC.next hS (by decide) (hC.mkN hd rfl rfl (by decide))))
      try dsimp only
      go_simp}
     refine StepsInv.cons _ rfl (fun d u' W K' hI hd hw hK=> ?_) ?_
     {obtain ⟨hS,hC⟩:=hI.open hd (by decide);have hp:=hw 5 (by kernel_rfl);have hn:=hw 11 (by kernel_rfl);obtain ⟨gg,hu,hgl,hcell,_,_⟩:=hC.rN hn hd;refine Z0k rfl (.tmp 62) (.tmp 68) 22 rfl wc.drew.heap.size 9 i0n (.string ByteArray.empty) 1 16 Tryd.underlying22 hin hzn0 hzn1 hzn2 rfl (by decide) (u' 5) (0+k) ([]++namesE ((l.map El.n).take k)) rfl (hC.rB hp hd) (some ⟨gg,0,none⟩) 1 1 [.string ⟨y.toArray⟩] hu nofun rfl (fun ad had j v hj=>by cases had; rw[Z0d,Nat.zero_add]; exact hcell j v hj) (Z31 [y]) (by unfold maxLen; omega) (by omega) hC.bel.size ?_;intro v' w' hown hg hat;exact (hK.out _ _ (InvC.next hS (by decide) (hC.apC hd rfl hp hn hown hg hat)))}
     refine StepsInv.cons _ rfl (fun d u' W K' hI hd hw hK=> ?_) ?_
     {obtain ⟨hS,hC⟩:=hI.open hd (by decide);refine Z00 (v:= .pointer (some ⟨ob,3,none⟩)) (W':=W) rfl ?_ (hK.out _ _ (InvC.next hS (by decide) (hC.pure (by decide) _ (fun v' h=>by cases h; rfl))))
      try dsimp only
      go_simp}
     refine StepsInv.cons _ rfl (fun d u' W K' hI hd hw hK=> ?_) ?_
     {obtain ⟨hS,hC⟩:=hI.open hd (by decide);have d13:u' 13= .pointer (some ⟨ob,3,none⟩):=hC.vals 13 (hw 13 (by kernel_rfl)) _ rfl;have o3:=(hC.bel.cell (p:=⟨ob,3,none⟩) HOBD.out).trans HC3.out;refine Z00 (v:= .slice AN l.length cN) (W':=W) rfl ?_ (hK.out _ _ (InvC.next hS (by decide) (hC.pure (by decide) _ (fun v' h=>by cases h; rfl))))
      try dsimp only
      go_simp}
     refine StepsInv.cons _ rfl (fun d u' W K' hI hd hw hK=> ?_) ?_
     {obtain ⟨hS,hC⟩:=hI.open hd (by decide);refine Z00 (v:= .int .i64 (k:Int)) (W':=W) rfl ?_ (hK.out _ _ (InvC.next hS (by decide) (hC.pure (by decide) _ (fun v' h=>by cases h; rfl))))
      try dsimp only
      go_simp}
     refine StepsInv.cons _ rfl (fun d u' W K' hI hd hw hK=> ?_) ?_
     {obtain ⟨hS,hC⟩:=hI.open hd (by decide);have d14:u' 14= .slice AN l.length cN:=hC.vals 14 (hw 14 (by kernel_rfl)) _ rfl;have d15:u' 15= .int .i64 (k:Int):=hC.vals 15 (hw 15 (by kernel_rfl)) _ rfl;refine Z00 (v:= .slice (hiA AN k cN 1) (l.length - k) (cN - k)) (W':=W) rfl (Z1p rfl ?_) (hK.out _ _ (InvC.next hS (by decide) (hC.pure (by decide) _ (fun v' h=>by cases h; rfl))));show (Instr.sliceAt 22 (u' 14) (some (u' 15)) none none).run _ _=_;rw[d14,d15,Z9A _ _ _ _ _ hk,Z5Q]}
     refine StepsInv.cons _ rfl (fun d u' W K' hI hd hw hK=> ?_) ?_
     {obtain ⟨hS,hC⟩:=hI.open hd (by decide);have hp:=hw 12 (by kernel_rfl);have d16:u' 16= .slice (hiA AN k cN 1) (l.length - k) (cN - k):=hC.vals 16 (hw 16 (by kernel_rfl)) _ rfl;refine Z0k rfl (.tmp 69) (.tmp 73) 22 rfl wc.drew.heap.size 9 i0n (.string ByteArray.empty) 1 16 Tryd.underlying22 hin hzn0 hzn1 hzn2 rfl (by decide) (u' 12) (0+k+1) ([]++namesE ((l.map El.n).take k)++ [.string ⟨y.toArray⟩]) rfl (hC.rC hp hd) (hiA AN k cN 1) (l.length - k) (cN - k) (namesE ((l.map El.n).drop k)) d16 (Z77 HRN.out hk) (by simp only[namesE_len,cellsE_len,List.length_take,List.length_drop,List.length_map] <;> omega) (Zce HRN.out hk hC.bel) (Z31 _) (by unfold maxLen; omega) (by omega) hC.bel.size ?_;intro v' w' hown hg hat;exact (hK.out _ _ (InvC.next hS (by decide) (hC.apE hd rfl hp hown hg hat)))}
     refine StepsInv.cons _ rfl (fun d u' W K' hI hd hw hK=> ?_) ?_
     {obtain ⟨hS,hC⟩:=hI.open hd (by decide);refine Z00 (v:= .pointer (some ⟨ob,3,none⟩)) (W':=W) rfl ?_ (hK.out _ _ (InvC.next hS (by decide) (hC.pure (by decide) _ (fun v' h=>by cases h; rfl))))
      try dsimp only
      go_simp}
     refine StepsInv.cons _ rfl (fun d u' W K' hI hd hw hK=> ?_) StepsInv.nil
     {obtain ⟨hS,hC⟩:=hI.open hd (by decide);have hall: ∀j,j < 19->d j=true:=fun j hj=>by
       have:j∈ [0,1,2,3,4,5,6,7,8,9,10,11,12,13,14,15,16,17,18]:=by simp; omega
       simp only[List.mem_cons,List.not_mem_nil,or_false] at this;rcases this with rfl | rfl | rfl | rfl | rfl | rfl | rfl | rfl | rfl | rfl | rfl | rfl | rfl | rfl | rfl | rfl | rfl | rfl | rfl <;> exact hw _ (by kernel_rfl)
      have hE:=hC.rE (hall 17 (by decide));obtain ⟨gg,cap,hu,hgb,hgl⟩:=hE.form (by omega);rw[hu] at hE;have d18:u' 18= .pointer (some ⟨ob,3,none⟩):=hC.vals 18 (hall 18 (by decide)) _ rfl;have o3:=(hC.bel.cell (p:=⟨ob,3,none⟩) HOBD.out).trans HC3.out;have of:=(hC.bel.frozen (p:=⟨ob,3,none⟩) HOBD.out).trans (HO4.out.fz 3);refine Z2E (W':=W.setCell ⟨ob,3,none⟩ (.slice (some ⟨gg,0,none⟩) (0+k+1+(l.length - k)) cap)) rfl ?_ (hK.out undef _ (InvC.last hall ⟨W,gg,cap,hC.bel, ?_,hgb, ?_⟩))
      {try dsimp only
       go_simp}
      {have e1:0+k+1+(l.length - k)=l.length+1:=by omega
       rw[e1,List.nil_append] at hE;exact hE}
      {have e1:0+k+1+(l.length - k)=l.length+1:=by omega
       rw[e1]}}
     intro d' ua W4 hI hall;rcases hI with ⟨h1,_⟩ | ⟨_,_,h1⟩
     {rw[hall 19 (by decide)] at h1; cases h1}
     have HF1:=Y1 (h1:FinC wc.drew ob 3 9 1 (l.length+1) (namesE ((l.map El.n).take k)++ [.string ⟨y.toArray⟩]++namesE ((l.map El.n).drop k)) W4);have HNZ5:Hid (Box5 W4.drew w2.heap.size z q'):=Y1 ((HNZ4.out.same (h1.same HNZ4.out.1 HPB.out) h1.size).next Y2.drew);have hobr:rowB AP≠some ob:=fun e=>by have:=(OutS.row HO4.out.rP ob e).1; have:=HO4.out.lt; omega
     have HRP5:Hid (W4.drew.ownsRow W1.heap.size 25 5 (.slice AP l.length cP) l.length (cellsE l)):=Y1 (h1.row HRP.out hobr).drew;have HC45:Hid (W4.drew.cell? ⟨ob,4,none⟩=some (.slice AP l.length cP)):=Y1 ((World.cell?_drew _ _).trans ((h1.other HOBD.out (by decide)).trans HO4.out.c4));have HF45:Hid (W4.drew.frozen? ⟨ob,4,none⟩=false):=Y1 ((World.frozen?_drew _ _).trans ((h1.frozen HOBD.out 4).trans (HO4.out.fz 4)));have HOB5:Hid (ob < W4.drew.heap.size):=Y1 (Nat.lt_of_lt_of_le HOBD.out h1.size);clear h1 hobr
     try dsimp only
     go_wp2_with fail
     refine Z3a (rs:= [0,1,2,3,4,5,6,7,8,9,10,11,12,13,14,15])
      (fun u'=> { tmps:=#[.agg #[.int .i64 t.kind,.string { data:=t.of_.toArray },.string { data:=t.name.toArray },.slice q.A t.names.length q.c,.slice q.P t.parts.length q.d],.pointer (some { block:=w.heap.size,off:=0 }),.pointer (some { block:=w.heap.size+1,off:=0 }),.pointer (some { block:=ob,off:=0 }),.int .i64 ↑i,.pointer (some { block:=w2.heap.size,off:=0 }),.int .i64 ↑k,.pointer (some { block:=w.heap.size,off:=0 }),.int .i64 t.kind,.pointer (some { block:=w.heap.size,off:=1 }),.string { data:=t.of_.toArray },.pointer (some { block:=w.heap.size,off:=2 }),.string { data:=t.name.toArray },.agg #[.int .i64 t.kind,.string { data:=t.of_.toArray },.string { data:=t.name.toArray },.slice none 0 0,.slice none 0 0],.int .i64 ↑i,.pointer (some { block:=w.heap.size,off:=4 }),.slice (some { block:=g,off:=off }) t.parts.length q.d,.int .i64 ↑t.parts.length,.bool true,u19,u20,.pointer (some { block:=w.heap.size,off:=4 }),.slice (some { block:=g,off:=off }) t.parts.length q.d,.int .i64 ↑i,.pointer (some { block:=g,off:=off+i * 5 }),.agg #[.int .i64 x.kind,.string { data:=x.of_.toArray },.string { data:=x.name.toArray },.slice (qs i).A x.names.length (qs i).c,.slice (qs i).P x.parts.length (qs i).d],.agg #[.int .i64 z.kind,.string { data:=z.of_.toArray },.string { data:=z.name.toArray },.slice q'.A z.names.length q'.c,.slice q'.P z.parts.length q'.d],.pointer (some { block:=w.heap.size,off:=3 }),.slice q.A t.names.length q.c,.int .i64 ↑t.names.length,.bool false,u31,u32,u33,u34,u35,u36,u37,u38,u39,u40,u41,u42,u43,u44,u45,u46,u47,u48,u49,u50,u51,u52,u53,u54,u55,u56,ua 0,ua 1,ua 2,ua 3,ua 4,ua 5,ua 6,ua 7,ua 8,ua 9,ua 10,ua 11,ua 12,ua 13,ua 14,ua 15,ua 16,ua 17,ua 18,u' 0,u' 1,u' 2,u' 3,u' 4,u' 5,u' 6,u' 7,u' 8,u' 9,u' 10,u' 11,u' 12,u' 13,u' 14,undef],defers:= [] })
      (fun j=>([u76,u77,u78,u79,u80,u81,u82,u83,u84,u85,u86,u87,u88,u89,u90,undef]:List Value).getD j undef) (InvC 15 (ChP W4.drew 25 5 (valP ob AP l.length cP k z q') ([]++cellsE (l.take k)) [.int .i64 z.kind,.string ⟨z.of_.toArray⟩,.string ⟨z.name.toArray⟩,.slice q'.A z.names.length q'.c,.slice q'.P z.parts.length q'.d] (cellsE (l.drop k)) (0+k) (l.length - k)) (FinC W4.drew ob 4 25 5 (l.length+1) (cellsE (l.take k)++ [.int .i64 z.kind,.string ⟨z.of_.toArray⟩,.string ⟨z.name.toArray⟩,.slice q'.A z.names.length q'.c,.slice q'.P z.parts.length q'.d]++cellsE (l.drop k)))) (by kernel_rfl) (by kernel_rfl) (by kernel_rfl) (Or.inl ⟨rfl,ChP.start _ _ _ _ _ _ _ _ _ _⟩) ?_ ?_
     refine StepsInv.cons _ rfl (fun d u' W K' hI hd hw hK=> ?_) ?_
     {obtain ⟨hS,hC⟩:=hI.open hd (by decide);refine Z00 (v:= .slice (some ⟨W.heap.size,0,none⟩) 0 0) (W':=W.alloc (.cells #[] 25)) rfl ?_ (hK.out _ _ (InvC.next hS (by decide) (hC.mkA hd rfl)))
      try dsimp only
      go_simp}
     refine StepsInv.cons _ rfl (fun d u' W K' hI hd hw hK=> ?_) ?_
     {obtain ⟨hS,hC⟩:=hI.open hd (by decide);refine Z00 (v:= .pointer (some ⟨ob,4,none⟩)) (W':=W) rfl ?_ (hK.out _ _ (InvC.next hS (by decide) (hC.pure (by decide) _ (fun v' h=>by cases h; rfl))))
      try dsimp only
      go_simp}
     refine StepsInv.cons _ rfl (fun d u' W K' hI hd hw hK=> ?_) ?_
     {obtain ⟨hS,hC⟩:=hI.open hd (by decide);have d1:u' 1= .pointer (some ⟨ob,4,none⟩):=hC.vals 1 (hw 1 (by kernel_rfl)) _ rfl;have o4:=(hC.bel.cell (p:=⟨ob,4,none⟩) HOB5.out).trans HC45.out;refine Z00 (v:= .slice AP l.length cP) (W':=W) rfl ?_ (hK.out _ _ (InvC.next hS (by decide) (hC.pure (by decide) _ (fun v' h=>by cases h; rfl))))
      try dsimp only
      go_simp}
     refine StepsInv.cons _ rfl (fun d u' W K' hI hd hw hK=> ?_) ?_
     {obtain ⟨hS,hC⟩:=hI.open hd (by decide);refine Z00 (v:= .int .i64 (k:Int)) (W':=W) rfl ?_ (hK.out _ _ (InvC.next hS (by decide) (hC.pure (by decide) _ (fun v' h=>by cases h; rfl))))
      try dsimp only
      go_simp}
     refine StepsInv.cons _ rfl (fun d u' W K' hI hd hw hK=> ?_) ?_
     {obtain ⟨hS,hC⟩:=hI.open hd (by decide);have d2:u' 2= .slice AP l.length cP:=hC.vals 2 (hw 2 (by kernel_rfl)) _ rfl;have d3:u' 3= .int .i64 (k:Int):=hC.vals 3 (hw 3 (by kernel_rfl)) _ rfl;refine Z00 (v:= .slice AP k cP) (W':=W) rfl (Z1p rfl ?_) (hK.out _ _ (InvC.next hS (by decide) (hC.pure (by decide) _ (fun v' h=>by cases h; rfl))));show (Instr.sliceAt 23 (u' 2) none (some (u' 3)) none).run _ _=_;rw[d2,d3,Z78 _ _ _ _ _ (by have:=HCP.out; omega),Z5P HRP5.out]}
     refine StepsInv.cons _ rfl (fun d u' W K' hI hd hw hK=> ?_) ?_
     {obtain ⟨hS,hC⟩:=hI.open hd (by decide);have hp:=hw 0 (by kernel_rfl);have d4:u' 4= .slice AP k cP:=hC.vals 4 (hw 4 (by kernel_rfl)) _ rfl;refine Z0k rfl (.tmp 76) (.tmp 80) 23 rfl W4.drew.heap.size 25 i0p (.agg #[.int .i64 0,.string ByteArray.empty,.string ByteArray.empty,.slice none 0 0,.slice none 0 0]) 5 88 Tryd.underlying23 hip hzp0 hzp1 hzp2 rfl (by decide) (u' 0) 0 [] rfl (hC.rA hp hd) AP k cP (cellsE (l.take k)) d4 (Z8x HRP5.out hk) (by simp only[namesE_len,cellsE_len,List.length_take,List.length_drop,List.length_map] <;> omega) (Zcf HRP5.out hk hC.bel) (Z4u _) (by unfold maxLen; omega) (by omega) hC.bel.size ?_;intro v' w' hown hg hat;exact (hK.out _ _ (InvC.next hS (by decide) (hC.apB hd rfl hp hown hg hat)))}
     refine StepsInv.cons _ rfl (fun d u' W K' hI hd hw hK=> ?_) ?_
     {obtain ⟨hS,hC⟩:=hI.open hd (by decide);obtain ⟨_,⟨y0,y1,y2,y3,y4⟩,_⟩:=HNZ5.out.next hC.bel;simp only[Nat.zero_add] at y0 y1 y2 y3 y4;refine Z00 (v:= .agg #[.int .i64 z.kind,.string ⟨z.of_.toArray⟩,.string ⟨z.name.toArray⟩,.slice q'.A z.names.length q'.c,.slice q'.P z.parts.length q'.d]) (W':=W) rfl ?_ (hK.out _ _ (InvC.next hS (by decide) (hC.pure (by decide) _ (fun v' h=>by cases h; rfl))))
      try dsimp only
      go_simp}
     refine StepsInv.cons _ rfl (fun d u' W K' hI hd hw hK=> ?_) ?_
     {obtain ⟨hS,hC⟩:=hI.open hd (by decide);have d6:u' 6= .agg #[.int .i64 z.kind,.string ⟨z.of_.toArray⟩,.string ⟨z.name.toArray⟩,.slice q'.A z.names.length q'.c,.slice q'.P z.parts.length q'.d]:=hC.vals 6 (hw 6 (by kernel_rfl)) _ rfl;refine Z00 (v:= .slice (some ⟨W.heap.size,0,none⟩) 1 1) (W':=W.alloc (.cells #[.int .i64 z.kind,.string ⟨z.of_.toArray⟩,.string ⟨z.name.toArray⟩,.slice q'.A z.names.length q'.c,.slice q'.P z.parts.length q'.d] 25)) rfl ?_ (hK.out _ _ (InvC.next hS (by decide) (hC.mkN hd rfl rfl (by decide))))
      try dsimp only
      go_simp}
     refine StepsInv.cons _ rfl (fun d u' W K' hI hd hw hK=> ?_) ?_
     {obtain ⟨hS,hC⟩:=hI.open hd (by decide);have hp:=hw 5 (by kernel_rfl);have hn:=hw 7 (by kernel_rfl);obtain ⟨gg,hu,hgl,hcell,_,_⟩:=hC.rN hn hd;refine Z0k rfl (.tmp 81) (.tmp 83) 23 rfl W4.drew.heap.size 25 i0p (.agg #[.int .i64 0,.string ByteArray.empty,.string ByteArray.empty,.slice none 0 0,.slice none 0 0]) 5 88 Tryd.underlying23 hip hzp0 hzp1 hzp2 rfl (by decide) (u' 5) (0+k) ([]++cellsE (l.take k)) rfl (hC.rB hp hd) (some ⟨gg,0,none⟩) 1 1 [.int .i64 z.kind,.string ⟨z.of_.toArray⟩,.string ⟨z.name.toArray⟩,.slice q'.A z.names.length q'.c,.slice q'.P z.parts.length q'.d] hu nofun rfl (fun ad had j v hj=>by cases had; rw[Z0d,Nat.zero_add]; exact hcell j v hj) (cells5_one ⟨y,z,q',F⟩) (by unfold maxLen; omega) (by omega) hC.bel.size ?_;intro v' w' hown hg hat;exact (hK.out _ _ (InvC.next hS (by decide) (hC.apC hd rfl hp hn hown hg hat)))}
     refine StepsInv.cons _ rfl (fun d u' W K' hI hd hw hK=> ?_) ?_
     {obtain ⟨hS,hC⟩:=hI.open hd (by decide);refine Z00 (v:= .pointer (some ⟨ob,4,none⟩)) (W':=W) rfl ?_ (hK.out _ _ (InvC.next hS (by decide) (hC.pure (by decide) _ (fun v' h=>by cases h; rfl))))
      try dsimp only
      go_simp}
     refine StepsInv.cons _ rfl (fun d u' W K' hI hd hw hK=> ?_) ?_
     {obtain ⟨hS,hC⟩:=hI.open hd (by decide);have d9:u' 9= .pointer (some ⟨ob,4,none⟩):=hC.vals 9 (hw 9 (by kernel_rfl)) _ rfl;have o4:=(hC.bel.cell (p:=⟨ob,4,none⟩) HOB5.out).trans HC45.out;refine Z00 (v:= .slice AP l.length cP) (W':=W) rfl ?_ (hK.out _ _ (InvC.next hS (by decide) (hC.pure (by decide) _ (fun v' h=>by cases h; rfl))))
      try dsimp only
      go_simp}
     refine StepsInv.cons _ rfl (fun d u' W K' hI hd hw hK=> ?_) ?_
     {obtain ⟨hS,hC⟩:=hI.open hd (by decide);refine Z00 (v:= .int .i64 (k:Int)) (W':=W) rfl ?_ (hK.out _ _ (InvC.next hS (by decide) (hC.pure (by decide) _ (fun v' h=>by cases h; rfl))))
      try dsimp only
      go_simp}
     refine StepsInv.cons _ rfl (fun d u' W K' hI hd hw hK=> ?_) ?_
     {obtain ⟨hS,hC⟩:=hI.open hd (by decide);have d10:u' 10= .slice AP l.length cP:=hC.vals 10 (hw 10 (by kernel_rfl)) _ rfl;have d11:u' 11= .int .i64 (k:Int):=hC.vals 11 (hw 11 (by kernel_rfl)) _ rfl;refine Z00 (v:= .slice (hiA AP k cP 5) (l.length - k) (cP - k)) (W':=W) rfl (Z1p rfl ?_) (hK.out _ _ (InvC.next hS (by decide) (hC.pure (by decide) _ (fun v' h=>by cases h; rfl))));show (Instr.sliceAt 23 (u' 10) (some (u' 11)) none none).run _ _=_;rw[d10,d11,Z79 _ _ _ _ _ hk,Z5Q]}
     refine StepsInv.cons _ rfl (fun d u' W K' hI hd hw hK=> ?_) ?_
     {obtain ⟨hS,hC⟩:=hI.open hd (by decide);have hp:=hw 8 (by kernel_rfl);have d12:u' 12= .slice (hiA AP k cP 5) (l.length - k) (cP - k):=hC.vals 12 (hw 12 (by kernel_rfl)) _ rfl;refine Z0k rfl (.tmp 84) (.tmp 88) 23 rfl W4.drew.heap.size 25 i0p (.agg #[.int .i64 0,.string ByteArray.empty,.string ByteArray.empty,.slice none 0 0,.slice none 0 0]) 5 88 Tryd.underlying23 hip hzp0 hzp1 hzp2 rfl (by decide) (u' 8) (0+k+1) ([]++cellsE (l.take k)++ [.int .i64 z.kind,.string ⟨z.of_.toArray⟩,.string ⟨z.name.toArray⟩,.slice q'.A z.names.length q'.c,.slice q'.P z.parts.length q'.d]) rfl (hC.rC hp hd) (hiA AP k cP 5) (l.length - k) (cP - k) (cellsE (l.drop k)) d12 (Z77 HRP5.out hk) (by simp only[namesE_len,cellsE_len,List.length_take,List.length_drop,List.length_map] <;> omega) (Zcg HRP5.out hk hC.bel) (Z4u _) (by unfold maxLen; omega) (by omega) hC.bel.size ?_;intro v' w' hown hg hat;exact (hK.out _ _ (InvC.next hS (by decide) (hC.apE hd rfl hp hown hg hat)))}
     refine StepsInv.cons _ rfl (fun d u' W K' hI hd hw hK=> ?_) ?_
     {obtain ⟨hS,hC⟩:=hI.open hd (by decide);refine Z00 (v:= .pointer (some ⟨ob,4,none⟩)) (W':=W) rfl ?_ (hK.out _ _ (InvC.next hS (by decide) (hC.pure (by decide) _ (fun v' h=>by cases h; rfl))))
      try dsimp only
      go_simp}
     refine StepsInv.cons _ rfl (fun d u' W K' hI hd hw hK=> ?_) StepsInv.nil
     {obtain ⟨hS,hC⟩:=hI.open hd (by decide);have hall: ∀j,j < 15->d j=true:=fun j hj=>by
       have:j∈ [0,1,2,3,4,5,6,7,8,9,10,11,12,13,14]:=by simp; omega
       simp only[List.mem_cons,List.not_mem_nil,or_false] at this;rcases this with rfl | rfl | rfl | rfl | rfl | rfl | rfl | rfl | rfl | rfl | rfl | rfl | rfl | rfl | rfl <;> exact hw _ (by kernel_rfl)
      have hE:=hC.rE (hall 13 (by decide));obtain ⟨gg,cap,hu,hgb,hgl⟩:=hE.form (by omega);rw[hu] at hE;have d14:u' 14= .pointer (some ⟨ob,4,none⟩):=hC.vals 14 (hall 14 (by decide)) _ rfl;have o4:=(hC.bel.cell (p:=⟨ob,4,none⟩) HOB5.out).trans HC45.out;have of:=(hC.bel.frozen (p:=⟨ob,4,none⟩) HOB5.out).trans HF45.out;refine Z2E (W':=W.setCell ⟨ob,4,none⟩ (.slice (some ⟨gg,0,none⟩) (0+k+1+(l.length - k)) cap)) rfl ?_ (hK.out undef _ (InvC.last hall ⟨W,gg,cap,hC.bel, ?_,hgb, ?_⟩))
      {try dsimp only
       go_simp}
      {have e1:0+k+1+(l.length - k)=l.length+1:=by omega
       rw[e1,List.nil_append] at hE;exact hE}
      {have e1:0+k+1+(l.length - k)=l.length+1:=by omega
       rw[e1]}}
     intro d' ub W5 hI hall;rcases hI with ⟨h1,_⟩ | ⟨_,_,h1⟩
     {rw[hall 15 (by decide)] at h1; cases h1}
     have HN:Hid (Rn7 W1 W5 ob t (i+1)):=Y1 (Rn7.push (W3:=W3) (x:=⟨y,z,q',F⟩) HO4.out HL.out (by rw[HZL.out]; exact hlt) (HZI.out _).symm HOW4.out HFB.out hk HA.out HND.out HF1.out (FinC.undrew h1));clear h1
     try dsimp only
     go_wp2
     go_roundw
     case rel=>exact ⟨i+1,by go_num,by omega,HN⟩
     case measure=>simp[intOf]; omega}}
  {have hie:i=t.parts.length:=by omega
   have HLL:Hid (l.length=t.parts.length):=Y1 (by omega);have HE:Hid (l.map pr=sortF (t.names.zip (t.parts.map sorted))):=Y1 (by rw[hl,List.take_of_length_le (by rw[HZL.out]; omega)]);have hi1: ¬(i:Int) < (t.parts.length:Int):=by omega
   have HO:=Y1 hO;have HBWR:=Y1 hbw;have HER:=Y1 (hO.box HBR.out (by have:=HOB.out; omega));have HOO:=Y1 (show w.heap.size+1≠ob by have:=HOB.out; omega);obtain ⟨_,⟨r0,r1,r2,r3,r4⟩,f0,f1,f2,f3,f4⟩:=HER.out;simp only[Nat.zero_add] at r0 r1 r2 r3 r4;have o0:=hO.c0;have o1:=hO.c1;have o2:=hO.c2;have o3:=hO.c3;have o4:=hO.c4;rw[List.length_map,HLL.out] at o3;rw[HLL.out] at o4;clear hO hl hbw hli;have hne:ob≠w.heap.size+1:=fun e=>HOO.out e.symm;go_wp2;refine bodyPost_ret (v:= .agg #[.int .i64 t.kind,.string ⟨t.of_.toArray⟩,.string ⟨t.name.toArray⟩,.slice AN t.parts.length cN,.slice AP t.parts.length cP]) (by simp[results,Tryd.results40,go_sem,r0,r1,r2,r3,r4]) rfl ?_;have hsm:=HQ.out.small;have hnn: (sorted t).names=l.map El.n:=by
    rw[HS.out];show (sortF (t.names.zip (t.parts.map sorted))).map Prod.fst=_;rw[<-HE.out,List.map_map]; rfl
   have hpp: (sorted t).parts=l.map El.t:=by
    rw[HS.out];show (sortF (t.names.zip (t.parts.map sorted))).map Prod.snd=_;rw[<-HE.out,List.map_map]; rfl
   have hoo: (sorted t).of_=t.of_:=by rw[HS.out]
   have hna: (sorted t).name=t.name:=by rw[HS.out]
   have hkk: (sorted t).kind=t.kind:=by rw[HS.out]
   have hns: ∀x∈(sorted t).names,x.length<=9223372036854775807:=fun x hx=>by
    refine hsm.ns x ?_;rw[HS.out] at hx;have hp:=((Z0x (t.names.zip (t.parts.map sorted))).map Prod.fst).mem_iff.1 hx
    rwa [List.map_fst_zip (by rw[List.length_map,HLEN.out]; exact Nat.le_refl _)] at hp
   obtain ⟨ho,hF⟩:=HO.out.result (u:=sorted t) hnn hpp (by rw[hoo]; exact hsm.o) (by rw[hna]; exact hsm.n) hns (by rw[List.length_map,HLL.out]; omega) (by rw[HLL.out]; omega);have h5:=Z19 (b:=w.heap.size+1) ho (fun b hb e=>by have:=hF b hb; have:=HSZ.out; omega) (.int .i64 t.kind) (.string ⟨t.of_.toArray⟩) (.string ⟨t.name.toArray⟩) (.slice AN t.parts.length cN) (.slice AP t.parts.length cP);have h6:=Z0j (b:=w.heap.size+1) HBWR.out (by omega) (.int .i64 t.kind) (.string ⟨t.of_.toArray⟩) (.string ⟨t.name.toArray⟩) (.slice AN t.parts.length cN) (.slice AP t.parts.length cP);refine ⟨⟨AN,cN,AP,cP⟩, ?_,(rowB AN).toList++(rowB AP).toList++l.flatMap El.F,h5,fun b hb=>by have:=hF b hb; have:=HSZ.out; omega,h6⟩;rw[hkk,hoo,hna,hnn,hpp,List.length_map,List.length_map,HLL.out]}
theorem Z7a (t:Sh): ∀(q:Ptr) (w:World),ShAt w w.heap.size q t->right t=true->size t<=400->
 Calls Tryd.prog 40 #[.agg (Y8 t q)] w
  fun e w'=> ∃q' F,e= .returned (.agg (Y8 (sorted t) q'))/\Own w' q' (sorted t) F/\(∀b∈F,w.heap.size<=b)/\Below w.heap.size w w':=by
 induction t using Sh.ind with
 | h t ih=>
 intro q w hq hr hz;have hf:Rs7 t:=fun x hx q' w' h1=>ih x hx q' w' h1 (Z05 hr hx) (by have:=Z1h hx; rw[size_eq] at hz; omega);have hpl:t.parts.length<=400:=by have:=Z0F t.parts; rw[size_eq] at hz; omega
 by_cases h0:t.names= []
 {exact Z63 t q w hq hpl h0 hf}
 {exact Z64 t q w hq hpl h0 ((Z1P hr).resolve_left h0).1 hf}
theorem Z9B (t:Sh): ∀(q:Ptr) (w:World),ShAt w w.heap.size q t->deep t<=1000000->
 Calls Tryd.prog 37 #[.agg (Y8 t q)] w
  fun e w'=>e= .returned (.int .i64 (deep t:Int))/\Below w.heap.size w w':=by
 induction t using Sh.ind with
 | h t ih=>
 intro q w hq hd;have HM:=Y1 hq.small.m;have HP:=Y1 hq.part;have HD:Hid (deep t=deeps t.parts+1):=Y1 (Z0l t);have hd2:deeps t.parts<=1000000:=by have:=HD.out; omega
 have hB:=Z07 w t q;have HB:=Y1 hB;have hb0:=Z01 w (.cells (Y8 t q) 25);have HB0:=Y1 hb0;clear hB hb0 hq hd;go_enter Tryd.func37,Tryd.ntmps37
 go_wp2_with fail
 generalize hW0:w.alloc (.cells (Y8 t q) 25)=W0 at HB HB0 ⊢;clear hW0
 go_loopw [3,4] (fun nn ii wr=> ∃i:Nat,ii= .int .i64 i/\i<=t.parts.length/\nn= .int .i64 (deeps (t.parts.take i):Int)/\Below W0.heap.size W0 wr) (fun _ i _=>t.parts.length - (intOf i).toNat)
 case atStart=>exact ⟨0,rfl,Nat.zero_le _,rfl,Below.refl _ _⟩
 case round=>
  obtain ⟨i,rfl,hi,rfl,hb⟩:=hrel;have HBX:=Y1 (HB.out.next hb);have hm:=HM.out;obtain ⟨_,⟨_,_,_,_,c4⟩,_⟩:=HB.out.next hb;by_cases hlt:i < t.parts.length
  {rcases HP.out with h0 | ⟨g,off,qs,hqP,hg,hc,hr⟩
   {omega}
   {have hbw:Below w.heap.size w wr:=HB0.out.trans (hb.mono HB0.out.size);obtain ⟨x,hx⟩: ∃x,x=t.parts[i]:=⟨_,rfl⟩;obtain ⟨p0,p1,p2,p3,p4⟩:=(hc i hlt).keep hg hbw;have hat:ShAt wr wr.heap.size (qs i) x:=by rw[hx]; exact (hr i hlt).next hbw
    have ihx:=ih t.parts[i] (List.getElem_mem _) (qs i) wr;have hdx:deep x<=1000000:=by rw[hx]; exact Nat.le_trans (Z0z (List.getElem_mem _)) hd2
    have HN:Hid (deeps (t.parts.take (i+1))=max (deeps (t.parts.take i)) (deep x)):=Y1 (by rw[hx]; exact Z3k hlt);rw[<-hx] at p0 p1 p2 p3 p4 ihx;have IH:=ihx hat hdx;have htk:=Z3m t.parts i;rw[hqP] at c4;clear hx hc hr hat ihx hdx hd2 ih hqP;have hi1: (i:Int) < (t.parts.length:Int):=by omega
    generalize deeps (t.parts.take i)=a at HN htk ⊢;by_cases hgt: (a:Int) < (deep x:Int)
    all_goals
     go_wp2_with (refine IH.mono ?_; rintro e w' ⟨rfl,hb'⟩)
     go_wp2
     go_roundw
     case rel=>exact ⟨i+1,by go_num,by omega,by rw[HN.out]; go_num,hb.trans (hb'.mono hb.size)⟩
     case measure=>simp[intOf]; omega}}
  {have hie:i=t.parts.length:=by omega
   have HE:Hid (deeps (t.parts.take i)=deeps t.parts):=Y1 (by rw[hie,List.take_length]);have htk:=Z3m t.parts i;clear hie;go_wp2;go_ret;exact ⟨by rw[HE.out,HD.out]; go_num,HB0.out.trans (hb.mono HB0.out.size)⟩}
theorem Z8c {l:List Sh} {i m:Nat} (hi:i < l.length) (h:1+sizes (l.take i)<=m):min (1+sizes (l.take i)) (m+1)+sizeTo (m - min (1+sizes (l.take i)) (m+1)) (l[i]'hi)=min (1+sizes (l.take (i+1))) (m+1):=by
 rw[Z1L hi]; unfold sizeTo; omega
theorem Z5i (t:Sh): ∀(q:Ptr) (m:Nat) (w:World),ShAt w w.heap.size q t->m<=1000000->
 Calls Tryd.prog 12 #[.agg (Y8 t q),.int .i64 (m:Int)] w
  fun e w'=>e= .returned (.int .i64 (sizeTo m t:Int))/\Below w.heap.size w w':=by
 induction t using Sh.ind with
 | h t ih=>
 intro q m w hq hmm;have HM:=Y1 hq.small.m;have HP:=Y1 hq.part;have HZ:Hid (size t=1+sizes t.parts):=Y1 (size_eq t);have hB:=Z07 w t q;have HB:=Y1 hB;have hb0:=Z01 w (.cells (Y8 t q) 25);have HB0:=Y1 hb0;clear hB hb0 hq;go_enter Tryd.func12,Tryd.ntmps12
 go_wp2_with fail
 generalize hW0:w.alloc (.cells (Y8 t q) 25)=W0 at HB HB0 ⊢;clear hW0
 go_loopw [5,6] (fun nn ii wr=> ∃i:Nat,ii= .int .i64 i/\i<=t.parts.length/\nn= .int .i64 ((min (1+sizes (t.parts.take i)) (m+1):Nat):Int)/\Below W0.heap.size W0 wr) (fun _ i _=>t.parts.length - (intOf i).toNat)
 case atStart=>exact ⟨0,rfl,Nat.zero_le _,by rw[List.take_zero]; show Value.int .i64 1= .int .i64 ((min (1+0) (m+1):Nat):Int); rw[Nat.min_eq_left (by omega)]; rfl,Below.refl _ _⟩
 case round=>
  obtain ⟨i,rfl,hi,rfl,hb⟩:=hrel;have hm:=HM.out;obtain ⟨_,⟨_,_,_,_,c4⟩,_⟩:=HB.out.next hb;obtain ⟨n,hn⟩: ∃n,n=min (1+sizes (t.parts.take i)) (m+1):=⟨_,rfl⟩;rw[<-hn];have HE:=Y1 hn;have hn1:1<=n:=by omega
  have hn2:n<=m+1:=by omega
  by_cases hlt:i < t.parts.length
  {have hi1: (i:Int) < (t.parts.length:Int):=by omega
   by_cases hnm:n<=m
   {rcases HP.out with h0 | ⟨g,off,qs,hqP,hg,hc,hr⟩
    {omega}
    {have hbw:Below w.heap.size w wr:=HB0.out.trans (hb.mono HB0.out.size);obtain ⟨x,hx⟩: ∃x,x=t.parts[i]:=⟨_,rfl⟩;obtain ⟨p0,p1,p2,p3,p4⟩:=(hc i hlt).keep hg hbw;have hat:ShAt wr wr.heap.size (qs i) x:=by rw[hx]; exact (hr i hlt).next hbw
     have ihx:=ih t.parts[i] (List.getElem_mem _) (qs i) (m - n) wr;have HN:Hid (n+sizeTo (m - n) x=min (1+sizes (t.parts.take (i+1))) (m+1)):=Y1 (by rw[hx,hn]; exact Z8c hlt (by omega));rw[<-hx] at p0 p1 p2 p3 p4 ihx;have IH:=ihx hat (by omega);rw[show ((m - n:Nat):Int)=(m:Int) - (n:Int) from by omega] at IH;rw[hqP] at c4;have hsz:sizeTo (m - n) x<=m - n+1:=Nat.min_le_right _ _;have d2:decide (n<=m)=true:=decide_eq_true (by omega);have d3:decide (i < t.parts.length)=true:=decide_eq_true (by omega);have hnm2: (n:Int)<=(m:Int):=by omega
     have hmm2: (m:Int)<=1000000:=by omega
     generalize sizeTo (m - n) x=z at IH HN hsz;have hz2: (n:Int)+(z:Int)<=1000001:=by omega
     clear hx hc hr hat ihx ih hqP hn
     go_wp2_with (refine IH.mono ?_; rintro e w' ⟨rfl,hb'⟩)
     go_roundw
     case rel=>exact ⟨i+1,by go_num,by omega,by rw[<-HN.out]; go_num,hb.trans (hb'.mono hb.size)⟩
     case measure=>simp[intOf]; omega}}
   {have HF:Hid (n=sizeTo m t):=Y1 (by
     have:=Z3l t.parts i;unfold sizeTo; have:=HZ.out; omega)
    have d2:decide (n<=m)=false:=decide_eq_false (by omega);have d3:decide (i < t.parts.length)=true:=decide_eq_true (by omega);clear hn;go_wp2;go_ret;exact ⟨by rw[<-HF.out]; rfl,HB0.out.trans (hb.mono HB0.out.size)⟩}}
  {have HF:Hid (n=sizeTo m t):=Y1 (by
    rw[show i=t.parts.length from by omega,List.take_length] at hn;unfold sizeTo; have:=HZ.out; omega)
   have d3:decide (i < t.parts.length)=false:=decide_eq_false (by omega);clear hn;go_wp2;go_ret;exact ⟨by rw[<-HF.out]; rfl,HB0.out.trans (hb.mono HB0.out.size)⟩}
end
end Go.Proofs.YtmeiijjpomcgcaaDoor
