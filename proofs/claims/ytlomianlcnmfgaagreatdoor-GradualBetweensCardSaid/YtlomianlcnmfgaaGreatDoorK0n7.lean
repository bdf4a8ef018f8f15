/- What the proofs of GradualBetweens want, part 7. -/
import Derived.Test.YtlomianlcnmfgaaGreatDoorK0n6
set_option linter.unusedVariables false
set_option linter.unusedSimpArgs false
set_option linter.unusedSectionVars false
set_option maxRecDepth 100000
set_option maxHeartbeats 16000000
namespace Go.Proofs.YtlomianlcnmfgaaGreatDoor
open Go.RowKit Shp Sub
namespace SubM
structure Takes (n0 N:Nat) (a b:Sh) (fn:Nat) (cs:List Value) (step:Cl->Bool) (K:Bool->List Cl->World->Prop):Prop where
 keep: ∀ok done W W',K ok done W->Upd (fun x=>N<=x/\x < N+3) W W'->K ok done W'
 call: ∀done c rest W (x y:Value),calls a b=done++c::rest->N+3<=W.heap.size->K true done W->At W n0 c.2.1 x->At W n0 c.2.2 y->
  Calls Tryz.prog fn (.string ⟨c.1.toArray⟩::x::y::cs).toArray W fun e W'=>e= .returned (.bool (step c))/\K (step c) (done++ [c]) W'/\Upd (fun x=>n0<=x/\ ¬(N<=x/\x < N+3)) W W'
def numOf:List (List UInt8)->List UInt8->Nat
 | [],_=>0
 | x::l,n=>if x=n then 0 else numOf l n+1
theorem Z6A: ∀ {ns:List (List UInt8)} (hd:ns.Nodup) {k:Nat} (hk:k < ns.length),numOf ns (ns[k]'hk)=k
 | x::l,hd,0,hk=>by simp[numOf]
 | x::l,hd,k+1,hk=>by
  rw[List.nodup_cons] at hd;unfold numOf;rw[if_neg,List.getElem_cons_succ,Z6A hd.2];rw[List.getElem_cons_succ];exact fun e=>hd.1 (by rw[e]; exact List.getElem_mem _)
def place (g off:Nat) (ns:List (List UInt8)) (n:List UInt8):Value:= .pointer (some ⟨g,off+numOf ns n * 5,none⟩)
theorem Z4B {g off:Nat} {ns:List (List UInt8)} (hd:ns.Nodup) {k:Nat} (hk:k < ns.length):place g off ns (ns[k]'hk)= .pointer (some ⟨g,off+k * 5,none⟩):=by
 unfold place;rw[Z6A hd]
def Parts (W:World) (n0:Nat) (t:Sh) (q:Ptr) (g off:Nat) (qs:Nat->Ptr):Prop:=
 t.parts.length=0\/(q.P=some ⟨g,off,none⟩/\g < n0/\ ∀i (h:i < t.parts.length),Sh5 W g (off+i * 5) (t.parts[i]'h) (qs i)/\ShAt W n0 (qs i) (t.parts[i]'h))
theorem Z2K {W:World} {n0:Nat} {t:Sh} {q:Ptr} (h:ShAt W n0 q t): ∃g off qs,Parts W n0 t q g off qs:=by
 rcases h.part with h | ⟨g,off,qs,hP,hg,h5,hr⟩
 {exact ⟨0,0,fun _=>q,Or.inl h⟩}
 {exact ⟨g,off,qs,Or.inr ⟨hP,hg,fun i hi=>⟨h5 i hi,hr i hi⟩⟩⟩}
theorem Parts.upd {a b:World} {S:Nat->Prop} {n0:Nat} {t:Sh} {q:Ptr} {g off:Nat} {qs:Nat->Ptr} (h:Parts a n0 t q g off qs) (hn:n0<=a.heap.size) (hu:Upd S a b) (hS: ∀x,x < n0-> ¬S x):Parts b n0 t q g off qs:=by
 rcases h with h | ⟨hP,hg,hc⟩
 {exact Or.inl h}
 {exact Or.inr ⟨hP,hg,fun i hi=>⟨(hc i hi).1.of (fun k=>hu.cell (by omega) (hS g hg)),Z0a (hc i hi).2 hn hu hS⟩⟩}
theorem Z4C {W:World} {n0:Nat} {t:Sh} {q:Ptr} (h:ShAt W n0 q t) {k:Nat} (hk:k < t.names.length):
 ∃g off,q.A=some ⟨g,off,none⟩/\g < n0/\W.cell? ⟨g,off+k,none⟩=some (.string ⟨(t.names[k]'hk).toArray⟩):=by
 rcases h.strs.cell7 with h0 | ⟨g,off,hA,hg,hc⟩
 {omega}
 {exact ⟨g,off,hA,hg,hc k hk⟩}
structure L1 (N:Nat) (a b:Sh) (pa pb:Ptr) (g off:Nat) (w:World) (k:Nat) (W:World):Prop where
 ba:Box5 W N a pa
 bb:Box5 W (N+1) b pb
 mp: ∃S,Mp W (N+2) k S (place g off b.names)/\ ∀n,n∈S ↔ n∈b.names.take k
 up:Upd (fun x=>N<=x/\x < N+3) w W
theorem L1.put {N:Nat} {a b:Sh} {pa pb:Ptr} {g off:Nat} {w:World} {k:Nat} {W:World} (h:L1 N a b pa pb g off w k W) (hd:b.names.Nodup) (hlt:k < b.names.length) (hk:k<=1000) (hf:Fine (b.names[k]'hlt)):
 ∃W',(Instr.mapUpdate 59 (.map (some (N+2))) (.string ⟨(b.names[k]'hlt).toArray⟩) (.pointer (some ⟨g,off+k * 5,none⟩))).run Tryz.prog W= .ok () W'/\L1 N a b pa pb g off w (k+1) W':=by
 obtain ⟨hB1,hB2,⟨S,hM,hS⟩,hU⟩:=h;have hpl:=Z4B (g:=g) (off:=off) hd hlt;obtain ⟨W',hr,hM',ht⟩:=hM.put hf (by unfold maxLen; omega) (v:= .pointer (some ⟨g,off+k * 5,none⟩)) (z:=_) rfl;have hu2:Upd (fun x=>x=N+2) W W':=(Upd.refl _ W).grown ht.grown (fun k h _=>by cases h; rfl);refine ⟨W',hr,Z0e hB1 hu2 (by omega),Z0e hB2 hu2 (by omega),⟨_,hM'.like (fun x _=> ?_),fun n=> ?_⟩,hU.trans (hu2.mono (fun x _ h=>by omega))⟩
 {by_cases e:x=b.names[k]'hlt
  {rw[if_pos e,e,hpl]}
  {rw[if_neg e]}}
 {rw[List.take_succ_eq_append_getElem hlt,List.mem_append,List.mem_singleton];by_cases e:b.names[k]'hlt∈S
  {rw[if_pos e,hS];refine ⟨Or.inl,fun h=>h.elim id (fun h=>by rw[h]; exact (hS _).1 e)⟩}
  {rw[if_neg e,List.mem_cons,hS];exact ⟨fun h=>h.symm,fun h=>h.symm⟩}}
section
variable {a b : Sh} (A : Rec a)
include a b A
theorem Z2v: (callsA a b).length=a.names.length:=by unfold callsA; rw[List.length_map,List.length_zip,A.l,Nat.min_self]
theorem Zah {k:Nat} (h:k < a.names.length) (h2:k < a.parts.length): (callsA a b)[k]'(by rw[Z2v A]; exact h)=(a.names[k]'h,some (a.parts[k]'h2),get b (a.names[k]'h)):=by
 unfold callsA; simp
theorem Zai {k:Nat} (h:k < a.names.length) (h2:k < a.parts.length): ∃rest,calls a b=(callsA a b).take k++(a.names[k]'h,some (a.parts[k]'h2),get b (a.names[k]'h))::rest/\(callsA a b).take k++ [(a.names[k]'h,some (a.parts[k]'h2),get b (a.names[k]'h))]=(callsA a b).take (k+1):=by
 have hl:k < (callsA a b).length:=by rw[Z2v A]; exact h
 have e: (callsA a b).take (k+1)=(callsA a b).take k++ [(a.names[k]'h,some (a.parts[k]'h2),get b (a.names[k]'h))]:=by rw[List.take_succ_eq_append_getElem hl,Zah A h h2]
 refine ⟨(callsA a b).drop (k+1)++callsB a b, ?_,e.symm⟩;unfold calls;rw[show (callsA a b).take k++(a.names[k]'h,some (a.parts[k]'h2),get b (a.names[k]'h))::((callsA a b).drop (k+1)++callsB a b)=((callsA a b).take k++ [(a.names[k]'h,some (a.parts[k]'h2),get b (a.names[k]'h))])++((callsA a b).drop (k+1)++callsB a b) from by simp, <-e, <-List.append_assoc,List.take_append_drop]
end
structure L2 (n0 N:Nat) (a b:Sh) (pa pb:Ptr) (g off:Nat) (w:World) (K:Bool->List Cl->World->Prop) (gone:List (List UInt8)) (done:List Cl) (W:World):Prop where
 ba:Box5 W N a pa
 bb:Box5 W (N+1) b pb
 mp: ∃S,Mp W (N+2) b.names.length S (place g off b.names)/\ ∀n,n∈S ↔ n∈b.names/\n∉gone
 up:Upd (fun x=>n0<=x) w W
 sz:N+3<=W.heap.size
 k:K true done W
section
variable {n0 : Nat} {a b : Sh} {pa pb : Ptr} {g off : Nat} {w : World} {K : Bool -> List Cl -> World -> Prop} {gone : List (List UInt8)} {done : List Cl} {W W' : World} {fn : Nat} {cs : List Value} {step : Cl -> Bool}
theorem L2.upd (h:L2 n0 w.heap.size a b pa pb g off w K gone done W) (hn:n0<=w.heap.size) (hu:Upd (fun x=>n0<=x/\ ¬(w.heap.size<=x/\x < w.heap.size+3)) W W') {done':List Cl} (hk:K true done' W'):L2 n0 w.heap.size a b pa pb g off w K gone done' W':=by
 obtain ⟨S,hM,hS⟩:=h.mp;exact ⟨Z0e h.ba hu (by omega),Z0e h.bb hu (by omega),⟨S,ZbL hM hu (by omega),hS⟩,h.up.trans (hu.mono (fun x _ hx=>hx.1)),Nat.le_trans h.sz hu.size,hk⟩
theorem L2.drew (h:L2 n0 w.heap.size a b pa pb g off w K gone done W) (hT:Takes n0 w.heap.size a b fn cs step K) (hn:n0<=w.heap.size):L2 n0 w.heap.size a b pa pb g off w K gone done W.drew:=
 h.upd hn (Upd.refl _ W).drew (hT.keep _ _ _ _ h.k (Upd.refl _ W).drew)
theorem L2.del (h:L2 n0 w.heap.size a b pa pb g off w K gone done W) (hT:Takes n0 w.heap.size a b fn cs step K) (hn:n0<=w.heap.size) {n:List UInt8} (hf:Fine n) (ty:TypeId):
 ∃W',(Builtin.delete_ #[59,9] ty #[.map (some (w.heap.size+2)),(.string ⟨n.toArray⟩)]).run Tryz.prog W= .ok (.tuple #[]) W'/\L2 n0 w.heap.size a b pa pb g off w K (gone++ [n]) done W':=by
 obtain ⟨S,hM,hS⟩:=h.mp;obtain ⟨W',hr,hM',ht⟩:=hM.del hf ty;have hu:Upd (fun x=>x=w.heap.size+2) W W':=(Upd.refl _ W).grown ht.grown (fun k h _=>by cases h; rfl);refine ⟨W',hr,Z0e h.ba hu (by omega),Z0e h.bb hu (by omega),⟨_,hM',fun x=> ?_⟩,h.up.trans (hu.mono (fun x _ hx=>by omega)),Nat.le_trans h.sz hu.size,hT.keep _ _ _ _ h.k (hu.mono (fun x _ hx=>by omega))⟩;rw[List.mem_filter,hS,List.mem_append,List.mem_singleton];simp;exact ⟨fun ⟨⟨h1,h2⟩,h3⟩=>⟨h1,h2,h3⟩,fun ⟨h1,h2,h3⟩=>⟨⟨h1,h2⟩,h3⟩⟩
end
def callsBk (a b:Sh) (i:Nat):List Cl:=(((b.names.zip b.parts).take i).filter (fun x=>(get a x.1).isNone)).map (fun x=>(x.1,none,some x.2))
theorem Z4o (a b:Sh) (B:Rec b):callsBk a b b.names.length=callsB a b:=by
 unfold callsBk callsB;rw[List.take_of_length_le (by rw[List.length_zip]; omega)]
theorem Z6B {b:Sh} {i:Nat} (h:i < b.names.length) (h2:i < b.parts.length): (b.names.zip b.parts).take (i+1)=(b.names.zip b.parts).take i++ [(b.names[i]'h,b.parts[i]'h2)]:=by
 rw[List.take_succ_eq_append_getElem (by rw[List.length_zip]; omega),List.getElem_zip]
section
variable {a b : Sh} {i : Nat} (h : i < b.names.length) (h2 : i < b.parts.length)
include a b i h h2
theorem Z7H (hn: (get a (b.names[i]'h)).isNone=false):callsBk a b (i+1)=callsBk a b i:=by
 unfold callsBk;rw[Z6B h h2,List.filter_append];simp[hn]
theorem Z7I (hn: (get a (b.names[i]'h)).isNone=true):callsBk a b (i+1)=callsBk a b i++ [(b.names[i]'h,none,some (b.parts[i]'h2))]:=by
 unfold callsBk;rw[Z6B h h2,List.filter_append,List.map_append];simp[hn]
end
theorem Z96 (a b:Sh) (B:Rec b) (i:Nat): ∃rest,calls a b=callsA a b++callsBk a b i++rest:=by
 refine ⟨(((b.names.zip b.parts).drop i).filter (fun x=>(get a x.1).isNone)).map (fun x=>(x.1,none,some x.2)), ?_⟩;unfold calls callsB callsBk;rw[List.append_assoc, <-List.map_append, <-List.filter_append,List.take_append_drop]
theorem Zbs {W:World} {n0 g off:Nat} {b:Sh} {pb:Ptr} {qs:Nat->Ptr} (B:Rec b) (hP:Parts W n0 b pb g off qs) {n:List UInt8} {x:Bool} (hx:x=true ↔ n∈b.names):At W n0 (get b n) (if x=true then place g off b.names n else .pointer none):=by
 by_cases e:n∈b.names
 {obtain ⟨i,hi,rfl⟩:=List.getElem_of_mem e;have hi2:i < b.parts.length:=by rw[<-B.l]; exact hi
  rw[if_pos (hx.2 e),Z4B B.nodup hi];have hg:get b (b.names[i]'hi)=some (b.parts[i]'hi2):=Z5e B.nodup hi hi2;rw[hg];rcases hP with h | ⟨_,hlt,hc⟩
  {omega}
  {exact ⟨g,off+i * 5,qs i,rfl,hlt,(hc i hi2).1,(hc i hi2).2⟩}}
 {rw[if_neg (fun h=>e (hx.1 h)),B.get_none.2 e];rfl}
theorem Z1J (a b:Sh) (pa pb:Ptr) (n0:Nat) (w:World) (A:Rec a) (B:Rec b) (ha:ShAt w n0 pa a) (hb:ShAt w n0 pb b) (hn:n0<=w.heap.size) (la:a.names.length<=1000) (lb:b.names.length<=1000)
 (fn:Nat) (hen: ∀args W,(callFunc fn args).run Tryz.prog W= .ok (.enter fn args) W) (cs:List Value) (step:Cl->Bool) (K:Bool->List Cl->World->Prop)
 (hT:Takes n0 w.heap.size a b fn cs step K) (h0:K true [] w):
 Calls Tryz.prog 51 #[sv a pa,sv b pb,.func (.func fn) #[] cs.toArray] w fun e w'=>e= .returned (.bool ((calls a b).all step))/\
  (∃D,K ((calls a b).all step) D w'/\((calls a b).all step=true->D=calls a b))/\Upd (fun x=>n0<=x) w w':=by
 obtain ⟨Aa,ca,Pa,da⟩:=pa;obtain ⟨Ab,cb,Pb,db⟩:=pb;have hb1:=Z01 w (.cells #[.int .i64 a.kind,.string ⟨a.of_.toArray⟩,.string ⟨a.name.toArray⟩,.slice Aa a.names.length ca,.slice Pa a.parts.length da] 25);obtain ⟨w1,hw1⟩: ∃w1,w1=w.alloc (.cells #[.int .i64 a.kind,.string ⟨a.of_.toArray⟩,.string ⟨a.name.toArray⟩,.slice Aa a.names.length ca,.slice Pa a.parts.length da] 25):=⟨_,rfl⟩;have hb2:=Z01 w1 (.cells #[.int .i64 b.kind,.string ⟨b.of_.toArray⟩,.string ⟨b.name.toArray⟩,.slice Ab b.names.length cb,.slice Pb b.parts.length db] 25);obtain ⟨w2,hw2⟩: ∃w2,w2=w1.alloc (.cells #[.int .i64 b.kind,.string ⟨b.of_.toArray⟩,.string ⟨b.name.toArray⟩,.slice Ab b.names.length cb,.slice Pb b.parts.length db] 25):=⟨_,rfl⟩;have hs1:w1.heap.size=w.heap.size+1:=by rw[hw1]; simp
 have hs2:w2.heap.size=w.heap.size+2:=by rw[hw2]; simp[hs1]
 have hb3:=Z01 w2 (.map #[] 0);obtain ⟨w3,hw3⟩: ∃w3,w3=w2.alloc (.map #[] 0):=⟨_,rfl⟩;have hs3:w3.heap.size=w.heap.size+3:=by rw[hw3]; simp[hs2]
 rw[<-hw1] at hb1;rw[<-hw2] at hb2;rw[<-hw3] at hb3;have hB1:Box5 w1 w.heap.size a ⟨Aa,ca,Pa,da⟩:=by rw[hw1]; exact Z05 w a ⟨Aa,ca,Pa,da⟩
 have hB2:Box5 w2 w1.heap.size b ⟨Ab,cb,Pb,db⟩:=by rw[hw2]; exact Z05 w1 b ⟨Ab,cb,Pb,db⟩
 have hBA:=(hB1.next hb2).next hb3;have hBB:=hB2.next hb3;rw[hs1] at hBB;have hM: ∀m,Mp w3 (w.heap.size+2) 0 [] m:=fun m=>by
  have:=Mp.made w2 m;rw[<-hw3,hs2] at this;exact this
 have hU:Upd (fun x=>w.heap.size<=x/\x < w.heap.size+3) w w3:=Upd.new (Z00 hb1 (Z00 hb2 hb3));have HB1:=Y1 hBA;have HB2:=Y1 hBB;have HM:=Y1 hM;have HU:=Y1 hU;have HA:=Y1 A;have HBB:=Y1 B;have HSA:=Y1 ha;have HSB:=Y1 hb;have HN:=Y1 hn;have HLA:=Y1 la;have HLB:=Y1 lb;have HT:=Y1 hT;have HK:=Y1 h0;have HS:=Y1 hs3;obtain ⟨_,⟨a0,a1,a2,a3,a4⟩,_⟩:=hBA;obtain ⟨_,⟨b0,b1,b2,b3,b4⟩,_⟩:=hBB;simp only[Nat.zero_add] at a0 a1 a2 a3 a4 b0 b1 b2 b3 b4;have hw1':=hw1.symm;have hw2':=hw2.symm;have hw3':=hw3.symm;clear hw1 hw2 hw3 hb1 hb2 hb3 hB1 hB2 hM hU A B ha hb hn la lb hT h0;unfold sv
 try dsimp only
 have hmm:= @run_makeMap Tryz.prog;go_enter Tryz.func51,Tryz.ntmps51
 go_wp2_with fail
 obtain ⟨g,off,qs,hP⟩:=Z2K HSB.out;have HP:=Y1 hP;clear hP
 go_loopw [20] (fun ii wr=> ∃k:Nat,k<=b.names.length/\ii= .int .i64 (k:Int)/\Hid (L1 w.heap.size a b ⟨Aa,ca,Pa,da⟩ ⟨Ab,cb,Pb,db⟩ g off w k wr)) (fun i _=>b.names.length - (intOf i).toNat)
 case atStart=>exact ⟨0,Nat.zero_le _,rfl,Y1 ⟨HB1.out,HB2.out,⟨[],HM.out _,by simp⟩,HU.out⟩⟩
 case round=>
  obtain ⟨k,hk,rfl,HR⟩:=hrel;have hlb:=HLB.out;clear b0 b1 b2 b3 b4 a0 a1 a2 a3 a4;by_cases hlt:k < b.names.length
  {have hi1: (k:Int) < (b.names.length:Int):=by omega
   have hi2: (k:Int) < (b.parts.length:Int):=by rw[<-HBB.out.l]; omega
   have hn0:=HN.out;have hsb:=Z0a HSB.out hn0 HR.out.up (fun x hx hs=>by omega);have hpp:=HP.out.upd hn0 HR.out.up (fun x hx hs=>by omega);obtain ⟨gA,oA,rfl,hgA,hcA⟩:=Z4C hsb hlt;rcases hpp with h | ⟨rfl,hgP,_⟩
   {have:=HBB.out.l; omega}
   obtain ⟨W',hr,hL⟩:=HR.out.put HBB.out.nodup hlt (by omega) (HSB.out.small.ns _ (List.getElem_mem _));obtain ⟨nm,hnm⟩: ∃nm,nm=b.names[k]'hlt:=⟨_,rfl⟩;rw[<-hnm] at hcA hr;have HL:=Y1 hL;obtain ⟨_,⟨b0,b1,b2,b3,b4⟩,_⟩:=HR.out.bb;simp only[Nat.zero_add] at b0 b1 b2 b3 b4;clear hL HR hsb hnm hgA hgP hn0;go_wp2
   go_roundw
   case rel=>exact ⟨k+1,by omega,by go_num,HL⟩
   case measure=>simp[intOf]; omega}
  {obtain rfl:k=b.names.length:=by omega
   have hi1: ¬(b.names.length:Int) < (b.names.length:Int):=by omega
   have hL:L2 n0 w.heap.size a b ⟨Aa,ca,Pa,da⟩ ⟨Ab,cb,Pb,db⟩ g off w K (a.names.take 0) ((callsA a b).take 0) wr:=by
    obtain ⟨S,hM,hS⟩:=HR.out.mp;refine ⟨HR.out.ba,HR.out.bb,⟨S,hM,fun n=> ?_⟩,HR.out.up.mono (fun x _ hx=>by have:=HN.out; omega), ?_,HT.out.keep _ _ _ _ HK.out HR.out.up⟩
    {rw[hS,List.take_length]; simp}
    {have:=hM.lt; omega}
   have HL:=Y1 hL;obtain ⟨_,⟨a0,a1,a2,a3,a4⟩,_⟩:=HR.out.ba;simp only[Nat.zero_add] at a0 a1 a2 a3 a4;clear hL HR hlt hk
   go_wp2_with fail
   go_loopw [35] (fun ii wr=> ∃k:Nat,k<=a.names.length/\ii= .int .i64 (k:Int)/\Hid (((callsA a b).take k).all step=true)/\Hid (L2 n0 w.heap.size a b ⟨Aa,ca,Pa,da⟩ ⟨Ab,cb,Pb,db⟩ g off w K (a.names.take k) ((callsA a b).take k) wr)) (fun i _=>a.names.length - (intOf i).toNat)
   case atStart=>exact ⟨0,Nat.zero_le _,rfl,Y1 (by simp),HL⟩
   case round=>
    obtain ⟨k,hk,rfl,HST,HL2⟩:=hrel;clear a0 a1 a2 a3 a4 HL;have hla:=HLA.out;by_cases hlt:k < a.names.length
    {have hi3: (k:Int) < (a.names.length:Int):=by omega
     have hi4: (k:Int) < (a.parts.length:Int):=by rw[<-HA.out.l]; omega
     have hk2:k < a.parts.length:=by omega
     have hn0:=HN.out;have hsa:=Z0a HSA.out hn0 HL2.out.up (fun x hx hs=>by omega);obtain ⟨gq,oq,rs,hpa⟩:=Z2K hsa;have hpb:=HP.out.upd hn0 HL2.out.up (fun x hx hs=>by omega);obtain ⟨gA,oA,rfl,hgA,hcA⟩:=Z4C hsa hlt;rcases hpa with h | ⟨rfl,hgP,h5⟩
     {omega}
     obtain ⟨S,hM,hS⟩:=HL2.out.mp;have hfine:Fine (a.names[k]'hlt):=HSA.out.small.ns _ (List.getElem_mem _);have hlook:=(show Mp wr.drew _ _ _ _ from hM.same rfl).look hfine;have hmem: (decide (a.names[k]'hlt∈S))=true ↔ (a.names[k]'hlt)∈b.names:=by
      rw[decide_eq_true_eq,hS];refine ⟨fun h=>h.1,fun h=>⟨h,fun hm=> ?_⟩⟩;obtain ⟨i,hi,e⟩:=List.getElem_of_mem hm;rw[List.getElem_take] at e;rw[List.length_take] at hi;have:=(List.getElem_inj HA.out.nodup).1 e;omega
     have hat:=Zbs HBB.out hpb hmem;obtain ⟨rest,hcut,hnext⟩:=Zai (b:=b) HA.out hlt hk2;obtain ⟨nm,hnm⟩: ∃nm,nm=a.names[k]'hlt:=⟨_,rfl⟩;obtain ⟨xa,hxa⟩: ∃xa,xa=a.parts[k]'hk2:=⟨_,rfl⟩;have hax:At wr n0 (some xa) (.pointer (some ⟨gq,oq+k * 5,none⟩)):=⟨gq,oq+k * 5,rs k,rfl,hgP,by rw[hxa]; exact (h5 k hk2).1,by rw[hxa]; exact (h5 k hk2).2⟩;rw[<-hnm] at hcA hlook hmem hat hcut hnext hfine;rw[<-hxa] at hcut hnext;obtain ⟨y,hy⟩: ∃y,y=(if nm∈S then place g off b.names nm else .pointer none):=⟨_,rfl⟩;rw[<-hy] at hlook;have hat':At wr n0 (get b nm) y:=by
      rw[hy];by_cases e:nm∈S
      {simpa[e] using hat}
      {simpa[e] using hat}
     have hL3:=HL2.out.drew HT.out hn0;have hcall:=HT.out.call _ _ _ wr.drew _ _ hcut hL3.sz hL3.k (At.upd hax (by have:=HL2.out.up.size; omega) (Upd.refl (fun _=>False) wr).drew (fun _ _ h=>h)) (At.upd hat' (by have:=HL2.out.up.size; omega) (Upd.refl (fun _=>False) wr).drew (fun _ _ h=>h));have HCALL:=Y1 hcall;have HFI:=Y1 hfine;have HNX:=Y1 hnext;have HL3:=Y1 hL3;have HCUT:=Y1 hcut;obtain ⟨_,⟨a0,a1,a2,a3,a4⟩,_⟩:=HL2.out.ba;simp only[Nat.zero_add] at a0 a1 a2 a3 a4;have HNM:=Y1 hnm;clear hcall hfine hnext hL3 hcut hsa hpb hM hS hmem hat hat' hax hnm hxa hy h5 hgA hgP HL2
     go_wp2_with fail
     go_still_tail 9,(by kernel_rfl)
     change wpList _ _ _ _ _ wr.drew
     go_wp2_with fail
     refine HCALL.out.mono ?_;rintro e W2 ⟨rfl,hk2',hu2⟩;have HK2:=Y1 hk2';have HU2:=Y1 hu2;clear hk2' hu2 HCALL a0 a1 a2 a3 a4;cases hst:step (nm,some xa,get b nm) with
     | false=>
      have HALL:Hid ((calls a b).all step=false):=Y1 (by rw[HCUT.out,List.all_append,List.all_cons,hst]; simp);rw[hst] at HK2;clear hst;go_wp2;go_ret;rw[HALL.out];exact ⟨rfl,⟨_,HK2.out,nofun⟩,HL3.out.up.trans (HU2.out.mono (fun x _ h=>h.1))⟩
     | true=>
      rw[hst] at HK2;have HL4:=Y1 (HL3.out.upd HN.out HU2.out HK2.out);have HST2:Hid (((callsA a b).take (k+1)).all step=true):=Y1 (by rw[<-HNX.out,List.all_append,HST.out]; simp[hst]);rw[HNX.out] at HL4;clear hst HK2 HU2 HCUT;obtain ⟨W5,hr,hL5⟩:=HL4.out.del HT.out HN.out HFI.out 0;have HL5:=Y1 hL5;clear hL5;go_wp2
      go_roundw
      case rel=>exact ⟨k+1,by omega,by go_num,HST2,by rw[show a.names.take (k+1)=a.names.take k++ [nm] from by rw[List.take_succ_eq_append_getElem hlt,HNM.out]]; exact HL5⟩
      case measure=>simp[intOf]; omega}
    {obtain rfl:k=a.names.length:=by omega
     have hi3: ¬(a.names.length:Int) < (a.names.length:Int):=by omega
     have e0: (callsA a b).take a.names.length=callsA a b++callsBk a b 0:=by
      rw[<-Z2v (b:=b) HA.out,List.take_length]; simp[callsBk]
     have hst0:=HST.out;have hl0:=HL2.out;rw[e0] at hst0 hl0;rw[List.take_length] at hl0;have HST0:=Y1 hst0;have HL0:=Y1 hl0;obtain ⟨_,⟨b0,b1,b2,b3,b4⟩,_⟩:=HL2.out.bb;simp only[Nat.zero_add] at b0 b1 b2 b3 b4;clear hst0 hl0 HST HL2 hlt hk e0
     go_wp2_with fail
     go_loopw [57] (fun ii wr=> ∃k:Nat,k<=b.names.length/\ii= .int .i64 (k:Int)/\Hid ((callsA a b++callsBk a b k).all step=true)/\Hid (L2 n0 w.heap.size a b ⟨Aa,ca,Pa,da⟩ ⟨Ab,cb,Pb,db⟩ g off w K a.names (callsA a b++callsBk a b k) wr)) (fun i _=>b.names.length - (intOf i).toNat)
     case atStart=>exact ⟨0,Nat.zero_le _,rfl,HST0,HL0⟩
     case round=>
      obtain ⟨k,hk,rfl,HST,HL2⟩:=hrel;clear b0 b1 b2 b3 b4 HL0 HST0;by_cases hlt:k < b.names.length
      {have hi5: (k:Int) < (b.names.length:Int):=by omega
       have hk2:k < b.parts.length:=by rw[<-HBB.out.l]; exact hlt
       have hn0:=HN.out;have hsb:=Z0a HSB.out hn0 HL2.out.up (fun x hx hs=>by omega);have hpb:=HP.out.upd hn0 HL2.out.up (fun x hx hs=>by omega);obtain ⟨gA,oA,rfl,hgA,hcA⟩:=Z4C hsb hlt;obtain ⟨S,hM,hS⟩:=HL2.out.mp;have hfine:Fine (b.names[k]'hlt):=HSB.out.small.ns _ (List.getElem_mem _);have hlook:=hM.look2 hfine;have hmem:b.names[k]'hlt∈S ↔ get a (b.names[k]'hlt)=none:=by
        rw[hS,HA.out.get_none];exact ⟨fun h=>h.2,fun h=>⟨List.getElem_mem _,h⟩⟩
       obtain ⟨rest,hcut⟩:=Z96 a b HBB.out (k+1);by_cases hin:b.names[k]'hlt∈S
       {have hnone:=hmem.1 hin;have hnew:=Z7I hlt hk2 (by rw[hnone]; rfl);rw[hnew] at hcut;rw[if_pos hin,decide_eq_true hin,Z4B HBB.out.nodup hlt] at hlook;obtain ⟨nm,hnm⟩: ∃nm,nm=b.names[k]'hlt:=⟨_,rfl⟩;obtain ⟨xb,hxb⟩: ∃xb,xb=b.parts[k]'hk2:=⟨_,rfl⟩;have hat:At wr n0 (some xb) (.pointer (some ⟨g,off+k * 5,none⟩)):=by
         rcases hpb with h | ⟨_,hgP,h5⟩
         {omega}
         {exact ⟨g,off+k * 5,qs k,rfl,hgP,by rw[hxb]; exact (h5 k hk2).1,by rw[hxb]; exact (h5 k hk2).2⟩}
        rw[<-hnm] at hcA hlook hnew hcut;rw[<-hxb] at hnew hcut;have hL3:=HL2.out;have hcut':calls a b=(callsA a b++callsBk a b k)++(nm,none,some xb)::rest:=by rw[hcut]; simp
        have hcall:=HT.out.call _ _ _ wr (.pointer none) _ hcut' hL3.sz hL3.k rfl hat;have HCALL:=Y1 hcall;have HNX:=Y1 hnew;have HL3:=Y1 hL3;have HCUT:=Y1 hcut';clear hcall hnew hL3 hcut hcut' hsb hpb hM hS hmem hat hnm hxb hgA HL2 hin hnone hfine
        go_wp2_with fail
        refine HCALL.out.mono ?_;rintro e W2 ⟨rfl,hk2',hu2⟩;have HK2:=Y1 hk2';have HU2:=Y1 hu2;clear hk2' hu2 HCALL;cases hst:step (nm,none,some xb) with
        | false=>
         have HALL:Hid ((calls a b).all step=false):=Y1 (by rw[HCUT.out,List.all_append,List.all_cons,hst]; simp);rw[hst] at HK2;clear hst;go_wp2;go_ret;rw[HALL.out];exact ⟨rfl,⟨_,HK2.out,nofun⟩,HL3.out.up.trans (HU2.out.mono (fun x _ h=>h.1))⟩
        | true=>
         rw[hst] at HK2;have hl4:=HL3.out.upd HN.out HU2.out HK2.out;rw[List.append_assoc, <-HNX.out] at hl4;have HL4:=Y1 hl4;have HST2:Hid ((callsA a b++callsBk a b (k+1)).all step=true):=Y1 (by rw[HNX.out, <-List.append_assoc,List.all_append,HST.out]; simp[hst]);clear hst HK2 HU2 HCUT hl4;go_wp2
         go_roundw
         case rel=>exact ⟨k+1,by omega,by go_num,HST2,HL4⟩
         case measure=>simp[intOf]; omega}
       {have hold:=Z7H (a:=a) hlt hk2 (by
         cases hg:get a (b.names[k]'hlt) with
         | none=>exact absurd (hmem.2 hg) hin
         | some _=>rfl)
        rw[if_neg hin,decide_eq_false hin] at hlook;obtain ⟨nm,hnm⟩: ∃nm,nm=b.names[k]'hlt:=⟨_,rfl⟩;rw[<-hnm] at hcA hlook;have HL3:Hid (L2 n0 w.heap.size a b ⟨Aa,ca,Pa,da⟩ ⟨some ⟨gA,oA,none⟩,cb,Pb,db⟩ g off w K a.names (callsA a b++callsBk a b (k+1)) wr):=Y1 (by rw[hold]; exact HL2.out);have HST2:Hid ((callsA a b++callsBk a b (k+1)).all step=true):=Y1 (by rw[hold]; exact HST.out);clear hold hsb hpb hM hS hmem hnm hgA HL2 hin hcut hfine;go_wp2
        go_roundw
        case rel=>exact ⟨k+1,by omega,by go_num,HST2,HL3⟩
        case measure=>simp[intOf]; omega}}
      {obtain rfl:k=b.names.length:=by omega
       have hi5: ¬(b.names.length:Int) < (b.names.length:Int):=by omega
       have hall: (calls a b).all step=true:=by
        have:=HST.out;rw[Z4o a b HBB.out] at this;exact this
       have hl:=HL2.out;rw[Z4o a b HBB.out] at hl;have HALL:=Y1 hall;have HL:=Y1 hl;clear hall hl HL2 HST;go_wp2;go_ret;rw[HALL.out];exact ⟨rfl,⟨_,HL.out.k,fun _=>rfl⟩,HL.out.up⟩}}}
end SubM
end Go.Proofs.YtlomianlcnmfgaaGreatDoor
namespace Go.Proofs.YtlomianlcnmfgaaGreatDoor
open Go.RowKit Shp Sub
namespace SubM
structure TakesP (n0 N:Nat) (a b:Sh) (fn:Nat) (cs:List Value) (step:Nat->Bool) (K:Bool->Nat->World->Prop):Prop where
 keep: ∀ok k W W',K ok k W->Upd (fun x=>N<=x/\x < N+2) W W'->K ok k W'
 call: ∀k (hk:k < a.parts.length) (hk2:k < b.parts.length) W (x y:Ptr),N+2<=W.heap.size->K true k W->ShAt W n0 x (a.parts[k]'hk)->ShAt W n0 y (b.parts[k]'hk2)->
  Calls Tryz.prog fn (sv (a.parts[k]'hk) x::sv (b.parts[k]'hk2) y:: .bool (decide (k+1=a.parts.length))::cs).toArray W fun e W'=>e= .returned (.bool (step k))/\K (step k) (k+1) W'/\Upd (fun x=>n0<=x/\ ¬(N<=x/\x < N+2)) W W'
structure P2 (n0 N:Nat) (a b:Sh) (pa pb:Ptr) (w:World) (K:Bool->Nat->World->Prop) (k:Nat) (W:World):Prop where
 ba:Box5 W N a pa
 bb:Box5 W (N+1) b pb
 up:Upd (fun x=>n0<=x) w W
 sz:N+2<=W.heap.size
 k:K true k W
section
variable {n0 : Nat} {a b : Sh} {pa pb : Ptr} {w : World} {K : Bool -> Nat -> World -> Prop} {k : Nat} {W W' : World} {fn : Nat} {cs : List Value} {step : Nat -> Bool}
theorem P2.upd (h:P2 n0 w.heap.size a b pa pb w K k W) (hn:n0<=w.heap.size) (hu:Upd (fun x=>n0<=x/\ ¬(w.heap.size<=x/\x < w.heap.size+2)) W W') {k':Nat} (hk:K true k' W'):P2 n0 w.heap.size a b pa pb w K k' W':=
 ⟨Z0e h.ba hu (by omega),Z0e h.bb hu (by omega),h.up.trans (hu.mono (fun x _ hx=>hx.1)),Nat.le_trans h.sz hu.size,hk⟩
theorem P2.new (h:P2 n0 w.heap.size a b pa pb w K k W) (hT:TakesP n0 w.heap.size a b fn cs step K) (hn:n0<=w.heap.size) (hb:Below W.heap.size W W'):P2 n0 w.heap.size a b pa pb w K k W':=
 h.upd hn (Upd.new hb) (hT.keep _ _ _ _ h.k (Upd.new hb))
end
def headEq (a b:Sh):Bool:=decide (a.of_=b.of_/\a.name=b.name/\a.parts.length=b.parts.length)
theorem Z27 (a b:Sh) (pa pb:Ptr) (n0:Nat) (w:World) (ha:ShAt w n0 pa a) (hb:ShAt w n0 pb b) (hn:n0<=w.heap.size) (la:a.parts.length<=1000)
 (fn:Nat) (hen: ∀args W,(callFunc fn args).run Tryz.prog W= .ok (.enter fn args) W) (cs:List Value) (step:Nat->Bool) (K:Bool->Nat->World->Prop)
 (hT:TakesP n0 w.heap.size a b fn cs step K) (h0:K true 0 w):
 Calls Tryz.prog 54 #[sv a pa,sv b pb,.func (.func fn) #[] cs.toArray] w fun e w'=>e= .returned (.bool (headEq a b&&(List.range a.parts.length).all step))/\
  (∃D,K (!headEq a b||(List.range a.parts.length).all step) D w'/\((headEq a b&&(List.range a.parts.length).all step)=true->D=a.parts.length))/\Upd (fun x=>n0<=x) w w':=by
 obtain ⟨Aa,ca,Pa,da⟩:=pa;obtain ⟨Ab,cb,Pb,db⟩:=pb;have hb1:=Z01 w (.cells #[.int .i64 a.kind,.string ⟨a.of_.toArray⟩,.string ⟨a.name.toArray⟩,.slice Aa a.names.length ca,.slice Pa a.parts.length da] 25);obtain ⟨w1,hw1⟩: ∃w1,w1=w.alloc (.cells #[.int .i64 a.kind,.string ⟨a.of_.toArray⟩,.string ⟨a.name.toArray⟩,.slice Aa a.names.length ca,.slice Pa a.parts.length da] 25):=⟨_,rfl⟩;have hb2:=Z01 w1 (.cells #[.int .i64 b.kind,.string ⟨b.of_.toArray⟩,.string ⟨b.name.toArray⟩,.slice Ab b.names.length cb,.slice Pb b.parts.length db] 25);obtain ⟨w2,hw2⟩: ∃w2,w2=w1.alloc (.cells #[.int .i64 b.kind,.string ⟨b.of_.toArray⟩,.string ⟨b.name.toArray⟩,.slice Ab b.names.length cb,.slice Pb b.parts.length db] 25):=⟨_,rfl⟩;have hs1:w1.heap.size=w.heap.size+1:=by rw[hw1]; simp
 have hs2:w2.heap.size=w.heap.size+2:=by rw[hw2]; simp[hs1]
 rw[<-hw1] at hb1;rw[<-hw2] at hb2;have hB1:Box5 w1 w.heap.size a ⟨Aa,ca,Pa,da⟩:=by rw[hw1]; exact Z05 w a ⟨Aa,ca,Pa,da⟩
 have hB2:Box5 w2 w1.heap.size b ⟨Ab,cb,Pb,db⟩:=by rw[hw2]; exact Z05 w1 b ⟨Ab,cb,Pb,db⟩
 have hBA:=hB1.next hb2;rw[hs1] at hB2;have hU:Upd (fun x=>w.heap.size<=x/\x < w.heap.size+2) w w2:=Upd.new (Z00 hb1 hb2);have hP2:P2 n0 w.heap.size a b ⟨Aa,ca,Pa,da⟩ ⟨Ab,cb,Pb,db⟩ w K 0 w2:=⟨hBA,hB2,hU.mono (fun x _ h=>by omega),by omega,hT.keep _ _ _ _ h0 hU⟩;have HP2:=Y1 hP2;have HSA:=Y1 ha;have HSB:=Y1 hb;have HN:=Y1 hn;have HLA:=Y1 la;have HT:=Y1 hT;have ns:=ha.small;have nt:=hb.small;have o1:=ns.o;have o2:=ns.n;have o3:=nt.o;have o4:=nt.n;obtain ⟨_,⟨a0,a1,a2,a3,a4⟩,_⟩:=hBA;obtain ⟨_,⟨b0,b1,b2,b3,b4⟩,_⟩:=hB2;simp only[Nat.zero_add] at a0 a1 a2 a3 a4 b0 b1 b2 b3 b4;have hw1':=hw1.symm;have hw2':=hw2.symm;clear hw1 hw2 hb1 hb2 hB1 hP2 hU ha hb hn la hT h0 ns nt;unfold sv
 try dsimp only
 cases hh:headEq a b with
 | false=>
  have HF:Hid ((∃D,K (!false||(List.range a.parts.length).all step) D w2/\((false&&(List.range a.parts.length).all step)=true->D=a.parts.length))/\Upd (fun x=>n0<=x) w w2):=Y1 ⟨⟨0,HP2.out.k,nofun⟩,HP2.out.up⟩;clear HP2 HSA HSB HN HLA HT;have hh': ¬(a.of_=b.of_/\a.name=b.name/\a.parts.length=b.parts.length):=of_decide_eq_false hh;clear hh;by_cases e1:a.of_=b.of_
  {by_cases e2:a.name=b.name
   {have e3:a.parts.length≠b.parts.length:=fun e=>hh' ⟨e1,e2,e⟩;have n1: (a.of_ !=b.of_)=false:=by rw[e1]; simp
    have m1: (a.of_==b.of_)=true:=by rw[e1]; simp
    have n2: (a.name !=b.name)=false:=by rw[e2]; simp
    have m2: (a.name==b.name)=true:=by rw[e2]; simp
    have n3: ((a.parts.length:Int) !=(b.parts.length:Int))=true:=by simp; omega
    have m3: ((a.parts.length:Int)==(b.parts.length:Int))=false:=by simp; omega
    clear e1 e2 e3 hh';go_enter Tryz.func54,Tryz.ntmps54;go_wp2;go_ret;exact ⟨rfl,HF.out⟩}
   {have n1: (a.of_ !=b.of_)=false:=by rw[e1]; simp
    have m1: (a.of_==b.of_)=true:=by rw[e1]; simp
    have n2: (a.name !=b.name)=true:=by simpa using e2
    have m2: (a.name==b.name)=false:=by simpa using e2
    clear e1 e2 hh';go_enter Tryz.func54,Tryz.ntmps54;go_wp2;go_ret;exact ⟨rfl,HF.out⟩}}
  {have n1: (a.of_ !=b.of_)=true:=by simpa using e1
   have m1: (a.of_==b.of_)=false:=by simpa using e1
   clear e1 hh';go_enter Tryz.func54,Tryz.ntmps54;go_wp2;go_ret;exact ⟨rfl,HF.out⟩}
 | true=>
  obtain ⟨e1,e2,e3⟩:a.of_=b.of_/\a.name=b.name/\a.parts.length=b.parts.length:=of_decide_eq_true hh;have HE3:=Y1 e3;have n1: (a.of_ !=b.of_)=false:=by rw[e1]; simp
  have m1: (a.of_==b.of_)=true:=by rw[e1]; simp
  have n2: (a.name !=b.name)=false:=by rw[e2]; simp
  have m2: (a.name==b.name)=true:=by rw[e2]; simp
  have n3: ((a.parts.length:Int) !=(b.parts.length:Int))=false:=by rw[e3]; simp
  have m3: ((a.parts.length:Int)==(b.parts.length:Int))=true:=by rw[e3]; simp
  simp only[Bool.true_and,Bool.not_true,Bool.false_or];clear e1 e2 e3 hh;obtain ⟨st,hst⟩: ∃st,st=(List.range a.parts.length).all step:=⟨_,rfl⟩;have HST:=Y1 hst;rw[<-hst];clear hst;go_enter Tryz.func54,Tryz.ntmps54
  go_wp2_with fail
  go_loopw [33] (fun ii wr=> ∃k:Nat,k<=a.parts.length/\ii= .int .i64 (k:Int)/\Hid ((List.range k).all step=true)/\Hid (P2 n0 w.heap.size a b ⟨Aa,ca,Pa,da⟩ ⟨Ab,cb,Pb,db⟩ w K k wr)) (fun i _=>a.parts.length - (intOf i).toNat)
  case atStart=>exact ⟨0,Nat.zero_le _,rfl,Y1 (by simp),HP2⟩
  case round=>
   obtain ⟨k,hk,rfl,HSS,HP⟩:=hrel;have hla:=HLA.out;clear a0 a1 a2 a3 a4 b0 b1 b2 b3 b4 n1 n2 n3 m1 m2 m3 o1 o2 o3 o4;by_cases hlt:k < a.parts.length
   {have hi1: (k:Int) < (a.parts.length:Int):=by omega
    have hk2:k < b.parts.length:=by rw[<-HE3.out]; exact hlt
    have hi2: (k:Int) < (b.parts.length:Int):=by omega
    have hn0:=HN.out;have hpa:=Z2K (Z0a HSA.out hn0 HP.out.up (fun x hx hs=>by omega));have hpb:=Z2K (Z0a HSB.out hn0 HP.out.up (fun x hx hs=>by omega));obtain ⟨ga,oa,ra,hpa⟩:=hpa;obtain ⟨gb,ob,rb,hpb⟩:=hpb;rcases hpa with h | ⟨rfl,hga,h5a⟩
    {omega}
    rcases hpb with h | ⟨rfl,hgb,h5b⟩
    {omega}
    obtain ⟨p,hp⟩: ∃p,p=a.parts[k]'hlt:=⟨_,rfl⟩;obtain ⟨q,hq⟩: ∃q,q=b.parts[k]'hk2:=⟨_,rfl⟩;obtain ⟨⟨x0,x1,x2,x3,x4⟩,hsx⟩:=h5a k hlt;obtain ⟨⟨y0,y1,y2,y3,y4⟩,hsy⟩:=h5b k hk2;have hwn:n0<=wr.heap.size:=by have:=HP.out.up.size; omega
    have hcall:=HT.out.call k hlt hk2;rw[<-hp] at x0 x1 x2 x3 x4 hsx hcall;rw[<-hq] at y0 y1 y2 y3 y4 hsy hcall;have HC:=Y1 hcall;have HWN:=Y1 hwn;have HSX:=Y1 hsx;have HSY:=Y1 hsy;have hbw:=Z01 wr (.cells (Y8 p (ra k)) 25);have HPN:=Y1 (HP.out.new HT.out hn0 hbw.drew);have HBW:=Y1 hbw;have HBX:=Y1 (Z05 wr p (ra k));obtain ⟨_,⟨a0,a1,a2,a3,a4⟩,_⟩:=HP.out.ba.next hbw;obtain ⟨_,⟨b0,b1,b2,b3,b4⟩,_⟩:=HP.out.bb.next hbw;obtain ⟨_,⟨c0,c1,c2,c3,c4⟩,_⟩:=HBX.out;have hgaW:ga < wr.heap.size:=by omega
    have hgbW:gb < wr.heap.size:=by omega
    have hwW:w.heap.size+1 < wr.heap.size:=by have:=HP.out.sz; omega
    simp only[Nat.zero_add] at a0 a1 a2 a3 a4 b0 b1 b2 b3 b4 c0 c1 c2 c3 c4;obtain ⟨y0,y1,y2,y3,y4⟩:=(show Sh5 wr gb (ob+k * 5) q (rb k) from ⟨y0,y1,y2,y3,y4⟩).keep hgbW hbw;obtain ⟨w3,hw3⟩: ∃w3,w3=wr.alloc (.cells (Y8 p (ra k)) 25):=⟨_,rfl⟩;rw[<-hw3] at hbw HPN HBW HBX a0 a1 a2 a3 a4 b0 b1 b2 b3 b4 c0 c1 c2 c3 c4 y0 y1 y2 y3 y4;have hw3':=hw3.symm;clear hw3 hcall hsx hsy hwn hp hq h5a h5b hbw
    go_wp2_with fail
    go_still_tail 13,(by kernel_rfl)
    change wpList _ _ _ _ _ w3.drew
    go_wp2_with fail
    rw[show ((k:Int)==(a.parts.length:Int) - 1)=decide (k+1=a.parts.length) from by rw[Bool.eq_iff_iff,beq_iff_eq,decide_eq_true_eq]; omega];have hu3:Upd (fun x=>n0<=x/\ ¬(w.heap.size<=x/\x < w.heap.size+2)) wr w3.drew:=Upd.new HBW.out.drew;refine (HC.out w3.drew (ra k) (rb k) HPN.out.sz HPN.out.k (Z0a HSX.out HWN.out hu3 (fun x h1 h2=>by omega)) (Z0a HSY.out HWN.out hu3 (fun x h1 h2=>by omega))).mono ?_;rintro e W2 ⟨rfl,hk2',hu2⟩;have HK2:=Y1 hk2';have HU2:=Y1 hu2;clear hk2' hu2 hu3 HC a0 a1 a2 a3 a4 b0 b1 b2 b3 b4 c0 c1 c2 c3 c4 y0 y1 y2 y3 y4 x0 x1 x2 x3 x4;cases hs:step k with
    | false=>
     have HALL:Hid (st=false):=Y1 (by
      rw[HST.out,Bool.eq_false_iff];intro h;have:=List.all_eq_true.1 h k (List.mem_range.2 hlt);rw[hs] at this; cases this)
     rw[hs] at HK2;clear hs;go_wp2;go_ret;rw[HALL.out];exact ⟨rfl,⟨_,HK2.out,nofun⟩,HPN.out.up.trans (HU2.out.mono (fun x _ h=>h.1))⟩
    | true=>
     rw[hs] at HK2;have HP4:=Y1 (HPN.out.upd HN.out HU2.out HK2.out);have HSS2:Hid ((List.range (k+1)).all step=true):=Y1 (by rw[List.range_succ,List.all_append,HSS.out]; simp[hs]);clear hs HK2 HU2;go_wp2
     go_roundw
     case rel=>exact ⟨k+1,by omega,by go_num,HSS2,HP4⟩
     case measure=>simp[intOf]; omega}
   {obtain rfl:k=a.parts.length:=by omega
    have hi1: ¬(a.parts.length:Int) < (a.parts.length:Int):=by omega
    have HALL:Hid (st=true):=Y1 (by rw[HST.out]; exact HSS.out);clear HSS;go_wp2;go_ret;rw[HALL.out];exact ⟨rfl,⟨_,HP.out.k,fun _=>rfl⟩,HP.out.up⟩}
end SubM
end Go.Proofs.YtlomianlcnmfgaaGreatDoor
namespace Go.Proofs.YtlomianlcnmfgaaGreatDoor
open Go.RowKit Shp Sub
namespace SubM
def placeStep (g:Sh->Sh->Bool) (a b:Sh) (k:Nat):Bool:=
 match a.parts[k]?,b.parts[k]? with
 | some p,some q=>if k+1=a.parts.length then g p q else g q p
 | some _,none=>true
 | none,_=>true
theorem Z3I (g:Sh->Sh->Bool) (a b:Sh): (headEq a b&&(List.range a.parts.length).all (placeStep g a b))=(decide (a.of_=b.of_/\a.name=b.name)&&placesAll g a.parts b.parts):=by
 rw[Bool.eq_iff_iff,Bool.and_eq_true,Bool.and_eq_true,Z2l,List.all_eq_true];unfold headEq;rw[decide_eq_true_eq,decide_eq_true_eq];constructor
 {rintro ⟨⟨h1,h2,h3⟩,h4⟩;refine ⟨⟨h1,h2⟩,h3,fun i p q hp hq=> ?_⟩;have:=h4 i (List.mem_range.2 (List.getElem?_eq_some_iff.1 hp).1);unfold placeStep at this;rw[hp,hq] at this;exact this}
 {rintro ⟨⟨h1,h2⟩,h3,h4⟩;refine ⟨⟨h1,h2,h3⟩,fun i hi=> ?_⟩;have hi:=List.mem_range.1 hi;unfold placeStep;rw[List.getElem?_eq_getElem hi,List.getElem?_eq_getElem (show i < b.parts.length by omega)];exact h4 i _ _ (List.getElem?_eq_getElem hi) (List.getElem?_eq_getElem (by omega))}
structure Two (f:Nat) (a b:Sh):Prop where
 ra:right a=true
 rb:right b=true
 da:deep a<=f
 db:deep b<=f
 sa:size a<=400
 sb:size b<=400
theorem Two.part {f:Nat} {a b p q:Sh} (h:Two (f+1) a b) (hp:p∈a.parts) (hq:q∈b.parts):Two f p q:=by
 obtain ⟨ra,rb,da,db,sa,sb⟩:=h;have h1:=Z0v hp;have h2:=Z0v hq;have h3:=Z1x hp;have h4:=Z1x hq;rw[Z0j] at da db;rw[size_eq] at sa sb;exact ⟨Z03 ra hp,Z03 rb hq,by omega,by omega,by omega,by omega⟩
theorem Two.swap {f:Nat} {a b:Sh} (h:Two f a b):Two f b a:=⟨h.rb,h.ra,h.db,h.da,h.sb,h.sa⟩
theorem Two.la {f:Nat} {a b:Sh} (h:Two f a b):a.parts.length<=1000:=by have:=h.sa; have:=Z0L a.parts; rw[size_eq] at *; omega
end SubM
end Go.Proofs.YtlomianlcnmfgaaGreatDoor
namespace Go.Proofs.YtlomianlcnmfgaaGreatDoor
open Go.RowKit Shp Sub
namespace SubM
abbrev fv (i0 i1:Nat):Value:= .func (.func 86) #[] #[.pointer (some ⟨i0,0,none⟩),.pointer (some ⟨i1,0,none⟩)]
abbrev rv (i0 i1:Nat):Value:= .agg #[fv i0 i1]
structure Rl (w:Bool) (W:World) (n0 i0 i1:Nat):Prop where
 l0:i0 < n0
 l1:i1 < n0
 c0:W.cell? ⟨i0,0,none⟩=some (.int .i64 (if w=true then 6 else 0))
 c1:W.cell? ⟨i1,0,none⟩=some (.int .i64 (if w=true then 7 else 0))
theorem Rl.upd {w:Bool} {S:Nat->Prop} {a b:World} {n0 i0 i1:Nat} (h:Rl w a n0 i0 i1) (hn:n0<=a.heap.size) (hu:Upd S a b) (hS: ∀x,x < n0-> ¬S x):Rl w b n0 i0 i1:=
 ⟨h.l0,h.l1,(hu.cell (by have:=h.l0; omega) (hS _ h.l0)).trans h.c0,(hu.cell (by have:=h.l1; omega) (hS _ h.l1)).trans h.c1⟩
theorem Rl.new {w:Bool} {a b:World} {n0 i0 i1:Nat} (h:Rl w a n0 i0 i1) (hn:n0<=a.heap.size) (hb:Below a.heap.size a b):Rl w b n0 i0 i1:=h.upd (S:=fun _=>False) hn (Upd.new hb) (fun _ _ h=>h)
theorem Zbd: ∀args W,(callFunc 86 args).run Tryz.prog W= .ok (.enter 86 args) W:=enters_of Tryz.func86 (by kernel_rfl) rfl
theorem Z53 (w:Bool) (k:Int) (f:Bool) (W:World) (n0 i0 i1:Nat) (h:Rl w W n0 i0 i1):
 Calls Tryz.prog 86 #[.int .i64 k,.bool f,.pointer (some ⟨i0,0,none⟩),.pointer (some ⟨i1,0,none⟩)] W fun e W'=>e= .returned (.bool (Grd.al w k f))/\Below W.heap.size W W':=by
 obtain ⟨h1,h2,c0,c1⟩:=h;have HB:=Y1 (Below.refl W.heap.size W);cases f with
 | true=>
  rw[show Grd.al w k true=(k==(if w=true then 6 else 0)) from rfl];generalize (if w=true then (6:Int) else 0)=F at c0;clear h1 h2 c1;go_enter Tryz.func86,Tryz.ntmps86;go_wp2;go_ret;exact ⟨rfl,HB.out⟩
 | false=>
  rw[show Grd.al w k false=(k==(if w=true then 7 else 0)) from rfl];generalize (if w=true then (7:Int) else 0)=F at c1;clear h1 h2 c0;go_enter Tryz.func86,Tryz.ntmps86;go_wp2;go_ret;exact ⟨rfl,HB.out⟩
def HoldOk (w:Bool) (f:Nat):Prop:=
 ∀(a b:Sh) (pa pb:Ptr) (n0 i0 i1:Nat) (W:World),Two f a b->ShAt W n0 pa a->ShAt W n0 pb b->n0<=W.heap.size->Rl w W n0 i0 i1->
  Calls Tryz.prog 74 #[rv i0 i1,sv a pa,sv b pb] W fun e W'=>e= .returned (.bool (Grd.hold w f a b))/\Below W.heap.size W W'
section
variable {w : Bool} {f : Nat}
theorem Z97 (hI:HoldOk w f) (k:Int) (n0 i0 i1 gr ga:Nat) (nm:List UInt8) (o1 o2:Option Sh) (x y:Value) (W:World) (h: ∀p q,o1=some p->o2=some q->Two f p q) (hn:n0<=W.heap.size) (hx:At W n0 o1 x) (hy:At W n0 o2 y) (hr:Rl w W n0 i0 i1)
 (cr:W.cell? ⟨gr,0,none⟩=some (fv i0 i1)) (ca:W.cell? ⟨ga,0,none⟩=some (.int .i64 k)):
 Calls Tryz.prog 87 (.string ⟨nm.toArray⟩::x::y:: .pointer (some ⟨gr,0,none⟩):: .pointer (some ⟨ga,0,none⟩):: []).toArray W fun e W'=>e= .returned (.bool (Grd.hstep (Grd.al w k) (Grd.hold w f) (nm,o1,o2)))/\Below W.heap.size W W':=by
 have hen:=Zbd;cases o1 with
 | none=>
  have hx':x= .pointer none:=hx;subst hx';have hy': ∃p,y= .pointer p:=by
   cases o2 with
   | none=>exact ⟨none,hy⟩
   | some _=>obtain ⟨g,o,q,h1,_⟩:=hy; exact ⟨_,h1⟩
  obtain ⟨p,rfl⟩:=hy';have hs:Grd.hstep (Grd.al w k) (Grd.hold w f) (nm,none,o2)=Grd.al w k false:=by cases o2 <;> rfl
  rw[hs];have HC:=Y1 (Z53 w k false W n0 i0 i1 hr);clear hy h hI hn hs hr hx;go_enter Tryz.func87,Tryz.ntmps87
  go_wp2_with fail
  refine HC.out.mono ?_;rintro e W2 ⟨rfl,hb2⟩;have HB2:=Y1 hb2;clear hb2 HC;go_wp2;go_ret;exact ⟨rfl,HB2.out⟩
 | some p=>
  obtain ⟨g,off,qx,rfl,hg,h5,hs⟩:=hx;cases o2 with
  | none=>
   have hy':y= .pointer none:=hy;subst hy';have hst:Grd.hstep (Grd.al w k) (Grd.hold w f) (nm,some p,none)=Grd.al w k true:=rfl;rw[hst];have HC:=Y1 (Z53 w k true W n0 i0 i1 hr);clear h hI hn hst hg h5 hs hr hy;go_enter Tryz.func87,Tryz.ntmps87
   go_wp2_with fail
   refine HC.out.mono ?_;rintro e W2 ⟨rfl,hb2⟩;have HB2:=Y1 hb2;clear hb2 HC;go_wp2;go_ret;exact ⟨rfl,HB2.out⟩
  | some q=>
   obtain ⟨g',off',qy,rfl,hg',h5',hs'⟩:=hy;have hst:Grd.hstep (Grd.al w k) (Grd.hold w f) (nm,some p,some q)=Grd.hold w f p q:=rfl;rw[hst];obtain ⟨x0,x1,x2,x3,x4⟩:=h5;obtain ⟨y0,y1,y2,y3,y4⟩:=h5';have hu:Upd (fun _=>False) W W.drew:=(Upd.refl _ W).drew;have HC:=Y1 (hI p q qx qy n0 i0 i1 W.drew (h p q rfl rfl) (Z0a hs hn hu (fun _ _ h=>h)) (Z0a hs' hn hu (fun _ _ h=>h)) hn (hr.upd hn hu (fun _ _ h=>h)));have HZ:Hid (Below W.heap.size W W.drew):=Y1 (Below.refl _ W).drew;unfold sv at HC;clear h hI hn hst hg hg' hs hs' hu hr ca;go_enter Tryz.func87,Tryz.ntmps87
   go_wp2_with fail
   go_still_tail 7,(by kernel_rfl)
   change wpList _ _ _ _ _ W.drew
   go_wp2_with fail
   refine HC.out.mono ?_;rintro e W2 ⟨rfl,hb2⟩;have HB2:=Y1 (Z00 HZ.out hb2);clear hb2 HC;go_wp2;go_ret;exact ⟨rfl,HB2.out⟩
theorem Z98 (hI:HoldOk w f) (n0 i0 i1 gr:Nat) (p q:Sh) (x y:Ptr) (l:Bool) (W:World) (h:Two f p q) (hn:n0<=W.heap.size) (hx:ShAt W n0 x p) (hy:ShAt W n0 y q) (hr:Rl w W n0 i0 i1)
 (cr:W.cell? ⟨gr,0,none⟩=some (fv i0 i1)) (gl:gr < W.heap.size):
 Calls Tryz.prog 88 (sv p x::sv q y:: .bool l:: .pointer (some ⟨gr,0,none⟩):: []).toArray W fun e W'=>e= .returned (.bool (if l=true then Grd.hold w f p q else Grd.hold w f q p))/\Below W.heap.size W W':=by
 have hb1:=Z01 W (.cells (Y8 p x) 25);obtain ⟨w1,hw1⟩: ∃w1,w1=W.alloc (.cells (Y8 p x) 25):=⟨_,rfl⟩;have hb2:=Z01 w1 (.cells (Y8 q y) 25);obtain ⟨w2,hw2⟩: ∃w2,w2=w1.alloc (.cells (Y8 q y) 25):=⟨_,rfl⟩;have hs1:w1.heap.size=W.heap.size+1:=by rw[hw1]; simp
 rw[<-hw1] at hb1;rw[<-hw2] at hb2;have hB1:Box5 w1 W.heap.size p x:=by rw[hw1]; exact Z05 W p x
 have hB2:Box5 w2 w1.heap.size q y:=by rw[hw2]; exact Z05 w1 q y
 have hBA:=hB1.next hb2;rw[hs1] at hB2;have hbw:=Z00 hb1 hb2;have hu:Upd (fun _=>False) W w2:=Upd.new hbw;have hx2:=Z0a hx hn hu (fun _ _ h=>h);have hy2:=Z0a hy hn hu (fun _ _ h=>h);have hn2:n0<=w2.heap.size:=by have:=hu.size; omega
 have hr2:=hr.upd hn hu (fun _ _ h=>h);have HA:=Y1 (hI p q x y n0 i0 i1 w2 h hx2 hy2 hn2 hr2);have HB:=Y1 (hI q p y x n0 i0 i1 w2 h.swap hy2 hx2 hn2 hr2);have cr2:w2.cell? ⟨gr,0,none⟩=some (fv i0 i1):=(hbw.cell (p:=⟨gr,0,none⟩) gl).trans cr;have HW:=Y1 hbw;obtain ⟨_,⟨a0,a1,a2,a3,a4⟩,_⟩:=hBA;obtain ⟨_,⟨b0,b1,b2,b3,b4⟩,_⟩:=hB2;simp only[Nat.zero_add] at a0 a1 a2 a3 a4 b0 b1 b2 b3 b4;have hw1':=hw1.symm;have hw2':=hw2.symm;clear hw1 hw2 hb1 hb2 hB1 hu hx2 hy2 hx hy hn h hI hr hr2 hbw cr;unfold sv at HA HB ⊢;cases l with
 | true=>
  go_enter Tryz.func88,Tryz.ntmps88
  go_wp2_with fail
  refine HA.out.mono ?_;rintro e W3 ⟨rfl,hb3⟩;have HB3:=Y1 (Z00 HW.out hb3);clear hb3 a0 a1 a2 a3 a4 b0 b1 b2 b3 b4 HA HB cr2;go_wp2;go_ret;exact ⟨rfl,HB3.out⟩
 | false=>
  go_enter Tryz.func88,Tryz.ntmps88
  go_wp2_with fail
  refine HB.out.mono ?_;rintro e W3 ⟨rfl,hb3⟩;have HB3:=Y1 (Z00 HW.out hb3);clear hb3 a0 a1 a2 a3 a4 b0 b1 b2 b3 b4 HA HB cr2;go_wp2;go_ret;exact ⟨rfl,HB3.out⟩
end
theorem Zaj (w:Bool) (f:Nat):HoldOk w f:=by
 induction f with
 | zero=>intro a b pa pb n0 i0 i1 W h; have:=h.da; rw[Z0j] at this; omega
 | succ f hI=>
  intro a b pa pb n0 i0 i1 W h ha hb hn hr;have hbr:=Z01 W (.cells #[fv i0 i1] 46);obtain ⟨w0,hw0⟩: ∃w0,w0=W.alloc (.cells #[fv i0 i1] 46):=⟨_,rfl⟩;have cr0:w0.cell? ⟨W.heap.size,0,none⟩=some (fv i0 i1):=by rw[hw0]; simp[go_sem]
  have hs0:w0.heap.size=W.heap.size+1:=by rw[hw0]; simp
  rw[<-hw0] at hbr;have hb1:=Z01 w0 (.cells (Y8 a pa) 25);obtain ⟨w1,hw1⟩: ∃w1,w1=w0.alloc (.cells (Y8 a pa) 25):=⟨_,rfl⟩;have hb2:=Z01 w1 (.cells (Y8 b pb) 25);obtain ⟨w2,hw2⟩: ∃w2,w2=w1.alloc (.cells (Y8 b pb) 25):=⟨_,rfl⟩;have hs1:w1.heap.size=W.heap.size+2:=by rw[hw1]; simp[hs0]
  rw[<-hw1] at hb1;rw[<-hw2] at hb2;have hB1:Box5 w1 w0.heap.size a pa:=by rw[hw1]; exact Z05 w0 a pa
  have hB2:Box5 w2 w1.heap.size b pb:=by rw[hw2]; exact Z05 w1 b pb
  have hBA:=hB1.next hb2;rw[hs0] at hBA;rw[hs1] at hB2;have hbw:=Z00 hbr (Z00 hb1 hb2);have cr2:w2.cell? ⟨W.heap.size,0,none⟩=some (fv i0 i1):=((Z00 hb1 hb2).cell (p:=⟨W.heap.size,0,none⟩) (by rw[hs0]; exact Nat.lt_succ_self _)).trans cr0;have hu:Upd (fun _=>False) W w2:=Upd.new hbw;have HA:=Y1 (Z0a ha hn hu (fun _ _ h=>h));have HB:=Y1 (Z0a hb hn hu (fun _ _ h=>h));have HN:Hid (n0<=w2.heap.size):=Y1 (by have:=hu.size; omega);have HRL:=Y1 (hr.upd hn hu (fun _ _ h=>h));have HW:=Y1 hbw;have H2:=Y1 h;have HI:=Y1 hI;have HCR:=Y1 cr2;have HBA:=Y1 hBA;have hz2:w2.heap.size=W.heap.size+3:=by rw[hw2]; simp[hs1]
  have HZ2:=Y1 hz2;obtain ⟨_,⟨a0,a1,a2,a3,a4⟩,_⟩:=hBA;obtain ⟨_,⟨b0,b1,b2,b3,b4⟩,_⟩:=hB2;simp only[Nat.zero_add] at a0 a1 a2 a3 a4 b0 b1 b2 b3 b4;have hw0':=hw0.symm;have hw1':=hw1.symm;have hw2':=hw2.symm;have hwz:W.heap.size<=w2.heap.size:=hbw.size
  -- what the closures keep: all that lay there ahead
  have keepN: ∀(ok:Bool) (done:List Cl) W1 W',Below w2.heap.size w2 W1->Upd (fun x=>w2.heap.size<=x/\x < w2.heap.size+3) W1 W'->Below w2.heap.size w2 W':=fun _ _ W1 W' h1 h2=>h1.trans (h2.below h1.size (fun x hx=>by omega));have keepP: ∀(ok:Bool) (k:Nat) W1 W',Below w2.heap.size w2 W1->Upd (fun x=>w2.heap.size<=x/\x < w2.heap.size+2) W1 W'->Below w2.heap.size w2 W':=fun _ _ W1 W' h1 h2=>h1.trans (h2.below h1.size (fun x hx=>by omega));have HKN:=Y1 keepN;have HKP:=Y1 keepP;clear hw0 hw1 hw2 hbr hb1 hb2 hB1 hu ha hb hn h hI hbw keepN keepP hr cr0 hz2;unfold sv;by_cases h4:a.kind=4
  {have HR:Hid (Grd.hold w (f+1) a b=true):=Y1 (by unfold Grd.hold; rw[if_pos (Or.inl h4)]);have m4:=Y4 4 h4 rfl;rw[HR.out];clear h4 cr2;go_enter Tryz.func74,Tryz.ntmps74;go_wp2;go_ret;exact ⟨rfl,HW.out⟩}
  have m4: (a.kind==4)=false:=by simpa using h4
  by_cases h4b:b.kind=4
  {have HR:Hid (Grd.hold w (f+1) a b=true):=Y1 (by unfold Grd.hold; rw[if_pos (Or.inr h4b)]);have m4b:=Y4 4 h4b rfl;rw[HR.out];clear h4 h4b cr2;go_enter Tryz.func74,Tryz.ntmps74;go_wp2;go_ret;exact ⟨rfl,HW.out⟩}
  have m4b: (b.kind==4)=false:=by simpa using h4b
  have hor: ¬(a.kind=4\/b.kind=4):=fun h=>h.elim h4 h4b;by_cases hk:a.kind=b.kind
  {have m0: (a.kind !=b.kind)=false:=by rw[hk]; simp
   by_cases h67:a.kind=6\/a.kind=7
   {have HR:Hid (Grd.hold w (f+1) a b=(calls a b).all (Grd.hstep (Grd.al w a.kind) (Grd.hold w f))):=Y1 (by conv=>lhs; unfold Grd.hold; rw[if_neg hor,if_neg (fun h=>h hk),if_pos h67]);have HRa:=Y1 (Z0p (Z0b H2.out.ra) h67);have HRb:=Y1 (Z0p (Z0b H2.out.rb) (hk▸h67));have hT:Takes n0 w2.heap.size a b 87 [.pointer (some ⟨W.heap.size,0,none⟩),.pointer (some ⟨W.heap.size+1,0,none⟩)] (Grd.hstep (Grd.al w a.kind) (Grd.hold w f)) (fun _ _ W1=>Below w2.heap.size w2 W1):=by
     refine ⟨HKN.out,fun done c rest W1 x y hcut hsz hK hx hy=> ?_⟩;obtain ⟨nm,o1,o2⟩:=c;have hm: (nm,o1,o2)∈calls a b:=by rw[hcut]; simp
     obtain ⟨e1,e2,_⟩:=(Z0l HRa.out HRb.out).1 hm;have hcr:W1.cell? ⟨W.heap.size,0,none⟩=some (fv i0 i1):=(hK.cell (p:=⟨W.heap.size,0,none⟩) (by show W.heap.size < w2.heap.size; rw[HZ2.out]; omega)).trans HCR.out;have hca:W1.cell? ⟨W.heap.size+1,0,none⟩=some (.int .i64 a.kind):=(hK.cell (p:=⟨W.heap.size+1,0,none⟩) (by show W.heap.size+1 < w2.heap.size; rw[HZ2.out]; omega)).trans (by
      obtain ⟨_,⟨a0,_⟩,_⟩:=HBA.out;simpa using a0)
     have hrl:Rl w W1 n0 i0 i1:=HRL.out.upd (S:=fun _=>False) HN.out (Upd.new hK) (fun _ _ h=>h);refine (Z97 HI.out a.kind n0 i0 i1 _ _ nm o1 o2 x y W1 (fun p q hp hq=> ?_) (by have:=HN.out; omega) hx hy hrl hcr hca).mono ?_
     {rw[e1] at hp; rw[e2] at hq;exact H2.out.part (Z06 hp) (Z06 hq)}
     {rintro e W' ⟨rfl,hb⟩;exact ⟨rfl,hK.trans (hb.mono hK.size),Upd.new hb⟩}
    have HE:=Y1 (Z1J a b pa pb n0 w2 HRa.out HRb.out HA.out HB.out HN.out (by have:=H2.out.la; rw[<-HRa.out.l] at this; exact this) (by have:=H2.out.swap.la; rw[<-HRb.out.l] at this; exact this) 87 (enters_of Tryz.func87 (by kernel_rfl) rfl) [.pointer (some ⟨W.heap.size,0,none⟩),.pointer (some ⟨W.heap.size+1,0,none⟩)] _ _ hT Y2);unfold sv at HE;rw[HR.out];clear hT hk hor h4 h4b;rcases h67 with h6 | h6
    {have m6: (a.kind==6)=true:=by rw[h6]; rfl
     clear h6;go_enter Tryz.func74,Tryz.ntmps74
     go_wp2_with fail
     refine HE.out.mono ?_;rintro e W3 ⟨rfl,⟨_,hK,_⟩,_⟩;have HK:=Y1 (HW.out.trans (hK.mono HW.out.size));clear hK HE a0 a1 a2 a3 a4 b0 b1 b2 b3 b4 cr2;go_wp2;go_ret;exact ⟨rfl,HK.out⟩}
    {have m6: (a.kind==6)=false:=by rw[h6]; rfl
     have m7:=Y4 7 h6 rfl;clear h6;go_enter Tryz.func74,Tryz.ntmps74
     go_wp2_with fail
     refine HE.out.mono ?_;rintro e W3 ⟨rfl,⟨_,hK,_⟩,_⟩;have HK:=Y1 (HW.out.trans (hK.mono HW.out.size));clear hK HE a0 a1 a2 a3 a4 b0 b1 b2 b3 b4 cr2;go_wp2;go_ret;exact ⟨rfl,HK.out⟩}}
   {have m6: (a.kind==6)=false:=by simpa using fun h=>h67 (Or.inl h)
    have m7: (a.kind==7)=false:=by simpa using fun h=>h67 (Or.inr h)
    have HR:Hid (Grd.hold w (f+1) a b=(headEq a b&&(List.range a.parts.length).all (placeStep (Grd.hold w f) a b))):=Y1 (by rw[Z3I]; conv=>lhs; unfold Grd.hold; rw[if_neg hor,if_neg (fun h=>h hk),if_neg h67]);have hT:TakesP n0 w2.heap.size a b 88 [.pointer (some ⟨W.heap.size,0,none⟩)] (placeStep (Grd.hold w f) a b) (fun _ _ W1=>Below w2.heap.size w2 W1):=by
     refine ⟨HKP.out,fun k hk hk2 W1 x y hsz hK hx hy=> ?_⟩;have hcr:W1.cell? ⟨W.heap.size,0,none⟩=some (fv i0 i1):=(hK.cell (p:=⟨W.heap.size,0,none⟩) (by show W.heap.size < w2.heap.size; rw[HZ2.out]; omega)).trans HCR.out;have hrl:Rl w W1 n0 i0 i1:=HRL.out.upd (S:=fun _=>False) HN.out (Upd.new hK) (fun _ _ h=>h);refine (Z98 HI.out n0 i0 i1 _ _ _ x y _ W1 (H2.out.part (List.getElem_mem _) (List.getElem_mem _)) (by have:=HN.out; omega) hx hy hrl hcr (by have:=HZ2.out; omega)).mono ?_;rintro e W' ⟨rfl,hb⟩;refine ⟨?_,hK.trans (hb.mono hK.size),Upd.new hb⟩;unfold placeStep;rw[List.getElem?_eq_getElem hk,List.getElem?_eq_getElem hk2];simp only[decide_eq_true_eq]
    have HE:=Y1 (Z27 a b pa pb n0 w2 HA.out HB.out HN.out H2.out.la 88 (enters_of Tryz.func88 (by kernel_rfl) rfl) [.pointer (some ⟨W.heap.size,0,none⟩)] _ _ hT Y2);unfold sv at HE;rw[HR.out];clear hT hk hor h4 h4b h67;go_enter Tryz.func74,Tryz.ntmps74
    go_wp2_with fail
    refine HE.out.mono ?_;rintro e W3 ⟨rfl,⟨_,hK,_⟩,_⟩;have HK:=Y1 (HW.out.trans (hK.mono HW.out.size));clear hK HE a0 a1 a2 a3 a4 b0 b1 b2 b3 b4 cr2;go_wp2;go_ret;exact ⟨rfl,HK.out⟩}}
  {have m0: (a.kind !=b.kind)=true:=by simpa using hk
   have HR:Hid (Grd.hold w (f+1) a b=false):=Y1 (by unfold Grd.hold; rw[if_neg hor,if_pos hk]);rw[HR.out];clear hk hor h4 h4b cr2;go_enter Tryz.func74,Tryz.ntmps74;go_wp2;go_ret;exact ⟨rfl,HW.out⟩}
end SubM
end Go.Proofs.YtlomianlcnmfgaaGreatDoor
