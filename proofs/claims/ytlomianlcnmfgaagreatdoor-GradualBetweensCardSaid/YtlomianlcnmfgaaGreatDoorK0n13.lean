/- What the proofs of GradualBetweens want, part 13. -/
import Derived.Test.YtlomianlcnmfgaaGreatDoorK0n12
set_option linter.unusedVariables false
set_option linter.unusedSimpArgs false
set_option linter.unusedSectionVars false
set_option maxRecDepth 100000
set_option maxHeartbeats 16000000
namespace Go.Proofs.YtlomianlcnmfgaaGreatDoor
open Go.RowKit Shp Sub
namespace SubM
def NEs (r:Sh) (n0:Nat) (w:World) (rc gm hi:Nat) (e:Ending) (W':World):Prop:=
 ∃b,e= .returned (.bool b)/\Rc rc W'/\Below w.heap.size w W'/\ ∃q,Sh5 W' gm 0 r q/\Kept (fun b=>b < n0\/hi<=b) W' (r,q)
theorem Z16 {r:Sh} {qr:Ptr} {n0:Nat} {w W':World} {rc hi:Nat} (hn:n0<=w.heap.size) (h1:w.heap.size<=rc) (h2:rc < hi) (hb:Below w.heap.size w W') (hk:Kept (fun b=>b < n0\/hi<=b) W' (r,qr)):
 NIs r n0 w (.returned (sv r qr)) (RX.lay W' rc r qr):=by
 have hu:=RX.lay_upd W' rc r qr;exact ⟨qr,rfl,hb.trans (hu.below hb.size (fun x hx=>by omega)),hk.move hu (fun b _ hf=>⟨fun e=>by have e:b=rc:=e; rcases hf with hf | hf <;> omega,by rcases hf with hf | hf <;> omega⟩)⟩
section
variable {f : Nat} {up : Bool} {a b : Sh} {pa pb : Ptr} {n0 : Nat} {w W5 : World} {rc gm pf : Nat} {fv : Value}
section
variable (hI : NamedOk f) (h2 : Two (f + 1) a b)
include hI h2
theorem Z80 (A:Rec a) (B:Rec b) (h4: ¬(a.kind=4\/b.kind=4)) (hr: ∀n p q,get a n=some p->get b n=some q->Grd.R true f up p q) (ha:ShAt W5 n0 pa a) (hb:ShAt W5 n0 pb b) (hn:n0<=w.heap.size)
 (hS:St0 w gm pf fv a.kind W5) (hR:Rc rc W5) (hpf:w.heap.size<=pf) (hpg:pf≠gm) (hrg:rc≠gm):
 Calls Tryz.prog 51 #[sv a pa,sv b pb,.func (.func 52) #[] [.pointer (some ⟨gm,0,none⟩)].toArray] W5 (NEs (Grd.named (f+1) a b) n0 w rc gm (W5.heap.size+3)):=by
 have hlo:=hS.lo;have hgw:=hS.gw;have hpw:=hS.pw;have hrw:=hR.lt;have hz:=hS.up.size;have hcl:=Zaz A B;have ln:=h2.ln A;have lm:=h2.swap.ln B;have hT:Takes n0 W5.heap.size a b 52 [.pointer (some ⟨gm,0,none⟩)] (fun _=>true)
  (fun _ done W=>Rc rc W/\(done= []/\St0 w gm pf fv a.kind W\/KN w n0 gm (W5.heap.size+3) pf fv a.kind true (done.filterMap (Grd.nstep (Grd.named f))) W)):=by
  refine ⟨fun _ done W W' hK hu=>⟨hK.1.upd hu (by omega), ?_⟩,fun done c rest W x y hcut hsz hK hx hy=> ?_⟩
  {rcases hK.2 with ⟨e,h⟩ | h
   {exact Or.inl ⟨e,h.mid hu (fun b hb=>by omega)⟩}
   {exact Or.inr (h.mid hu (fun b hb=>by omega) (by omega) (by omega))}}
  {obtain ⟨nm,o1,o2⟩:=c;have hm: (nm,o1,o2)∈calls a b:=by rw[hcut]; simp
   obtain ⟨e1,e2,_⟩:=(Z0l A B).1 hm;have hkn:KN w n0 gm (W5.heap.size+3) pf fv a.kind true (done.filterMap (Grd.nstep (Grd.named f))) W:=by
    rcases hK.2 with ⟨e,h⟩ | h
    {rw[e]; exact h.kn (by omega) hsz true}
    {exact h}
   have hlen: (done.filterMap (Grd.nstep (Grd.named f))).length<=900:=by
    have h1:=List.length_filterMap_le (Grd.nstep (Grd.named f)) done;have h2:=congrArg List.length hcut;rw[List.length_append] at h2;omega
   refine (Z7Y hI w n0 gm (W5.heap.size+3) pf fv a.kind _ nm o1 o2 x y W (fun p q hp hq=> ?_) (by omega) (by omega) hpg hlen hx hy hkn).mono ?_
   {rw[e1] at hp; rw[e2] at hq;exact ⟨h2.part (Z06 hp) (Z06 hq),up,hr nm p q hp hq⟩}
   {rintro e W' ⟨rfl,hk',hu⟩;refine ⟨rfl,⟨hK.1.upd hu (by omega),Or.inr ?_⟩,hu.mono (fun b _ hb=>by omega)⟩;rw[List.filterMap_append];cases h:Grd.nstep (Grd.named f) (nm,o1,o2) with
    | none=>rw[h] at hk'; simpa[h] using hk'
    | some z=>rw[h] at hk'; simpa[h] using hk'}}
 refine (Z1J a b pa pb n0 W5 A B ha hb (by omega) (by omega) (by omega) 52 (enters_of Tryz.func52 (by kernel_rfl) rfl) _ _ _ hT ⟨hR,Or.inl ⟨rfl,hS⟩⟩).mono ?_;rintro e W6 ⟨rfl,⟨D,hK,hD⟩,hU⟩;have hall: ((calls a b).all fun _=>true)=true:=by simp
 obtain rfl:=hD hall;have hof:a.of_= []/\a.name= []:=(Z0Q a).1 A.b;have hbd:Grd.named (f+1) a b=made a.kind ((calls a b).filterMap (Grd.nstep (Grd.named f))):=by
  conv=>lhs; unfold Grd.named; rw[if_neg h4,if_pos A.k,hof.1,hof.2]
  rfl
 refine ⟨_,rfl,hK.1, ?_, ?_⟩
 {rcases hK.2 with ⟨_,h⟩ | h
  {exact h.up}
  {exact h.below.1}}
 {rw[hbd];rcases hK.2 with ⟨e,h⟩ | h
  {have hf:=h.fin (fun b=>b < n0\/W5.heap.size+3<=b);rw[e];exact ⟨_,hf.1,hf.2⟩}
  {obtain ⟨q,h5,hkp⟩:=h.fin;refine ⟨q,h5,hkp rfl (fun x hx=> ?_) ?_⟩
   {exact Z6J (Z2n A B ((Z1o (fun c x h=>Grd.nstep_fst h) _).subset hx))}
   {have:=List.length_filterMap_le (Grd.nstep (Grd.named f)) (calls a b); omega}}}
theorem Z6M (h4: ¬(a.kind=4\/b.kind=4)) (hno: ¬(a.kind=6\/a.kind=7)) (hh:headEq a b=true) (hr: ∀(i:Nat) (p q:Sh),a.parts[i]? =some p->b.parts[i]? =some q-> ∃up,Grd.R true f up p q) (ha:ShAt W5 n0 pa a) (hb:ShAt W5 n0 pb b) (hn:n0<=w.heap.size)
 (hS:St0p w gm pf pf fv fv a.kind a.of_ a.name W5) (hR:Rc rc W5) (hpf:w.heap.size<=pf) (hpg:pf≠gm) (hrg:rc≠gm):
 Calls Tryz.prog 54 #[sv a pa,sv b pb,.func (.func 55) #[] [.pointer (some ⟨gm,0,none⟩)].toArray] W5 (NEs (Grd.named (f+1) a b) n0 w rc gm (W5.heap.size+2)):=by
 have hlo:=hS.lo;have hgw:=hS.gw;have hpw:=hS.pw;have hrw:=hR.lt;have hz:=hS.up.size;have hla:a.parts.length<=400:=by have:=h2.sa; have:=Z0L a.parts; rw[size_eq] at *; omega
 obtain ⟨_,_,hlen⟩:a.of_=b.of_/\a.name=b.name/\a.parts.length=b.parts.length:=of_decide_eq_true hh;obtain ⟨zs,hzs⟩: ∃zs,zs=List.zipWith (Grd.named f) a.parts b.parts:=⟨_,rfl⟩;have hzl:zs.length=a.parts.length:=by rw[hzs,List.length_zipWith, <-hlen,Nat.min_self]
 have hT:TakesP n0 W5.heap.size a b 55 [.pointer (some ⟨gm,0,none⟩)] (fun _=>true)
  (fun _ k W=>Rc rc W/\(k=0/\St0p w gm pf pf fv fv a.kind a.of_ a.name W\/KP w n0 gm (W5.heap.size+2) pf pf fv fv a.kind a.of_ a.name true (zs.take k) W)):=by
  have hmid: ∀ {ps W W'},KP w n0 gm (W5.heap.size+2) pf pf fv fv a.kind a.of_ a.name true ps W->Upd (fun x=>W5.heap.size<=x/\x < W5.heap.size+2) W W'->KP w n0 gm (W5.heap.size+2) pf pf fv fv a.kind a.of_ a.name true ps W':=fun h hu=>by
   obtain ⟨l,AP,cP,h⟩:=h;exact ⟨l,AP,cP,h.mid hu (fun b hb=>by omega) (by omega) (by omega) (by omega)⟩
  refine ⟨fun _ k W W' hK hu=>⟨hK.1.upd hu (by omega), ?_⟩,fun k hk hk2 W x y hsz hK hx hy=> ?_⟩
  {rcases hK.2 with ⟨e,h⟩ | h
   {exact Or.inl ⟨e,h.mid hu (fun b hb=>by omega)⟩}
   {exact Or.inr (hmid h hu)}}
  {have hkp:KP w n0 gm (W5.heap.size+2) pf pf fv fv a.kind a.of_ a.name true (zs.take k) W:=by
    rcases hK.2 with ⟨e,h⟩ | h
    {rw[e]; exact h.kp (by omega) hsz true}
    {exact h}
   obtain ⟨up,hrr⟩:=hr k _ _ (List.getElem?_eq_getElem hk) (List.getElem?_eq_getElem hk2);have hL: (zs.take k).length<=900:=by rw[List.length_take]; omega
   refine (Z7Z hI w n0 gm (W5.heap.size+2) pf pf fv fv a.kind a.of_ a.name (zs.take k) _ _ x y _ W (h2.part (List.getElem_mem hk) (List.getElem_mem hk2)) up hrr (by omega) (by omega) (by omega) hpg hpg hL hx hy hkp).mono ?_;rintro e W' ⟨rfl,hk',hu⟩;refine ⟨rfl,⟨hK.1.upd hu (by omega),Or.inr ?_⟩,hu.mono (fun b _ hb=>by omega)⟩;rw[List.take_succ_eq_append_getElem (by omega)];have hzk:zs[k]'(by omega)=Grd.named f (a.parts[k]'hk) (b.parts[k]'hk2):=by simp[hzs]
   rw[hzk];exact hk'}
 refine (Z27 a b pa pb n0 W5 ha hb (by omega) (by omega) 55 (enters_of Tryz.func55 (by kernel_rfl) rfl) _ _ _ hT ⟨hR,Or.inl ⟨rfl,hS⟩⟩).mono ?_;rintro e W6 ⟨rfl,⟨D,hK,hD⟩,hU⟩;have hDD:=hD (by rw[hh]; simp);subst hDD;have ho:=ha.small.o;have hnm:=ha.small.n;have hbd:Grd.named (f+1) a b=⟨a.kind,a.of_,a.name,[],zs⟩:=by conv=>lhs; unfold Grd.named; rw[if_neg h4,if_neg hno, <-hzs]
 refine ⟨_,rfl,hK.1, ?_, ?_⟩
 {rcases hK.2 with ⟨_,h⟩ | h
  {exact h.up}
  {exact h.below}}
 {rw[hbd];rcases hK.2 with ⟨e,h⟩ | h
  {have:zs= []:=List.eq_nil_of_length_eq_zero (by omega);rw[this];exact ⟨_,h.c5,fun W' _ _=> .mk _ _ 0 0 (fun _=>noneQ12) ⟨ho,hnm,by simp,by simp,by simp,by simp,by simp,fun _=>rfl,fun _=>rfl⟩ (Or.inl rfl) (Or.inl rfl) (fun i hi=>by simp at hi) (fun i hi=>by simp at hi)⟩}
  {rw[List.take_of_length_le (by omega)] at h;obtain ⟨q,h5,hkp⟩:=h.fin;exact ⟨q,h5,hkp rfl ho hnm (by omega)⟩}}
end
end
theorem Z57 (f:Nat):NamedOk f:=by
 induction f with
 | zero=>intro up s t ps pt n0 w h; have:=h.da; rw[Z0j] at this; omega
 | succ f hI=>
  intro up s t ps pt n0 w h2 hr ha hb hn;have hb1:=Z01 w (.cells (Y8 s ps) 25);obtain ⟨w1,hw1⟩: ∃w1,w1=w.alloc (.cells (Y8 s ps) 25):=⟨_,rfl⟩;have hs1:w1.heap.size=w.heap.size+1:=by rw[hw1]; simp
  have hb2:=Z01 w1 (.cells (Y8 t pt) 25);obtain ⟨w2,hw2⟩: ∃w2,w2=w1.alloc (.cells (Y8 t pt) 25):=⟨_,rfl⟩;have hs2:w2.heap.size=w.heap.size+2:=by rw[hw2]; simp[hs1]
  have hb3:=Z01 w2 (.cells Yb 25);obtain ⟨w3,hw3⟩: ∃w3,w3=w2.alloc (.cells Yb 25):=⟨_,rfl⟩;have hs3:w3.heap.size=w.heap.size+3:=by rw[hw3]; simp[hs2]
  have hb4:=Z01 w3 (.cells #[.int .i64 s.kind,.string ⟨s.of_.toArray⟩,.string ⟨s.name.toArray⟩,.slice none 0 0,.slice none 0 0] 25);obtain ⟨w4,hw4⟩: ∃w4,w4=w3.alloc (.cells #[.int .i64 s.kind,.string ⟨s.of_.toArray⟩,.string ⟨s.name.toArray⟩,.slice none 0 0,.slice none 0 0] 25):=⟨_,rfl⟩;have hs4:w4.heap.size=w.heap.size+4:=by rw[hw4]; simp[hs3]
  rw[<-hw1] at hb1;rw[<-hw2] at hb2;rw[<-hw3] at hb3;rw[<-hw4] at hb4;have hbw3:=Z00 hb1 (Z00 hb2 hb3);have hbw:=Z00 hbw3 hb4;have hB1:Box5 w1 w.heap.size s ps:=by rw[hw1]; exact Z05 w s ps
  have hB2:Box5 w2 w1.heap.size t pt:=by rw[hw2]; exact Z05 w1 t pt
  have hB13:=(hB1.next hb2).next hb3;have hB23:=hB2.next hb3;rw[hs1] at hB23;have hR3:Rc (w.heap.size+2) w3:=by have h:=Z0I hw3; rwa [hs2] at h
  have hR4:Rc (w.heap.size+2) w4:=hR3.upd (T:=fun _=>False) (Upd.new hb4) (fun h=>h);have hu3:Upd (fun _=>False) w w3:=Upd.new hbw3;have hu4:Upd (fun _=>False) w w4:=Upd.new hbw;have hc5:Sh5 w4 (w.heap.size+3) 0 ⟨s.kind,s.of_,s.name,[],[]⟩ noneQ12:=by
   rw[<-hs3,hw4]; refine ⟨?_, ?_, ?_, ?_, ?_⟩ <;> simp[go_sem]
  have hfz: ∀j,w4.frozen? ⟨w.heap.size+3,j,none⟩=false:=fun j=>by rw[<-hs3,hw4]; simp[go_sem]
  have hpf:w4.cell? ⟨w.heap.size,0,none⟩=some (.int .i64 s.kind):=by
   obtain ⟨_,⟨c,_⟩,_⟩:=hB13.next hb4;simpa using c
  have HN:=Y1 hn;have HW3:=Y1 hbw3;obtain ⟨_,⟨a0,a1,a2,a3,a4⟩,_⟩:=hB13;obtain ⟨_,⟨b0,b1,b2,b3,b4⟩,_⟩:=hB23;simp only[Nat.zero_add] at a0 a1 a2 a3 a4 b0 b1 b2 b3 b4;by_cases h4:s.kind=4\/t.kind=4
  {have hbd:Grd.named (f+1) s t=s:=by unfold Grd.named; rw[if_pos h4]
   have hfin:NIs s n0 w (.returned (sv s ps)) (RX.lay w3 (w.heap.size+2) s ps):=Z16 (hi:=w3.heap.size) hn (by omega) (by omega) hbw3 (Z6K (Z0a ha hn hu3 (fun _ _ h=>h)) (by omega) _);rw[hbd];have HF:=Y1 hfin;obtain ⟨v0,y0⟩:=hR3.ex 0 (by omega);obtain ⟨v1,y1⟩:=hR3.ex 1 (by omega);obtain ⟨v2,y2⟩:=hR3.ex 2 (by omega);obtain ⟨v3,y3⟩:=hR3.ex 3 (by omega);obtain ⟨v4,y4⟩:=hR3.ex 4 (by omega);have z0:=hR3.fz 0;have z1:=hR3.fz 1;have z2:=hR3.fz 2;have z3:=hR3.fz 3;have z4:=hR3.fz 4;obtain ⟨u0,u1,u2,u3,u4⟩:=RX.lay_at s ps (W:=w3) (g:=w.heap.size+2) hR3.ex;simp only[Nat.zero_add] at u0 u1 u2 u3 u4;have HU:=Y1 (And.intro u0 (And.intro u1 (And.intro u2 (And.intro u3 u4))));have HBD:=Y1 hbd;have hw1':=hw1.symm;have hw2':=hw2.symm;have hw3':=hw3.symm;have hm: (s.kind==4)=true\/(s.kind==4)=false/\(t.kind==4)=true:=by
    by_cases e:s.kind=4
    {exact Or.inl (by rw[e]; rfl)}
    {exact Or.inr ⟨by simpa using e,by rw[h4.resolve_left e]; rfl⟩}
   clear u0 u1 u2 u3 u4 hfin hR3 hR4 hbw hbw3 hu3 hu4 ha hb hn h2 hr hI hB1 hB2 hb1 hb2 hb3 hb4 hw1 hw2 hw3 hw4 hs4 hc5 hfz hpf h4 hbd;unfold sv at HF ⊢;rcases hm with m4 | ⟨m4,m4b⟩
   {go_enter Tryz.func28,Tryz.ntmps28;go_wp2;obtain ⟨u0,u1,u2,u3,u4⟩:=HU.out;unfold RX.lay at u0 u1 u2 u3 u4 HF;refine bodyPost_ret (v:= .agg (Y8 s ps)) (by simp[results,Tryz.results28,go_sem,u0,u1,u2,u3,u4]) rfl ?_;exact HF.out}
   {go_enter Tryz.func28,Tryz.ntmps28;go_wp2;obtain ⟨u0,u1,u2,u3,u4⟩:=HU.out;unfold RX.lay at u0 u1 u2 u3 u4 HF;refine bodyPost_ret (v:= .agg (Y8 s ps)) (by simp[results,Tryz.results28,go_sem,u0,u1,u2,u3,u4]) rfl ?_;exact HF.out}}
  {have m4: (s.kind==4)=false:=by simpa using fun h=>h4 (Or.inl h)
   have m4b: (t.kind==4)=false:=by simpa using fun h=>h4 (Or.inr h)
   obtain ⟨hk,g1,g2⟩:s.kind=t.kind/\_/\_:=by
    rcases hr with h | h | h
    {exact absurd (Or.inl h) h4}
    {exact absurd (Or.inr h) h4}
    {exact h}
   have ha4:=Z0a ha hn hu4 (fun _ _ h=>h);have hb4s:=Z0a hb hn hu4 (fun _ _ h=>h);have HW:Hid ((((w.alloc (.cells (Y8 s ps) 25)).alloc (.cells (Y8 t pt) 25)).alloc (.cells Yb 25)).alloc (.cells #[.int .i64 s.kind,.string ⟨s.of_.toArray⟩,.string ⟨s.name.toArray⟩,.slice none 0 0,.slice none 0 0] 25)=w4):=Y1 (by rw[hw4,hw3,hw2,hw1]);by_cases h67:s.kind=6\/s.kind=7
   {have A:=Z0p (Z0b h2.ra) h67;have B:=Z0p (Z0b h2.rb) (hk▸h67);have hof:s.of_= []/\s.name= []:=(Z0Q s).1 A.b;have hst:St0 w (w.heap.size+3) w.heap.size (.int .i64 s.kind) s.kind w4:=by
     refine ⟨hbw,by omega,by omega, ?_,hfz,by omega,hpf⟩;rw[hof.1,hof.2] at hc5; exact hc5
    have HE:=Y1 (Z80 hI h2 A B h4 (g1 h67).1 ha4 hb4s hn hst hR4 (Nat.le_refl _) (by omega) (by omega));have hm: (s.kind==6)=true\/(s.kind==6)=false/\(s.kind==7)=true:=by
     rcases h67 with e | e
     {exact Or.inl (by rw[e]; rfl)}
     {exact Or.inr ⟨by rw[e]; rfl,by rw[e]; rfl⟩}
    have HZ:Hid (w4.heap.size=w.heap.size+4):=Y1 hs4;clear hst ha hb hn h2 hr hI hbw hbw3 hu3 hu4 ha4 hb4s hR3 hR4 hc5 hfz hpf h4 hk g1 g2 h67 hb1 hb2 hb3 hb4 hs1 hs2 hs3 hs4 hB1 hB2 a0 a1 a2 a3 a4 b0 b1 b2 b3 b4 A B hof;clear hw4 hw3 hw2 hw1;unfold sv at HE ⊢;rcases hm with m6 | ⟨m6,m7⟩
    {go_enter Tryz.func28,Tryz.ntmps28
     go_wp2_with fail
     rw[HW.out];clear HW;refine HE.out.mono ?_;rintro e W6 ⟨bb,rfl,hR,hB,q,⟨x0,x1,x2,x3,x4⟩,hj⟩;obtain ⟨v0,y0⟩:=hR.ex 0 (by omega);obtain ⟨v1,y1⟩:=hR.ex 1 (by omega);obtain ⟨v2,y2⟩:=hR.ex 2 (by omega);obtain ⟨v3,y3⟩:=hR.ex 3 (by omega);obtain ⟨v4,y4⟩:=hR.ex 4 (by omega);have z0:=hR.fz 0;have z1:=hR.fz 1;have z2:=hR.fz 2;have z3:=hR.fz 3;have z4:=hR.fz 4;simp only[Nat.zero_add] at x0 x1 x2 x3 x4;have hfin:=Z16 (rc:=w.heap.size+2) (hi:=w4.heap.size+3) HN.out (by omega) (by have:=HZ.out; omega) hB hj;generalize Grd.named (f+1) s t=r at *;have HF:=Y1 hfin;obtain ⟨u0,u1,u2,u3,u4⟩:=RX.lay_at r q (W:=W6) (g:=w.heap.size+2) hR.ex;simp only[Nat.zero_add] at u0 u1 u2 u3 u4;have HU:=Y1 (And.intro u0 (And.intro u1 (And.intro u2 (And.intro u3 u4))));clear hfin hB hj HE hR u0 u1 u2 u3 u4;go_wp2;obtain ⟨u0,u1,u2,u3,u4⟩:=HU.out;unfold RX.lay at u0 u1 u2 u3 u4;refine bodyPost_ret (v:=sv r q) (by simp[results,Tryz.results28,go_sem,u0,u1,u2,u3,u4]) rfl ?_;exact HF.out}
    {go_enter Tryz.func28,Tryz.ntmps28
     go_wp2_with fail
     rw[HW.out];clear HW;refine HE.out.mono ?_;rintro e W6 ⟨bb,rfl,hR,hB,q,⟨x0,x1,x2,x3,x4⟩,hj⟩;obtain ⟨v0,y0⟩:=hR.ex 0 (by omega);obtain ⟨v1,y1⟩:=hR.ex 1 (by omega);obtain ⟨v2,y2⟩:=hR.ex 2 (by omega);obtain ⟨v3,y3⟩:=hR.ex 3 (by omega);obtain ⟨v4,y4⟩:=hR.ex 4 (by omega);have z0:=hR.fz 0;have z1:=hR.fz 1;have z2:=hR.fz 2;have z3:=hR.fz 3;have z4:=hR.fz 4;simp only[Nat.zero_add] at x0 x1 x2 x3 x4;have hfin:=Z16 (rc:=w.heap.size+2) (hi:=w4.heap.size+3) HN.out (by omega) (by have:=HZ.out; omega) hB hj;generalize Grd.named (f+1) s t=r at *;have HF:=Y1 hfin;obtain ⟨u0,u1,u2,u3,u4⟩:=RX.lay_at r q (W:=W6) (g:=w.heap.size+2) hR.ex;simp only[Nat.zero_add] at u0 u1 u2 u3 u4;have HU:=Y1 (And.intro u0 (And.intro u1 (And.intro u2 (And.intro u3 u4))));clear hfin hB hj HE hR u0 u1 u2 u3 u4;go_wp2;obtain ⟨u0,u1,u2,u3,u4⟩:=HU.out;unfold RX.lay at u0 u1 u2 u3 u4;refine bodyPost_ret (v:=sv r q) (by simp[results,Tryz.results28,go_sem,u0,u1,u2,u3,u4]) rfl ?_;exact HF.out}}
   {have m6: (s.kind==6)=false:=by simpa using fun h=>h67 (Or.inl h)
    have m7: (s.kind==7)=false:=by simpa using fun h=>h67 (Or.inr h)
    obtain ⟨e1,e2,e3,e4⟩:=g2 h67;have hst:St0p w (w.heap.size+3) w.heap.size w.heap.size (.int .i64 s.kind) (.int .i64 s.kind) s.kind s.of_ s.name w4:=⟨hbw,by omega,by omega,hc5,hfz,by omega,by omega,hpf,hpf⟩;have HE:=Y1 (Z6M hI h2 h4 h67 (decide_eq_true ⟨e1,e2,e3⟩) (fun i p q hp hq=>⟨_,e4 i p q hp hq⟩) ha4 hb4s hn hst hR4 (Nat.le_refl _) (by omega) (by omega));have HZ:Hid (w4.heap.size=w.heap.size+4):=Y1 hs4;clear e1 e2 e3 e4;clear hst ha hb hn h2 hr hI hbw hbw3 hu3 hu4 ha4 hb4s hR3 hR4 hc5 hfz hpf h4 hk g1 g2 h67 hb1 hb2 hb3 hb4 hs1 hs2 hs3 hs4 hB1 hB2 a0 a1 a2 a3 a4 b0 b1 b2 b3 b4;clear hw4 hw3 hw2 hw1;unfold sv at HE ⊢;go_enter Tryz.func28,Tryz.ntmps28
    go_wp2_with fail
    rw[HW.out];clear HW;refine HE.out.mono ?_;rintro e W6 ⟨bb,rfl,hR,hB,q,⟨x0,x1,x2,x3,x4⟩,hj⟩;obtain ⟨v0,y0⟩:=hR.ex 0 (by omega);obtain ⟨v1,y1⟩:=hR.ex 1 (by omega);obtain ⟨v2,y2⟩:=hR.ex 2 (by omega);obtain ⟨v3,y3⟩:=hR.ex 3 (by omega);obtain ⟨v4,y4⟩:=hR.ex 4 (by omega);have z0:=hR.fz 0;have z1:=hR.fz 1;have z2:=hR.fz 2;have z3:=hR.fz 3;have z4:=hR.fz 4;simp only[Nat.zero_add] at x0 x1 x2 x3 x4;have hfin:=Z16 (rc:=w.heap.size+2) (hi:=w4.heap.size+2) HN.out (by omega) (by have:=HZ.out; omega) hB hj;generalize Grd.named (f+1) s t=r at *;have HF:=Y1 hfin;obtain ⟨u0,u1,u2,u3,u4⟩:=RX.lay_at r q (W:=W6) (g:=w.heap.size+2) hR.ex;simp only[Nat.zero_add] at u0 u1 u2 u3 u4;have HU:=Y1 (And.intro u0 (And.intro u1 (And.intro u2 (And.intro u3 u4))));clear hfin hB hj HE hR u0 u1 u2 u3 u4;go_wp2;obtain ⟨u0,u1,u2,u3,u4⟩:=HU.out;unfold RX.lay at u0 u1 u2 u3 u4;refine bodyPost_ret (v:=sv r q) (by simp[results,Tryz.results28,go_sem,u0,u1,u2,u3,u4]) rfl ?_;exact HF.out}}
end SubM
end Go.Proofs.YtlomianlcnmfgaaGreatDoor
namespace Go.Proofs.YtlomianlcnmfgaaGreatDoor
open Go.RowKit Shp Sub
namespace SubM
def Z0c:Sh:=⟨0,[],[],[],[]⟩
theorem ZaA (S:Nat->Prop) (W:World):Kept S W (Z0c,noneQ12):=fun W' _ _=>
 .mk _ _ 0 0 (fun _=>noneQ12) ⟨by simp[Z0c],by simp[Z0c],by simp[Z0c],by simp[Z0c],by simp[Z0c],by simp[Z0c],by simp[Z0c],fun _=>rfl,fun _=>rfl⟩ (Or.inl rfl) (Or.inl rfl) (fun i hi=>by simp[Z0c] at hi) (fun i hi=>by simp[Z0c] at hi)
theorem Z6N {W:World} {q:Ptr} {t:Sh} {F:List Nat} {B:Nat} (h:Own W q t F) (hF: ∀b∈F,B<=b):Kept (fun b=>B<=b) W (t,q):=fun W' hz hs=>by
 have h2:Own W' q t F:=h.of (fun x hx=>⟨fun k=>World.cell?_of_block (w:=W) (hs x (h.lt x hx) (hF x hx)),fun k=>World.frozen?_of_block (w:=W) (hs x (h.lt x hx) (hF x hx))⟩) hz;exact h2.at_ (fun x hx=>Nat.lt_of_lt_of_le (h.lt x hx) hz)
end SubM
end Go.Proofs.YtlomianlcnmfgaaGreatDoor
namespace Go.Proofs.YtlomianlcnmfgaaGreatDoor
open Go.RowKit Shp Sub
namespace SubM
def WIs (o:Option Sh) (w:World) (e:Ending) (w':World):Prop:=
 ∃q,e= .returned (.tuple #[sv (o.getD Z0c) q,.bool o.isSome])/\Kept (fun b=>w.heap.size<=b) w' (o.getD Z0c,q)/\Below w.heap.size w w'
theorem Z29 {o:Option Sh} {w W:World} (hb:Below w.heap.size w W) (h:o=none):WIs o w (.returned (.tuple #[.agg #[.int .i64 0,.string ⟨#[]⟩,.string ⟨#[]⟩,.slice none 0 0,.slice none 0 0],.bool false])) W:=
 ⟨noneQ12,by rw[h]; rfl,by rw[h]; exact ZaA _ _,hb⟩
theorem Z4q (t:Sh) (q:Ptr) (w:World) (ht:ShAt w w.heap.size q t) (hg:WGlobs w):
 Calls Tryz.prog 27 #[sv t q] w (WIs (Sub.whole (some t)) w):=by
 have hb1:=Z01 w (.cells (Y8 t q) 25);obtain ⟨w1,hw1⟩: ∃w1,w1=w.alloc (.cells (Y8 t q) 25):=⟨_,rfl⟩;have hs1:w1.heap.size=w.heap.size+1:=by rw[hw1]; simp
 have hb2:=Z01 w1 (.cells Yb 25);obtain ⟨w2,hw2⟩: ∃w2,w2=w1.alloc (.cells Yb 25):=⟨_,rfl⟩;have hs2:w2.heap.size=w1.heap.size+1:=by rw[hw2]; simp
 rw[<-hw1] at hb1;rw[<-hw2] at hb2;have hbw:=Z00 hb1 hb2;have hrc:Rc (w.heap.size+1) w2:=by have h:=Z0I hw2; rwa [hs1] at h
 have hB1:Box5 w1 w.heap.size t q:=by rw[hw1]; exact Z05 w t q
 have hBX:=hB1.next hb2;have HBX:=Y1 hBX;have HAT:=Y1 (ht.next hbw);have HG:=Y1 (hg.next hbw);have HW:=Y1 hbw;have HR:=Y1 hrc;have hw1':=hw1.symm;have hw2':=hw2.symm;have lw:w.heap.size+1 < w2.heap.size:=by omega
 obtain ⟨_,⟨x0,x1,x2,x3,x4⟩,_⟩:=hBX;simp only[Nat.zero_add] at x0 x1 x2 x3 x4;clear hw1 hw2 hb1 hb2 hB1 hbw ht hg hrc;unfold sv;go_enter Tryz.func27,Tryz.ntmps27
 go_wp2_with fail
 refine (Z2e t q w2 HAT.out HG.out).mono ?_;rintro e w8 ⟨rfl,hb8⟩;have HB8:=Y1 hb8;have HA8:=Y1 (HAT.out.next hb8);have HBX8:=Y1 (HBX.out.next hb8);clear hb8 x0 x1 x2 x3 x4;by_cases ct:check t=0
 {have HCT:=Y1 ct;rw[decide_eq_true ct];clear ct;obtain ⟨_,⟨x0,x1,x2,x3,x4⟩,_⟩:=HBX8.out;simp only[Nat.zero_add] at x0 x1 x2 x3 x4
  go_wp2_with fail
  refine (Z5B t q w8 HA8.out (HG.out.next HB8.out) HCT.out).mono ?_;rintro e w9 ⟨q9,F,rfl,hown,hF,hb9⟩;have HJS:Hid (Sub.whole (some t)=some (sorted t)):=Y1 (by unfold Sub.whole; simp[HCT.out]);obtain ⟨z,hz⟩: ∃z,z=sorted t:=⟨_,rfl⟩;rw[<-hz] at hown HJS ⊢;have hb39:=Z00 HB8.out hb9;have hR:=HR.out.upd (T:=fun _=>False) (Upd.new hb39) (fun h=>h);have hK:Kept (fun b=>w2.heap.size<=b) w9 (z,q9):=Z6N hown (fun b hb=>by have h1:=hF b hb; have h2:=HB8.out.size; omega);have HK:=Y1 (hK.move (S':=fun b=>w.heap.size<=b) (RX.lay_upd w9 (w.heap.size+1) z q9) (fun b _ hf=>⟨fun e=>by have e:b=w.heap.size+1:=e; omega,by omega⟩));have HBF:=Y1 ((Z00 HW.out hb39).trans ((RX.lay_upd w9 (w.heap.size+1) z q9).below (by have h1:=HW.out.size; have h2:=hb39.size; omega) (fun x hx=>by omega)));have HLY:=Y1 (RX.lay_at z q9 (W:=w9) (g:=w.heap.size+1) hR.ex);obtain ⟨v0,y0⟩:=hR.ex 0 (by omega);obtain ⟨v1,y1⟩:=hR.ex 1 (by omega);obtain ⟨v2,y2⟩:=hR.ex 2 (by omega);obtain ⟨v3,y3⟩:=hR.ex 3 (by omega);obtain ⟨v4,y4⟩:=hR.ex 4 (by omega);have z0:=hR.fz 0;have z1:=hR.fz 1;have z2:=hR.fz 2;have z3:=hR.fz 3;have z4:=hR.fz 4;clear hR hK hown hF hb9 hb39 hz x0 x1 x2 x3 x4;go_wp2;obtain ⟨u0,u1,u2,u3,u4⟩:=HLY.out;unfold RX.lay at u0 u1 u2 u3 u4;simp only[Nat.zero_add] at u0 u1 u2 u3 u4;refine bodyPost_ret (v:= .tuple #[sv z q9,.bool true]) (by simp[results,Tryz.results27,go_sem,u0,u1,u2,u3,u4]) rfl ?_;refine ⟨q9, ?_, ?_,HBF.out⟩
  {rw[HJS.out]; rfl}
  {rw[HJS.out]; exact HK.out}}
 {have HN:Hid (Sub.whole (some t)=none):=Y1 (by unfold Sub.whole; simp[ct]);rw[decide_eq_false ct];clear ct;have hR:=HR.out.upd (T:=fun _=>False) (Upd.new (HB8.out)) (fun h=>h);have HLY:=Y1 (RX.lay_at Z0c noneQ12 (W:=w8) (g:=w.heap.size+1) hR.ex);have HUP:=Y1 (RX.lay_upd w8 (w.heap.size+1) Z0c noneQ12);obtain ⟨v0,y0⟩:=hR.ex 0 (by omega);obtain ⟨v1,y1⟩:=hR.ex 1 (by omega);obtain ⟨v2,y2⟩:=hR.ex 2 (by omega);obtain ⟨v3,y3⟩:=hR.ex 3 (by omega);obtain ⟨v4,y4⟩:=hR.ex 4 (by omega);have z0:=hR.fz 0;have z1:=hR.fz 1;have z2:=hR.fz 2;have z3:=hR.fz 3;have z4:=hR.fz 4;clear hR;go_wp2;obtain ⟨u0,u1,u2,u3,u4⟩:=HLY.out;unfold RX.lay Z0c at u0 u1 u2 u3 u4;simp only[Nat.zero_add,List.length_nil] at u0 u1 u2 u3 u4;refine bodyPost_ret (v:= .tuple #[.agg #[.int .i64 0,.string ⟨#[]⟩,.string ⟨#[]⟩,.slice none 0 0,.slice none 0 0],.bool false]) (by simp[results,Tryz.results27,go_sem,u0,u1,u2,u3,u4]) rfl ?_;exact Z29 ((Z00 HW.out (HB8.out)).trans (HUP.out.below (by have h1:=HW.out.size; have h2:=(HB8.out).size; omega) (fun x hx=>by omega))) (HN.out)}
section
variable (a b : Sh) (pa pb : Ptr) (w : World) (ha : ShAt w w.heap.size pa a) (hb : ShAt w w.heap.size pb b) (hg : WGlobs w)
include a b pa pb w ha hb hg
theorem Z3K:
 Calls Tryz.prog 12 #[sv a pa,sv b pb] w (WIs (Grd.between a b) w):=by
 have hb1:=Z01 w (.cells (Y8 a pa) 25);obtain ⟨w1,hw1⟩: ∃w1,w1=w.alloc (.cells (Y8 a pa) 25):=⟨_,rfl⟩;have hs1:w1.heap.size=w.heap.size+1:=by rw[hw1]; simp
 have hb2:=Z01 w1 (.cells (Y8 b pb) 25);obtain ⟨w2,hw2⟩: ∃w2,w2=w1.alloc (.cells (Y8 b pb) 25):=⟨_,rfl⟩;have hs2:w2.heap.size=w.heap.size+1+1:=by rw[hw2]; simp[hs1]
 have hb3:=Z01 w2 (.cells Yb 25);obtain ⟨w3,hw3⟩: ∃w3,w3=w2.alloc (.cells Yb 25):=⟨_,rfl⟩;have hs3:w3.heap.size=w.heap.size+1+1+1:=by rw[hw3]; simp[hs2]
 rw[<-hw1] at hb1;rw[<-hw2] at hb2;rw[<-hw3] at hb3;have hbw:=Z00 hb1 (Z00 hb2 hb3);have hrc:Rc (w.heap.size+1+1) w3:=by have h:=Z0I hw3; rwa [hs2] at h
 have hB1:Box5 w1 w.heap.size a pa:=by rw[hw1]; exact Z05 w a pa
 have hB2:Box5 w2 w1.heap.size b pb:=by rw[hw2]; exact Z05 w1 b pb
 have hBA:=(hB1.next hb2).next hb3;have hBB:=hB2.next hb3;rw[hs1] at hBB;have HBA:=Y1 hBA;have HBB:=Y1 hBB;have HA:=Y1 (ha.next hbw);have HB:=Y1 (hb.next hbw);have HG:=Y1 (hg.next hbw);have HW:=Y1 hbw;have HR:=Y1 hrc;obtain ⟨_,⟨a0,a1,a2,a3,a4⟩,_⟩:=hBA;obtain ⟨_,⟨b0,b1,b2,b3,b4⟩,_⟩:=hBB;simp only[Nat.zero_add] at a0 a1 a2 a3 a4 b0 b1 b2 b3 b4;have hw1':=hw1.symm;have hw2':=hw2.symm;have hw3':=hw3.symm;have lw:w.heap.size+1+1 < w3.heap.size:=by omega
 clear hw1 hw2 hw3 hb1 hb2 hb3 hB1 hB2 hbw ha hb hg hrc;have HU:=Y1 (Z20 a b pa pb w3 HA.out HB.out HG.out);unfold sv at HU ⊢;go_enter Tryz.func12,Tryz.ntmps12
 go_wp2_with fail
 refine HU.out.mono ?_;rintro e w4 ⟨rfl,hb4⟩;have HB4:=Y1 hb4;clear hb4 a0 a1 a2 a3 a4 b0 b1 b2 b3 b4 HU;cases hnr:Grd.near a b with
 | false=>
  have HN:Hid (Grd.between a b=none):=Y1 (by unfold Grd.between; rw[hnr]; rfl);clear hnr;have hR:=HR.out.upd (T:=fun _=>False) (Upd.new (HB4.out)) (fun h=>h);have HLY:=Y1 (RX.lay_at Z0c noneQ12 (W:=w4) (g:=w.heap.size+1+1) hR.ex);have HUP:=Y1 (RX.lay_upd w4 (w.heap.size+1+1) Z0c noneQ12);obtain ⟨v0,y0⟩:=hR.ex 0 (by omega);obtain ⟨v1,y1⟩:=hR.ex 1 (by omega);obtain ⟨v2,y2⟩:=hR.ex 2 (by omega);obtain ⟨v3,y3⟩:=hR.ex 3 (by omega);obtain ⟨v4,y4⟩:=hR.ex 4 (by omega);have z0:=hR.fz 0;have z1:=hR.fz 1;have z2:=hR.fz 2;have z3:=hR.fz 3;have z4:=hR.fz 4;clear hR;go_wp2;obtain ⟨u0,u1,u2,u3,u4⟩:=HLY.out;unfold RX.lay Z0c at u0 u1 u2 u3 u4;simp only[Nat.zero_add,List.length_nil] at u0 u1 u2 u3 u4;refine bodyPost_ret (v:= .tuple #[.agg #[.int .i64 0,.string ⟨#[]⟩,.string ⟨#[]⟩,.slice none 0 0,.slice none 0 0],.bool false]) (by simp[results,Tryz.results12,go_sem,u0,u1,u2,u3,u4]) rfl ?_;exact Z29 ((Z00 HW.out (HB4.out)).trans (HUP.out.below (by have h1:=HW.out.size; have h2:=(HB4.out).size; omega) (fun x hx=>by omega))) (HN.out)
 | true=>
  have HV:Hid (Grd.between a b=Sub.whole (some (Grd.named 40 a b))):=Y1 (by unfold Grd.between; rw[if_pos hnr]);obtain ⟨ca,cb,hrr⟩:=Grd.near_iff.1 hnr;have hta:Two 40 a b:=⟨(Z07 ca).2.2,(Z07 cb).2.2,(Z07 ca).2.1,(Z07 cb).2.1,(Z07 ca).1,(Z07 cb).1⟩;obtain ⟨_,⟨a0,a1,a2,a3,a4⟩,_⟩:=HBA.out.next HB4.out;obtain ⟨_,⟨b0,b1,b2,b3,b4⟩,_⟩:=HBB.out.next HB4.out;simp only[Nat.zero_add] at a0 a1 a2 a3 a4 b0 b1 b2 b3 b4;have HU:=Y1 (Z57 40 _ a b pa pb w4.heap.size w4 hta hrr (HA.out.next HB4.out) (HB.out.next HB4.out) (Nat.le_refl _));obtain ⟨t,ht⟩: ∃t,t=Grd.named 40 a b:=⟨_,rfl⟩;rw[<-ht] at HU HV;unfold sv at HU;clear hnr ca cb hrr hta ht
  go_wp2_with fail
  refine HU.out.mono ?_;rintro e w5 ⟨q,rfl,hb5,hk5⟩;have HB5:=Y1 (Z00 HB4.out hb5);have HU2:=Y1 (Z4q t q w5 hk5.here (HG.out.next HB5.out));unfold sv at HU2;clear hb5 hk5 HU a0 a1 a2 a3 a4 b0 b1 b2 b3 b4
  go_wp2_with fail
  refine HU2.out.mono ?_;rintro e w6 ⟨q9,rfl,hk,hb6⟩;rw[<-HV.out] at hk ⊢;obtain ⟨o,ho⟩: ∃o,o=Grd.between a b:=⟨_,rfl⟩;rw[<-ho] at hk ⊢;obtain ⟨z,hz⟩: ∃z,z=o.getD Z0c:=⟨_,rfl⟩;obtain ⟨ok,hok⟩: ∃ok,ok=o.isSome:=⟨_,rfl⟩;rw[<-hz] at hk;have hb36:=Z00 HB5.out hb6;have hR:=HR.out.upd (T:=fun _=>False) (Upd.new hb36) (fun h=>h);have HK:=Y1 (hk.move (S':=fun b=>w.heap.size<=b) (RX.lay_upd w6 (w.heap.size+1+1) z q9) (fun b _ hf=>⟨fun e=>by have e:b=w.heap.size+1+1:=e; have:=HB5.out.size; omega,by have:=HW.out.size; have:=HB5.out.size; omega⟩));have HBF:=Y1 ((Z00 HW.out hb36).trans ((RX.lay_upd w6 (w.heap.size+1+1) z q9).below (by have h1:=HW.out.size; have h2:=hb36.size; omega) (fun x hx=>by omega)));have HLY:=Y1 (RX.lay_at z q9 (W:=w6) (g:=w.heap.size+1+1) hR.ex);have HZ:=Y1 hz;have HOK:=Y1 hok;have HO:=Y1 ho;rw[<-hz, <-hok];obtain ⟨v0,y0⟩:=hR.ex 0 (by omega);obtain ⟨v1,y1⟩:=hR.ex 1 (by omega);obtain ⟨v2,y2⟩:=hR.ex 2 (by omega);obtain ⟨v3,y3⟩:=hR.ex 3 (by omega);obtain ⟨v4,y4⟩:=hR.ex 4 (by omega);have z0:=hR.fz 0;have z1:=hR.fz 1;have z2:=hR.fz 2;have z3:=hR.fz 3;have z4:=hR.fz 4;clear hR hk hb36 hb6 hz hok ho HU2;unfold sv;go_wp2;obtain ⟨u0,u1,u2,u3,u4⟩:=HLY.out;unfold RX.lay at u0 u1 u2 u3 u4;simp only[Nat.zero_add] at u0 u1 u2 u3 u4;refine bodyPost_ret (v:= .tuple #[sv z q9,.bool ok]) (by simp[results,Tryz.results12,go_sem,u0,u1,u2,u3,u4]) rfl ?_;refine ⟨q9, ?_, ?_,HBF.out⟩
  {rw[<-HO.out, <-HZ.out, <-HOK.out]}
  {rw[<-HO.out, <-HZ.out]; exact HK.out}
theorem Z6O:
 Calls Tryz.prog 14 #[sv a pa,sv b pb] w (WIs (Grd.beside a b) w):=by
 have hb1:=Z01 w (.cells (Y8 a pa) 25);obtain ⟨w1,hw1⟩: ∃w1,w1=w.alloc (.cells (Y8 a pa) 25):=⟨_,rfl⟩;have hs1:w1.heap.size=w.heap.size+1:=by rw[hw1]; simp
 have hb2:=Z01 w1 (.cells (Y8 b pb) 25);obtain ⟨w2,hw2⟩: ∃w2,w2=w1.alloc (.cells (Y8 b pb) 25):=⟨_,rfl⟩;have hs2:w2.heap.size=w.heap.size+1+1:=by rw[hw2]; simp[hs1]
 have hb3:=Z01 w2 (.cells Yb 25);obtain ⟨w3,hw3⟩: ∃w3,w3=w2.alloc (.cells Yb 25):=⟨_,rfl⟩;have hs3:w3.heap.size=w.heap.size+1+1+1:=by rw[hw3]; simp[hs2]
 rw[<-hw1] at hb1;rw[<-hw2] at hb2;rw[<-hw3] at hb3;have hbw:=Z00 hb1 (Z00 hb2 hb3);have hrc:Rc (w.heap.size+1+1) w3:=by have h:=Z0I hw3; rwa [hs2] at h
 have hB1:Box5 w1 w.heap.size a pa:=by rw[hw1]; exact Z05 w a pa
 have hB2:Box5 w2 w1.heap.size b pb:=by rw[hw2]; exact Z05 w1 b pb
 have hBA:=(hB1.next hb2).next hb3;have hBB:=hB2.next hb3;rw[hs1] at hBB;have HBA:=Y1 hBA;have HBB:=Y1 hBB;have HA:=Y1 (ha.next hbw);have HB:=Y1 (hb.next hbw);have HG:=Y1 (hg.next hbw);have HW:=Y1 hbw;have HR:=Y1 hrc;obtain ⟨_,⟨a0,a1,a2,a3,a4⟩,_⟩:=hBA;obtain ⟨_,⟨b0,b1,b2,b3,b4⟩,_⟩:=hBB;simp only[Nat.zero_add] at a0 a1 a2 a3 a4 b0 b1 b2 b3 b4;have hw1':=hw1.symm;have hw2':=hw2.symm;have hw3':=hw3.symm;have lw:w.heap.size+1+1 < w3.heap.size:=by omega
 clear hw1 hw2 hw3 hb1 hb2 hb3 hB1 hB2 hbw ha hb hg hrc;have HU:=Y1 (Z20 a b pa pb w3 HA.out HB.out HG.out);unfold sv at HU ⊢;go_enter Tryz.func14,Tryz.ntmps14
 go_wp2_with fail
 refine HU.out.mono ?_;rintro e w4 ⟨rfl,hb4⟩;have HB4:=Y1 hb4;clear hb4 a0 a1 a2 a3 a4 b0 b1 b2 b3 b4 HU;cases hnr:Grd.near a b with
 | false=>
  have HN:Hid (Grd.beside a b=none):=Y1 (by unfold Grd.beside; rw[hnr]; rfl);clear hnr;have hR:=HR.out.upd (T:=fun _=>False) (Upd.new (HB4.out)) (fun h=>h);have HLY:=Y1 (RX.lay_at Z0c noneQ12 (W:=w4) (g:=w.heap.size+1+1) hR.ex);have HUP:=Y1 (RX.lay_upd w4 (w.heap.size+1+1) Z0c noneQ12);obtain ⟨v0,y0⟩:=hR.ex 0 (by omega);obtain ⟨v1,y1⟩:=hR.ex 1 (by omega);obtain ⟨v2,y2⟩:=hR.ex 2 (by omega);obtain ⟨v3,y3⟩:=hR.ex 3 (by omega);obtain ⟨v4,y4⟩:=hR.ex 4 (by omega);have z0:=hR.fz 0;have z1:=hR.fz 1;have z2:=hR.fz 2;have z3:=hR.fz 3;have z4:=hR.fz 4;clear hR;go_wp2;obtain ⟨u0,u1,u2,u3,u4⟩:=HLY.out;unfold RX.lay Z0c at u0 u1 u2 u3 u4;simp only[Nat.zero_add,List.length_nil] at u0 u1 u2 u3 u4;refine bodyPost_ret (v:= .tuple #[.agg #[.int .i64 0,.string ⟨#[]⟩,.string ⟨#[]⟩,.slice none 0 0,.slice none 0 0],.bool false]) (by simp[results,Tryz.results14,go_sem,u0,u1,u2,u3,u4]) rfl ?_;exact Z29 ((Z00 HW.out (HB4.out)).trans (HUP.out.below (by have h1:=HW.out.size; have h2:=(HB4.out).size; omega) (fun x hx=>by omega))) (HN.out)
 | true=>
  have HV:Hid (Grd.beside a b=Sub.whole (some (Grd.named 40 b a))):=Y1 (by unfold Grd.beside; rw[if_pos hnr]);obtain ⟨ca,cb,hrr⟩:=Grd.near_iff.1 hnr;have hta:Two 40 a b:=⟨(Z07 ca).2.2,(Z07 cb).2.2,(Z07 ca).2.1,(Z07 cb).2.1,(Z07 ca).1,(Z07 cb).1⟩;obtain ⟨_,⟨a0,a1,a2,a3,a4⟩,_⟩:=HBA.out.next HB4.out;obtain ⟨_,⟨b0,b1,b2,b3,b4⟩,_⟩:=HBB.out.next HB4.out;simp only[Nat.zero_add] at a0 a1 a2 a3 a4 b0 b1 b2 b3 b4;have HU:=Y1 (Z57 40 _ b a pb pa w4.heap.size w4 hta.swap hrr.flip (HB.out.next HB4.out) (HA.out.next HB4.out) (Nat.le_refl _));obtain ⟨t,ht⟩: ∃t,t=Grd.named 40 b a:=⟨_,rfl⟩;rw[<-ht] at HU HV;unfold sv at HU;clear hnr ca cb hrr hta ht
  go_wp2_with fail
  refine HU.out.mono ?_;rintro e w5 ⟨q,rfl,hb5,hk5⟩;have HB5:=Y1 (Z00 HB4.out hb5);have HU2:=Y1 (Z4q t q w5 hk5.here (HG.out.next HB5.out));unfold sv at HU2;clear hb5 hk5 HU a0 a1 a2 a3 a4 b0 b1 b2 b3 b4
  go_wp2_with fail
  refine HU2.out.mono ?_;rintro e w6 ⟨q9,rfl,hk,hb6⟩;rw[<-HV.out] at hk ⊢;obtain ⟨o,ho⟩: ∃o,o=Grd.beside a b:=⟨_,rfl⟩;rw[<-ho] at hk ⊢;obtain ⟨z,hz⟩: ∃z,z=o.getD Z0c:=⟨_,rfl⟩;obtain ⟨ok,hok⟩: ∃ok,ok=o.isSome:=⟨_,rfl⟩;rw[<-hz] at hk;have hb36:=Z00 HB5.out hb6;have hR:=HR.out.upd (T:=fun _=>False) (Upd.new hb36) (fun h=>h);have HK:=Y1 (hk.move (S':=fun b=>w.heap.size<=b) (RX.lay_upd w6 (w.heap.size+1+1) z q9) (fun b _ hf=>⟨fun e=>by have e:b=w.heap.size+1+1:=e; have:=HB5.out.size; omega,by have:=HW.out.size; have:=HB5.out.size; omega⟩));have HBF:=Y1 ((Z00 HW.out hb36).trans ((RX.lay_upd w6 (w.heap.size+1+1) z q9).below (by have h1:=HW.out.size; have h2:=hb36.size; omega) (fun x hx=>by omega)));have HLY:=Y1 (RX.lay_at z q9 (W:=w6) (g:=w.heap.size+1+1) hR.ex);have HZ:=Y1 hz;have HOK:=Y1 hok;have HO:=Y1 ho;rw[<-hz, <-hok];obtain ⟨v0,y0⟩:=hR.ex 0 (by omega);obtain ⟨v1,y1⟩:=hR.ex 1 (by omega);obtain ⟨v2,y2⟩:=hR.ex 2 (by omega);obtain ⟨v3,y3⟩:=hR.ex 3 (by omega);obtain ⟨v4,y4⟩:=hR.ex 4 (by omega);have z0:=hR.fz 0;have z1:=hR.fz 1;have z2:=hR.fz 2;have z3:=hR.fz 3;have z4:=hR.fz 4;clear hR hk hb36 hb6 hz hok ho HU2;unfold sv;go_wp2;obtain ⟨u0,u1,u2,u3,u4⟩:=HLY.out;unfold RX.lay at u0 u1 u2 u3 u4;simp only[Nat.zero_add] at u0 u1 u2 u3 u4;refine bodyPost_ret (v:= .tuple #[sv z q9,.bool ok]) (by simp[results,Tryz.results14,go_sem,u0,u1,u2,u3,u4]) rfl ?_;refine ⟨q9, ?_, ?_,HBF.out⟩
  {rw[<-HO.out, <-HZ.out, <-HOK.out]}
  {rw[<-HO.out, <-HZ.out]; exact HK.out}
end
end SubM
end Go.Proofs.YtlomianlcnmfgaaGreatDoor
namespace Go.Proofs.YtlomianlcnmfgaaGreatDoor
open Go.RowKit Shp Sub
namespace SubM
def AnyOk (f:Nat):Prop:= ∀(s:Sh) (q:Ptr) (n0:Nat) (w:World),deep s<=f->size s<=400->ShAt w n0 q s->n0<=w.heap.size->
 Y9 59 #[sv s q] w (.bool (!Grd.known s))
theorem ZaB: ∀args W,(callFunc 59 args).run Tryz.prog W= .ok (.enter 59 args) W:=enters_of Tryz.func59 (by kernel_rfl) rfl
theorem Z81 {l:List Sh} {k:Nat} (h: ∀(i:Nat) (hi:i < l.length),i < k->Grd.known (l[i]'hi)=true) (hk:l.length<=k):Grd.knowns l=true:=by
 induction l generalizing k with
 | nil=>rfl
 | cons a l ih=>
  rw[Grd.knowns,Bool.and_eq_true];refine ⟨h 0 (by simp) (by simp at hk; omega),ih (k:=k - 1) (fun i hi hik=> ?_) (by simp at hk; omega)⟩;have:=h (i+1) (by simpa using hi) (by omega);simpa using this
theorem Z9o {l:List Sh} {i:Nat} (hi:i < l.length) (h:Grd.known (l[i]'hi)=false):Grd.knowns l=false:=by
 cases hk:Grd.knowns l with
 | false=>rfl
 | true=>rw[Grd.knowns_mem hk (List.getElem_mem hi)] at h; cases h
section
variable {f : Nat} (hI : AnyOk f) (t : Sh) (q : Ptr) (n0 : Nat) (w : World) (hd : deep t <= f + 1) (hz : size t <= 400) (ht : ShAt w n0 q t) (hn : n0 <= w.heap.size)
include f hI t q n0 w hd hz ht hn
theorem Z5O:
 Calls Tryz.prog 89 #[.slice q.P t.parts.length q.d,.func (.func 59) #[] #[]] w fun e w'=> ∃r:Int,e= .returned (.int .i64 r)/\(decide (0<=r))=(!Grd.knowns t.parts)/\Below w.heap.size w w':=by
 obtain ⟨A,cA,P,dP⟩:=q;have hen:=ZaB;have hl:t.parts.length<=400:=by have:=Z0L t.parts; rw[size_eq] at hz; omega
 have HI:=Y1 hI;have HD:=Y1 hd;have HZ:=Y1 hz;have HT:=Y1 ht;have HN:=Y1 hn;have HL:=Y1 hl;clear hI hd hz ht hn hl
 try dsimp only
 go_enter Tryz.func89,Tryz.ntmps89
 go_wp2_with fail
 go_loopw [8] (fun ii wr=> ∃k:Nat,k<=t.parts.length/\ii= .int .i64 (k:Int)/\Hid (∀(i:Nat) (hi:i < t.parts.length),i < k->Grd.known (t.parts[i]'hi)=true)/\Hid (Below w.heap.size w wr)) (fun i _=>t.parts.length - (intOf i).toNat)
 case atStart=>exact ⟨0,Nat.zero_le _,rfl,Y1 (fun i hi h=>absurd h (by omega)),Y1 Y2⟩
 case round=>
  obtain ⟨k,hk,rfl,HK,HB⟩:=hrel;have hl:=HL.out;by_cases hlt:k < t.parts.length
  {have hi1: (k:Int) < (t.parts.length:Int):=by omega
   have hn0:=HN.out;have ht2:=Z0a HT.out hn0 (Upd.new (S:=fun _=>False) HB.out) (fun _ _ h=>h);obtain ⟨g,off,rs,hp⟩:=Z2K ht2;rcases hp with h | ⟨rfl,hgP,h5⟩
   {omega}
   have hkp:=h5 k hlt;have hdp:deep (t.parts[k]'hlt)<=f:=by have h1:=Z0v (List.getElem_mem hlt); have h2:=HD.out; rw[Z0j] at h2; omega
   have hzp:size (t.parts[k]'hlt)<=400:=by have h1:=Z1x (List.getElem_mem hlt); have h2:=HZ.out; rw[size_eq] at h2; omega
   obtain ⟨p,hpp⟩: ∃p,p=t.parts[k]'hlt:=⟨_,rfl⟩;rw[<-hpp] at hkp hdp hzp;have HU:=Y1 (HI.out p (rs k) n0 wr hdp hzp hkp.2 (by have:=HB.out.size; omega));obtain ⟨⟨x0,x1,x2,x3,x4⟩,_⟩:=hkp;have HPP:=Y1 hpp;unfold sv at HU;clear hn0 ht2 h5 hgP hdp hzp hpp
   go_wp2_with fail
   refine HU.out.mono ?_;rintro e w2 ⟨rfl,hb2⟩;have HB2:=Y1 (Z00 HB.out hb2);clear hb2 HU x0 x1 x2 x3 x4;cases hkn:Grd.known p with
   | false=>
    have HF:Hid (Grd.knowns t.parts=false):=Y1 (Z9o hlt (by rw[<-HPP.out]; exact hkn));clear hkn;go_wp2;go_ret;refine ⟨_,rfl, ?_,HB2.out⟩;rw[HF.out];simp
   | true=>
    have HK2:Hid (∀(i:Nat) (hi:i < t.parts.length),i < k+1->Grd.known (t.parts[i]'hi)=true):=Y1 (fun i hi h=>by
     by_cases e:i=k
     {subst e; rw[<-HPP.out]; exact hkn}
     · exact HK.out i hi (by omega))
    clear hkn;go_wp2
    go_roundw
    case rel=>exact ⟨k+1,by omega,by go_num,HK2,HB2⟩
    case measure=>simp[intOf]; omega}
  {obtain rfl:k=t.parts.length:=by omega
   have hi1: ¬(t.parts.length:Int) < (t.parts.length:Int):=by omega
   have HF:Hid (Grd.knowns t.parts=true):=Y1 (Z81 HK.out (Nat.le_refl _));go_wp2;go_ret;refine ⟨_,rfl, ?_,HB.out⟩;rw[HF.out];decide}
theorem Z4E:
 Y9 75 #[.slice q.P t.parts.length q.d,.func (.func 59) #[] #[]] w (.bool (!Grd.knowns t.parts)):=by
 have HU:=Y1 (Z5O hI t q n0 w hd hz ht hn);clear hI hd hz ht hn;go_enter Tryz.func75,Tryz.ntmps75
 go_wp2_with fail
 refine HU.out.mono ?_;rintro e w2 ⟨r,rfl,hr,hb⟩;have HR:=Y1 hr;have HB:=Y1 hb;clear hr hb HU;go_wp2;go_ret;refine ⟨?_,HB.out⟩;rw[<-HR.out]; rfl
end
theorem Z82 (f:Nat):AnyOk f:=by
 induction f with
 | zero=>intro s q n0 w h; rw[Z0j] at h; omega
 | succ f hI=>
  intro s q n0 w hd hz hs hn;have hb1:=Z01 w (.cells (Y8 s q) 25);obtain ⟨w1,hw1⟩: ∃w1,w1=w.alloc (.cells (Y8 s q) 25):=⟨_,rfl⟩;rw[<-hw1] at hb1;have hB1:Box5 w1 w.heap.size s q:=by rw[hw1]; exact Z05 w s q
  have HW:=Y1 hb1;have HU:=Y1 (Z4E hI s q n0 w1 hd hz (Z0a hs hn (Upd.new (S:=fun _=>False) hb1) (fun _ _ h=>h)) (by have:=hb1.size; omega));obtain ⟨_,⟨a0,a1,a2,a3,a4⟩,_⟩:=hB1;simp only[Nat.zero_add] at a0 a1 a2 a3 a4;have hw1':=hw1.symm;have HE:Hid (Grd.known s=(decide (s.kind≠4)&&Grd.knowns s.parts)):=Y1 (Grd.known_eq s);clear hw1 hb1 hI hd hz hs hn;unfold sv;by_cases h4:s.kind=4
  {have m4: (s.kind==4)=true:=by rw[h4]; rfl
   have HR:Hid (Grd.known s=false):=Y1 (by rw[HE.out,h4]; rfl);rw[HR.out];clear h4;go_enter Tryz.func59,Tryz.ntmps59;go_wp2;go_ret;exact ⟨rfl,HW.out⟩}
  {have m4: (s.kind==4)=false:=by simpa using h4
   have HR:Hid (Grd.known s=Grd.knowns s.parts):=Y1 (by rw[HE.out,decide_eq_true h4,Bool.true_and]);rw[HR.out];clear h4;go_enter Tryz.func59,Tryz.ntmps59
   go_wp2_with fail
   refine HU.out.mono ?_;rintro e w2 ⟨rfl,hb⟩;have HB:=Y1 (Z00 HW.out hb);clear hb HU a0 a1 a2 a3 a4;go_wp2;go_ret;exact ⟨rfl,HB.out⟩}
theorem Z4r (s:Sh) (q:Ptr) (w:World) (hs:ShAt w w.heap.size q s) (hg:WGlobs w):
 Y9 34 #[sv s q] w (.bool (Grd.plain s)):=by
 have hb1:=Z01 w (.cells (Y8 s q) 25);obtain ⟨w1,hw1⟩: ∃w1,w1=w.alloc (.cells (Y8 s q) 25):=⟨_,rfl⟩;rw[<-hw1] at hb1;have hB1:Box5 w1 w.heap.size s q:=by rw[hw1]; exact Z05 w s q
 have HW:=Y1 hb1;have HA:=Y1 (hs.next hb1);have HG:=Y1 (hg.next hb1);have HBX:=Y1 hB1;obtain ⟨_,⟨a0,a1,a2,a3,a4⟩,_⟩:=hB1;simp only[Nat.zero_add] at a0 a1 a2 a3 a4;have hw1':=hw1.symm;clear hw1 hb1 hs hg;unfold sv;go_enter Tryz.func34,Tryz.ntmps34
 go_wp2_with fail
 refine (Z2e s q w1 HA.out HG.out).mono ?_;rintro e w2 ⟨rfl,hb2⟩;have HB2:=Y1 hb2;clear hb2 a0 a1 a2 a3 a4;by_cases ca:check s=0
 {have HCA:=Y1 ca;rw[decide_eq_true ca];clear ca;have HU:=Y1 (Z82 40 s q w2.heap.size w2 (Z07 HCA.out).2.1 (Z07 HCA.out).1 (HA.out.next HB2.out) (Nat.le_refl _));obtain ⟨_,⟨a0,a1,a2,a3,a4⟩,_⟩:=HBX.out.next HB2.out;simp only[Nat.zero_add] at a0 a1 a2 a3 a4;unfold sv at HU
  go_wp2_with fail
  refine HU.out.mono ?_;rintro e w3 ⟨rfl,hb3⟩;have HB3:=Y1 (Z00 HW.out (Z00 HB2.out hb3));clear hb3 HU a0 a1 a2 a3 a4;go_wp2;go_ret;exact ⟨by unfold Grd.plain; rw[decide_eq_true HCA.out,Bool.true_and]; simp,HB3.out⟩}
 {have HCA:=Y1 ca;rw[decide_eq_false ca];clear ca;go_wp2;go_ret;exact ⟨by unfold Grd.plain; rw[decide_eq_false HCA.out,Bool.false_and]; rfl,Z00 HW.out HB2.out⟩}
end SubM
end Go.Proofs.YtlomianlcnmfgaaGreatDoor
namespace Go.Proofs.YtlomianlcnmfgaaGreatDoor
section
open Go.RowKit Shp
theorem Z39 (t:Sh): ∀(u:Sh) (q r:Ptr) (w:World),ShAt w w.heap.size q t->ShAt w w.heap.size r u->
 Y9 8 #[.agg (Y8 t q),.agg (Y8 u r)] w (.bool (eqB t u)):=by
 induction t using Sh.ind with
 | h t ih=>
 intro u q r w hq hr;cases hh:headB t u with
 | false=>exact Z7W t u q r w hq hr hh
 | true=>
 have HH:=Y1 hh;have hs:=hh;simp only[headB,Bool.and_eq_true,beq_iff_eq,decide_eq_true_eq] at hs;obtain ⟨⟨⟨⟨g1,g2⟩,g3⟩,g4⟩,g5⟩:=hs;have HG4:=Y1 g4;have HG5:=Y1 g5;have HL:=Y1 hq.small.l;have HM:=Y1 hq.small.m;have HP:=Y1 hq.part;have HR:=Y1 hr.part;have HSN:=Y1 hq.strs;have HSM:=Y1 hr.strs;have hb0:=Z01 w (.cells (Y8 t q) 25);have hb1:=Z0x hb0 (.cells (Y8 u r) 25);have HB1:=Y1 hb1;have hB:=(Z05 w t q).next (Z01 _ (.cells (Y8 u r) 25));have hC:=Z05 (w.alloc (.cells (Y8 t q) 25)) u r;rw[World.size_alloc] at hC;have HB:=Y1 hB;have HC:=Y1 hC;obtain ⟨_,⟨c0,c1,c2,c3,c4⟩,_⟩:=hB;obtain ⟨_,⟨d0,d1,d2,d3,d4⟩,_⟩:=hC;have n1: (t.kind !=u.kind)=false:=by rw[g1]; simp
 have n2: (t.of_ !=u.of_)=false:=by rw[g2]; simp
 have n3: (t.name !=u.name)=false:=by rw[g3]; simp
 have n4: ((t.names.length:Int) !=(u.names.length:Int))=false:=by rw[g4]; simp
 have n5: ((t.parts.length:Int) !=(u.parts.length:Int))=false:=by rw[g5]; simp
 have e1: (t.kind==u.kind)=true:=by rw[g1]; simp
 have e2: (t.of_==u.of_)=true:=by rw[g2]; simp
 have e3: (t.name==u.name)=true:=by rw[g3]; simp
 have e4: ((t.names.length:Int)==(u.names.length:Int))=true:=by rw[g4]; simp
 have e5: ((t.parts.length:Int)==(u.parts.length:Int))=true:=by rw[g5]; simp
 clear hb0 hb1 hq hr hh g1 g2 g3 g4 g5;go_enter Tryz.func8,Tryz.ntmps8
 go_wp2_with fail
 generalize hW0: (w.alloc (.cells (Y8 t q) 25)).alloc (.cells (Y8 u r) 25)=W0 at HB HC HB1 ⊢;clear hW0 c0 c1 c2 c3 c4 d0 d1 d2 d3 d4 n1 n2 n3 n4 n5 e1 e2 e3 e4 e5
 go_loopw [5] (fun ii wr=> ∃i:Nat,ii= .int .i64 i/\i<=t.names.length/\Hid (∀j (h:j < t.names.length) (h':j < u.names.length),j < i->t.names[j]'h=u.names[j]'h')/\Below W0.heap.size W0 wr) (fun i _=>t.names.length - (intOf i).toNat)
 case atStart=>exact ⟨0,rfl,Nat.zero_le _,Y1 (fun j _ _ hj=>absurd hj (by omega)),Below.refl _ _⟩
 case round=>
  obtain ⟨i,rfl,hi,HN,hb⟩:=hrel;have hbw:Below w.heap.size w wr:=HB1.out.trans (hb.mono HB1.out.size);have hl:=HL.out;obtain ⟨_,⟨c0,_,_,c3,c4⟩,_⟩:=HB.out.next hb;obtain ⟨_,⟨d0,_,_,d3,d4⟩,_⟩:=HC.out.next hb;by_cases hlt:i < t.names.length
  {have hi1: (i:Int) < (t.names.length:Int):=by omega
   have hi2: (i:Int) < (u.names.length:Int):=by have:=HG4.out; omega
   have hi3:i < u.names.length:=by omega
   rcases (HSN.out.next hbw).cell7 with h0 | ⟨g,off,hqA,hg,hc⟩
   {omega}
   {rcases (HSM.out.next hbw).cell7 with h0 | ⟨g',off',hrA,hg',hc'⟩
    {omega}
    {have p:=hc i hlt;have p':=hc' i hi3;obtain ⟨x,hx⟩: ∃x,x=t.names[i]'hlt:=⟨_,rfl⟩;obtain ⟨y,hy⟩: ∃y,y=u.names[i]'hi3:=⟨_,rfl⟩;rw[<-hx] at p;rw[<-hy] at p';have HX:=Y1 hx;have HY:=Y1 hy;rw[hqA] at c3;rw[hrA] at d3;clear hx hy hc hc' hqA hrA;cases hxy: (x==y)
     {have HF:Hid (eqB t u=false):=Y1 (Zax hlt hi3 (by rw[<-HX.out, <-HY.out]; intro h; rw[h] at hxy; simp at hxy));have n1: (x !=y)=true:=by unfold bne; rw[hxy]; rfl
      go_wp2_with fail
      go_quiet (fail)
      go_wp2;go_ret;exact ⟨by rw[HF.out]; rfl,Z0r hbw _⟩}
     {have n1: (x !=y)=false:=by unfold bne; rw[hxy]; rfl
      have HE:Hid (t.names[i]'hlt=u.names[i]'hi3):=Y1 (by rw[<-HX.out, <-HY.out]; simpa using hxy)
      go_wp2_with fail
      go_quiet (fail)
      go_wp2
      go_roundw
      case rel=>exact ⟨i+1,by go_num,by omega,Y1 (fun j hj hj' hji=>by
       rcases Nat.lt_succ_iff_lt_or_eq.1 hji with h | rfl
       {exact HN.out j hj hj' h}
       · exact HE.out),Z0r hb _⟩
      case measure=>simp[intOf]; omega}}}}
  {have HNN:Hid (∀j (h:j < t.names.length) (h':j < u.names.length),t.names[j]'h=u.names[j]'h'):=Y1 (fun j h h'=>HN.out j h h' (by omega));have HBW:=Y1 hb;clear hbw hb HN
   go_wp2_with fail
   go_loopw [6] (fun ii wx=> ∃k:Nat,ii= .int .i64 k/\k<=t.parts.length/\Hid (∀j (h:j < t.parts.length) (h':j < u.parts.length),j < k->eqB (t.parts[j]'h) (u.parts[j]'h')=true)/\Hid (Below W0.heap.size W0 wx)) (fun i _=>t.parts.length - (intOf i).toNat)
   case atStart=>exact ⟨0,rfl,Nat.zero_le _,Y1 (fun j _ _ hj=>absurd hj (by omega)),HBW⟩
   case round=>
    obtain ⟨k,rfl,hk,HN,HBX⟩:=hrel;have hb:=HBX.out;have hbw:Below w.heap.size w wr:=HB1.out.trans (hb.mono HB1.out.size);have hm:=HM.out;clear c0 c3 c4 d0 d3 d4;obtain ⟨_,⟨c0,_,_,c3,c4⟩,_⟩:=HB.out.next hb;obtain ⟨_,⟨d0,_,_,d3,d4⟩,_⟩:=HC.out.next hb;by_cases hlt2:k < t.parts.length
    {have hi1: (k:Int) < (t.parts.length:Int):=by omega
     have hi2: (k:Int) < (u.parts.length:Int):=by have:=HG5.out; omega
     have hi3:k < u.parts.length:=by omega
     rcases HP.out with h0 | ⟨g,off,qs,hqP,hg,hc,hra⟩
     {omega}
     {rcases HR.out with h0 | ⟨g',off',qs',hrP,hg',hc',hra'⟩
      {omega}
      {obtain ⟨x,hx⟩: ∃x,x=t.parts[k]:=⟨_,rfl⟩;obtain ⟨y,hy⟩: ∃y,y=u.parts[k]:=⟨_,rfl⟩;obtain ⟨p0,p1,p2,p3,p4⟩:=(hc k hlt2).keep hg hbw;obtain ⟨s0,s1,s2,s3,s4⟩:=(hc' k hi3).keep hg' hbw;have hat:ShAt wr wr.heap.size (qs k) x:=by rw[hx]; exact (hra k hlt2).next hbw
       have hat':ShAt wr wr.heap.size (qs' k) y:=by rw[hy]; exact (hra' k hi3).next hbw
       have ihx:=ih t.parts[k] (List.getElem_mem _) y (qs k) (qs' k) wr.drew;rw[<-hx] at p0 p1 p2 p3 p4 ihx;rw[<-hy] at s0 s1 s2 s3 s4;have IH:=ihx (hat.next Y2.drew) (hat'.next Y2.drew);rw[hqP] at c4;rw[hrP] at d4;have HX:=Y1 hx;have HY:=Y1 hy;clear hx hy hc hc' hra hra' hat hat' ihx ih hqP hrP
       go_wp2_with fail
       cases hxy:eqB x y
       {have HF:Hid (eqB t u=false):=Y1 (Zay hlt2 hi3 (by rw[<-HX.out, <-HY.out]; exact hxy));rw[hxy] at IH;clear hxy
        go_still_tail 10,(by kernel_rfl)
        change wpList _ _ _ _ _ wr.drew
        go_wp2_with fail
        refine IH.mono ?_;rintro e w2 ⟨rfl,hb2⟩;go_wp2;go_ret;exact ⟨by rw[HF.out]; rfl,Z00 hbw.drew hb2⟩}
       {have HE:Hid (eqB (t.parts[k]'hlt2) (u.parts[k]'hi3)=true):=Y1 (by rw[<-HX.out, <-HY.out]; exact hxy);rw[hxy] at IH;clear hxy
        go_still_tail 10,(by kernel_rfl)
        change wpList _ _ _ _ _ wr.drew
        go_wp2_with fail
        refine IH.mono ?_;rintro e w2 ⟨rfl,hb2⟩;go_wp2
        go_roundw
        case rel=>exact ⟨k+1,by go_num,by omega,Y1 (fun j hj hj' hji=>by
         rcases Nat.lt_succ_iff_lt_or_eq.1 hji with h | rfl
         {exact HN.out j hj hj' h}
         · exact HE.out),Y1 (Z00 hb.drew hb2)⟩
        case measure=>simp[intOf]; omega}}}}
    {have HF:Hid (eqB t u=true):=Y1 (Zby HH.out HNN.out (fun j hj hj'=>HN.out j hj hj' (by omega)));go_wp2;go_ret;exact ⟨by rw[HF.out]; rfl,hbw⟩}}
end
end Go.Proofs.YtlomianlcnmfgaaGreatDoor
namespace Go.Proofs.YtlomianlcnmfgaaGreatDoor
open Go.RowKit Shp Sub
namespace SubM
def gkI:Sh:=⟨1,[],[],[],[]⟩
def gkT:Sh:=⟨3,[],[],[],[]⟩
def gkY:Sh:=⟨4,[],[],[],[]⟩
def gkA:Sh:=⟨6,[],[],[[97],[98]],[gkY,gkI]⟩
def gkB:Sh:=⟨6,[],[],[[97]],[gkT]⟩
def gkU:Sh:=⟨6,[],[],[[97]],[gkY]⟩
theorem gk1:Grd.near gkA gkB=true:=by kernel_rfl
theorem gk2:Grd.near gkB gkA=false:=by kernel_rfl
theorem gk3:Grd.near gkI gkY=true:=by kernel_rfl
theorem gk4:Grd.alike gkY gkT=true:=by kernel_rfl
theorem gk5:Grd.alike gkI gkT=false:=by kernel_rfl
theorem gk6:Grd.plain gkB=true:=by kernel_rfl
theorem gk7:Grd.plain gkA=false:=by kernel_rfl
theorem gk8:Grd.between gkA gkB=some gkU:=by kernel_rfl
def gW (w:World):World:=(((((((((w.alloc (.cells #[.int .i64 1,.string ⟨#[]⟩,.string ⟨#[]⟩,.slice none 0 0,.slice none 0 0] 25)).alloc (.cells #[.int .i64 3,.string ⟨#[]⟩,.string ⟨#[]⟩,.slice none 0 0,.slice none 0 0] 25)).alloc (.cells #[.int .i64 4,.string ⟨#[]⟩,.string ⟨#[]⟩,.slice none 0 0,.slice none 0 0] 25)).alloc (.cells #[.string ⟨#[97]⟩,.string ⟨#[98]⟩] 9)).alloc (.cells #[.int .i64 4,.string ⟨#[]⟩,.string ⟨#[]⟩,.slice none 0 0,.slice none 0 0,.int .i64 1,.string ⟨#[]⟩,.string ⟨#[]⟩,.slice none 0 0,.slice none 0 0] 25)).alloc (.cells #[.int .i64 6,.string ⟨#[]⟩,.string ⟨#[]⟩,.slice (some ⟨w.heap.size+1+1+1,0,none⟩) 2 2,.slice (some ⟨w.heap.size+1+1+1+1,0,none⟩) 2 2] 25)).alloc (.cells #[.string ⟨#[97]⟩] 9)).alloc (.cells #[.int .i64 3,.string ⟨#[]⟩,.string ⟨#[]⟩,.slice none 0 0,.slice none 0 0] 25)).alloc (.cells #[.int .i64 6,.string ⟨#[]⟩,.string ⟨#[]⟩,.slice (some ⟨w.heap.size+1+1+1+1+1+1,0,none⟩) 1 1,.slice (some ⟨w.heap.size+1+1+1+1+1+1+1,0,none⟩) 1 1] 25))
theorem Z1v (w:World): (gW w).heap.size=w.heap.size+9:=by simp[gW]
theorem Z4F (w:World):Below w.heap.size w (gW w):=Z0x (Z0x (Z0x (Z0x (Z0x (Z0x (Z0x (Z0x (Z01 _ _) _) _) _) _) _) _) _) _
def gqA (H:Nat):Ptr:=⟨some ⟨H+1+1+1,0,none⟩,2,some ⟨H+1+1+1+1,0,none⟩,2⟩
def gqB (H:Nat):Ptr:=⟨some ⟨H+1+1+1+1+1+1,0,none⟩,1,some ⟨H+1+1+1+1+1+1+1,0,none⟩,1⟩
theorem Z1S (W:World) (B:Nat) (t:Sh) (h1:t.names= []) (h2:t.parts= []) (h3:t.of_.length<=9223372036854775807) (h4:t.name.length<=9223372036854775807):ShAt W B noneQ12 t:=
 .mk _ _ 0 0 (fun _=>noneQ12) ⟨h3,h4,by rw[h1]; nofun,by rw[h1]; simp,by rw[h2]; simp,by rw[h1]; exact Nat.le_refl _,by rw[h2]; exact Nat.le_refl _,fun _=>rfl,fun _=>rfl⟩ (Or.inl (by rw[h1]; rfl)) (Or.inl (by rw[h2]; rfl)) (fun i h=>absurd h (by rw[h2]; simp)) (fun i h=>absurd h (by rw[h2]; simp))
section
variable (w : World)
include w
theorem gW_A:ShAt (gW w) (gW w).heap.size (gqA w.heap.size) gkA:=by
 refine .mk _ _ (w.heap.size+1+1+1+1) 0 (fun _=>noneQ12) ⟨by decide,by decide,by decide,by decide,by decide,Nat.le_refl _,Nat.le_refl _,nofun,nofun⟩ (Or.inr ⟨w.heap.size+1+1+1,0,rfl,by rw[Z1v]; omega,fun i hi=> ?_⟩) (Or.inr ⟨rfl,by rw[Z1v]; omega⟩) (fun i h=> ?_) (fun i h=> ?_)
 {have h2:i < 2:=hi
  match i,h2 with
  | 0,_=>simp[gW,go_sem,gkA,strs]
  | 1,_=>simp[gW,go_sem,gkA,strs]}
 {have h2:i < 2:=h
  match i,h2 with
  | 0,_=>refine ⟨?_, ?_, ?_, ?_, ?_⟩ <;> simp[gW,go_sem,gkA,gkY,noneQ12]
  | 1,_=>refine ⟨?_, ?_, ?_, ?_, ?_⟩ <;> simp[gW,go_sem,gkA,gkI,noneQ12]}
 {have h2:i < 2:=h
  match i,h2 with
  | 0,_=>exact Z1S _ _ gkY rfl rfl (by decide) (by decide)
  | 1,_=>exact Z1S _ _ gkI rfl rfl (by decide) (by decide)}
theorem gW_B:ShAt (gW w) (gW w).heap.size (gqB w.heap.size) gkB:=by
 refine .mk _ _ (w.heap.size+1+1+1+1+1+1+1) 0 (fun _=>noneQ12) ⟨by decide,by decide,by decide,by decide,by decide,Nat.le_refl _,Nat.le_refl _,nofun,nofun⟩ (Or.inr ⟨w.heap.size+1+1+1+1+1+1,0,rfl,by rw[Z1v]; omega,fun i hi=> ?_⟩) (Or.inr ⟨rfl,by rw[Z1v]; omega⟩) (fun i h=> ?_) (fun i h=> ?_)
 {have h2:i < 1:=hi
  match i,h2 with
  | 0,_=>simp[gW,go_sem,gkB,strs]}
 {have h2:i < 1:=h
  match i,h2 with
  | 0,_=>refine ⟨?_, ?_, ?_, ?_, ?_⟩ <;> simp[gW,go_sem,gkB,gkT,noneQ12]}
 {have h2:i < 1:=h
  match i,h2 with
  | 0,_=>exact Z1S _ _ gkT rfl rfl (by decide) (by decide)}
theorem gW_i:Box5 (gW w) w.heap.size gkI noneQ12:=by
 refine ⟨by rw[Z1v]; omega,⟨?_, ?_, ?_, ?_, ?_⟩, ?_, ?_, ?_, ?_, ?_⟩ <;> simp[gW,go_sem,gkI,noneQ12]
theorem gW_t:Box5 (gW w) (w.heap.size+1) gkT noneQ12:=by
 refine ⟨by rw[Z1v]; omega,⟨?_, ?_, ?_, ?_, ?_⟩, ?_, ?_, ?_, ?_, ?_⟩ <;> simp[gW,go_sem,gkT,noneQ12]
theorem gW_y:Box5 (gW w) (w.heap.size+1+1) gkY noneQ12:=by
 refine ⟨by rw[Z1v]; omega,⟨?_, ?_, ?_, ?_, ?_⟩, ?_, ?_, ?_, ?_, ?_⟩ <;> simp[gW,go_sem,gkY,noneQ12]
theorem gW_a:Box5 (gW w) (w.heap.size+1+1+1+1+1) gkA (gqA w.heap.size):=by
 refine ⟨by rw[Z1v]; omega,⟨?_, ?_, ?_, ?_, ?_⟩, ?_, ?_, ?_, ?_, ?_⟩ <;> simp[gW,go_sem,gkA,gqA]
theorem gW_b:Box5 (gW w) (w.heap.size+1+1+1+1+1+1+1+1) gkB (gqB w.heap.size):=by
 refine ⟨by rw[Z1v]; omega,⟨?_, ?_, ?_, ?_, ?_⟩, ?_, ?_, ?_, ?_, ?_⟩ <;> simp[gW,go_sem,gkB,gqB]
end
end SubM
end Go.Proofs.YtlomianlcnmfgaaGreatDoor
