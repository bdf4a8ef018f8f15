/- What the proofs of ExpandMore want, part 13. -/
import Derived.Test.YtchklpedlbkgaaaDoorK0n12
set_option linter.unusedVariables false
set_option linter.unusedSimpArgs false
set_option linter.unusedSectionVars false
set_option maxRecDepth 100000
set_option maxHeartbeats 16000000
namespace Go.Proofs.YtchklpedlbkgaaaDoor
open Go.RowKit Shp
open Expd (Bd It)
section
variable {H : Type} {enc : TypeId × Value -> H} {W : World} {base : Nat} {held : Bool}
theorem Z9l {fuel:Nat} {cs:List Value} {x:DataW H×List MemPlace} (h:DataW.trod enc Tryd.prog W base (fun _=>true) held fuel 26 cs=some x):
 ∃(A:Option Addr) (l:List Bd) (c:Nat),cs= [.slice A l.length c]/\BdsAt W W.heap.size A l/\l.length<=9223372036854775807/\l.length<=c/\(A=none->c=0):=by
 rcases Go.Deep.open_slice Tryd.underlying26 h with ⟨hcs,_⟩ | ⟨a,len,cap,m,n,D,Pl,hcs,hb,hl,hm,hmm,hx,hi⟩
 {exact ⟨none,[],0,hcs,Or.inl rfl,Nat.zero_le _,Nat.zero_le _,fun _=>rfl⟩}
 {have hC:Tryd.prog.cellsOf 54=7:=by kernel_rfl
  unfold maxLen at hm;have hmc:m=cap:=by simpa using hmm
  subst hmc;have hv: ∀i,∃u:Bd×Ptr,i < m->W.cell? (a.add (i * 7+0))=some (.string ⟨u.1.of_.toArray⟩)/\W.cell? (a.add (i * 7+1))=some (.string ⟨u.1.name.toArray⟩)/\W.cell? (a.add (i * 7+2))=some (.int .i64 u.1.sh.kind)/\W.cell? (a.add (i * 7+3))=some (.string ⟨u.1.sh.of_.toArray⟩)/\W.cell? (a.add (i * 7+4))=some (.string ⟨u.1.sh.name.toArray⟩)/\
   W.cell? (a.add (i * 7+5))=some (.slice u.2.A u.1.sh.names.length u.2.c)/\W.cell? (a.add (i * 7+6))=some (.slice u.2.P u.1.sh.parts.length u.2.d)/\ShAt W W.heap.size u.2 u.1.sh/\u.1.of_.length<=9223372036854775807/\u.1.name.length<=9223372036854775807:=by
   intro i;by_cases him:i < m
   {obtain ⟨cs',hc,ht⟩:=hi i him;rw[hC] at hc;obtain ⟨u,q,rfl,hat⟩:=Z3h ht;obtain ⟨_,hcl,hat'⟩:=World.cells?_some hc;refine ⟨(u,q),fun _=>⟨?_, ?_, ?_, ?_, ?_, ?_, ?_,hat⟩⟩
    {rw[<-Go.Deep.add_add]; exact hat' 0 (by omega)}
    {rw[<-Go.Deep.add_add]; exact hat' 1 (by omega)}
    {rw[<-Go.Deep.add_add]; exact hat' 2 (by omega)}
    {rw[<-Go.Deep.add_add]; exact hat' 3 (by omega)}
    {rw[<-Go.Deep.add_add]; exact hat' 4 (by omega)}
    {rw[<-Go.Deep.add_add]; exact hat' 5 (by omega)}
    {rw[<-Go.Deep.add_add]; exact hat' 6 (by omega)}}
   {exact ⟨(⟨[],[],⟨0,[],[],[],[]⟩⟩,⟨none,0,none,0⟩),fun h=>absurd h him⟩}
  let f:=fun i=>(hv i).choose
  have hf2: ∀i,i < m->W.cell? (a.add (i * 7+0))=some (.string ⟨(f i).1.of_.toArray⟩)/\W.cell? (a.add (i * 7+1))=some (.string ⟨(f i).1.name.toArray⟩)/\W.cell? (a.add (i * 7+2))=some (.int .i64 (f i).1.sh.kind)/\W.cell? (a.add (i * 7+3))=some (.string ⟨(f i).1.sh.of_.toArray⟩)/\W.cell? (a.add (i * 7+4))=some (.string ⟨(f i).1.sh.name.toArray⟩)/\
   W.cell? (a.add (i * 7+5))=some (.slice (f i).2.A (f i).1.sh.names.length (f i).2.c)/\W.cell? (a.add (i * 7+6))=some (.slice (f i).2.P (f i).1.sh.parts.length (f i).2.d)/\ShAt W W.heap.size (f i).2 (f i).1.sh/\(f i).1.of_.length<=9223372036854775807/\(f i).1.name.length<=9223372036854775807:=fun i=>(hv i).choose_spec
  have hln: ((List.range len).map fun i=>(f i).1).length=len:=by simp
  refine ⟨some a,(List.range len).map fun i=>(f i).1,m,by rw[hln]; exact hcs, ?_,by rw[hln]; omega,by rw[hln]; exact hl,nofun⟩;by_cases h0:len=0
  {exact Or.inl (by simp[h0])}
  {obtain ⟨b,off,spot⟩:=a;have h1:=(hf2 0 (by omega)).1;have hspot:spot=none:=by simpa[Addr.add] using World.cell?_spot h1
   subst hspot;have hplain: ∀k,(⟨b,off,none⟩:Addr).add k=⟨b,off+k,none⟩:=fun k=>Z0b b off k;refine Or.inr ⟨b,off,fun i=>(f i).2,rfl, ?_,fun i hi'=> ?_⟩
   {rw[hplain] at h1;rcases Nat.lt_or_ge b W.heap.size with h' | h'
    {exact h'}
    {simp[World.cell?,Array.getElem?_eq_none h'] at h1}}
   {have hin:i < len:=by simpa using hi'
    obtain ⟨g0,g1,g2,g3,g4,g5,g6,g7⟩:=hf2 i (by omega);rw[hplain] at g0 g1 g2 g3 g4 g5 g6;simp only[List.getElem_map,List.getElem_range];exact ⟨g0,by rw[<-g1]; congr 2,⟨by rw[<-g2]; congr 2,by rw[<-g3]; congr 2,by rw[<-g4]; congr 2,by rw[<-g5]; congr 2,by rw[<-g6]; congr 2⟩,g7⟩}}}
theorem Z9m {A:Option Addr} {n c:Nat} {d:DataW H} {p:List MemPlace} (h:DataW.Trod enc Tryd.prog W base (fun _=>true) held 26 (.slice A n c) d p):
 ∃l:List Bd,n=l.length/\BdsAt W W.heap.size A l/\l.length<=9223372036854775807/\l.length<=c/\(A=none->c=0):=by
 obtain ⟨fuel,hf⟩:=h;obtain ⟨A',l,c',hcs,h1,h2,h3,h4⟩:=Z9l hf;simp[Value.cells] at hcs;obtain ⟨rfl,rfl,rfl⟩:=hcs;exact ⟨l,rfl,h1,h2,h3,h4⟩
end
end Go.Proofs.YtchklpedlbkgaaaDoor
namespace Go.Proofs.YtchklpedlbkgaaaDoor
open Go.RowKit Shp Sub
open Expd (Bd)
namespace SubM
abbrev BE:=Bd×Ptr
def cells7 (x:BE):List Value:= [.string ⟨x.1.of_.toArray⟩,.string ⟨x.1.name.toArray⟩,.int .i64 x.1.sh.kind,.string ⟨x.1.sh.of_.toArray⟩,.string ⟨x.1.sh.name.toArray⟩,.slice x.2.A x.1.sh.names.length x.2.c,.slice x.2.P x.1.sh.parts.length x.2.d]
def cellsB (l:List BE):List Value:=l.flatMap cells7
theorem Z0j (l m:List BE):cellsB (l++m)=cellsB l++cellsB m:=by simp[cellsB]
theorem Z1u (x:BE):cellsB [x]=cells7 x:=by simp[cellsB]
theorem Z0h (l:List BE): (cellsB l).length=l.length * 7:=by
 induction l with
 | nil=>rfl
 | cons a l ih=>rw[show a::l= [a]++l from rfl,Z0j,List.length_append,ih,Z1u]; simp[cells7]; omega
theorem Z7V (x:BE): ∀u∈cells7 x,u.oneCell'=true:=by
 intro u hu;simp only[cells7,List.mem_cons,List.not_mem_nil,or_false] at hu;rcases hu with rfl | rfl | rfl | rfl | rfl | rfl | rfl <;> rfl
theorem Z0B (l:List BE): ∀u∈cellsB l,u.oneCell'=true:=by
 intro u hu;obtain ⟨x,_,h⟩:=List.mem_flatMap.1 hu;exact Z7V x u h
theorem Z5G {l:List BE} {i c:Nat} (hi:i < l.length) (hc:c < 7): (cellsB l)[i * 7+c]? =(cells7 (l[i]'hi))[c]? :=by
 have h1:l=l.take i++([l[i]'hi]++l.drop (i+1)):=by rw[List.singleton_append,List.getElem_cons_drop,List.take_append_drop]
 have h2: (cellsB (l.take i)).length=i * 7:=by rw[Z0h,List.length_take]; omega
 have h3: (cells7 (l[i]'hi)).length=7:=rfl
 conv=>lhs; rw[h1]
 rw[Z0j,Z0j,Z1u,List.getElem?_append_right (by omega),h2,Nat.add_sub_cancel_left,List.getElem?_append_left (by omega)]
theorem Z8b: (Tryd.prog.info? 54).map (fun i=>(i.zero,i.size,i.bytes))=some (some (.agg #[.string ByteArray.empty,.string ByteArray.empty,.int .i64 0,.string ByteArray.empty,.string ByteArray.empty,.slice none 0 0,.slice none 0 0]),7,120):=by kernel_rfl
def BOk (W:World) (B:Nat) (x:BE):Prop:=ShAt W B x.2 x.1.sh/\x.1.of_.length<=9223372036854775807/\x.1.name.length<=9223372036854775807
theorem Z4a {w:World} {B:Nat} {A:Option Addr} {l:List Bd} (h:BdsAt w B A l): ∃lE:List BE,lE.map Prod.fst=l/\(∀x∈lE,BOk w B x)/\(lE= []\/ ∃g off,A=some ⟨g,off,none⟩/\g < B/\ ∀j u,(cellsB lE)[j]? =some u->w.cell? ⟨g,off+j,none⟩=some u):=by
 rcases h with h | ⟨g,off,qs,hA,hg,hc⟩
 {exact ⟨[],by rw[List.eq_nil_of_length_eq_zero h]; rfl,fun x hx=>absurd hx (by simp),Or.inl rfl⟩}
 {have hn: (l.mapIdx (fun i b=>(b,qs i))).length=l.length:=List.length_mapIdx;have hat: ∀i (hi:i < (l.mapIdx (fun i b=>(b,qs i))).length),(l.mapIdx (fun i b=>(b,qs i)))[i]'hi=(l[i]'(by omega),qs i):=fun i hi=>by rw[List.getElem_mapIdx]
  refine ⟨l.mapIdx (fun i b=>(b,qs i)), ?_,fun x hx=> ?_,Or.inr ⟨g,off,hA,hg,fun j u hu=> ?_⟩⟩
  {refine List.ext_getElem (by rw[List.length_map,hn]) (fun i h1 h2=> ?_);rw[List.getElem_map,hat]}
  {obtain ⟨i,hi,rfl⟩:=List.getElem_of_mem hx;rw[hat];obtain ⟨_,_,_,h4,h5,h6⟩:=hc i (by omega);exact ⟨h4,h5,h6⟩}
  {have hj:j < l.length * 7:=by
    have:=(List.getElem?_eq_some_iff.1 hu).1;rw[Z0h,hn] at this; exact this
   have hi:j / 7 < l.length:=by omega
   have e:j=j / 7 * 7+j % 7:=by omega
   have hm:j % 7 < 7:=by omega
   rw[e,Z5G (by omega) hm,hat] at hu;obtain ⟨z0,z1,⟨z2,z3,z4,z5,z6⟩,_⟩:=hc (j / 7) hi;rw[e, <-Nat.add_assoc];generalize j % 7=c at hu hm;rcases c with _ | _ | _ | _ | _ | _ | _ | c
   {simp[cells7] at hu; subst hu; exact z0}
   {simp[cells7] at hu; subst hu; exact z1}
   {simp[cells7] at hu; subst hu; exact z2}
   {simp[cells7] at hu; subst hu; exact z3}
   {simp[cells7] at hu; subst hu; exact z4}
   {simp[cells7] at hu; subst hu; exact z5}
   {simp[cells7] at hu; subst hu; exact z6}
   {omega}}}
theorem Z4b {W:World} {base:Nat} {A:Option Addr} {n c:Nat} {lE:List BE} (r:W.ownsRow base 54 7 (.slice A n c) n (cellsB lE)) (hl:lE.length=n) (h: ∀x∈lE,BOk W W.heap.size x):BdsAt W W.heap.size A (lE.map Prod.fst):=by
 rcases slice_form r with ⟨_,h0,_⟩ | ⟨g,rfl,_⟩
 {exact Or.inl (by rw[List.length_map]; omega)}
 {have hg:=(Z0u r g rfl).2;refine Or.inr ⟨g,0,fun i=>(lE[i]?.map Prod.snd).getD ⟨none,0,none,0⟩,rfl,hg,fun i hi=> ?_⟩;have hi':i < lE.length:=by rw[List.length_map] at hi; exact hi
  have hc: ∀c v,c < 7->(cells7 (lE[i]'hi'))[c]? =some v->W.cell? ⟨g,0+i * 7+c,none⟩=some v:=fun c v hc hv=>by
   rw[Nat.zero_add];exact Z4C r (by rw[Z5G hi' hc]; exact hv)
  have hx:=h _ (List.getElem_mem hi');simp only[List.getElem_map];rw[List.getElem?_eq_getElem hi'];exact ⟨hc 0 _ (by omega) rfl,hc 1 _ (by omega) rfl,⟨hc 2 _ (by omega) rfl,hc 3 _ (by omega) rfl,hc 4 _ (by omega) rfl,hc 5 _ (by omega) rfl,hc 6 _ (by omega) rfl⟩,hx.1,hx.2.1,hx.2.2⟩}
def Dis (i0 i1 i2 i3 ib:Nat):Prop:=(i0≠i1/\i0≠i2/\i0≠i3/\i0≠ib)/\(i1≠i2/\i1≠i3/\i1≠ib)/\(i2≠i3/\i2≠ib)/\i3≠ib
instance (i0 i1 i2 i3 ib:Nat):Decidable (Dis i0 i1 i2 i3 ib):=by unfold Dis; infer_instance
structure CI (W0:World) (val:Nat->Option Value) (fin:Bool) (lA lB:List BE) (b:BE) (i0 i1 i2 i3 ib:Nat) (d:Nat->Bool) (u:Nat->Value) (W:World):Prop where
 up:Below W0.heap.size W0 W
 vals: ∀j,d j=true-> ∀v,val j=some v->u j=v
 r0:d i0=true->d i1=false->W.ownsRow W0.heap.size 54 7 (u i0) 0 []
 r1:d i1=true->d i2=false->W.ownsRow W0.heap.size 54 7 (u i1) lA.length (cellsB lA)
 rb:d ib=true->d i2=false-> ∃z,u ib= .slice (some ⟨z,0,none⟩) 1 1/\W0.heap.size<=z/\z < W.heap.size/\(d i0=true->d i1=false->(u i0).ownBlock≠some z)/\(d i1=true->(u i1).ownBlock≠some z)/\ ∀j v,(cells7 b)[j]? =some v->W.cell? ⟨z,j,none⟩=some v
 r2:d i2=true->d i3=false->W.ownsRow W0.heap.size 54 7 (u i2) (lA.length+1) (cellsB (lA++ [b]))
 r3:fin=true->d i3=true->W.ownsRow W0.heap.size 54 7 (u i3) (lA.length+1+lB.length) (cellsB (lA++ [b]++lB))
section
variable {W0 W W' : World} {val : Nat -> Option Value} {fin : Bool} {lA lB : List BE} {b : BE} {i0 i1 i2 i3 ib : Nat} {d : Nat -> Bool} {u : Nat -> Value}
theorem Z14 {B e s n:Nat} {v:Value} {xs:List Value} (h:W.ownsRow B e s v n xs) (hb:Below W.heap.size W W'):W'.ownsRow B e s v n xs:=by
 obtain ⟨h1,h2⟩:=h;refine ⟨h1, ?_⟩;rcases h2 with h2 | ⟨g,cap,cur,hv,hbb,hg,hc⟩
 {exact Or.inl h2}
 {refine Or.inr ⟨g,cap,cur,hv,hbb, ?_,hc⟩;rw[hb.block g (Array.getElem?_eq_some_iff.1 hg).1];exact hg}
theorem CI.start {u:Nat->Value}:CI W0 val fin lA lB b i0 i1 i2 i3 ib (fun _=>false) u W0.drew:=⟨Y2.drew,nofun,nofun,nofun,nofun,nofun,fun _=>nofun⟩
section
variable (h : CI W0 val fin lA lB b i0 i1 i2 i3 ib d u W)
include h
theorem CI.vals' {i:Nat} {v:Value} (hv: ∀v',val i=some v'->v=v'): ∀j,also d i j=true-> ∀v',val j=some v'->upd u i v j=v':=fun j hj v' hv'=>by
 by_cases hij:j=i
 {subst hij; rw[Z06]; exact hv v' hv'}
 {rw[Z08 d hij] at hj; rw[Z01 u v hij]; exact h.vals j hj v' hv'}
theorem CI.pure {i:Nat} (hi:i≠i0/\i≠i1/\i≠i2/\i≠i3/\i≠ib) {v:Value} (hv: ∀v',val i=some v'->v=v') (hb:Below W.heap.size W W'):CI W0 val fin lA lB b i0 i1 i2 i3 ib (also d i) (upd u i v) W':=by
 obtain ⟨n0,n1,n2,n3,nb⟩:=hi;have k: ∀j,j≠i->also d i j=d j/\upd u i v j=u j:=fun j hj=>⟨Z08 d hj,Z01 u v hj⟩;refine ⟨Z02 h.up hb,h.vals' hv, ?_, ?_, ?_, ?_, ?_⟩
 {rw[(k i0 (Ne.symm n0)).1,(k i0 (Ne.symm n0)).2,(k i1 (Ne.symm n1)).1]; exact fun h1 h2=>Z14 (h.r0 h1 h2) hb}
 {rw[(k i1 (Ne.symm n1)).1,(k i1 (Ne.symm n1)).2,(k i2 (Ne.symm n2)).1]; exact fun h1 h2=>Z14 (h.r1 h1 h2) hb}
 {rw[(k ib (Ne.symm nb)).1,(k ib (Ne.symm nb)).2,(k i2 (Ne.symm n2)).1,(k i0 (Ne.symm n0)).1,(k i0 (Ne.symm n0)).2,(k i1 (Ne.symm n1)).1,(k i1 (Ne.symm n1)).2];intro h1 h2;obtain ⟨z,e,z1,z2,z3,z4,z5⟩:=h.rb h1 h2;exact ⟨z,e,z1,Nat.lt_of_lt_of_le z2 hb.size,z3,z4,fun j v hv=>(hb.cell (p:=⟨z,j,none⟩) z2).trans (z5 j v hv)⟩}
 {rw[(k i2 (Ne.symm n2)).1,(k i2 (Ne.symm n2)).2,(k i3 (Ne.symm n3)).1]; exact fun h1 h2=>Z14 (h.r2 h1 h2) hb}
 {rw[(k i3 (Ne.symm n3)).1,(k i3 (Ne.symm n3)).2]; exact fun h0 h1=>Z14 (h.r3 h0 h1) hb}
theorem CI.late {i:Nat} (hi:i≠i1/\i≠i2) (h1:d i1=true) (h2:d i2=true) (h3:also d i i3=true) (hf:fin=false) {v:Value} (hv: ∀v',val i=some v'->v=v') (hup:Below W0.heap.size W0 W'):CI W0 val fin lA lB b i0 i1 i2 i3 ib (also d i) (upd u i v) W':=by
 refine ⟨hup,h.vals' hv,fun _ h=> ?_,fun _ h=> ?_,fun _ h=> ?_,fun _ h=> ?_,fun h=> ?_⟩
 {rw[Z08 d (Ne.symm hi.1),h1] at h; cases h}
 {rw[Z08 d (Ne.symm hi.2),h2] at h; cases h}
 {rw[Z08 d (Ne.symm hi.2),h2] at h; cases h}
 {rw[h3] at h; cases h}
 {rw[hf] at h; cases h}
theorem CI.mk0 (hD:Dis i0 i1 i2 i3 ib) (hval:val i0=none):CI W0 val fin lA lB b i0 i1 i2 i3 ib (also d i0) (upd u i0 (.slice (some ⟨W.heap.size,0,none⟩) 0 0)) (W.alloc (.cells #[] 54)):=by
 obtain ⟨⟨d1,d2,d3,d4⟩,_,_,_⟩:=hD;have hb:=Z00 W (.cells #[] 54);have k: ∀j,j≠i0->also d i0 j=d j/\ ∀v,upd u i0 v j=u j:=fun j hj=>⟨Z08 d hj,fun v=>Z01 u v hj⟩;refine ⟨Z02 h.up hb,h.vals' (fun v' hv=>by rw[hval] at hv; cases hv), ?_, ?_, ?_, ?_, ?_⟩
 {intro _ _;rw[Z06];exact World.ownsRow_lit W #[] 0 h.up.size (by unfold maxLen; omega) rfl}
 {rw[(k i1 (Ne.symm d1)).1,(k i1 (Ne.symm d1)).2,(k i2 (Ne.symm d2)).1]; exact fun h1 h2=>Z14 (h.r1 h1 h2) hb}
 {rw[(k ib (Ne.symm d4)).1,(k ib (Ne.symm d4)).2,(k i2 (Ne.symm d2)).1,(k i1 (Ne.symm d1)).1,(k i1 (Ne.symm d1)).2,Z06];intro h1 h2;obtain ⟨z,e,z1,z2,z3,z4,z5⟩:=h.rb h1 h2;refine ⟨z,e,z1,Nat.lt_of_lt_of_le z2 hb.size,fun _ _ h=> ?_,z4,fun j v hv=>(hb.cell (p:=⟨z,j,none⟩) z2).trans (z5 j v hv)⟩;simp[Value.ownBlock] at h;omega}
 {rw[(k i2 (Ne.symm d2)).1,(k i2 (Ne.symm d2)).2,(k i3 (Ne.symm d3)).1]; exact fun h1 h2=>Z14 (h.r2 h1 h2) hb}
 {rw[(k i3 (Ne.symm d3)).1,(k i3 (Ne.symm d3)).2]; exact fun h0 h1=>Z14 (h.r3 h0 h1) hb}
theorem CI.mkb (hD:Dis i0 i1 i2 i3 ib) (hval:val ib=none):
 CI W0 val fin lA lB b i0 i1 i2 i3 ib (also d ib) (upd u ib (.slice (some ⟨W.heap.size,0,none⟩) 1 1)) (W.alloc (.cells #[.string ⟨b.1.of_.toArray⟩,.string ⟨b.1.name.toArray⟩,.int .i64 b.1.sh.kind,.string ⟨b.1.sh.of_.toArray⟩,.string ⟨b.1.sh.name.toArray⟩,.slice b.2.A b.1.sh.names.length b.2.c,.slice b.2.P b.1.sh.parts.length b.2.d] 54)):=by
 obtain ⟨⟨_,_,_,d4⟩,⟨_,_,e4⟩,⟨_,f4⟩,g4⟩:=hD;have hb:=Z00 W (.cells #[.string ⟨b.1.of_.toArray⟩,.string ⟨b.1.name.toArray⟩,.int .i64 b.1.sh.kind,.string ⟨b.1.sh.of_.toArray⟩,.string ⟨b.1.sh.name.toArray⟩,.slice b.2.A b.1.sh.names.length b.2.c,.slice b.2.P b.1.sh.parts.length b.2.d] 54);have k: ∀j,j≠ib->also d ib j=d j/\ ∀v,upd u ib v j=u j:=fun j hj=>⟨Z08 d hj,fun v=>Z01 u v hj⟩;refine ⟨Z02 h.up hb,h.vals' (fun v' hv=>by rw[hval] at hv; cases hv), ?_, ?_, ?_, ?_, ?_⟩
 {rw[(k i0 d4).1,(k i0 d4).2,(k i1 e4).1]; exact fun h1 h2=>Z14 (h.r0 h1 h2) hb}
 {rw[(k i1 e4).1,(k i1 e4).2,(k i2 f4).1]; exact fun h1 h2=>Z14 (h.r1 h1 h2) hb}
 {rw[(k i2 f4).1,(k i0 d4).1,(k i0 d4).2,(k i1 e4).1,(k i1 e4).2,Z06];intro _ h2;have hh:=h;refine ⟨W.heap.size,rfl,h.up.size,by simp,fun h0 h1 h=> ?_,fun h1 h=> ?_,fun j v hv=> ?_⟩
  {have:=(hh.r0 h0 h1).lt _ h; omega}
  {have:=(hh.r1 h1 h2).lt _ h; omega}
  {rcases j with _ | _ | _ | _ | _ | _ | _ | j <;> (simp[cells7] at hv; try (subst hv; simp[go_sem]))}}
 {rw[(k i2 f4).1,(k i2 f4).2,(k i3 g4).1]; exact fun h1 h2=>Z14 (h.r2 h1 h2) hb}
 {rw[(k i3 g4).1,(k i3 g4).2]; exact fun h0 h1=>Z14 (h.r3 h0 h1) hb}
theorem CI.ap1 (hD:Dis i0 i1 i2 i3 ib) (hval:val i1=none) (h0:d i0=true) (h1:d i1=false) (h2:d i2=false) (h3:d i3=false) {v:Value}
 (hown:W'.ownsRow W0.heap.size 54 7 v lA.length (cellsB lA)) (hg:W.grownBy W' (u i0).ownBlock) (hat:v.ownBlock=(u i0).ownBlock\/v.ownBlock=some W.heap.size):CI W0 val fin lA lB b i0 i1 i2 i3 ib (also d i1) (upd u i1 v) W':=by
 obtain ⟨⟨d1,_,_,_⟩,⟨e2,e3,e4⟩,_,_⟩:=hD;have hr:=h.r0 h0 h1;have k: ∀j,j≠i1->also d i1 j=d j/\upd u i1 v j=u j:=fun j hj=>⟨Z08 d hj,Z01 u v hj⟩;have hu:Upd (fun x=>(u i0).ownBlock=some x) W W':=(Upd.refl _ W).grown hg (fun k h _=>h);refine ⟨h.up.trans (hu.below h.up.size (fun x hx=>(hr.lt x hx).1)),h.vals' (fun v' hv=>by rw[hval] at hv; cases hv), ?_, ?_, ?_, ?_, ?_⟩
 {intro _ h; rw[Z0t] at h; cases h}
 {intro _ _; rw[Z06]; exact hown}
 {rw[(k ib (Ne.symm e4)).1,(k ib (Ne.symm e4)).2,Z0t,Z06,(k i2 (Ne.symm e2)).1];intro hb h2;obtain ⟨z,e,z1,z2,z3,_,z5⟩:=h.rb hb h2;have hz:=z3 h0 h1;have hz2:v.ownBlock≠some z:=fun h=>by
   rcases hat with ha | ha
   {exact hz (ha▸h)}
   {rw[ha] at h; cases h; omega}
  refine ⟨z,e,z1,Nat.lt_of_lt_of_le z2 hu.size, ?_,fun _=>hz2,fun j v hv=>(hu.cell z2 hz).trans (z5 j v hv)⟩;intro _ h;cases h}
 {rw[(k i2 (Ne.symm e2)).1,h2]; exact fun h=>by cases h}
 {rw[(k i3 (Ne.symm e3)).1,h3]; exact fun _ h=>by cases h}
theorem CI.ap2 (hD:Dis i0 i1 i2 i3 ib) (hval:val i2=none) (h1:d i1=true) (h2:d i2=false) (h3:d i3=false) {v:Value}
 (hown:W'.ownsRow W0.heap.size 54 7 v (lA.length+1) (cellsB (lA++ [b]))) (hg:W.grownBy W' (u i1).ownBlock):CI W0 val fin lA lB b i0 i1 i2 i3 ib (also d i2) (upd u i2 v) W':=by
 obtain ⟨⟨_,d2,_,_⟩,⟨e2,_,_⟩,⟨f3,f4⟩,_⟩:=hD;have hr:=h.r1 h1 h2;have k: ∀j,j≠i2->also d i2 j=d j/\upd u i2 v j=u j:=fun j hj=>⟨Z08 d hj,Z01 u v hj⟩;have hu:Upd (fun x=>(u i1).ownBlock=some x) W W':=(Upd.refl _ W).grown hg (fun k h _=>h);refine ⟨h.up.trans (hu.below h.up.size (fun x hx=>(hr.lt x hx).1)),h.vals' (fun v' hv=>by rw[hval] at hv; cases hv), ?_, ?_, ?_, ?_, ?_⟩
 {rw[(k i1 e2).1,h1]; exact fun _ h=>by cases h}
 {intro _ h; rw[Z0t] at h; cases h}
 {intro _ h; rw[Z0t] at h; cases h}
 {intro _ _; rw[Z06]; exact hown}
 {rw[(k i3 (Ne.symm f3)).1,h3]; exact fun _ h=>by cases h}
theorem CI.ap3 (hD:Dis i0 i1 i2 i3 ib) (hval:val i3=none) (h1:d i1=true) (h2:d i2=true) (h3:d i3=false) {v:Value}
 (hown:W'.ownsRow W0.heap.size 54 7 v (lA.length+1+lB.length) (cellsB (lA++ [b]++lB))) (hg:W.grownBy W' (u i2).ownBlock):CI W0 val fin lA lB b i0 i1 i2 i3 ib (also d i3) (upd u i3 v) W':=by
 obtain ⟨_,⟨_,e3,_⟩,⟨f3,_⟩,_⟩:=hD;have hr:=h.r2 h2 h3;have k: ∀j,j≠i3->also d i3 j=d j/\upd u i3 v j=u j:=fun j hj=>⟨Z08 d hj,Z01 u v hj⟩;have hu:Upd (fun x=>(u i2).ownBlock=some x) W W':=(Upd.refl _ W).grown hg (fun k h _=>h);refine ⟨h.up.trans (hu.below h.up.size (fun x hx=>(hr.lt x hx).1)),h.vals' (fun v' hv=>by rw[hval] at hv; cases hv), ?_, ?_, ?_, ?_, ?_⟩
 {rw[(k i1 e3).1,h1]; exact fun _ h=>by cases h}
 {rw[(k i2 f3).1,h2]; exact fun _ h=>by cases h}
 {rw[(k i2 f3).1,h2]; exact fun _ h=>by cases h}
 {intro _ h; rw[Z0t] at h; cases h}
 {intro _ _; rw[Z06]; exact hown}
end
theorem GetI.grow {n0 c i:Nat} {tk:Nat->Value->Prop} {o:Option Sh} {S:Nat->Prop} (h:GetI W0 n0 tk c o d u W) (hi:i < c) {v:Value} (hv:tk i v) (hc:d c=false) (hu:Upd S W W') (hS: ∀x,S x->W0.heap.size<=x)
 (hg: ∀g,d (c+4)=true->u (c+4)= .pointer (some ⟨g,0,none⟩)-> ¬S g):GetI W0 n0 tk c o (also d i) (upd u i v) W':=by
 have k: ∀j,c<=j->also d i j=d j/\upd u i v j=u j:=fun j hj=>⟨Z08 d (by omega),Z01 u v (by omega)⟩;refine ⟨h.putv hv,h.up.trans (hu.below h.up.size hS), ?_, ?_⟩
 {rw[(k (c+4) (by omega)).1,(k (c+4) (by omega)).2];intro h4;obtain ⟨g,e,g1,g2,g3,g4⟩:=h.al h4;have hn:=hg g h4 e;exact ⟨g,e,g1,Nat.lt_of_lt_of_le g2 hu.size,fun j=>(hu.frozen g2 hn).trans (g3 j),fun j hj=>by
   obtain ⟨v,hv⟩:=g4 j hj;exact ⟨v,(hu.cell g2 hn).trans hv⟩⟩}
 {rw[(k c (Nat.le_refl _)).1,hc]; exact fun h=>by cases h}
end
structure CJ (W0:World) (val:Nat->Option Value) (lA lB:List BE) (b:BE) (i0 i1 i2 ib:Nat) (d:Nat->Bool) (u:Nat->Value) (W:World):Prop where
 ci:CI W0 val true lA lB b i0 i1 i2 11 ib d u W
 al:d 12=true->u 12=u 11
section
variable {W0 W W' : World} {val : Nat -> Option Value} {lA lB : List BE} {b : BE} {i0 i1 i2 ib : Nat} {d : Nat -> Bool} {u : Nat -> Value}
theorem CJ.start {u:Nat->Value}:CJ W0 val lA lB b i0 i1 i2 ib (fun _=>false) u W0.drew:=⟨CI.start,nofun⟩
theorem CJ.on (h:CJ W0 val lA lB b i0 i1 i2 ib d u W) {i:Nat} {v:Value} (hi:i≠11/\i≠12) (hc:CI W0 val true lA lB b i0 i1 i2 11 ib (also d i) (upd u i v) W'):CJ W0 val lA lB b i0 i1 i2 ib (also d i) (upd u i v) W':=
 ⟨hc,by rw[Z08 d (Ne.symm hi.2),Z01 u v (Ne.symm hi.1),Z01 u v (Ne.symm hi.2)]; exact h.al⟩
theorem CJ.on11 {v:Value} (h:d 12=false) (hc:CI W0 val true lA lB b i0 i1 i2 11 ib (also d 11) (upd u 11 v) W'):CJ W0 val lA lB b i0 i1 i2 ib (also d 11) (upd u 11 v) W':=
 ⟨hc,by rw[Z08 d (by decide),h]; exact fun h=>by cases h⟩
theorem CJ.on12 (hc:CI W0 val true lA lB b i0 i1 i2 11 ib (also d 12) (upd u 12 (u 11)) W'):CJ W0 val lA lB b i0 i1 i2 ib (also d 12) (upd u 12 (u 11)) W':=
 ⟨hc,fun _=>by rw[Z06,Z01 u _ (by decide)]⟩
end
theorem Z3t {W:World} {B e s n:Nat} {v:Value} {xs:List Value} (h:W.ownsRow B e s v n xs) (hn:0 < n): ∃g c,v= .slice (some ⟨g,0,none⟩) n c:=by
 rcases h.2 with ⟨_,h2⟩ | ⟨g,cap,cur,hv,_⟩
 {omega}
 {exact ⟨g,cap,hv⟩}
end SubM
end Go.Proofs.YtchklpedlbkgaaaDoor
namespace Go.Proofs.YtchklpedlbkgaaaDoor
open Go.RowKit Shp Sub
namespace SubM
def GetRs (n0:Nat) (sec:Value) (o:Option Sh) (w:World) (e:Ending) (w':World):Prop:=
 ∃(t:Sh) (q:Ptr),e= .returned (.tuple #[sv t q,sec])/\Below w.heap.size w w'/\ ∀j,o=some j->t=j/\Kept (fun b=>b < n0\/w.heap.size<=b) w' (j,q)
structure GetR (W0:World) (n0:Nat) (tk:Nat->Value->Prop) (c:Nat) (sec:Value) (o:Option Sh) (d:Nat->Bool) (u:Nat->Value) (W:World):Prop where
 vals: ∀j,j < c->d j=true->tk j (u j)
 up:Below W0.heap.size W0 W
 al:d (c+4)=true-> ∃g,u (c+4)= .pointer (some ⟨g,0,none⟩)/\W0.heap.size<=g/\g < W.heap.size/\(∀j,W.frozen? ⟨g,j,none⟩=false)/\ ∀j,j < 5-> ∃v,W.cell? ⟨g,j,none⟩=some v
 ca:d c=true-> ∃(t:Sh) (q:Ptr) (W2:World) (s:Nat),u c= .tuple #[sv t q,sec]/\W0.heap.size<=s/\s<=W2.heap.size/\
  (∀j,o=some j->t=j/\Kept (fun b=>b < n0\/s<=b) W2 (j,q))/\
  (d (c+1)=true->u (c+1)=u c)/\(d (c+2)=true->u (c+2)=sv t q)/\(d (c+3)=true->u (c+3)=sec)/\
  Upd (fun b=>d (c+4)=true/\u (c+4)= .pointer (some ⟨b,0,none⟩)) W2 W/\(∀g,d (c+4)=true->u (c+4)= .pointer (some ⟨g,0,none⟩)->g < s\/W2.heap.size<=g)/\(d (c+5)=true-> ∀g,u (c+4)= .pointer (some ⟨g,0,none⟩)->Sh5 W g 0 t q)/\(d (c+6)=true->u (c+6)=sec)
variable {W0 : World} {n0 : Nat} {tk : Nat -> Value -> Prop} {c : Nat} {sec : Value} {o : Option Sh} {d : Nat -> Bool} {u : Nat -> Value} {W W' : World}
section
variable (h : GetR W0 n0 tk c sec o d u W) {i : Nat}
include h i
theorem GetR.putv {v:Value} (hv:tk i v): ∀j,j < c->also d i j=true->tk j (upd u i v j):=fun j hc hj=>by
 by_cases hij:j=i
 {subst hij; rw[Z06]; exact hv}
 {rw[Z08 d hij] at hj; rw[Z01 u v hij]; exact h.vals j hc hj}
theorem GetR.keepv (hi:c<=i) {v:Value}: ∀j,j < c->also d i j=true->tk j (upd u i v j):=fun j hc hj=>by
 have hij:j≠i:=by omega
 rw[Z08 d hij] at hj; rw[Z01 u v hij]; exact h.vals j hc hj
end
theorem GetR.start {W0:World} {u:Nat->Value}:GetR W0 n0 tk c sec o (fun _=>false) u W0.drew:=⟨nofun,Y2.drew,nofun,nofun⟩
section
variable (h : GetR W0 n0 tk c sec o d u W)
include h
theorem GetR.pure {i:Nat} (hi:i < c) {v:Value} (hv:tk i v):GetR W0 n0 tk c sec o (also d i) (upd u i v) W:=by
 have k: ∀j,c<=j->also d i j=d j/\upd u i v j=u j:=fun j hj=>⟨Z08 d (by omega),Z01 u v (by omega)⟩;refine ⟨h.putv hv,h.up, ?_, ?_⟩
 {rw[(k (c+4) (by omega)).1,(k (c+4) (by omega)).2]; exact h.al}
 {rw[(k c (by omega)).1,(k c (by omega)).2,(k (c+1) (by omega)).1,(k (c+1) (by omega)).2,(k (c+2) (by omega)).1,(k (c+2) (by omega)).2,(k (c+3) (by omega)).1,(k (c+3) (by omega)).2,(k (c+4) (by omega)).1,(k (c+4) (by omega)).2,(k (c+5) (by omega)).1,(k (c+6) (by omega)).1,(k (c+6) (by omega)).2];exact h.ca}
theorem GetR.call (h7:d c=false) (hd: ∀j,j=(c+1)\/j=(c+2)\/j=(c+3)\/j=(c+5)\/j=(c+6)->d j=false) {e:Ending} (hb:GetRs n0 sec o W e W'): ∃v,e= .returned v/\GetR W0 n0 tk c sec o (also d c) (upd u c v) W':=by
 obtain ⟨t,q,rfl,hbl,hj⟩:=hb;have k: ∀j,j≠c->also d c j=d j/\ ∀v,upd u c v j=u j:=fun j hj=>⟨Z08 d hj,fun v=>Z01 u v hj⟩;refine ⟨_,rfl,h.keepv (by omega),Z02 h.up hbl, ?_,fun _=>⟨t,q,W',W.heap.size,Z06 _ _ _,h.up.size,hbl.size,hj, ?_, ?_, ?_, ?_, ?_, ?_, ?_⟩⟩
 {rw[(k (c+4) (by omega)).1,(k (c+4) (by omega)).2];intro h11;obtain ⟨g,e,g1,g2,g3,g4⟩:=h.al h11;exact ⟨g,e,g1,Nat.lt_of_lt_of_le g2 hbl.size,fun j=>(hbl.frozen (p:=⟨g,j,none⟩) g2).trans (g3 j),fun j hj=>by
   obtain ⟨v,hv⟩:=g4 j hj;exact ⟨v,(hbl.cell (p:=⟨g,j,none⟩) g2).trans hv⟩⟩}
 {rw[(k (c+1) (by omega)).1,hd (c+1) (by omega)]; nofun}
 {rw[(k (c+2) (by omega)).1,hd (c+2) (by omega)]; nofun}
 {rw[(k (c+3) (by omega)).1,hd (c+3) (by omega)]; nofun}
 {exact Upd.refl _ _}
 {rw[(k (c+4) (by omega)).1,(k (c+4) (by omega)).2];intro g h11 e;obtain ⟨g',e',_,g2,_⟩:=h.al h11;rw[e'] at e;simp only[Value.pointer.injEq,Option.some.injEq,Addr.mk.injEq,and_true] at e;omega}
 {rw[(k (c+5) (by omega)).1,hd (c+5) (by omega)]; nofun}
 {rw[(k (c+6) (by omega)).1,hd (c+6) (by omega)]; nofun}
theorem GetR.read (h7:d c=true) {i:Nat} (hi:i=(c+1)\/i=(c+2)\/i=(c+3)\/i=(c+6)) {v:Value} (hd:d i=false) (hv: ∀t q,u c= .tuple #[sv t q,sec]->
 (i=(c+1)->v=u c)/\(i=(c+2)->v=sv t q)/\(i=(c+3)->v=sec)/\(i=(c+6)->v=sec)):GetR W0 n0 tk c sec o (also d i) (upd u i v) W:=by
 have k: ∀j,j≠i->also d i j=d j/\upd u i v j=u j:=fun j hj=>⟨Z08 d hj,Z01 u v hj⟩;refine ⟨h.keepv (by omega),h.up, ?_, ?_⟩
 {rw[(k (c+4) (by omega)).1,(k (c+4) (by omega)).2]; exact h.al}
 {rw[(k c (by omega)).1,(k c (by omega)).2,(k (c+4) (by omega)).1,(k (c+4) (by omega)).2,(k (c+5) (by omega)).1];intro _;obtain ⟨t,q,W2,s,e7,s1,s2,hj,e8,e9,e10,hu,hg,h12,h13⟩:=h.ca h7;obtain ⟨v8,v9,v10,v13⟩:=hv t q e7;refine ⟨t,q,W2,s,e7,s1,s2,hj,fun hd=> ?_,fun hd=> ?_,fun hd=> ?_,hu,hg,h12,fun hd=> ?_⟩
  {by_cases e:i=(c+1)
   {rw[<-e,Z06]; exact v8 e}
   {rw[(k (c+1) (Ne.symm e)).1] at hd; rw[(k (c+1) (Ne.symm e)).2]; exact e8 hd}}
  {by_cases e:i=(c+2)
   {rw[<-e,Z06]; exact v9 e}
   {rw[(k (c+2) (Ne.symm e)).1] at hd; rw[(k (c+2) (Ne.symm e)).2]; exact e9 hd}}
  {by_cases e:i=(c+3)
   {rw[<-e,Z06]; exact v10 e}
   {rw[(k (c+3) (Ne.symm e)).1] at hd; rw[(k (c+3) (Ne.symm e)).2]; exact e10 hd}}
  {by_cases e:i=(c+6)
   {rw[<-e,Z06]; exact v13 e}
   {rw[(k (c+6) (Ne.symm e)).1] at hd; rw[(k (c+6) (Ne.symm e)).2]; exact h13 hd}}}
end
theorem GetR.alloc (h:GetR W0 n0 tk c sec o d u W) (h11:d (c+4)=false) (h12:d (c+5)=false):GetR W0 n0 tk c sec o (also d (c+4)) (upd u (c+4) (.pointer (some ⟨W.heap.size,0,none⟩))) (W.alloc (.cells Yb 25)):=by
 have hb:=Z00 W (.cells Yb 25);have k: ∀j,j≠(c+4)->also d (c+4) j=d j/\ ∀v,upd u (c+4) v j=u j:=fun j hj=>⟨Z08 d hj,fun v=>Z01 u v hj⟩;refine ⟨h.keepv (by omega),Z02 h.up hb,fun _=>⟨W.heap.size,Z06 _ _ _,h.up.size,by simp,fun j=>by simp[go_sem],fun j hj=> ?_⟩, ?_⟩
 {rcases j with _ | _ | _ | _ | _ | j
  {exact ⟨.int .i64 0,by simp[go_sem]⟩}
  {exact ⟨.string ⟨#[]⟩,by simp[go_sem]⟩}
  {exact ⟨.string ⟨#[]⟩,by simp[go_sem]⟩}
  {exact ⟨.slice none 0 0,by simp[go_sem]⟩}
  {exact ⟨.slice none 0 0,by simp[go_sem]⟩}
  {omega}}
 {rw[(k c (by omega)).1,(k c (by omega)).2,(k (c+1) (by omega)).1,(k (c+1) (by omega)).2,(k (c+2) (by omega)).1,(k (c+2) (by omega)).2,(k (c+3) (by omega)).1,(k (c+3) (by omega)).2,(k (c+5) (by omega)).1,(k (c+6) (by omega)).1,(k (c+6) (by omega)).2,Z0t,Z06,h12];intro h7;obtain ⟨t,q,W2,s,e7,s1,s2,hj,e8,e9,e10,hu,hg,_,h13⟩:=h.ca h7;refine ⟨t,q,W2,s,e7,s1,s2,hj,e8,e9,e10, ?_,fun g _ e=> ?_,nofun,h13⟩
  {exact (hu.mono (fun b _ hb=>by rw[h11] at hb; exact absurd hb.1 (by decide))).trans (Upd.new hb)}
  {simp only[Value.pointer.injEq,Option.some.injEq,Addr.mk.injEq,and_true] at e;have:=hu.size;omega}}
theorem GetR.store (h:GetR W0 n0 tk c sec o d u W) (h7:d c=true) (h11:d (c+4)=true) {g:Nat} (hg:u (c+4)= .pointer (some ⟨g,0,none⟩)) {t:Sh} {q:Ptr} (ht:u c= .tuple #[sv t q,sec])
 (hsv: ∀t' q',sv t' q'=sv t q->t'.kind=t.kind/\t'.of_=t.of_/\t'.name=t.name/\q'.A=q.A/\t'.names.length=t.names.length/\q'.c=q.c/\q'.P=q.P/\t'.parts.length=t.parts.length/\q'.d=q.d):GetR W0 n0 tk c sec o (also d (c+5)) (upd u (c+5) undef) (RX.lay W g t q):=by
 have k: ∀j,j≠(c+5)->also d (c+5) j=d j/\ ∀v,upd u (c+5) v j=u j:=fun j hj=>⟨Z08 d hj,fun v=>Z01 u v hj⟩;obtain ⟨g',e',g1,g2,g3,g4⟩:=h.al h11;obtain rfl:g'=g:=by rw[hg] at e'; simp at e'; exact e'.symm
 have hu:=RX.lay_upd W g' t q;refine ⟨h.keepv (by omega),h.up.trans (hu.below h.up.size (fun b hb=>by omega)), ?_, ?_⟩
 {rw[(k (c+4) (by omega)).1,(k (c+4) (by omega)).2];intro _;have hl:=RX.lay_at t q g4;obtain ⟨l0,l1,l2,l3,l4⟩:=hl;simp only[Nat.zero_add] at l0 l1 l2 l3 l4;refine ⟨g',hg,g1,by rw[RX.lay_size]; exact g2,fun j=>(RX.lay_fz W g' t q j).trans (g3 j),fun j hj=> ?_⟩;rcases j with _ | _ | _ | _ | _ | j
  {exact ⟨_,l0⟩}
  {exact ⟨_,l1⟩}
  {exact ⟨_,l2⟩}
  {exact ⟨_,l3⟩}
  {exact ⟨_,l4⟩}
  {omega}}
 {rw[(k c (by omega)).1,(k c (by omega)).2,(k (c+1) (by omega)).1,(k (c+1) (by omega)).2,(k (c+2) (by omega)).1,(k (c+2) (by omega)).2,(k (c+3) (by omega)).1,(k (c+3) (by omega)).2,(k (c+4) (by omega)).1,(k (c+4) (by omega)).2,(k (c+6) (by omega)).1,(k (c+6) (by omega)).2];intro _;obtain ⟨t',q',W2,s,e7,s1,s2,hj,e8,e9,e10,hu2,hgs,_,h13⟩:=h.ca h7;refine ⟨t',q',W2,s,e7,s1,s2,hj,e8,e9,e10,hu2.trans (hu.mono (fun b _ hb=>⟨h11,by rw[hb,hg]⟩)),hgs,fun _ g2 e=> ?_,h13⟩;obtain rfl:g'=g2:=by rw[hg] at e; simpa using e
  have e72:sv t' q'=sv t q:=by
   rw[ht] at e7;simp only[Value.tuple.injEq] at e7;have:=congrArg (fun a:Array Value=>a[0]?) e7;simp at this;simp[sv];exact ⟨this.1.symm,this.2.1.symm,this.2.2.1.symm,⟨this.2.2.2.1.1.symm,this.2.2.2.1.2.1.symm,this.2.2.2.1.2.2.symm⟩,this.2.2.2.2.1.symm,this.2.2.2.2.2.1.symm,this.2.2.2.2.2.2.symm⟩
  obtain ⟨c1,c2,c3,c4,c5,c6,c7,c8,c9⟩:=hsv t' q' e72;obtain ⟨l0,l1,l2,l3,l4⟩:=RX.lay_at t q g4;exact ⟨by rw[c1]; exact l0,by rw[c2]; exact l1,by rw[c3]; exact l2,by rw[c4,c5,c6]; exact l3,by rw[c7,c8,c9]; exact l4⟩}
end SubM
end Go.Proofs.YtchklpedlbkgaaaDoor
namespace Go.Proofs.YtchklpedlbkgaaaDoor
open Go.RowKit Shp Sub
open Expd (Bd)
namespace SubM
theorem GetR.grow {W0 W W':World} {n0 c i:Nat} {tk:Nat->Value->Prop} {sec:Value} {o:Option Sh} {d:Nat->Bool} {u:Nat->Value} {S:Nat->Prop} (h:GetR W0 n0 tk c sec o d u W) (hi:i < c) {v:Value} (hv:tk i v) (hc:d c=false) (hu:Upd S W W') (hS: ∀x,S x->W0.heap.size<=x)
 (hg: ∀g,d (c+4)=true->u (c+4)= .pointer (some ⟨g,0,none⟩)-> ¬S g):GetR W0 n0 tk c sec o (also d i) (upd u i v) W':=by
 have k: ∀j,c<=j->also d i j=d j/\upd u i v j=u j:=fun j hj=>⟨Z08 d (by omega),Z01 u v (by omega)⟩;refine ⟨h.putv hv,h.up.trans (hu.below h.up.size hS), ?_, ?_⟩
 {rw[(k (c+4) (by omega)).1,(k (c+4) (by omega)).2];intro h4;obtain ⟨g,e,g1,g2,g3,g4⟩:=h.al h4;have hn:=hg g h4 e;exact ⟨g,e,g1,Nat.lt_of_lt_of_le g2 hu.size,fun j=>(hu.frozen g2 hn).trans (g3 j),fun j hj=>by
   obtain ⟨v,hv⟩:=g4 j hj;exact ⟨v,(hu.cell g2 hn).trans hv⟩⟩}
 {rw[(k c (Nat.le_refl _)).1,hc]; exact fun h=>by cases h}
structure MR (W0:World) (n0:Nat) (val:Nat->Option Value) (c:Nat) (sec:Value) (o:Option Sh) (lA:List BE) (b:BE) (i0 i1 i2 ib:Nat) (d:Nat->Bool) (u:Nat->Value) (W:World):Prop where
 ci:CI W0 val false lA [] b i0 i1 i2 c ib d u W
 gr:GetR W0 n0 (fun _ _=>True) c sec o d u W
 ng:d (c+4)=true-> ∀g,u (c+4)= .pointer (some ⟨g,0,none⟩)->(d i0=true->d i1=false->(u i0).ownBlock≠some g)/\(d i1=true->d i2=false->(u i1).ownBlock≠some g)
section
variable {W0 W W' : World} {n0 : Nat} {val : Nat -> Option Value} {c : Nat} {sec : Value} {o : Option Sh} {lA : List BE} {b : BE} {i0 i1 i2 ib : Nat} {d : Nat -> Bool} {u : Nat -> Value}
theorem MR.start {u:Nat->Value}:MR W0 n0 val c sec o lA b i0 i1 i2 ib (fun _=>false) u W0.drew:=⟨CI.start,GetR.start,nofun⟩
theorem MR.pure (h:MR W0 n0 val c sec o lA b i0 i1 i2 ib d u W) {i:Nat} (hi:i < c) (hj:i≠i0/\i≠i1/\i≠i2/\i≠ib) {v:Value} (hv: ∀v',val i=some v'->v=v'):MR W0 n0 val c sec o lA b i0 i1 i2 ib (also d i) (upd u i v) W:=by
 refine ⟨h.ci.pure ⟨hj.1,hj.2.1,hj.2.2.1,by omega,hj.2.2.2⟩ hv Y2,h.gr.pure hi trivial, ?_⟩;have k: ∀j,j≠i->also d i j=d j/\upd u i v j=u j:=fun j hj=>⟨Z08 d hj,Z01 u v hj⟩;rw[(k (c+4) (by omega)).1,(k (c+4) (by omega)).2,(k i0 (Ne.symm hj.1)).1,(k i0 (Ne.symm hj.1)).2,(k i1 (Ne.symm hj.2.1)).1,(k i1 (Ne.symm hj.2.1)).2,(k i2 (Ne.symm hj.2.2.1)).1];exact h.ng
theorem MR.mk0 (h:MR W0 n0 val c sec o lA b i0 i1 i2 ib d u W) (hD:Dis i0 i1 i2 c ib) (hi:i0 < c) (hc:d c=false) (hval:val i0=none):MR W0 n0 val c sec o lA b i0 i1 i2 ib (also d i0) (upd u i0 (.slice (some ⟨W.heap.size,0,none⟩) 0 0)) (W.alloc (.cells #[] 54)):=by
 refine ⟨h.ci.mk0 hD hval,h.gr.grow (S:=fun _=>False) hi trivial hc (Upd.new (Z00 _ _)) (fun _ h=>h.elim) (fun _ _ _ h=>h), ?_⟩;have k: ∀j,j≠i0->also d i0 j=d j/\ ∀v,upd u i0 v j=u j:=fun j hj=>⟨Z08 d hj,fun v=>Z01 u v hj⟩;have d1:=hD.1.1;have d2:=hD.1.2.1;rw[(k (c+4) (by omega)).1,(k (c+4) (by omega)).2,(k i1 (Ne.symm d1)).1,(k i1 (Ne.symm d1)).2,(k i2 (Ne.symm d2)).1,Z06];intro h4 g e;refine ⟨fun _ _ h5=> ?_,(h.ng h4 g e).2⟩;obtain ⟨g',e',_,g2,_⟩:=h.gr.al h4;rw[e'] at e;simp at e;simp[Value.ownBlock] at h5;omega
theorem MR.mkb (h:MR W0 n0 val c sec o lA b i0 i1 i2 ib d u W) (hD:Dis i0 i1 i2 c ib) (hi:ib < c) (hc:d c=false) (hval:val ib=none):
 MR W0 n0 val c sec o lA b i0 i1 i2 ib (also d ib) (upd u ib (.slice (some ⟨W.heap.size,0,none⟩) 1 1)) (W.alloc (.cells #[.string ⟨b.1.of_.toArray⟩,.string ⟨b.1.name.toArray⟩,.int .i64 b.1.sh.kind,.string ⟨b.1.sh.of_.toArray⟩,.string ⟨b.1.sh.name.toArray⟩,.slice b.2.A b.1.sh.names.length b.2.c,.slice b.2.P b.1.sh.parts.length b.2.d] 54)):=by
 refine ⟨h.ci.mkb hD hval,h.gr.grow (S:=fun _=>False) hi trivial hc (Upd.new (Z00 _ _)) (fun _ h=>h.elim) (fun _ _ _ h=>h), ?_⟩;have k: ∀j,j≠ib->also d ib j=d j/\ ∀v,upd u ib v j=u j:=fun j hj=>⟨Z08 d hj,fun v=>Z01 u v hj⟩;obtain ⟨⟨_,_,_,d4⟩,⟨_,_,e4⟩,⟨_,f4⟩,g4⟩:=hD;rw[(k (c+4) (by omega)).1,(k (c+4) (by omega)).2,(k i0 d4).1,(k i0 d4).2,(k i1 e4).1,(k i1 e4).2,(k i2 f4).1];exact h.ng
theorem MR.ap1 (h:MR W0 n0 val c sec o lA b i0 i1 i2 ib d u W) (hD:Dis i0 i1 i2 c ib) (hi:i1 < c) (hval:val i1=none) (h0:d i0=true) (h1:d i1=false) (h2:d i2=false) (h3:d c=false) {v:Value}
 (hown:W'.ownsRow W0.heap.size 54 7 v lA.length (cellsB lA)) (hg:W.grownBy W' (u i0).ownBlock) (hat:v.ownBlock=(u i0).ownBlock\/v.ownBlock=some W.heap.size):MR W0 n0 val c sec o lA b i0 i1 i2 ib (also d i1) (upd u i1 v) W':=by
 have hr:=h.ci.r0 h0 h1;have hu:Upd (fun x=>(u i0).ownBlock=some x) W W':=(Upd.refl _ W).grown hg (fun k h _=>h);refine ⟨h.ci.ap1 hD hval h0 h1 h2 h3 hown hg hat,h.gr.grow hi trivial h3 hu (fun x hx=>(hr.lt x hx).1) (fun g h4 e=>(h.ng h4 g e).1 h0 h1), ?_⟩;have k: ∀j,j≠i1->also d i1 j=d j/\ ∀v,upd u i1 v j=u j:=fun j hj=>⟨Z08 d hj,fun v=>Z01 u v hj⟩;rw[(k (c+4) (by omega)).1,(k (c+4) (by omega)).2,Z0t,Z06];intro h4 g e;refine ⟨fun _ h=>(by cases h),fun _ _ h5=> ?_⟩;rcases hat with ha | ha
 {exact (h.ng h4 g e).1 h0 h1 (ha▸h5)}
 {obtain ⟨g',e',_,g2,_⟩:=h.gr.al h4;rw[e'] at e;simp at e;rw[ha] at h5;cases h5;omega}
theorem MR.ap2 (h:MR W0 n0 val c sec o lA b i0 i1 i2 ib d u W) (hD:Dis i0 i1 i2 c ib) (hi:i2 < c) (hval:val i2=none) (h1:d i1=true) (h2:d i2=false) (h3:d c=false) {v:Value}
 (hown:W'.ownsRow W0.heap.size 54 7 v (lA.length+1) (cellsB (lA++ [b]))) (hg:W.grownBy W' (u i1).ownBlock):MR W0 n0 val c sec o lA b i0 i1 i2 ib (also d i2) (upd u i2 v) W':=by
 have hr:=h.ci.r1 h1 h2;have hu:Upd (fun x=>(u i1).ownBlock=some x) W W':=(Upd.refl _ W).grown hg (fun k h _=>h);refine ⟨h.ci.ap2 hD hval h1 h2 h3 hown hg,h.gr.grow hi trivial h3 hu (fun x hx=>(hr.lt x hx).1) (fun g h4 e=>(h.ng h4 g e).2 h1 h2), ?_⟩;have e2:=hD.2.1.1;rw[Z08 d e2,h1,Z0t];exact fun _ _ _=>⟨fun _ h=>(by cases h),fun _ h=>(by cases h)⟩
theorem MR.ng_late {i:Nat} {v:Value} (hi:i≠i1/\i≠i2) (h1:d i1=true) (h2:d i2=true):also d i (c+4)=true-> ∀g,upd u i v (c+4)= .pointer (some ⟨g,0,none⟩)->(also d i i0=true->also d i i1=false->(upd u i v i0).ownBlock≠some g)/\(also d i i1=true->also d i i2=false->(upd u i v i1).ownBlock≠some g):=by
 rw[Z08 d (Ne.symm hi.1),Z08 d (Ne.symm hi.2),h1,h2];exact fun _ _ _=>⟨fun _ h=>(by cases h),fun _ h=>(by cases h)⟩
theorem MR.call (h:MR W0 n0 val c sec o lA b i0 i1 i2 ib d u W) (hi:c≠i1/\c≠i2) (hval:val c=none) (h1:d i1=true) (h2:d i2=true) (h7:d c=false) (hd: ∀j,j=(c+1)\/j=(c+2)\/j=(c+3)\/j=(c+5)\/j=(c+6)->d j=false) {e:Ending} (hb:GetRs n0 sec o W e W'):
 ∃v,e= .returned v/\MR W0 n0 val c sec o lA b i0 i1 i2 ib (also d c) (upd u c v) W':=by
 obtain ⟨v,he,hr⟩:=h.gr.call h7 hd hb;exact ⟨v,he,h.ci.late hi h1 h2 (by rw[Z0t]) rfl (fun v' hv=>by rw[hval] at hv; cases hv) hr.up,hr,MR.ng_late hi h1 h2⟩
theorem MR.read (h:MR W0 n0 val c sec o lA b i0 i1 i2 ib d u W) (hn: ∀j,c < j->val j=none) (hi12:i1 < c/\i2 < c) (h1:d i1=true) (h2:d i2=true) (h7:d c=true) {i:Nat} (hi:i=(c+1)\/i=(c+2)\/i=(c+3)\/i=(c+6)) {v:Value} (hd:d i=false) (hv: ∀t q,u c= .tuple #[sv t q,sec]->
 (i=(c+1)->v=u c)/\(i=(c+2)->v=sv t q)/\(i=(c+3)->v=sec)/\(i=(c+6)->v=sec)):MR W0 n0 val c sec o lA b i0 i1 i2 ib (also d i) (upd u i v) W:=by
 have hn1:i≠i1/\i≠i2:=by omega
 exact ⟨h.ci.late hn1 h1 h2 (by rw[Z08 d (by omega)]; exact h7) rfl (fun v' hv=>by rw[hn i (by omega)] at hv; cases hv) h.ci.up,h.gr.read h7 hi hd hv,MR.ng_late hn1 h1 h2⟩
theorem MR.alloc (h:MR W0 n0 val c sec o lA b i0 i1 i2 ib d u W) (hn: ∀j,c < j->val j=none) (hi:i0 < c/\i1 < c/\i2 < c/\ib < c) (h11:d (c+4)=false) (h12:d (c+5)=false):
 MR W0 n0 val c sec o lA b i0 i1 i2 ib (also d (c+4)) (upd u (c+4) (.pointer (some ⟨W.heap.size,0,none⟩))) (W.alloc (.cells Yb 25)):=by
 have k: ∀j,j≠(c+4)->also d (c+4) j=d j/\ ∀v,upd u (c+4) v j=u j:=fun j hj=>⟨Z08 d hj,fun v=>Z01 u v hj⟩;refine ⟨h.ci.pure (by omega) (fun v' hv=>by rw[hn (c+4) (by omega)] at hv; cases hv) (Z00 _ _),h.gr.alloc h11 h12, ?_⟩;rw[(k i0 (by omega)).1,(k i0 (by omega)).2,(k i1 (by omega)).1,(k i1 (by omega)).2,(k i2 (by omega)).1,Z06];intro _ g e;simp at e;refine ⟨fun h0 h1 h5=> ?_,fun h1 h2 h5=> ?_⟩
 {have:=((h.ci.r0 h0 h1).lt _ h5).2; omega}
 {have:=((h.ci.r1 h1 h2).lt _ h5).2; omega}
theorem MR.store (h:MR W0 n0 val c sec o lA b i0 i1 i2 ib d u W) (hn: ∀j,c < j->val j=none) (hi12:i1 < c/\i2 < c) (h1:d i1=true) (h2:d i2=true) (h7:d c=true) (h11:d (c+4)=true) {g:Nat} (hg:u (c+4)= .pointer (some ⟨g,0,none⟩)) {t:Sh} {q:Ptr} (ht:u c= .tuple #[sv t q,sec]):
 MR W0 n0 val c sec o lA b i0 i1 i2 ib (also d (c+5)) (upd u (c+5) undef) (RX.lay W g t q):=by
 have hn1:c+5≠i1/\c+5≠i2:=by omega
 have hst:=h.gr.store h7 h11 hg ht (fun t' q' h=>ZbZ h);exact ⟨h.ci.late hn1 h1 h2 (by rw[Z08 d (by omega)]; exact h7) rfl (fun v' hv=>by rw[hn (c+5) (by omega)] at hv; cases hv) hst.up,hst,MR.ng_late hn1 h1 h2⟩
end
end SubM
end Go.Proofs.YtchklpedlbkgaaaDoor
namespace Go.Proofs.YtchklpedlbkgaaaDoor
open Go.RowKit Shp Sub
namespace SubM
def Z1y:Sh:=⟨0,[],[],[],[]⟩
theorem zero_kept (S:Nat->Prop) (W:World):Kept S W (Z1y,noneQ12):=fun W' _ _=>
 .mk _ _ 0 0 (fun _=>noneQ12) ⟨by simp[Z1y],by simp[Z1y],by simp[Z1y],by simp[Z1y],by simp[Z1y],by simp[Z1y],by simp[Z1y],fun _=>rfl,fun _=>rfl⟩ (Or.inl rfl) (Or.inl rfl) (fun i hi=>by simp[Z1y] at hi) (fun i hi=>by simp[Z1y] at hi)
theorem own_kept {W:World} {q:Ptr} {t:Sh} {F:List Nat} {B:Nat} (h:Own W q t F) (hF: ∀b∈F,B<=b):Kept (fun b=>B<=b) W (t,q):=fun W' hz hs=>by
 have h2:Own W' q t F:=h.of (fun x hx=>⟨fun k=>World.cell?_of_block (w:=W) (hs x (h.lt x hx) (hF x hx)),fun k=>World.frozen?_of_block (w:=W) (hs x (h.lt x hx) (hF x hx))⟩) hz;exact h2.at_ (fun x hx=>Nat.lt_of_lt_of_le (h.lt x hx) hz)
end SubM
end Go.Proofs.YtchklpedlbkgaaaDoor
namespace Go.Proofs.YtchklpedlbkgaaaDoor
section
open Go.RowKit Shp
open Expd (Bd fill keys find put Z0W)
def ResK (w:World) (L:List Bd) (t:Sh) (e:Ending) (w':World):Prop:=
 ∃q',e= .returned (.tuple #[shV (Expd.resolve L t).1 q',.int .i64 (Expd.resolve L t).2])/\SubM.Kept (fun b=>w.heap.size<=b) w' ((Expd.resolve L t).1,q')/\Below w.heap.size w w'
theorem Z3X (S:Nat->Prop) (W:World):SubM.Kept S W (Z0W,⟨none,0,none,0⟩):=SubM.zero_kept S W
theorem Z3A (t:Sh) (q:Ptr) (L:List Bd) (A:Option Addr) (cap:Nat) (w:World) (hq:ShAt w w.heap.size q t) (hL:BdsAt w w.heap.size A L) (hl:L.length<=1000) (hg:WGlobs w):
 Calls Tryd.prog 9 #[shV t q,.slice A L.length cap] w (ResK w L t):=by
 have hb0:Below w.heap.size w (fdW w t q):=Z0i (Z00 _ _) _;have c0:Sh5 (fdW w t q) w.heap.size 0 t q:=⟨by simp[fdW,go_sem],by simp[fdW,go_sem],by simp[fdW,go_sem],by simp[fdW,go_sem],by simp[fdW,go_sem]⟩;have hz0:w.heap.size+1 < (fdW w t q).heap.size:=by simp[fdW]
 have HB0:=Y1 hb0;have HZ0:=Y1 hz0;have HQ:=Y1 (hq.next hb0);have HC0:=Y1 c0;have HR0:=Y1 (Z5j w t q);have HLL:=Y1 (hL.next hb0);have HG:=Y1 (hg.next hb0);have HLN:=Y1 hl;obtain ⟨e0,e1,e2,e3,e4⟩:=c0;clear hb0 hq hL hl hg hz0;unfold shV;go_enter Tryd.func9,Tryd.ntmps9
 go_wp2_with fail
 change Calls _ _ _ (fdW w t q) _;generalize fdW w t q=W0 at HB0 HZ0 HQ HC0 HR0 HLL HG e0 e1 e2 e3 e4 ⊢;refine (Z1g t q W0 HQ.out HG.out).mono ?_;rintro e W1 ⟨rfl,hb1⟩;have hz1:=hb1.size;have HB1:=Y1 (HB0.out.trans (hb1.mono (by have:=HB0.out.size; omega)));have hR1:=HR0.out.keep hb1 HZ0.out;have HC1:=Y1 (HC0.out.keep (show w.heap.size < W0.heap.size by have:=HZ0.out; omega) hb1);have HQ1:=Y1 (HQ.out.next hb1);have HL1:=Y1 (HLL.out.next hb1);have HG1:=Y1 (HG.out.next hb1);have HR1:=Y1 hR1;have HZ1:=Y1 (show w.heap.size+1 < W1.heap.size by have:=HZ0.out; omega);clear hb1 hR1 hz1 e0 e1 e2 e3 e4 HB0 HZ0 HQ HC0 HR0 HLL HG;by_cases hc:check t=0
 {rw[hc];obtain ⟨hz,_,hr⟩:=Z0f hc;have HCK:=Y1 hc;obtain ⟨x0,x1,x2,x3,x4⟩:=HC1.out;simp only[Nat.zero_add] at x0 x1 x2 x3 x4;have HF:=Y1 (Z4k t q L A cap W1 HQ1.out hz hr HL1.out HLN.out);clear hc hz hr;unfold shV at HF
  go_wp2_with fail
  refine HF.out.mono ?_;rintro e W2 ⟨u,q',ok,rfl,hok,hu,hat,hb2⟩;have hb3:=Z02 hb2 (Z00 W2 (.cells (Y8 u q') 25));have hB3:=Z07 W2 u q';have hlt:=Nat.lt_of_lt_of_le HZ1.out hb2.size;have hat3:=hat.next (Z00 W2 (.cells (Y8 u q') 25));have hR2:=HR1.out.keep hb2 HZ1.out;have hR3:=HR1.out.keep hb3 HZ1.out;have hne:w.heap.size+1≠W2.heap.size:=by omega
  have HOK:=Y1 hok;have HU:=Y1 hu;clear hok hu hat hb2 HF x0 x1 x2 x3 x4;simp only;cases ok with
  | false=>
   obtain ⟨W3,hW3⟩: ∃W3,W2.alloc (.cells (Y8 u q') 25)=W3:=⟨_,rfl⟩;rw[hW3] at hR3 hb3;obtain ⟨⟨r0,r1,r2,r3,r4⟩,rf⟩:=hR3;have y0:=rf 0;have y1:=rf 1;have y2:=rf 2;have y3:=rf 3;have y4:=rf 4;have HB3:=Y1 hb3;clear rf hat3 hB3 hb3 hR2;go_wp2;have hn:put (find L) t=none:=by
    have:=HOK.out;cases e:put (find L) t with
    | none=>rfl
    | some y=>rw[e] at this; cases this
   have hr:=Expd.resolve_name HCK.out hn;refine bodyPost_ret (v:= .tuple #[.agg #[.int .i64 0,.string ⟨#[]⟩,.string ⟨#[]⟩,.slice none 0 0,.slice none 0 0],.int .i64 110]) (by simp[results,Tryd.results9,go_sem,r0,r1,r2,r3,r4]) rfl ?_;refine ⟨⟨none,0,none,0⟩, ?_, ?_, ?_⟩
   {rw[hr]; rfl}
   {rw[hr]; exact Z3X _ _}
   {exact Z0n (HB1.out.trans (HB3.out.mono (by have:=HB1.out.size; omega))) (Nat.le_succ _) _ _ _ _ _}
  | true=>
   have hput:=HU.out rfl;have HP:=Y1 hput;have HB3:=Y1 hb3;have HR3:=Y1 hR3;have HA3:=Y1 hat3;have HG3:=Y1 (HG1.out.next hb3);have HBX:=Y1 hB3;obtain ⟨_,⟨b0,b1,b2,b3,b4⟩,_⟩:=hB3;clear hput hb3 hR3 hR2 hat3 HOK HU;have HL3:=Y1 (show w.heap.size+1 < (W2.alloc (.cells (Y8 u q') 25)).heap.size from by simp; omega);have HW2:=Y1 hlt;clear hlt hne
   go_wp2_with fail
   generalize W2.alloc (.cells (Y8 u q') 25)=W3 at HB3 HR3 HA3 HG3 HBX HL3 b0 b1 b2 b3 b4 ⊢;refine (Z1g u q' W3 HA3.out HG3.out).mono ?_;rintro e W4 ⟨rfl,hb4⟩;have hR4:=HR3.out.keep hb4 HL3.out;have HB4:=Y1 ((HB1.out.trans (HB3.out.mono (by have:=HB1.out.size; omega))).trans (hb4.mono (by have:=HB1.out.size; have:=HB3.out.size; omega)));have HA4:=Y1 (HA3.out.next hb4);have HG4:=Y1 (HG3.out.next hb4);have HL4:=Y1 (Nat.lt_of_lt_of_le HL3.out hb4.size);have HR4:=Y1 hR4;clear b0 b1 b2 b3 b4;obtain ⟨_,⟨b0,b1,b2,b3,b4⟩,_⟩:=HBX.out.next hb4;clear hR4 hb4 HB3 HR3 HA3 HG3 HBX HL3;by_cases hcu:check u=0
   {rw[hcu];have HCU:=Y1 hcu;have HS:=Y1 (Z3S u q' W4 HA4.out HG4.out hcu);clear hcu
    go_wp2_with fail
    refine HS.out.mono ?_;rintro e W5 ⟨q5,F5,rfl,ho5,hF5,hb5⟩;obtain ⟨⟨r0,r1,r2,r3,r4⟩,rf⟩:=HR4.out.keep hb5 HL4.out;have y0:=rf 0;have y1:=rf 1;have y2:=rf 2;have y3:=rf 3;have y4:=rf 4;have HO5:=Y1 ho5;have HF5:=Y1 hF5;have HB5:=Y1 (HB4.out.trans (hb5.mono (by have:=HB4.out.size; omega)));obtain ⟨z,hz'⟩: ∃z,z=sorted u:=⟨_,rfl⟩;rw[<-hz'] at HO5 ⊢;have HZ:=Y1 hz';clear rf ho5 hF5 hb5 hz' b0 b1 b2 b3 b4;go_wp2;refine bodyPost_ret (v:= .tuple #[.agg (Y8 z q5),.int .i64 0]) (by simp[results,Tryd.results9,go_sem,r0,r1,r2,r3,r4]) rfl ?_;have hr:=Expd.resolve_ok HCK.out HP.out HCU.out;rw[<-HZ.out] at hr;have h5:=Z1a (b:=w.heap.size+1) HO5.out (fun x hx e=>by have:=HF5.out x hx; have:=HL4.out; omega) (.int .i64 z.kind) (.string ⟨z.of_.toArray⟩) (.string ⟨z.name.toArray⟩) (.slice q5.A z.names.length q5.c) (.slice q5.P z.parts.length q5.d);refine ⟨q5, ?_, ?_, ?_⟩
    {rw[hr]}
    {rw[hr]; exact SubM.own_kept h5 (fun x hx=>by have:=HF5.out x hx; have:=HB4.out.size; omega)}
    {exact Z0n HB5.out (Nat.le_succ _) _ _ _ _ _}}
   {have hcu': (check u !=0)=true:=by simpa using hcu
    have HCU:=Y1 hcu;obtain ⟨⟨r0,r1,r2,r3,r4⟩,rf⟩:=HR4.out;have y0:=rf 0;have y1:=rf 1;have y2:=rf 2;have y3:=rf 3;have y4:=rf 4;clear rf hcu;go_wp2;refine bodyPost_ret (v:= .tuple #[.agg #[.int .i64 0,.string ⟨#[]⟩,.string ⟨#[]⟩,.slice none 0 0,.slice none 0 0],.int .i64 (check u)]) (by simp[results,Tryd.results9,go_sem,r0,r1,r2,r3,r4]) rfl ?_;have hr:=Expd.resolve_great HCK.out HP.out HCU.out;refine ⟨⟨none,0,none,0⟩, ?_, ?_, ?_⟩
    {rw[hr]; rfl}
    {rw[hr]; exact Z3X _ _}
    {exact Z0n HB4.out (Nat.le_succ _) _ _ _ _ _}}}
 {have hc': (check t !=0)=true:=by simpa using hc
  have HCK:=Y1 hc;obtain ⟨⟨r0,r1,r2,r3,r4⟩,rf⟩:=HR1.out;have y0:=rf 0;have y1:=rf 1;have y2:=rf 2;have y3:=rf 3;have y4:=rf 4;clear rf hc;go_wp2;refine bodyPost_ret (v:= .tuple #[.agg #[.int .i64 0,.string ⟨#[]⟩,.string ⟨#[]⟩,.slice none 0 0,.slice none 0 0],.int .i64 (check t)]) (by simp[results,Tryd.results9,go_sem,r0,r1,r2,r3,r4]) rfl ?_;refine ⟨⟨none,0,none,0⟩, ?_, ?_, ?_⟩
  {rw[Expd.resolve_bad HCK.out]; rfl}
  {rw[Expd.resolve_bad HCK.out]; exact Z3X _ _}
  {exact Z0n HB1.out (Nat.le_succ _) _ _ _ _ _}}
end
end Go.Proofs.YtchklpedlbkgaaaDoor
