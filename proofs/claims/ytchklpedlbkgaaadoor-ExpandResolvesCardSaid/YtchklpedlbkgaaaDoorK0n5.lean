/- What the proofs of ExpandResolves want, part 5. -/
import Derived.Test.YtchklpedlbkgaaaDoorK0n4
set_option linter.unusedVariables false
set_option linter.unusedSimpArgs false
set_option linter.unusedSectionVars false
set_option maxRecDepth 100000
set_option maxHeartbeats 16000000
namespace Go.Proofs.YtchklpedlbkgaaaDoor
section
open Go.RowKit Shp
open Expd (Bd It)
theorem Z2x (s:ByteArray):s.data.toList.length=s.size:=by rw[<-Lib.size_eq]
def BdAt (w:World) (B g o:Nat) (b:Bd) (q:Ptr):Prop:=
 w.cell? ⟨g,o,none⟩=some (.string ⟨b.of_.toArray⟩)/\w.cell? ⟨g,o+1,none⟩=some (.string ⟨b.name.toArray⟩)/\Sh5 w g (o+2) b.sh q/\ShAt w B q b.sh/\b.of_.length<=9223372036854775807/\b.name.length<=9223372036854775807
theorem BdAt.of {w w':World} {B B' g o:Nat} {b:Bd} {q:Ptr} (h:BdAt w B g o b q) (hB:B<=B') (hg:g < B) (hc: ∀g k,g < B->w'.cell? ⟨g,k,none⟩=w.cell? ⟨g,k,none⟩):BdAt w' B' g o b q:=
 ⟨(hc _ _ hg).trans h.1,(hc _ _ hg).trans h.2.1,h.2.2.1.of (fun k=>hc g k hg),h.2.2.2.1.of hB hc,h.2.2.2.2⟩
def BdsAt (w:World) (B:Nat) (A:Option Addr) (l:List Bd):Prop:=
 l.length=0\/ ∃(g off:Nat) (qs:Nat->Ptr),A=some ⟨g,off,none⟩/\g < B/\ ∀i (h:i < l.length),BdAt w B g (off+i * 7) (l[i]'h) (qs i)
theorem BdsAt.of {w w':World} {B B':Nat} {A:Option Addr} {l:List Bd} (h:BdsAt w B A l) (hB:B<=B') (hc: ∀g k,g < B->w'.cell? ⟨g,k,none⟩=w.cell? ⟨g,k,none⟩):BdsAt w' B' A l:=by
 rcases h with h | ⟨g,off,qs,h1,h2,h3⟩
 {exact Or.inl h}
 {exact Or.inr ⟨g,off,qs,h1,Nat.lt_of_lt_of_le h2 hB,fun i hi=>(h3 i hi).of hB h2 hc⟩}
theorem BdsAt.keep {w w':World} {B B':Nat} {A:Option Addr} {l:List Bd} (h:BdsAt w B A l) (hb:Below B' w w') (hB:B<=B'):BdsAt w' B A l:=
 h.of (Nat.le_refl _) (fun g k hg=>hb.cell (p:=⟨g,k,none⟩) (Nat.lt_of_lt_of_le hg hB))
theorem BdsAt.next {w w':World} {A:Option Addr} {l:List Bd} (h:BdsAt w w.heap.size A l) (hb:Below w.heap.size w w'):BdsAt w' w'.heap.size A l:=
 h.of hb.size (fun g k hg=>hb.cell (p:=⟨g,k,none⟩) hg)
section
variable {H : Type} {enc : TypeId × Value -> H} {W : World} {base : Nat} {held : Bool}
section
variable {fuel : Nat} {cs : List Value} {x : DataW H × List MemPlace}
include fuel cs x
theorem Z4v (h:DataW.trod enc Tryd.prog W base (fun _=>true) held fuel 54 cs=some x):
 ∃(b:Bd) (q:Ptr),cs= [(.string ⟨b.of_.toArray⟩),.string ⟨b.name.toArray⟩,.int .i64 b.sh.kind,.string ⟨b.sh.of_.toArray⟩,.string ⟨b.sh.name.toArray⟩,.slice q.A b.sh.names.length q.c,.slice q.P b.sh.parts.length q.d]/\ShAt W W.heap.size q b.sh/\b.of_.length<=9223372036854775807/\b.name.length<=9223372036854775807:=by
 obtain ⟨xs,n,hn,_,hlen,hxl,hf⟩:=DataW.trod_struct Tryd.underlying54 h;have hC:Tryd.prog.cellsOf 54=7:=by kernel_rfl
 have c0:Tryd.prog.cellsOf 9=1:=by kernel_rfl
 have c1:Tryd.prog.cellsOf 9=1:=by kernel_rfl
 have c2:Tryd.prog.cellsOf 25=5:=by kernel_rfl
 rw[hC] at hlen
 match cs,hlen with
 | [a0,a1,a2,a3,a4,a5,a6],_=>
  have f0:=hf 0 _ rfl;have f1:=hf 1 _ rfl;have f2:=hf 2 _ rfl;have hz:xs.length=3:=hxl;change DataW.trod enc _ W base _ held n 9 (([a0,a1,a2,a3,a4,a5,a6].drop 0).take (Tryd.prog.cellsOf 9))=_ at f0;change DataW.trod enc _ W base _ held n 9 (([a0,a1,a2,a3,a4,a5,a6].drop 1).take (Tryd.prog.cellsOf 9))=_ at f1;change DataW.trod enc _ W base _ held n 25 (([a0,a1,a2,a3,a4,a5,a6].drop 2).take (Tryd.prog.cellsOf 25))=_ at f2;rw[c0,List.getElem?_eq_getElem (by omega)] at f0;rw[c1,List.getElem?_eq_getElem (by omega)] at f1;rw[c2,List.getElem?_eq_getElem (by omega)] at f2;obtain ⟨b0,hb0,_,hm0⟩:=DataW.trod_string Tryd.underlying9 f0;obtain ⟨b1,hb1,_,hm1⟩:=DataW.trod_string Tryd.underlying9 f1;obtain ⟨t,q,hb2,hat⟩:=Z30 _ f2;simp at hb0 hb1 hb2;obtain ⟨h2,h3,h4,h5,h6⟩:=hb2;subst hb0 hb1 h2 h3 h4 h5 h6;exact ⟨⟨b0.data.toList,b1.data.toList,t⟩,q,rfl,hat,by unfold maxLen at hm0; rw[Z2x]; exact hm0,by unfold maxLen at hm1; rw[Z2x]; exact hm1⟩
theorem Z8j (h:DataW.trod enc Tryd.prog W base (fun _=>true) held fuel 26 cs=some x):
 ∃(A:Option Addr) (l:List Bd) (c:Nat),cs= [.slice A l.length c]/\BdsAt W W.heap.size A l/\l.length<=9223372036854775807/\l.length<=c:=by
 rcases Go.Deep.open_slice Tryd.underlying26 h with ⟨hcs,_⟩ | ⟨a,len,cap,m,n,D,Pl,hcs,hb,hl,hm,hmm,hx,hi⟩
 {exact ⟨none,[],0,hcs,Or.inl rfl,Nat.zero_le _,Nat.zero_le _⟩}
 {have hC:Tryd.prog.cellsOf 54=7:=by kernel_rfl
  unfold maxLen at hm;have hmc:m=cap:=by simpa using hmm
  subst hmc;have hv: ∀i,∃u:Bd×Ptr,i < m->W.cell? (a.add (i * 7+0))=some (.string ⟨u.1.of_.toArray⟩)/\W.cell? (a.add (i * 7+1))=some (.string ⟨u.1.name.toArray⟩)/\W.cell? (a.add (i * 7+2))=some (.int .i64 u.1.sh.kind)/\W.cell? (a.add (i * 7+3))=some (.string ⟨u.1.sh.of_.toArray⟩)/\W.cell? (a.add (i * 7+4))=some (.string ⟨u.1.sh.name.toArray⟩)/\
   W.cell? (a.add (i * 7+5))=some (.slice u.2.A u.1.sh.names.length u.2.c)/\W.cell? (a.add (i * 7+6))=some (.slice u.2.P u.1.sh.parts.length u.2.d)/\ShAt W W.heap.size u.2 u.1.sh/\u.1.of_.length<=9223372036854775807/\u.1.name.length<=9223372036854775807:=by
   intro i;by_cases him:i < m
   {obtain ⟨cs',hc,ht⟩:=hi i him;rw[hC] at hc;obtain ⟨u,q,rfl,hat⟩:=Z4v ht;obtain ⟨_,hcl,hat'⟩:=World.cells?_some hc;refine ⟨(u,q),fun _=>⟨?_, ?_, ?_, ?_, ?_, ?_, ?_,hat⟩⟩
    {rw[<-Go.Deep.add_add]; exact hat' 0 (by omega)}
    {rw[<-Go.Deep.add_add]; exact hat' 1 (by omega)}
    {rw[<-Go.Deep.add_add]; exact hat' 2 (by omega)}
    {rw[<-Go.Deep.add_add]; exact hat' 3 (by omega)}
    {rw[<-Go.Deep.add_add]; exact hat' 4 (by omega)}
    {rw[<-Go.Deep.add_add]; exact hat' 5 (by omega)}
    {rw[<-Go.Deep.add_add]; exact hat' 6 (by omega)}}
   {exact ⟨(⟨[],[],⟨0,[],[],[],[]⟩⟩,⟨none,0,none,0⟩),fun h=>absurd h him⟩}
  let f:=fun i=>(hv i).choose
  have hf2: ∀i,i < m->W.cell? (a.add (i * 7+0))=some (.string ⟨(f i).1.of_.toArray⟩)/\W.cell? (a.add (i * 7+1))=some (.string ⟨(f i).1.name.toArray⟩)/\W.cell? (a.add (i * 7+2))=some (.int .i64 (f i).1.sh.kind)/\W.cell? (a.add (i * 7+3))=some (.string ⟨(f i).1.sh.of_.toArray⟩)/\W.cell? (a.add (i * 7+4))=some (.string ⟨(f i).1.sh.name.toArray⟩)/\
   W.cell? (a.add (i * 7+5))=some (.slice (f i).2.A (f i).1.sh.names.length (f i).2.c)/\W.cell? (a.add (i * 7+6))=some (.slice (f i).2.P (f i).1.sh.parts.length (f i).2.d)/\ShAt W W.heap.size (f i).2 (f i).1.sh/\(f i).1.of_.length<=9223372036854775807/\(f i).1.name.length<=9223372036854775807:=fun i=>(hv i).choose_spec
  have hln: ((List.range len).map fun i=>(f i).1).length=len:=by simp
  refine ⟨some a,(List.range len).map fun i=>(f i).1,m,by rw[hln]; exact hcs, ?_,by rw[hln]; omega,by rw[hln]; exact hl⟩;by_cases h0:len=0
  {exact Or.inl (by simp[h0])}
  {obtain ⟨b,off,spot⟩:=a;have h1:=(hf2 0 (by omega)).1;have hspot:spot=none:=by simpa[Addr.add] using World.cell?_spot h1
   subst hspot;have hplain: ∀k,(⟨b,off,none⟩:Addr).add k=⟨b,off+k,none⟩:=fun k=>Z0o b off k;refine Or.inr ⟨b,off,fun i=>(f i).2,rfl, ?_,fun i hi'=> ?_⟩
   {rw[hplain] at h1;rcases Nat.lt_or_ge b W.heap.size with h' | h'
    {exact h'}
    {simp[World.cell?,Array.getElem?_eq_none h'] at h1}}
   {have hin:i < len:=by simpa using hi'
    obtain ⟨g0,g1,g2,g3,g4,g5,g6,g7⟩:=hf2 i (by omega);rw[hplain] at g0 g1 g2 g3 g4 g5 g6;simp only[List.getElem_map,List.getElem_range];exact ⟨g0,by rw[<-g1]; congr 2,⟨by rw[<-g2]; congr 2,by rw[<-g3]; congr 2,by rw[<-g4]; congr 2,by rw[<-g5]; congr 2,by rw[<-g6]; congr 2⟩,g7⟩}}}
end
theorem Z8k {A:Option Addr} {n c:Nat} {d:DataW H} {p:List MemPlace} (h:DataW.Trod enc Tryd.prog W base (fun _=>true) held 26 (.slice A n c) d p):
 ∃l:List Bd,n=l.length/\BdsAt W W.heap.size A l/\l.length<=9223372036854775807/\l.length<=c:=by
 obtain ⟨fuel,hf⟩:=h;obtain ⟨A',l,c',hcs,h1,h2,h3⟩:=Z8j hf;simp[Value.cells] at hcs;obtain ⟨rfl,rfl,rfl⟩:=hcs;exact ⟨l,rfl,h1,h2,h3⟩
end
def ItAt (w:World) (B g o:Nat) (b:It) (q:Ptr):Prop:=
 w.cell? ⟨g,o,none⟩=some (.int .i64 b.kind)/\w.cell? ⟨g,o+1,none⟩=some (.string ⟨b.name.toArray⟩)/\Sh5 w g (o+2) b.sh q/\ShAt w B q b.sh/\True/\b.name.length<=9223372036854775807
theorem ItAt.of {w w':World} {B B' g o:Nat} {b:It} {q:Ptr} (h:ItAt w B g o b q) (hB:B<=B') (hg:g < B) (hc: ∀g k,g < B->w'.cell? ⟨g,k,none⟩=w.cell? ⟨g,k,none⟩):ItAt w' B' g o b q:=
 ⟨(hc _ _ hg).trans h.1,(hc _ _ hg).trans h.2.1,h.2.2.1.of (fun k=>hc g k hg),h.2.2.2.1.of hB hc,h.2.2.2.2⟩
def ItsAt (w:World) (B:Nat) (A:Option Addr) (l:List It):Prop:=
 l.length=0\/ ∃(g off:Nat) (qs:Nat->Ptr),A=some ⟨g,off,none⟩/\g < B/\ ∀i (h:i < l.length),ItAt w B g (off+i * 7) (l[i]'h) (qs i)
theorem ItsAt.of {w w':World} {B B':Nat} {A:Option Addr} {l:List It} (h:ItsAt w B A l) (hB:B<=B') (hc: ∀g k,g < B->w'.cell? ⟨g,k,none⟩=w.cell? ⟨g,k,none⟩):ItsAt w' B' A l:=by
 rcases h with h | ⟨g,off,qs,h1,h2,h3⟩
 {exact Or.inl h}
 {exact Or.inr ⟨g,off,qs,h1,Nat.lt_of_lt_of_le h2 hB,fun i hi=>(h3 i hi).of hB h2 hc⟩}
theorem ItsAt.keep {w w':World} {B B':Nat} {A:Option Addr} {l:List It} (h:ItsAt w B A l) (hb:Below B' w w') (hB:B<=B'):ItsAt w' B A l:=
 h.of (Nat.le_refl _) (fun g k hg=>hb.cell (p:=⟨g,k,none⟩) (Nat.lt_of_lt_of_le hg hB))
theorem ItsAt.next {w w':World} {A:Option Addr} {l:List It} (h:ItsAt w w.heap.size A l) (hb:Below w.heap.size w w'):ItsAt w' w'.heap.size A l:=
 h.of hb.size (fun g k hg=>hb.cell (p:=⟨g,k,none⟩) hg)
end
section
open Go.RowKit Shp
abbrev Ky:=List UInt8×List UInt8
def keyV (k:Ky):Value:= .agg #[.string ⟨k.1.toArray⟩,.string ⟨k.2.toArray⟩]
def Fine (k:Ky):Prop:=k.1.length<=9223372036854775807/\k.2.length<=9223372036854775807
theorem Zb5:laidOutB Tryd.prog=true:=by kernel_rfl
theorem Zbv: (76:TypeId) < Tryd.prog.types.size:=of_decide_eq_true (by kernel_rfl)
theorem Zb6: (match Tryd.prog.underlying 76 with | some (.array _ _) | some (.struct _)=>true | _=>false)=true:=by kernel_rfl
theorem Zbw:Tryd.prog.keyType 76=true:=by kernel_rfl
theorem Z5Z:Tryd.prog.cellsOf 76=2:=by kernel_rfl
theorem Zbx:Tryd.prog.cellsOf 9=1:=by kernel_rfl
theorem Z2P:Maps.Keyed Tryd.prog 76:=Maps.Keyed.of_law (deep_law_laid Zb5 (m:=2) (by omega) Zbv (by kernel_rfl) Zb6)
theorem Zb7: ∃m,Tryd.prog.types.size=m+2:=⟨Tryd.prog.types.size - 2,by have:2<=Tryd.prog.types.size:=of_decide_eq_true (by kernel_rfl); omega⟩
def KL (k:Ky):Lit:= .string (keyBytes [.string k.1,.string k.2])
theorem keyOf_keyV {k:Ky} (h:Fine k):keyOf Tryd.prog 76 (keyV k)=some (KL k):=by
 obtain ⟨m,hm⟩:=Zb7;have h1: (⟨k.1.toArray⟩:ByteArray).size<=maxLen:=by rw[Z0z]; unfold maxLen; exact h.1
 have h2: (⟨k.2.toArray⟩:ByteArray).size<=maxLen:=by rw[Z0z]; unfold maxLen; exact h.2
 unfold keyOf keyV KL;simp only[Tryd.underlying76];rw[if_pos (by simp[Zbw,Value.formed,Tryd.underlying76,Z5Z]),hm];unfold Program.keyLits;simp only[Tryd.underlying76,Value.cells];rw[if_pos ⟨by rw[Z5Z]; rfl,by simp⟩];simp[Zbx,Program.keyLits,Tryd.underlying9,h1,h2]
theorem KL_inj {k k':Ky} (h:Fine k) (h':Fine k') (e:KL k=KL k'):k=k':=by
 have h1:=keyOf_keyV h;rw[e] at h1;have:=Z2P.inj h1 (keyOf_keyV h');unfold keyV at this;simp at this;exact Prod.ext this.1 this.2
theorem KL_key (k:Ky):WideAt.IsKeyLit (KL k):=trivial
def slEl:Value->Option (DataW Unit×List MemPlace)
 | .slice none n c=>some (.agg [.lit (.int .i64 (n:Int)),.lit (.int .i64 (c:Int))],[])
 | .slice (some ⟨g,o,none⟩) n c=>some (.agg [.lit (.int .i64 (g:Int)),.lit (.int .i64 (o:Int)),.lit (.int .i64 (n:Int)),.lit (.int .i64 (c:Int))],[])
 | _=>none
theorem slEl_inj {v v':Value} {d:DataW Unit} {p p':List MemPlace} (h:slEl v=some (d,p)) (h':slEl v'=some (d,p')):v=v':=by
 unfold slEl at h h';split at h <;> split at h' <;> simp only[Option.some.injEq,Prod.mk.injEq,reduceCtorEq] at h h'
 {obtain ⟨rfl,_⟩:=h;simp at h';obtain ⟨⟨h1,h2⟩,_⟩:=h';congr 1 <;> omega}
 {obtain ⟨rfl,_⟩:=h;simp at h'}
 {obtain ⟨rfl,_⟩:=h;simp at h'}
 {obtain ⟨rfl,_⟩:=h;simp at h';obtain ⟨⟨h1,h2,h3,h4⟩,_⟩:=h';simp only[Value.slice.injEq,Option.some.injEq,Addr.mk.injEq,and_true];refine ⟨⟨?_, ?_⟩, ?_, ?_⟩ <;> omega}
theorem zero_sl (w:World): (zeroValue 90).run Tryd.prog w= .ok (.slice none 0 0) w:=by kernel_rfl
def Mp (W:World) (b N:Nat) (S:List Ky) (m:Ky->Value):Prop:=
 ∃D:DataW Unit,W.ownsMap Tryd.prog 76 slEl b N D/\Maps.size D=S.length/\S.Nodup/\(∀k∈S,Fine k)/\(∀k,Fine k->(Maps.has D (KL k)=true ↔ k∈S))/\
  ∀k,Fine k-> ∃p,slEl (if k∈S then m k else .slice none 0 0)=some (D.atKey (KL k) (.agg [.lit (.int .i64 0),.lit (.int .i64 0)]),p)
theorem Mp.made (W:World) (m:Ky->Value):Mp (W.alloc (.map #[] 0)) W.heap.size 0 [] m:=by
 refine ⟨.map [],World.ownsMap_made _ _ _ _,rfl,List.nodup_nil,nofun,fun k _=>⟨fun h=>by simp[Maps.has] at h,nofun⟩,fun k _=>⟨[], ?_⟩⟩;rw[if_neg (by simp)];rfl
theorem Mp.lt {W:World} {b N:Nat} {S:List Ky} {m:Ky->Value} (h:Mp W b N S m):b < W.heap.size:=by obtain ⟨_,h,_⟩:=h; exact h.lt
theorem Mp.kept {W W':World} {b N:Nat} {S:List Ky} {m:Ky->Value} (h:Mp W b N S m) {row:Option Nat} (hg:W.grownBy W' row) (hne:some b≠row):Mp W' b N S m:=by
 obtain ⟨D,h1,h2⟩:=h; exact ⟨D,h1.kept hg hne,h2⟩
theorem Mp.same {W W':World} {b N:Nat} {S:List Ky} {m:Ky->Value} (h:Mp W b N S m) (hb:W'.heap[b]? =W.heap[b]?):Mp W' b N S m:=by
 obtain ⟨D,⟨es,clock,h0,h1⟩,h2⟩:=h; exact ⟨D,⟨es,clock,hb.trans h0,h1⟩,h2⟩
theorem Mp.look {W:World} {b N:Nat} {S:List Ky} {m:Ky->Value} (h:Mp W b N S m) {k:Ky} (hk:Fine k):
 (Instr.lookup 67 (.map (some b)) (keyV k) false).run Tryd.prog W= .ok (if k∈S then m k else .slice none 0 0) W:=by
 obtain ⟨D,h1,_,_,_,_,h6⟩:=h;obtain ⟨v,ps,hr,hv⟩:=h1.lookup Z2P Tryd.underlying67 (zero_sl W) (zd:= .agg [.lit (.int .i64 0),.lit (.int .i64 0)]) (zp:= []) rfl (keyOf_keyV hk);obtain ⟨p,hp⟩:=h6 k hk;rw[hr,slEl_inj hv hp]
theorem Mp.len {W:World} {b N:Nat} {S:List Ky} {m:Ky->Value} (h:Mp W b N S m) (ty:TypeId):
 (Builtin.len_ #[67] ty #[.map (some b)]).run Tryd.prog W= .ok (.int .i64 S.length) W:=by
 obtain ⟨D,h1,h2,_⟩:=h;rw[h1.len Tryd.underlying67 ty,h2]
theorem Mp.put {W:World} {b N:Nat} {S:List Ky} {m:Ky->Value} (h:Mp W b N S m) {k:Ky} (hk:Fine k) (hN:N < maxLen) {v:Value} {z:DataW Unit×List MemPlace} (hv:slEl v=some z):
 ∃W',(Instr.mapUpdate 67 (.map (some b)) (keyV k) v).run Tryd.prog W= .ok () W'/\Mp W' b (N+1) (if k∈S then S else k::S) (fun x=>if x=k then v else m x)/\W.mapTurned W' b:=by
 obtain ⟨D,h1,h2,h3,h4,h5,h6⟩:=h;obtain ⟨W',hr,ho,hg⟩:=h1.store Z2P Tryd.underlying67 hN (keyOf_keyV hk) (ps:=z.2) (d:=z.1) (by rw[hv]);have hT:=h1.tidy Z2P;have hsz:=Maps.size_put (k:=KL k) hT z.1;have hmem: ∀x,x∈(if k∈S then S else k::S) ↔ x=k\/x∈S:=fun x=>by
  by_cases e:k∈S
  {rw[if_pos e]; exact ⟨Or.inr,fun h=>h.elim (fun h=>h▸e) id⟩}
  {rw[if_neg e]; exact List.mem_cons}
 refine ⟨W',hr,⟨D.put (KL k) z.1,ho, ?_, ?_, ?_, ?_, ?_⟩,hg⟩
 {rw[hsz,h2];by_cases e:k∈S
  {rw[if_pos ((h5 k hk).2 e),if_pos e]}
  {rw[if_neg (fun h=>e ((h5 k hk).1 h)),if_neg e]; rfl}}
 {by_cases e:k∈S
  {rw[if_pos e]; exact h3}
  {rw[if_neg e]; exact List.nodup_cons.2 ⟨e,h3⟩}}
 {intro x hx;rcases (hmem x).1 hx with rfl | hx
  {exact hk}
  {exact h4 x hx}}
 {intro x hx;rw[hmem];by_cases e:x=k
  {subst e;exact ⟨fun _=>Or.inl rfl,fun _=>Maps.has_put_same h1.isMap (KL_key _) _⟩}
  {rw[Maps.has_put_other (fun h=>e (KL_inj hx hk h)),h5 x hx];exact ⟨Or.inr,fun h=>h.resolve_left e⟩}}
 {intro x hx;by_cases e:x=k
  {subst e;refine ⟨z.2, ?_⟩;rw[if_pos ((hmem _).2 (Or.inl rfl))];simp only[if_true];rw[Maps.atKey_put_same h1.isMap (KL_key _),hv]}
  {obtain ⟨p,hp⟩:=h6 x hx;refine ⟨p, ?_⟩;rw[Maps.atKey_put_other (fun h=>e (KL_inj hx hk h)), <-hp];by_cases e2:x∈S
   {rw[if_pos ((hmem x).2 (Or.inr e2)),if_pos e2]; simp only[if_neg e]}
   {rw[if_neg (fun h=>e2 (((hmem x).1 h).resolve_left e)),if_neg e2]}}}
theorem Mp.del {W:World} {b N:Nat} {S:List Ky} {m:Ky->Value} (h:Mp W b N S m) {k:Ky} (hk:Fine k) (ty:TypeId):
 ∃W',(Builtin.delete_ #[67,76] ty #[.map (some b),keyV k]).run Tryd.prog W= .ok (.tuple #[]) W'/\Mp W' b N (S.filter (· ≠k)) m/\W.mapTurned W' b:=by
 obtain ⟨D,h1,h2,h3,h4,h5,h6⟩:=h;obtain ⟨W',hr,ho,hg⟩:=h1.drop Z2P Tryd.underlying67 (keyOf_keyV hk) ty;have hT:=h1.tidy Z2P;have hsz:=Maps.size_del (k:=KL k) hT;have hmem: ∀x,x∈S.filter (· ≠k) ↔ x∈S/\x≠k:=fun x=>by simp[List.mem_filter]
 have hlen: (S.filter (· ≠k)).length+(if k∈S then 1 else 0)=S.length:=by
  clear h2 h4 h5 h6 hsz hmem;induction S with
  | nil=>rfl
  | cons a S ih=>
   rw[List.nodup_cons] at h3;have:=ih h3.2;by_cases e:a=k
   {subst e;have hf:S.filter (· ≠a)=S:=List.filter_eq_self.2 (fun x hx=>by simp; rintro rfl; exact h3.1 hx)
    rw[List.filter_cons_of_neg (by simp),hf,if_pos (by simp)]; rfl}
   {rw[List.filter_cons_of_pos (by simp[e]),List.length_cons,List.length_cons];have: (k∈a::S) ↔ k∈S:=by simp[Ne.symm e]
    by_cases e2:k∈S
    {rw[if_pos (this.2 e2)]; rw[if_pos e2] at *; omega}
    {rw[if_neg (fun h=>e2 (this.1 h))]; rw[if_neg e2] at *; omega}}
 refine ⟨W',hr,⟨D.del (KL k),ho, ?_, ?_, ?_, ?_, ?_⟩,hg⟩
 {rw[h2] at hsz;by_cases e:k∈S
  {rw[if_pos ((h5 k hk).2 e)] at hsz; rw[if_pos e] at hlen; omega}
  {rw[if_neg (fun h=>e ((h5 k hk).1 h))] at hsz; rw[if_neg e] at hlen; omega}}
 {exact h3.filter _}
 {exact fun x hx=>h4 x ((hmem x).1 hx).1}
 {intro x hx;rw[hmem];by_cases e:x=k
  {subst e;rw[Maps.has_del_same];exact ⟨nofun,fun h=>absurd rfl h.2⟩}
  {rw[Maps.has_del_other (fun h=>e (KL_inj hx hk h)),h5 x hx];exact ⟨fun h=>⟨h,e⟩,fun h=>h.1⟩}}
 {intro x hx;by_cases e:x=k
  {subst e;refine ⟨[], ?_⟩;rw[if_neg (fun h=>((hmem _).1 h).2 rfl),Maps.atKey_del_same]; rfl}
  {obtain ⟨p,hp⟩:=h6 x hx;refine ⟨p, ?_⟩;rw[Maps.atKey_del_other (fun h=>e (KL_inj hx hk h)), <-hp];by_cases e2:x∈S
   {rw[if_pos ((hmem x).2 ⟨e2,e⟩),if_pos e2]}
   {rw[if_neg (fun h=>e2 ((hmem x).1 h).1),if_neg e2]}}}
end
end Go.Proofs.YtchklpedlbkgaaaDoor
namespace Go.Proofs.YtchklpedlbkgaaaDoor
open Go.RowKit
def also (d:Nat->Bool) (i:Nat):Nat->Bool:=fun j=>cond (Nat.beq j i) true (d j)
section
variable {P : Program} {ops : Array Oper} {Q : Exit -> Act -> World -> Prop}
def StepInv (P:Program) (ops:Array Oper) (Q:Exit->Act->World->Prop) (A: (Nat->Value)->Act) (I: (Nat->Bool)->(Nat->Value)->World->Prop) (i:Nat):Prop:=
 ∀o,ops[i]? =some o-> ∀(d:Nat->Bool) (u:Nat->Value) (W:World),I d u W->d i=false->(∀j,waits o j=true->d j=true)->
  wpOp P ops Q i (fun a' w'=> ∃v,a'=A (upd u i v)/\I (also d i) (upd u i v) w') (A u) W
def StepsInv (P:Program) (ops:Array Oper) (Q:Exit->Act->World->Prop) (A: (Nat->Value)->Act) (I: (Nat->Bool)->(Nat->Value)->World->Prop) (rs:List Nat):Prop:=
 ∀i∈rs,StepInv P ops Q A I i
section
variable {A : (Nat -> Value) -> Act} {I : (Nat -> Bool) -> (Nat -> Value) -> World -> Prop}
include A I
theorem StepsInv.nil:StepsInv P ops Q A I []:=fun _ h=>by cases h
theorem StepsInv.cons {i:Nat} {rs:List Nat} (o:Oper) (ho:ops[i]? =some o)
 (h: ∀(d:Nat->Bool) (u:Nat->Value) (W:World) (K':Act->World->Prop),I d u W->d i=false->(∀j,waits o j=true->d j=true)->
  Shut (∀v w',I (also d i) (upd u i v) w'->K' (A (upd u i v)) w')->
  if Region.wanted o (yielded ops (A u).tmps)=true then Oper.wp P o (A u) W K' Q else K' ((A u).put o.dst undef) W)
 (hs:StepsInv P ops Q A I rs):StepsInv P ops Q A I (i::rs):=fun j hj=>by
 rcases List.mem_cons.1 hj with rfl | hj
 {intro o' ho' d u W hI hd hw;rw[ho] at ho';obtain rfl:o=o':=Option.some.inj ho';exact wpOp_step ho (fun K' hK=>h d u W K' hI hd hw (fun v w' h1=>hK _ _ ⟨v,rfl,h1⟩))}
 {exact hs j hj}
end
theorem Z76 (listed:Array Bool) {i:Nat} (hi:i < listed.size): (fun j=>(listed.setIfInBounds i true).getD j false)=also (fun j=>listed.getD j false) i:=by
 funext j;unfold also;by_cases h:j=i
 {subst h;have:Nat.beq j j=true:=Nat.beq_refl j;rw[this];simp[hi]}
 {have hb:Nat.beq j i=false:=by cases hb:Nat.beq j i <;> first | rfl | exact absurd (Nat.eq_of_beq_eq_true hb) h
  rw[hb];exact getD_set_ne false (Ne.symm h)}
theorem Zby (A: (Nat->Value)->Act) (I: (Nat->Bool)->(Nat->Value)->World->Prop) (hl:lowAfter ops=true)
 (hstep:StepsInv P ops Q A I (List.range ops.size))
 (hdone: ∀d u W,I d u W->(∀j,j < ops.size->d j=true)->Q .normal (A u) W):
 ∀(fuel:Nat) (listed:Array Bool) (u:Nat->Value) (W:World),listed.size=ops.size->listed.toList.count false<=fuel->I (fun j=>listed.getD j false) u W->
  wpAny P .any ops Q fuel listed (A u) W:=by
 intro fuel;induction fuel with
 | zero=>
  intro listed u W hsz hc hI;have hr:Region.ready .any ops listed= []:=by
   refine List.eq_nil_iff_forall_not_mem.2 fun j hj=> ?_;obtain ⟨h1,o,ho,_⟩:=mem_ready.1 hj;have hjs:j < listed.size:=by
    rw[hsz];rcases Nat.lt_or_ge j ops.size with h | h
    {exact h}
    {rw[Array.getElem?_eq_none h] at ho; cases ho}
   refine Z4l listed.toList (by omega) j ?_;simp[hjs] at h1 ⊢;exact h1
  exact ⟨hr,hdone _ u W hI fun j hj=>Z1Y hl listed hr hsz (j+1) j (by omega) hj⟩
 | succ fuel ih=>
  intro listed u W hsz hc hI;refine ⟨fun hr=>hdone _ u W hI fun j hj=>Z1Y hl listed hr hsz (j+1) j (by omega) hj,fun i hi=> ?_⟩;obtain ⟨h1,o,ho,hall⟩:=mem_ready.1 hi;have his:i < ops.size:=by
   rcases Nat.lt_or_ge i ops.size with h | h
   {exact h}
   {rw[Array.getElem?_eq_none h] at ho; cases ho}
  have hil:i < listed.size:=by omega
  have hdi:listed.getD i false=false:=by simp[hil] at h1 ⊢; exact h1
  have hdep: ∀j,waits o j=true->listed.getD j false=true:=fun j hj=>by
   obtain ⟨e,he,hb⟩:=Array.any_eq_true'.1 hj;simp only[Bool.and_eq_true,beq_iff_eq] at hb;obtain ⟨hb,rfl⟩:=hb;exact hall e he hb
  refine wpOp_mono (fun a' w' h=> ?_) (hstep i (List.mem_range.2 his) o ho (fun j=>listed.getD j false) u W hI hdi hdep);obtain ⟨v,rfl,hI'⟩:=h;rw[<-Z76 listed hil] at hI';refine ih _ _ _ (by simpa using hsz) ?_ hI';have h2:listed.toList[i]? =some false:=by simp[hil] at h1 ⊢; exact h1
  have:=Z4U listed.toList i h2;rw[Array.toList_setIfInBounds];omega
theorem Z4x {id:Nat} {w:World} {rs:List Nat} (A: (Nat->Value)->Act) (u0:Nat->Value) (I: (Nat->Bool)->(Nat->Value)->World->Prop) (hm:P.follows .mixedOrders=true) (hl:lowAfter ops=true)
 (hrs:List.range ops.size=rs) (hI:I (fun _=>false) u0 w.drew) (hstep:StepsInv P ops Q A I rs)
 (hdone: ∀d u W,I d u W->(∀j,j < ops.size->d j=true)->Q .normal (A u) W):
 (Code.region id ops true).wp P Q (A u0) w:=by
 subst hrs;refine wp_region_any hm (Zby A I hl hstep hdone _ _ _ _ (by simp) ?_ ?_)
 {exact Nat.le_trans List.count_le_length (by simp)}
 {have e: (fun j=>(Array.replicate ops.size false).getD j false)=fun _=>false:=by
   funext j;rcases Nat.lt_or_ge j ops.size with h | h
   {simp[h]}
   {simp[h]}
  rw[e];exact hI}
theorem Z3v {o:Oper} {a:Act} {W W':World} {K':Act->World->Prop} {E:Prop} (hw:Region.wanted o (yielded ops a.tmps)=true)
 (hrun: (execOp a.eval o).run P W= .ok .skip W') (hK:K' (a.put o.dst undef) W'):
 if Region.wanted o (yielded ops a.tmps)=true then Oper.wp P o a W K' Q else E:=by
 rw[if_pos hw,Oper.wp,hrun,Oper.upon_skip];exact hK
end
end Go.Proofs.YtchklpedlbkgaaaDoor
namespace Go.Proofs.YtchklpedlbkgaaaDoor
section
open Go.RowKit Shp
theorem Z1U {d:Nat->Bool} (i:Nat) {k:Nat} (h:d k=true):also d i k=true:=by
 by_cases e:k=i
 {subst e; unfold also; rw[Nat.beq_refl]; rfl}
 {unfold also;have:Nat.beq k i=false:=by cases hb:Nat.beq k i <;> first | rfl | exact absurd (Nat.eq_of_beq_eq_true hb) e
  rw[this]; exact h}
theorem ne11 (d:Nat->Bool) {i j:Nat} (h:j≠i):also d i j=d j:=by
 unfold also;have:Nat.beq j i=false:=by cases hb:Nat.beq j i <;> first | rfl | exact absurd (Nat.eq_of_beq_eq_true hb) h
 rw[this]; rfl
theorem Z60 (d:Nat->Bool) (i:Nat):also d i i=true:=by unfold also; rw[Nat.beq_refl]; rfl
structure UpG (b B:Nat) (w w':World):Prop where
 os:w'.os=w.os
 tape:w'.tape=w.tape
 output:w'.output=w.output
 size:w.heap.size<=w'.heap.size
 block: ∀x,x < B->x≠b->w'.heap[x]? =w.heap[x]?
section
variable {b B : Nat} {w w' w'' : World}
theorem UpG.refl (b B:Nat) (w:World):UpG b B w w:=⟨rfl,rfl,rfl,Nat.le_refl _,fun _ _ _=>rfl⟩
theorem UpG.trans (h:UpG b B w w') (k:UpG b B w' w''):UpG b B w w'':=
 ⟨k.os.trans h.os,k.tape.trans h.tape,k.output.trans h.output,Nat.le_trans h.size k.size,fun x h1 h2=>(k.block x h1 h2).trans (h.block x h1 h2)⟩
theorem UpG.low (h:UpG b B w w') {B':Nat} (h1:B'<=B) (h2:B'<=b):Below B' w w':=⟨h.os,h.tape,h.output,h.size,fun x hx=>h.block x (by omega) (by omega)⟩
theorem UpG.cell (h:UpG b B w w') {g k:Nat} (h1:g < B) (h2:g≠b):w'.cell? ⟨g,k,none⟩=w.cell? ⟨g,k,none⟩:=World.cell?_of_block (w:=w) (h.block g h1 h2)
end
def plV (p:Nat×Nat):Value:= .pointer (some ⟨p.1,p.2 * 5,none⟩)
structure Grp (W:World) (B b N:Nat) (S:List Ky) (m:Ky->Value) (ps:Ky->List (Nat×Nat)):Prop where
 mp:Mp W b N S m
 row: ∀k∈S,W.ownsRow B 71 1 (m k) (ps k).length ((ps k).map plV)
 ne: ∀k∈S,ps k≠ []
 no: ∀k,k∉S->ps k= []
 far: ∀k∈S,∀k'∈S,k≠k'->(m k).ownBlock≠(m k').ownBlock
 len: ∀k,(ps k).length<=N
 bB:b < B
 Bw:B<=W.heap.size
theorem Grp.keep {W W':World} {B b N:Nat} {S:List Ky} {m:Ky->Value} {ps:Ky->List (Nat×Nat)} (h:Grp W B b N S m ps) (hb:Below W.heap.size W W'):Grp W' B b N S m ps:=by
 have hg:W.grownBy W' none:=⟨hb.os,hb.tape,hb.output,hb.size,fun k h1 _=>hb.block k h1⟩;exact ⟨h.mp.kept hg (by simp),fun k hk=>(h.row k hk).kept hg (by cases (m k).ownBlock <;> simp),h.ne,h.no,h.far,h.len,h.bB,Nat.le_trans h.Bw hb.size⟩
theorem Grp.own {W:World} {B b N:Nat} {S:List Ky} {m:Ky->Value} {ps:Ky->List (Nat×Nat)} (h:Grp W B b N S m ps) {k:Ky} (hk:k∈S):
 ∃g c,m k= .slice (some ⟨g,0,none⟩) (ps k).length c/\B<=g/\g < W.heap.size/\ ∀j (hj:j < (ps k).length),W.cell? ⟨g,j,none⟩=some (plV ((ps k)[j]'hj)):=by
 have hr:=h.row k hk;have hne:=h.ne k hk;have hlen:0 < (ps k).length:=List.length_pos_iff.2 hne;obtain ⟨g,c,e,_,hlt⟩:=hr.form hlen;have hB:=hr.lt g (by rw[e]; rfl);refine ⟨g,c,e,hB.1,hlt,fun j hj=> ?_⟩;have:=hr.cells (g:=g) (by rw[e]; rfl) j (plV ((ps k)[j]'hj)) (by simp[hj]);have ha: (⟨g,0,none⟩:Addr).add j=⟨g,j,none⟩:=by unfold Addr.add; split <;> simp_all
 rwa [ha] at this
structure UpM (b:Nat) (S:List Ky) (m:Ky->Value) (w:World) (S':List Ky) (m':Ky->Value) (w':World):Prop where
 os:w'.os=w.os
 tape:w'.tape=w.tape
 output:w'.output=w.output
 size:w.heap.size<=w'.heap.size
 block: ∀x,x < w.heap.size->x≠b->(∀k∈S,(m k).ownBlock≠some x)->w'.heap[x]? =w.heap[x]?
 rows: ∀k∈S',∀x,(m' k).ownBlock=some x->(∃k0∈S,(m k0).ownBlock=some x)\/w.heap.size<=x
section
variable {b : Nat} {S S' S'' : List Ky} {m m' m'' : Ky -> Value} {w w' w'' : World}
theorem UpM.refl (b:Nat) (S:List Ky) (m:Ky->Value) (w:World):UpM b S m w S m w:=⟨rfl,rfl,rfl,Nat.le_refl _,fun _ _ _ _=>rfl,fun k hk x hx=>Or.inl ⟨k,hk,hx⟩⟩
theorem UpM.trans (h:UpM b S m w S' m' w') (k:UpM b S' m' w' S'' m'' w''):UpM b S m w S'' m'' w'':=by
 refine ⟨k.os.trans h.os,k.tape.trans h.tape,k.output.trans h.output,Nat.le_trans h.size k.size,fun x h1 h2 h3=> ?_,fun y hy x hx=> ?_⟩
 {refine (k.block x (Nat.lt_of_lt_of_le h1 h.size) h2 (fun y hy e=> ?_)).trans (h.block x h1 h2 h3);rcases h.rows y hy x e with ⟨k0,h4,h5⟩ | h4
  {exact h3 k0 h4 h5}
  {omega}}
 {rcases k.rows y hy x hx with ⟨k0,h4,h5⟩ | h4
  {exact h.rows k0 h4 x h5}
  {exact Or.inr (Nat.le_trans h.size h4)}}
theorem Z2l (S:List Ky) (m:Ky->Value) (h:Below w.heap.size w w'):UpM b S m w S m w':=⟨h.os,h.tape,h.output,h.size,fun x h1 _ _=>h.block x h1,fun k hk x hx=>Or.inl ⟨k,hk,hx⟩⟩
theorem UpM.cell (h:UpM b S m w S' m' w') {g k:Nat} (h1:g < w.heap.size) (h2:g≠b) (h3: ∀k∈S,(m k).ownBlock≠some g):w'.cell? ⟨g,k,none⟩=w.cell? ⟨g,k,none⟩:=World.cell?_of_block (w:=w) (h.block g h1 h2 h3)
end
theorem Grp.notRow {W:World} {B b N:Nat} {S:List Ky} {m:Ky->Value} {ps:Ky->List (Nat×Nat)} (h:Grp W B b N S m ps) {x:Nat} (hx:x < B\/W.heap.size<=x): ∀k∈S,(m k).ownBlock≠some x:=fun k hk e=>by
 have:=(h.row k hk).lt x e;omega
section
variable (W2 : World) (h b N B : Nat) (S : List Ky) (m : Ky -> Value) (ps : Ky -> List (Nat × Nat)) (k : Ky) (p : Nat × Nat)
def slOf:Value:=if k∈S then m k else .slice none 0 0
def opVal (j:Nat):Option Value:=match j with
 | 0=>some (.pointer (some ⟨h,0,none⟩))
 | 1=>some (.map (some b))
 | 2=>some (keyV k)
 | 3=>some (.pointer (some ⟨h,0,none⟩))
 | 4=>some (.map (some b))
 | 5=>some (keyV k)
 | 6=>some (slOf S m k)
 | 7=>some (plV p)
 | _=>none
def OpFin (W:World):Prop:=
 ∃S' m',Grp W B b (N+1) S' m' (fun x=>if x=k then ps x++ [p] else ps x)/\(∀x,x∈S' ↔ x=k\/x∈S)/\UpM b S m W2 S' m' W
structure OpI (d:Nat->Bool) (u:Nat->Value) (W:World):Prop where
 vals: ∀j,d j=true-> ∀v,opVal h b S m k p j=some v->u j=v
 c0:W.cell? ⟨h,0,none⟩=some (.map (some b))
 c1:W.cell? ⟨h+1,0,none⟩=some (.string ⟨k.1.toArray⟩)
 c2:W.cell? ⟨h+1,1,none⟩=some (.string ⟨k.2.toArray⟩)
 e9:d 9=true->d 6=true/\d 8=true
 e10:d 10=true-> ∀j,j < 10->d j=true
 lo:d 9=false->Below W2.heap.size W2 W
 a8:d 8=true-> ∃z,u 8= .slice (some ⟨z,0,none⟩) 1 1/\(d 9=false->W2.heap.size<=z/\z < W.heap.size/\W.cell? ⟨z,0,none⟩=some (plV p))
 a9:d 9=true->d 10=false-> ∃g cp,u 9= .slice (some ⟨g,0,none⟩) ((ps k).length+1) cp/\W.ownsRow B 71 1 (.slice (some ⟨g,0,none⟩) ((ps k).length+1) cp) ((ps k).length+1) ((ps k).map plV++ [plV p])/\
  W2.grownBy W (slOf S m k).ownBlock/\((slOf S m k).ownBlock=some g\/W2.heap.size<=g)
 fin:d 10=true->OpFin W2 b N B S m ps k p W
variable {W2 h b N B S m ps k p} {d : Nat -> Bool} {u : Nat -> Value} {W : World}
section
variable (H : OpI W2 h b N B S m ps k p d u W) {i : Nat}
include H i
theorem OpI.vals' {v:Value} (hv: ∀v',opVal h b S m k p i=some v'->v=v'): ∀j,also d i j=true-> ∀v',opVal h b S m k p j=some v'->upd u i v j=v':=fun j hj v' hv'=>by
 by_cases hij:j=i
 {subst hij; rw[Z0g]; exact hv v' hv'}
 {rw[ne11 d hij] at hj; rw[Z01 u v hij]; exact H.vals j hj v' hv'}
theorem OpI.pure (hi:i < 8) {v:Value} (hv: ∀v',opVal h b S m k p i=some v'->v=v'):OpI W2 h b N B S m ps k p (also d i) (upd u i v) W:=by
 have k8:=ne11 d (i:=i) (j:=8) (by omega);have k9:=ne11 d (i:=i) (j:=9) (by omega);have k10:=ne11 d (i:=i) (j:=10) (by omega);have u8:=Z01 u (i:=i) (j:=8) v (by omega);have u9:=Z01 u (i:=i) (j:=9) v (by omega);refine ⟨H.vals' hv,H.c0,H.c1,H.c2, ?_, ?_, ?_, ?_, ?_, ?_⟩
 {rw[k9]; exact fun e=>⟨Z1U i (H.e9 e).1,Z1U i (H.e9 e).2⟩}
 {rw[k10]; exact fun e j hj=>Z1U i (H.e10 e j hj)}
 {rw[k9]; exact H.lo}
 {rw[k8,u8,k9]; exact H.a8}
 {rw[k9,k10,u9]; exact H.a9}
 {rw[k10]; exact H.fin}
theorem OpI.not10 (hi:i < 10) (hd:d i=false):d 10=false:=by
 cases e:d 10 with
 | false=>rfl
 | true=>have:=H.e10 e i hi; rw[hd] at this; cases this
theorem OpI.not9 (hi:i=6\/i=8) (hd:d i=false):d 9=false:=by
 cases e:d 9 with
 | false=>rfl
 | true=>rcases hi with rfl | rfl <;> have:=H.e9 e <;> rw[hd] at this <;> simp at this
end
end
theorem Zbz: (Tryd.prog.info? 71).map (fun i=>(i.zero,i.size,i.bytes))=some (some (.pointer none),1,8):=by kernel_rfl
section
variable {P : Program} {ρ : Operand -> Value} {o : Oper} {t : TypeId}
include P ρ o t
theorem Z77 {x ix:Operand} {ok:Bool} {W W':World} {v:Value} (ho:o.op=Op.lookup t x ix ok) (h: (Instr.lookup t (ρ x) (ρ ix) ok).run P W= .ok v W'): (execOp ρ o).run P W= .ok (.value v) W':=by
 simp[execOp,ho,h,Result.andThen]
theorem Z78 {m k x:Operand} {W W':World} (ho:o.op=Op.mapUpdate t m k x) (h: (Instr.mapUpdate t (ρ m) (ρ k) (ρ x)).run P W= .ok () W'): (execOp ρ o).run P W= .ok .skip W':=by
 simp[execOp,ho,h,Result.andThen]
end
theorem ZbA (p:Nat×Nat): ∀u∈ [plV p],u.oneCell'=true:=by intro u hu; simp at hu; subst hu; rfl
theorem Z9E (W:World) (B b N:Nat) (S:List Ky) (m:Ky->Value) (ps:Ky->List (Nat×Nat)) (k:Ky) (p:Nat×Nat) (hk:Fine k) (hG:Grp W B b N S m ps) (hN:N<=1000):
 Calls Tryd.prog 50 #[.agg #[.map (some b)],keyV k,plV p] W fun e W'=>e= .returned (.tuple #[])/\OpFin W b N B S m ps k p W':=by
 have hb2:Below W.heap.size W ((W.alloc (.cells #[.map (some b)] 69)).alloc (.cells #[.string ⟨k.1.toArray⟩,.string ⟨k.2.toArray⟩] 76)):=Z0d (Z00 _ _) _;have HB2:=Y1 hb2;have HG2:=Y1 (hG.keep hb2);have HG0:=Y1 hG;have HBw:=Y1 hG.Bw;have HbB:=Y1 hG.bB;have c0: ((W.alloc (.cells #[.map (some b)] 69)).alloc (.cells #[.string ⟨k.1.toArray⟩,.string ⟨k.2.toArray⟩] 76)).cell? ⟨W.heap.size,0,none⟩=some (.map (some b)):=by simp[go_sem]
 have c1: ((W.alloc (.cells #[.map (some b)] 69)).alloc (.cells #[.string ⟨k.1.toArray⟩,.string ⟨k.2.toArray⟩] 76)).cell? ⟨W.heap.size+1,0,none⟩=some (.string ⟨k.1.toArray⟩):=by simp[go_sem]
 have c2: ((W.alloc (.cells #[.map (some b)] 69)).alloc (.cells #[.string ⟨k.1.toArray⟩,.string ⟨k.2.toArray⟩] 76)).cell? ⟨W.heap.size+1,1,none⟩=some (.string ⟨k.2.toArray⟩):=by simp[go_sem]
 have C0:=Y1 c0;have C1:=Y1 c1;have C2:=Y1 c2;have HZ2:=Y1 (show W.heap.size+2=((W.alloc (.cells #[.map (some b)] 69)).alloc (.cells #[.string ⟨k.1.toArray⟩,.string ⟨k.2.toArray⟩] 76)).heap.size from by simp);obtain ⟨i0,hif,hz0,hz1,hz2⟩:=info_parts Zbz;clear hb2 hG c0 c1 c2;unfold keyV plV;go_enter Tryd.func50,Tryd.ntmps50;go_wp2;generalize (W.alloc (.cells #[.map (some b)] 69)).alloc (.cells #[.string ⟨k.1.toArray⟩,.string ⟨k.2.toArray⟩] 76)=W2 at HB2 HG2 C0 C1 C2 HZ2 ⊢;refine Z4x (rs:= [0,1,2,3,4,5,6,7,8,9,10])
  (fun u=> { tmps:=#[.agg #[.map (some b)],.agg #[.string ⟨k.1.toArray⟩,.string ⟨k.2.toArray⟩],.pointer (some ⟨p.1,p.2 * 5,none⟩),.pointer (some ⟨W.heap.size,0,none⟩),.pointer (some ⟨W.heap.size+1,0,none⟩),undef,u 0,u 1,u 2,u 3,u 4,u 5,u 6,u 7,u 8,u 9],defers:= [] })
  (fun _=>undef) (OpI W2 W.heap.size b N B S m ps k p) (by kernel_rfl) (by kernel_rfl) (by kernel_rfl) ?_ ?_ ?_
 {exact ⟨nofun,C0.out,C1.out,C2.out,nofun,nofun,fun _=>Y2.drew,nofun,nofun,nofun⟩}
 {refine StepsInv.cons _ rfl (fun d u W1 K' hI hd hw hK=> ?_) ?_
  {refine Z05 (v:= .pointer (some ⟨W.heap.size,0,none⟩)) (W':=W1) rfl ?_ (hK.out _ _ (hI.pure (by decide) (fun v' h=>by cases h; rfl)));go_simp}
  refine StepsInv.cons _ rfl (fun d u W1 K' hI hd hw hK=> ?_) ?_
  {have d0:u 0= .pointer (some ⟨W.heap.size,0,none⟩):=hI.vals 0 (hw 0 (by kernel_rfl)) _ rfl;have c0:=hI.c0;refine Z05 (v:= .map (some b)) (W':=W1) rfl ?_ (hK.out _ _ (hI.pure (by decide) (fun v' h=>by cases h; rfl)));go_simp}
  refine StepsInv.cons _ rfl (fun d u W1 K' hI hd hw hK=> ?_) ?_
  {have c1:=hI.c1;have c2:=hI.c2;refine Z05 (v:= .agg #[.string ⟨k.1.toArray⟩,.string ⟨k.2.toArray⟩]) (W':=W1) rfl ?_ (hK.out _ _ (hI.pure (by decide) (fun v' h=>by cases h; rfl)));go_simp}
  refine StepsInv.cons _ rfl (fun d u W1 K' hI hd hw hK=> ?_) ?_
  {refine Z05 (v:= .pointer (some ⟨W.heap.size,0,none⟩)) (W':=W1) rfl ?_ (hK.out _ _ (hI.pure (by decide) (fun v' h=>by cases h; rfl)));go_simp}
  refine StepsInv.cons _ rfl (fun d u W1 K' hI hd hw hK=> ?_) ?_
  {have d3:u 3= .pointer (some ⟨W.heap.size,0,none⟩):=hI.vals 3 (hw 3 (by kernel_rfl)) _ rfl;have c0:=hI.c0;refine Z05 (v:= .map (some b)) (W':=W1) rfl ?_ (hK.out _ _ (hI.pure (by decide) (fun v' h=>by cases h; rfl)));go_simp}
  refine StepsInv.cons _ rfl (fun d u W1 K' hI hd hw hK=> ?_) ?_
  {have c1:=hI.c1;have c2:=hI.c2;refine Z05 (v:= .agg #[.string ⟨k.1.toArray⟩,.string ⟨k.2.toArray⟩]) (W':=W1) rfl ?_ (hK.out _ _ (hI.pure (by decide) (fun v' h=>by cases h; rfl)));go_simp}
  refine StepsInv.cons _ rfl (fun d u W1 K' hI hd hw hK=> ?_) ?_
  {have d4:u 4= .map (some b):=hI.vals 4 (hw 4 (by kernel_rfl)) _ rfl;have d5:u 5=keyV k:=hI.vals 5 (hw 5 (by kernel_rfl)) _ rfl;have hlo:=hI.lo (hI.not9 (Or.inl rfl) hd);have hl:=(HG2.out.mp.same (hlo.block b (Nat.lt_of_lt_of_le HbB.out HG2.out.Bw))).look hk;refine Z05 (v:=slOf S m k) (W':=W1) rfl ?_ (hK.out _ _ (hI.pure (by decide) (fun v' h=>by cases h; rfl)));refine Z77 (t:=67) (x:= .tmp 10) (ix:= .tmp 11) rfl ?_;change (Instr.lookup _ (u 4) (u 5) false).run _ W1=_;rw[d4,d5];exact hl}
  refine StepsInv.cons _ rfl (fun d u W1 K' hI hd hw hK=> ?_) ?_
  {refine Z05 (v:= .pointer (some ⟨p.1,p.2 * 5,none⟩)) (W':=W1) rfl ?_ (hK.out _ _ (hI.pure (by decide) (fun v' h=>by cases h; rfl)));go_simp}
  refine StepsInv.cons _ rfl (fun d u W1 K' hI hd hw hK=> ?_) ?_
  {have d7:u 7= .pointer (some ⟨p.1,p.2 * 5,none⟩):=hI.vals 7 (hw 7 (by kernel_rfl)) _ rfl;refine Z05 (v:= .slice (some ⟨W1.heap.size,0,none⟩) 1 1) (W':=W1.alloc (.cells #[.pointer (some ⟨p.1,p.2 * 5,none⟩)] 71)) rfl ?_ (hK.out _ _ ?_)
   {go_simp}
   {have n9:=hI.not9 (Or.inr rfl) hd;have n10:=hI.not10 (by decide) hd;have hb:=Z00 W1 (.cells #[.pointer (some ⟨p.1,p.2 * 5,none⟩)] 71);have hlo:=hI.lo n9;have hz:W.heap.size+2<=W1.heap.size:=by have:=hlo.size; have:=HZ2.out; omega
    refine ⟨hI.vals' (by intro v' h; cases h),(hb.cell (p:=⟨W.heap.size,0,none⟩) (by show W.heap.size < _; omega)).trans hI.c0,(hb.cell (p:=⟨W.heap.size+1,0,none⟩) (by show W.heap.size+1 < _; omega)).trans hI.c1,(hb.cell (p:=⟨W.heap.size+1,1,none⟩) (by show W.heap.size+1 < _; omega)).trans hI.c2, ?_, ?_, ?_, ?_, ?_, ?_⟩
    {rw[ne11 d (by decide),n9]; nofun}
    {rw[ne11 d (by decide),n10]; nofun}
    {exact fun _=>Z02 hlo hb}
    {exact fun _=>⟨W1.heap.size,Z0g _ _ _,fun _=>⟨hlo.size,by simp,by simp[go_sem,plV]⟩⟩}
    {rw[ne11 d (by decide),n9]; nofun}
    {rw[ne11 d (by decide),n10]; nofun}}}
  refine StepsInv.cons _ rfl (fun d u W1 K' hI hd hw hK=> ?_) ?_
  {have d6:u 6=slOf S m k:=hI.vals 6 (hw 6 (by kernel_rfl)) _ rfl;have w6:=hw 6 (by kernel_rfl);have w8:=hw 8 (by kernel_rfl);have n10:=hI.not10 (by decide) hd;have hlo:=hI.lo hd;obtain ⟨z,u8,hz⟩:=hI.a8 w8;obtain ⟨z1,z2,z3⟩:=hz hd;have hgW:W2.grownBy W1 none:=⟨hlo.os,hlo.tape,hlo.output,hlo.size,fun x h1 _=>hlo.block x h1⟩;have hrow:W1.ownsRow B 71 1 (slOf S m k) (ps k).length ((ps k).map plV):=by
    unfold slOf;by_cases hS:k∈S
    {rw[if_pos hS]; exact (HG2.out.row k hS).kept hgW (by cases (m k).ownBlock <;> simp)}
    {rw[if_neg hS,HG2.out.no k hS]; exact World.ownsRow_nil _ _ _ _}
   have hlen:=HG2.out.len k;have hB1:B<=W1.heap.size:=Nat.le_trans HG2.out.Bw hlo.size;have hold: ∀x,(slOf S m k).ownBlock=some x->x < W.heap.size:=fun x hx=>by
    unfold slOf at hx;by_cases hS:k∈S
    {rw[if_pos hS] at hx; exact ((HG0.out.row k hS).lt x hx).2}
    {rw[if_neg hS] at hx; cases hx}
   refine step_append_lies W1 rfl _ _ 90 rfl B 71 i0 (.pointer none) 1 8 Tryd.underlying90 hif hz0 hz1 hz2 rfl (by decide) (slOf S m k) (ps k).length ((ps k).map plV) (by show u 6=_; exact d6) hrow ⟨z,0,none⟩ 1 1 [plV p] (by show u 8=_; exact u8) (by simp) (by
    intro j v hv;rcases j with _ | j
    {have ha: (⟨z,0,none⟩:Addr).add 0=⟨z,0,none⟩:=by unfold Addr.add; split <;> simp_all
     rw[ha,z3]; simpa using hv}
    · simp at hv) (ZbA p) (by decide) (by unfold maxLen; omega) (by omega) hB1 _ rfl ?_
   intro g cp W' hown hg hat hlt;refine hK.out _ _ ?_;have hzz:W.heap.size+2<=W1.heap.size:=by have:=hlo.size; have:=HZ2.out; omega
   have far: ∀(x o:Nat),x < W1.heap.size->W.heap.size<=x->W'.cell? ⟨x,o,none⟩=W1.cell? ⟨x,o,none⟩:=fun x o h1 h2=>hg.cell_far ⟨x,o,none⟩ h1 (fun e=>by have:=hold x e.symm; omega);refine ⟨hI.vals' (by intro v' h; cases h),(far _ _ (by omega) (by omega)).trans hI.c0,(far _ _ (by omega) (by omega)).trans hI.c1,(far _ _ (by omega) (by omega)).trans hI.c2, ?_, ?_, ?_, ?_, ?_, ?_⟩
   {exact fun _=>⟨Z1U 9 w6,Z1U 9 w8⟩}
   {rw[ne11 d (by decide),n10]; nofun}
   {rw[Z60]; nofun}
   {exact fun _=>⟨z,by rw[Z01 u _ (by decide)]; exact u8,by rw[Z60]; nofun⟩}
   {refine fun _ _=>⟨g,cp,Z0g _ _ _,hown, ?_, ?_⟩
    {exact World.grownBy.trans ⟨hlo.os,hlo.tape,hlo.output,hlo.size,fun x h1 _=>hlo.block x h1⟩ hg}
    {rcases hat with h | h
     {exact Or.inl h}
     {exact Or.inr (by rw[h]; exact hlo.size)}}}
   {rw[ne11 d (by decide),n10]; nofun}}
  refine StepsInv.cons _ rfl (fun d u W1 K' hI hd hw hK=> ?_) StepsInv.nil
  {have d1:u 1= .map (some b):=hI.vals 1 (hw 1 (by kernel_rfl)) _ rfl;have d2:u 2=keyV k:=hI.vals 2 (hw 2 (by kernel_rfl)) _ rfl;obtain ⟨g,cp,u9,hown,hg,hat⟩:=hI.a9 (hw 9 (by kernel_rfl)) hd;have hsl: ∀x,(slOf S m k).ownBlock=some x->k∈S/\(m k).ownBlock=some x:=fun x hx=>by
    unfold slOf at hx;by_cases hS:k∈S
    {rw[if_pos hS] at hx; exact ⟨hS,hx⟩}
    {rw[if_neg hS] at hx; cases hx}
   have hbB:=HbB.out;have hrowB: ∀x,(slOf S m k).ownBlock=some x->B<=x/\x < W2.heap.size:=fun x hx=>(HG2.out.row k (hsl x hx).1).lt x (hsl x hx).2;have hB2:=HG2.out.Bw;have hMp:=HG2.out.mp.same (hg.block b (by omega) (fun e=>by have:=(hrowB b e.symm).1; omega));obtain ⟨W',hr,hMp',hturn⟩:=hMp.put hk (by unfold maxLen; omega) (v:= .slice (some ⟨g,0,none⟩) ((ps k).length+1) cp) (z:=_) rfl;refine Z3v (W':=W') rfl ?_ (hK.out undef _ ?_)
   {refine Z78 (t:=67) (m:= .tmp 7) (k:= .tmp 8) (x:= .tmp 15) rfl ?_;change (Instr.mapUpdate _ (u 1) (u 2) (u 9)).run _ W1=_;rw[d1,d2,u9];exact hr}
   {have hgt:=hturn.grown;have hgB:B<=g/\g < W1.heap.size:=hown.lt g rfl;have hzz:W.heap.size+2<=W1.heap.size:=by have:=hg.size; have:=HZ2.out; omega
    have hBW:=HBw.out;have far: ∀(x o:Nat),x < W1.heap.size->W.heap.size<=x->W'.cell? ⟨x,o,none⟩=W1.cell? ⟨x,o,none⟩:=fun x o h1 h2=>hgt.cell_far ⟨x,o,none⟩ h1 (fun e=>by have e2:x=b:=Option.some.inj e; omega);refine ⟨hI.vals' (by intro v' h; cases h),(far _ _ (by omega) (by omega)).trans hI.c0,(far _ _ (by omega) (by omega)).trans hI.c1,(far _ _ (by omega) (by omega)).trans hI.c2, ?_, ?_, ?_, ?_, ?_, ?_⟩
    {exact fun _=>⟨Z1U 10 (hw 6 (by kernel_rfl)),Z1U 10 (hw 8 (by kernel_rfl))⟩}
    {intro _ j hj;refine Z1U 10 (hw j ?_);rcases j with _ | _ | _ | _ | _ | _ | _ | _ | _ | _ | j
     {kernel_rfl}
     {kernel_rfl}
     {kernel_rfl}
     {kernel_rfl}
     {kernel_rfl}
     {kernel_rfl}
     {kernel_rfl}
     {kernel_rfl}
     {kernel_rfl}
     {kernel_rfl}
     {omega}}
    {rw[ne11 d (by decide),hw 9 (by kernel_rfl)]; nofun}
    {intro _;obtain ⟨z,u8,_⟩:=hI.a8 (hw 8 (by kernel_rfl));exact ⟨z,by rw[Z01 u _ (by decide)]; exact u8,by rw[ne11 d (by decide),hw 9 (by kernel_rfl)]; nofun⟩}
    {rw[Z60]; intro _ h; cases h}
    {intro _;have hmem: ∀x,x∈(if k∈S then S else k::S) ↔ x=k\/x∈S:=fun x=>by
      by_cases e:k∈S
      {rw[if_pos e]; exact ⟨Or.inr,fun h=>h.elim (fun h=>h▸e) id⟩}
      {rw[if_neg e]; exact List.mem_cons}
     refine ⟨_,_,⟨hMp', ?_, ?_, ?_, ?_, ?_,hbB, ?_⟩,hmem,⟨hgt.os.trans hg.os,hgt.tape.trans hg.tape,hgt.output.trans hg.output,Nat.le_trans hg.size hgt.size, ?_, ?_⟩⟩
     {intro x hx;by_cases e:x=k
      {subst e;simp only[if_true,List.length_append,List.map_append,List.length_singleton,List.map_cons,List.map_nil];exact hown.kept hgt (Or.inr (fun e=>by have e2:g=b:=Option.some.inj e; omega))}
      {simp only[if_neg e];have hxS:=((hmem x).1 hx).resolve_left e;have hrx:=HG2.out.row x hxS;have h1:=hrx.kept hg (by
        cases hm: (m x).ownBlock with
        | none=>exact Or.inl rfl
        | some y=>
         refine Or.inr (fun e2=> ?_);obtain ⟨h3,h4⟩:=hsl y e2.symm;exact HG2.out.far x hxS k h3 e (by rw[hm,h4]))
       exact h1.kept hgt (by
        cases hm: (m x).ownBlock with
        | none=>exact Or.inl rfl
        | some y=>
         refine Or.inr (fun e2=> ?_);have:=(hrx.lt y hm).1;have:=Option.some.inj e2;omega)}}
     {intro x hx;by_cases e:x=k
      {simp only[if_pos e]; simp}
      {simp only[if_neg e]; exact HG2.out.ne x (((hmem x).1 hx).resolve_left e)}}
     {intro x hx;have e:x≠k:=fun e=>hx ((hmem x).2 (Or.inl e));simp only[if_neg e];exact HG2.out.no x (fun h=>hx ((hmem x).2 (Or.inr h)))}
     {have key: ∀x,x∈S->x≠k->(m x).ownBlock≠some g:=fun x hxS e h=>by
       rcases hat with h2 | h2
       {obtain ⟨h3,h4⟩:=hsl g h2;exact HG2.out.far x hxS k h3 e (by rw[h,h4])}
       {have:=((HG2.out.row x hxS).lt g h).2; omega}
      intro x hx y hy hxy;by_cases e:x=k
      {by_cases e2:y=k
       {exact absurd (e.trans e2.symm) hxy}
       {simp only[if_pos e,if_neg e2];exact fun h=>key y (((hmem y).1 hy).resolve_left e2) e2 h.symm}}
      {by_cases e2:y=k
       {simp only[if_neg e,if_pos e2];exact key x (((hmem x).1 hx).resolve_left e) e}
       {simp only[if_neg e,if_neg e2];exact HG2.out.far x (((hmem x).1 hx).resolve_left e) y (((hmem y).1 hy).resolve_left e2) hxy}}}
     {intro x;have:=HG2.out.len x;by_cases e:x=k
      {simp only[if_pos e,List.length_append,List.length_singleton]; omega}
      {simp only[if_neg e]; omega}}
     {exact Nat.le_trans hB2 (Nat.le_trans hg.size hgt.size)}
     {intro x h1 h2 h3;refine (hgt.block x (Nat.lt_of_lt_of_le h1 hg.size) (fun e=>h2 (Option.some.inj e))).trans (hg.block x h1 (fun e=> ?_));obtain ⟨h4,h5⟩:=hsl x e.symm;exact h3 k h4 h5}
     {intro y hy x hx;by_cases e:y=k
      {simp only[if_pos e] at hx;have e2:g=x:=Option.some.inj hx;subst e2;rcases hat with h2 | h2
       {exact Or.inl ⟨k,hsl g h2⟩}
       {exact Or.inr h2}}
      {simp only[if_neg e] at hx;exact Or.inl ⟨y,((hmem y).1 hy).resolve_left e,hx⟩}}}}}}
 {intro d u W1 hI hd;have hf:=hI.fin (hd 10 (by show 10 < 11; omega));go_wp2;refine bodyPost_end (v:= .tuple #[]) (by simp[results,Tryd.results50,go_sem]) rfl ?_;obtain ⟨S',m',h1,h2,h3⟩:=hf;exact ⟨rfl,S',m',h1,h2,(Z2l S m HB2.out).trans h3⟩}
end
end Go.Proofs.YtchklpedlbkgaaaDoor
