/- What the proofs of ExpandTypes want, part 0. -/
import Derived.Test.YtchklpedlbkgaaaDoorRows
import Derived.Lib.Hide
import Derived.Laws.Cover1
import Derived.SliceStrings
import Derived.OpenShut
import Derived.Deep.AppendLies
import Derived.StillTailTactics
import Derived.Deep.Fields
import Derived.DeepKeys4
import Derived.Deep.RegionHeld3
import Derived.WalkSpells
import Derived.Laws.EntriesVeiled
import Derived.Sort.AssemblyPlain
import Derived.Sort.WalkA6
import Derived.Sort.WalkB2
import Derived.Sort.WalkC4
import Derived.Deep.DeepCutAuto
import Derived.Shelf.Strings.Builder1
import Derived.Shelf.Strconv.Itoa0
import Derived.Sort.Walk7a
import Derived.Deep.CutBlock
set_option linter.unusedVariables false
set_option linter.unusedSimpArgs false
set_option linter.unusedSectionVars false
set_option maxRecDepth 100000
set_option maxHeartbeats 16000000
namespace Utf
section
def pt (p:Int):Bool:=decide (0<=p)&&decide (p<=1114111)&&(decide (p < 55296)||decide (57343 < p))
def byte (x:Int):UInt8:=UInt8.ofNat (x % 256).toNat
def bytes (p:Int):List UInt8:=
 if p < 128 then [byte p]
 else if p < 2048 then [byte (192+p / 64),byte (128+p % 64)]
 else if p < 65536 then [byte (224+p / 4096),byte (128+p / 64 % 64),byte (128+p % 64)]
 else [byte (240+p / 262144),byte (128+p / 4096 % 64),byte (128+p / 64 % 64),byte (128+p % 64)]
def lead (a:Nat):Nat×Int:=
 if 240<=a then (4,(a:Int) - 240) else if 224<=a then (3,(a:Int) - 224) else if 192<=a then (2,(a:Int) - 192) else (1,a)
def val (p:Int):List UInt8->Int
 | []=>p
 | b::r=>val (p * 64+b.toNat - 128) r
def first:List UInt8->Int×Nat
 | []=>(0,0)
 | a::r=>
  if (lead a.toNat).1<=r.length+1/\pt (val (lead a.toNat).2 (r.take ((lead a.toNat).1 - 1)))=true/\
   bytes (val (lead a.toNat).2 (r.take ((lead a.toNat).1 - 1)))=(a::r).take (lead a.toNat).1
  then (val (lead a.toNat).2 (r.take ((lead a.toNat).1 - 1)),(lead a.toNat).1) else (0,0)
def enc (ps:List Int):List UInt8:=ps.flatMap bytes
def step (l:List UInt8) (k:Nat):Nat:=if (first (l.drop k)).2=0 then 1 else (first (l.drop k)).2
end
end Utf
namespace Sem
section
def dig (c:UInt8):Bool:=decide (48<=c.toNat)&&decide (c.toNat<=57)
def digits (l:List UInt8):Bool:= !l.isEmpty&&l.all dig
def parts:List UInt8->List (List UInt8)
 | []=> [[]]
 | c::r=>if c=46 then []::parts r else match parts r with
  | []=> [[c]]
  | p::ps=>(c::p)::ps
def join:List (List UInt8)->List UInt8
 | []=> []
 | [p]=>p
 | p::q::ps=>p++46::join (q::ps)
structure Ver where
 maj:Int
 min:Int
 pat:Int
 pre:List UInt8
deriving DecidableEq
def dec (n:Nat):List UInt8:=if h:n < 10 then [UInt8.ofNat (48+n)] else dec (n / 10)++ [UInt8.ofNat (48+n % 10)]
termination_by n
def text (v:Ver):List UInt8:=dec v.maj.toNat++46::(dec v.min.toNat++46::(dec v.pat.toNat++if v.pre= [] then [] else 45::v.pre))
def put (t:Nat×Nat×Nat) (k x:Nat):Nat×Nat×Nat:=if k=0 then (x,t.2.1,t.2.2) else if k=1 then (t.1,x,t.2.2) else (t.1,t.2.1,x)
def get (t:Nat×Nat×Nat) (k:Nat):Nat:=if k=0 then t.1 else if k=1 then t.2.1 else t.2.2
def num (l:List UInt8):Nat:=l.foldl (fun a c=>10 * a+(c.toNat - 48)) 0
def partKey (p:List UInt8):List Int:=if digits p then [0,(num p:Int)] else 1::p.map fun c=>(c.toNat:Int)
def preKey (p:List UInt8):List (List Int):=if p= [] then [[2]] else [1]::(parts p).map partKey
def key (v:Ver):List (List Int):= [v.maj]:: [v.min]:: [v.pat]::preKey v.pre
end
end Sem
namespace Lex
section
def small (c:UInt8):Bool:=decide (97<=c.toNat)&&decide (c.toNat<=122)
def great (c:UInt8):Bool:=decide (65<=c.toNat)&&decide (c.toNat<=90)
def digit (c:UInt8):Bool:=decide (48<=c.toNat)&&decide (c.toNat<=57)
def nameB (c:UInt8):Bool:=small c||great c||digit c||c==95
def words:List (List UInt8):= [[109,111,100,117,108,101],[105,109,112,111,114,116],[112,105,110],[114,97,110,103,101],[116,121,112,101],[111,112,97,113,117,101],[108,101,116],[105,110],[101,120,112,111,114,116],[102,117,110],[105,102],[116,104,101,110],[101,108,115,101],[99,97,115,101],[111,102],[97,115],[110,101,119],[114,97,119],[116,114,117,101],[102,97,108,115,101]]
def isWord (s:List UInt8):Bool:=words.contains s
def isName (s:List UInt8):Bool:=match s with
 | []=>false
 | c::_=>decide (s.length<=24)&&small c&&s.all nameB&& !isWord s
def isUpper (s:List UInt8):Bool:=match s with
 | []=>false
 | c::_=>decide (s.length<=24)&&great c&&s.all nameB
structure Tok where
 kind:Int
 text:List UInt8
deriving DecidableEq
def one:List UInt8->Option (Int×Nat)
 | []=>none
 | c::r=>if c=34\/c.toNat < 32 then none else if c=92 then
  (match r with
  | []=>none
  | d::_=>if d=110 then some (10,2) else if d=116 then some (9,2) else if d=34 then some (34,2) else if d=92 then some (92,2) else none)
  else if (Utf.first (c::r)).2=0 then none else some (Utf.first (c::r))
def body:Nat->List UInt8->List Int×List UInt8
 | 0,l=>([],l)
 | f+1,l=>match one l with
  | none=>([],l)
  | some (p,n)=>(p::(body f (l.drop n)).1,(body f (l.drop n)).2)
end
end Lex
namespace Shp
section
structure Sh where
 kind:Int
 of_:List UInt8
 name:List UInt8
 names:List (List UInt8)
 parts:List Sh
mutual
def size:Sh->Nat
 | ⟨_,_,_,_,ps⟩=>1+sizes ps
def sizes:List Sh->Nat
 | []=>0
 | p::ps=>size p+sizes ps
end
mutual
def deep:Sh->Nat
 | ⟨_,_,_,_,ps⟩=>deeps ps+1
def deeps:List Sh->Nat
 | []=>0
 | p::ps=>max (deep p) (deeps ps)
end
theorem size_eq (t:Sh):size t=1+sizes t.parts:=by cases t; rfl
theorem Z0l (t:Sh):deep t=deeps t.parts+1:=by cases t; rfl
theorem Z2i (t:Sh):1<=size t:=by rw[size_eq]; omega
section
variable {l : List Sh} {p : Sh} (h : p ∈ l)
include l p h
theorem Z1l:size p<=sizes l:=by
 induction l with
 | nil=>cases h
 | cons a l ih=>
  rcases List.mem_cons.1 h with rfl | h
  {simp[sizes]}
  {have:=ih h; simp[sizes]; omega}
theorem Z0F:deep p<=deeps l:=by
 induction l with
 | nil=>cases h
 | cons a l ih=>
  rcases List.mem_cons.1 h with rfl | h
  {simp[deeps]; omega}
  {have:=ih h; simp[deeps]; omega}
end
theorem Sh.ind {P:Sh->Prop} (h: ∀t,(∀p∈t.parts,P p)->P t) (t:Sh):P t:=by
 have: ∀n t,size t<=n->P t:=by
  intro n;induction n with
  | zero=>intro t ht; have:=Z2i t; omega
  | succ n ih=>
   intro t ht;refine h t (fun p hp=>ih p ?_);have:=Z1l hp;rw[size_eq] at ht;omega
 exact this _ t (Nat.le_refl _)
theorem Z3G (l m:List Sh):sizes (l++m)=sizes l+sizes m:=by
 induction l with
 | nil=>simp[sizes]
 | cons a l ih=>simp[sizes,ih]; omega
theorem Z3H (l m:List Sh):deeps (l++m)=max (deeps l) (deeps m):=by
 induction l with
 | nil=>simp[deeps]
 | cons a l ih=>simp[deeps,ih,Nat.max_assoc]
theorem Z1m {α:Type} {l:List α} {i:Nat} (h:i < l.length):l.take (i+1)=l.take i++ [l[i]'h]:=by rw[List.take_succ_eq_append_getElem h]
section
variable {l : List Sh} {i : Nat} (h : i < l.length)
include l i h
theorem Z1L:sizes (l.take (i+1))=sizes (l.take i)+size (l[i]'h):=by rw[Z1m h,Z3G]; simp[sizes]
theorem Z37:deeps (l.take (i+1))=max (deeps (l.take i)) (deep (l[i]'h)):=by rw[Z1m h,Z3H]; simp[deeps]
end
theorem Z38 (l:List Sh) (i:Nat):sizes (l.take i)<=sizes l:=by
 have:=Z3G (l.take i) (l.drop i);rw[List.take_append_drop] at this;omega
theorem Z39 (l:List Sh) (i:Nat):deeps (l.take i)<=deeps l:=by
 have:=Z3H (l.take i) (l.drop i);rw[List.take_append_drop] at this;omega
theorem Z0L (l:List Sh):l.length<=sizes l:=by
 induction l with
 | nil=>simp
 | cons a l ih=>have:=Z2i a; simp[sizes]; omega
theorem Z1G (t:Sh):deep t<=size t:=by
 induction t using Sh.ind with
 | h t ih=>
  rw[Z0l,size_eq];have: ∀l:List Sh,(∀p∈l,deep p<=size p)->deeps l<=sizes l:=by
   intro l;induction l with
   | nil=>simp[deeps]
   | cons a l ihl=>
    intro h;have h1:=h a (by simp);have h2:=ihl (fun p hp=>h p (by simp[hp]));simp[deeps,sizes]; omega
  have:=this _ ih;omega
def sizeTo (m:Nat) (t:Sh):Nat:=min (size t) (m+1)
def noDup:List (List UInt8)->Bool
 | []=>true
 | x::l=> !l.contains x&&noDup l
def areNames (l:List (List UInt8)):Bool:=l.all Lex.isName&&noDup l
def plain (s:List UInt8):Bool:=s== [73,110,116]||s== [66,111,111,108]||s== [84,101,120,116]||s== [65,110,121]
def bare (t:Sh):Bool:=t.of_== []&&t.name== []
def fits (t:Sh):Bool:=
 if t.kind=9\/t.kind=10 then Lex.isUpper t.name&&(Lex.isName t.of_||(t.of_== []&&decide (t.kind=9)&& !plain t.name))&&decide (t.names.length=0)&&decide (t.parts.length=0)
 else if bare t=false then false
 else if t.kind=6\/t.kind=7 then areNames t.names&&decide (t.names.length=t.parts.length)
 else if 0 < t.names.length then false
 else if t.kind=8 then decide (1<=t.parts.length)
 else if t.kind=5 then decide (t.parts.length=1)
 else decide (1<=t.kind)&&decide (t.kind<=4)&&decide (t.parts.length=0)
mutual
def right:Sh->Bool
 | ⟨k,o,n,ns,ps⟩=>fits ⟨k,o,n,ns,ps⟩&&rights ps
def rights:List Sh->Bool
 | []=>true
 | p::ps=>right p&&rights ps
end
theorem Z1z (t:Sh):right t=(fits t&&rights t.parts):=by cases t; rfl
theorem Z1M (l:List Sh):rights l=l.all right:=by
 induction l with
 | nil=>rfl
 | cons a l ih=>simp[rights,ih]
def check (t:Sh):Int:=if 400 < size t then 3 else if 40 < deep t then 91 else if right t=false then 70 else 0
abbrev Fld:=List UInt8×Sh
def ins (x:Fld):List Fld->List Fld
 | []=> [x]
 | y::l=>if y.1 < x.1 then y::ins x l else x::y::l
def sortF (l:List Fld):List Fld:=l.foldl (fun a x=>ins x a) []
mutual
def sorted:Sh->Sh
 | ⟨k,o,n,ns,ps⟩=>if ns= [] then ⟨k,o,n,[],sorteds ps⟩ else ⟨k,o,n,(sortF (ns.zip (sorteds ps))).map Prod.fst,(sortF (ns.zip (sorteds ps))).map Prod.snd⟩
def sorteds:List Sh->List Sh
 | []=> []
 | p::ps=>sorted p::sorteds ps
end
theorem Z6Y (l:List Sh):sorteds l=l.map sorted:=by
 induction l with
 | nil=>rfl
 | cons a l ih=>simp[sorteds,ih]
theorem Z0d (t:Sh):sorted t=if t.names= [] then ⟨t.kind,t.of_,t.name,[],t.parts.map sorted⟩ else ⟨t.kind,t.of_,t.name,(sortF (t.names.zip (t.parts.map sorted))).map Prod.fst,(sortF (t.names.zip (t.parts.map sorted))).map Prod.snd⟩:=by
 cases t with
 | mk k o n ns ps=>rw[<-Z6Y]; rfl
mutual
def eqB:Sh->Sh->Bool
 | ⟨k,o,n,ns,ps⟩,⟨k',o',n',ns',ps'⟩=>k==k'&&o==o'&&n==n'&&ns==ns'&&eqs ps ps'
def eqs:List Sh->List Sh->Bool
 | [],[]=>true
 | p::ps,q::qs=>eqB p q&&eqs ps qs
 | [],_::_=>false
 | _::_,[]=>false
end
theorem Z9x (t u:Sh):eqB t u=(t.kind==u.kind&&t.of_==u.of_&&t.name==u.name&&t.names==u.names&&eqs t.parts u.parts):=by cases t; cases u; rfl
theorem Z4H {l:List Sh} (h: ∀p∈l,∀u,eqB p u=true ↔ p=u): ∀m,eqs l m=true ↔ l=m:=by
 induction l with
 | nil=>intro m; cases m <;> simp[eqs]
 | cons a l ih=>
  intro m;cases m with
  | nil=>simp[eqs]
  | cons b m=>simp[eqs,h a (by simp) b,ih (fun p hp=>h p (by simp[hp])) m]
theorem Z2U (t u:Sh):eqB t u=true ↔ t=u:=by
 induction t using Sh.ind generalizing u with
 | h t ih=>
  rw[Z9x];cases t; cases u;simp[Z4H ih,and_assoc]
theorem Z7W (l m:List Sh):eqs l m=true ↔ l=m:=Z4H (fun p _ u=>Z2U p u) m
theorem Z1n (t:Sh):eqB t t=true:=(Z2U t t).2 rfl
theorem Z5e {t u:Sh} (h:t≠u):eqB t u=false:=by
 cases e:eqB t u with
 | false=>rfl
 | true=>exact absurd ((Z2U t u).1 e) h
def same (t u:Sh):Bool:=decide (check t=0)&&decide (check u=0)&&eqB (sorted t) (sorted u)
def field (n t:List UInt8):List UInt8:=n++ [58,32]++t
def fields (ns ts:List (List UInt8)):List (List UInt8):=if ns= [] then ts else List.zipWith field ns ts
def named (t:Sh):List UInt8:=if t.of_= [] then t.name else t.of_++ [47]++t.name
def join (sep:List UInt8) (l:List (List UInt8)):List UInt8:=sep.intercalate l
def textOf (k:Int) (o n:List UInt8) (ns ts:List (List UInt8)):List UInt8:=
 if k=1 then [73,110,116] else if k=2 then [66,111,111,108] else if k=3 then [84,101,120,116] else if k=4 then [65,110,121]
 else if k=5 then [91]++ts.headD []++ [93]
 else if k=6 then [123]++join [44,32] (fields ns ts)++ [125]
 else if k=7 then [60]++join [32,124,32] (fields ns ts)++ [62]
 else if k=8 then [40]++join [44,32] ts.dropLast++ [41,32,45,62,32]++ts.getLastD []
 else if o= [] then n else o++ [47]++n
mutual
def text:Sh->List UInt8
 | ⟨k,o,n,ns,ps⟩=>textOf k o n ns (texts ps)
def texts:List Sh->List (List UInt8)
 | []=> []
 | p::ps=>text p::texts ps
end
end
end Shp
namespace Go.Proofs.YtchklpedlbkgaaaDoor
section
open Go.RowKit
theorem Z0K {B:Nat} {a w:World} (h:Below B a w) (n:Nat):Below B a (w.drewN n):=⟨h.os,h.tape,h.output,h.size,h.block⟩
abbrev Y9 (f:FuncId) (a:Array Value) (w:World) (v:Value):Prop:=Calls Tryd.prog f a w fun e w'=>e= .returned v/\Below w.heap.size w w'
abbrev Ya:Array Value:=#[.int .i64 0,.string ⟨#[]⟩,.string ⟨#[]⟩,.int .i64 0,.slice none 0 0,.slice none 0 0,.slice none 0 0,.slice none 0 0,.int .i64 0]
abbrev Yb:Array Value:=#[.int .i64 0,.string ⟨#[]⟩,.string ⟨#[]⟩,.slice none 0 0,.slice none 0 0]
abbrev Yc:Array Value:=#[.int .i64 0,.int .i64 0]
abbrev Yd:Array Value:=#[.int .i64 0,.string ⟨#[]⟩,.int .i64 0]
theorem Y1 {P:Prop} (h:P):Hid P:=Lib.hid h
theorem Y2 {B:Nat} {w:World}:Below B w w:=Below.refl _ _
section
variable {k n : Int} (m : Int) (h : k = n)
include k n m h
theorem Y3 (e: (n==m)=false): (k==m)=false:=by rw[h]; exact e
theorem Y4 (e: (n==m)=true): (k==m)=true:=by rw[h]; exact e
theorem Y5 (e: (n !=m)=false): (k !=m)=false:=by rw[h]; exact e
theorem Y6 (e: (n !=m)=true): (k !=m)=true:=by rw[h]; exact e
end
theorem Z0G (l:List UInt8): (⟨l.toArray⟩:ByteArray).size=l.length:=by simp[ByteArray.size]
theorem Z2V {B:Nat} {w w':World} (h:Below B w w') (hB:w.heap.size<=B) (row:Option Nat):w.grownBy w' row:=
 ⟨h.os,h.tape,h.output,h.size,fun i hi _=>h.block i (Nat.lt_of_lt_of_le hi hB)⟩
theorem Z02 {w W w':World} (h:Below w.heap.size w W) (hb:Below W.heap.size W w'):Below w.heap.size w w':=h.trans (hb.mono h.size)
theorem Z0i {w W:World} (h:Below w.heap.size w W) (o:Obj):Below w.heap.size w (W.alloc o):=h.alloc h.size o
theorem Z00 (w:World) (o:Obj):Below w.heap.size w (w.alloc o):=(Below.refl _ _).alloc (Nat.le_refl _) _
theorem Z42: ∀(x y:List UInt8),Op.bytesLess x y=decide (x < y)
 | x,[]=>by simp[Op.bytesLess]
 | [],_::_=>by simp[Op.bytesLess]
 | a::x,b::y=>by
  rw[Op.bytesLess,Z42 x y,Bool.eq_iff_iff];simp[List.cons_lt_cons_iff]
def Strs (w:World) (B:Nat) (A:Option Addr) (ss:List ByteArray):Prop:=
 ss.length=0\/ ∃b off,A=some ⟨b,off,none⟩/\b < B/\ ∀i (h:i < ss.length),w.cell? ⟨b,off+i,none⟩=some (.string (ss[i]'h))
theorem Strs.keep {w w':World} {B B':Nat} {A:Option Addr} {ss:List ByteArray} (h:Strs w B A ss) (hb:Below B' w w') (hB:B<=B'):Strs w' B A ss:=by
 rcases h with h | ⟨b,off,hA,hlt,hc⟩
 {exact Or.inl h}
 {exact Or.inr ⟨b,off,hA,hlt,fun i hi=>(hb.cell (p:=⟨b,off+i,none⟩) (Nat.lt_of_lt_of_le hlt hB)).trans (hc i hi)⟩}
theorem Strs.more {w:World} {B B':Nat} {A:Option Addr} {ss:List ByteArray} (h:Strs w B A ss) (hB:B<=B'):Strs w B' A ss:=by
 rcases h with h | ⟨b,off,hA,hlt,hc⟩
 {exact Or.inl h}
 {exact Or.inr ⟨b,off,hA,Nat.lt_of_lt_of_le hlt hB,hc⟩}
theorem Strs.next {w w':World} {A:Option Addr} {ss:List ByteArray} (h:Strs w w.heap.size A ss) (hb:Below w.heap.size w w'):Strs w' w'.heap.size A ss:=
 (h.keep hb (Nat.le_refl _)).more hb.size
theorem Z1N {w:World} {b o:Nat} {v:Value} (h:w.cell? ⟨b,o,none⟩=some v):b < w.heap.size:=by
 rcases Nat.lt_or_ge b w.heap.size with h' | h'
 {exact h'}
 {simp[World.cell?,Array.getElem?_eq_none h'] at h}
theorem Z3v {w:World} {a:Addr} {ss:List ByteArray} {len:Nat} (hc: ∀i,i < ss.length->w.cell? (a.add i)=some (.string (ss.getD i ByteArray.empty))):Strs w w.heap.size (some a) (ss.take len):=by
 by_cases h0: (ss.take len).length=0
 {exact Or.inl h0}
 {have hpos:0 < ss.length:=by rw[List.length_take] at h0; omega
  obtain ⟨b,off,spot⟩:=a;have h1:=hc 0 hpos;have hspot:spot=none:=by simpa[Addr.add] using World.cell?_spot h1
  subst hspot;refine Or.inr ⟨b,off,rfl,Z1N (o:=off) (by simpa[Addr.add] using h1),fun i hi=> ?_⟩;rw[List.length_take] at hi;have hplain: (⟨b,off,none⟩:Addr).add i=⟨b,off+i,none⟩:=by unfold Addr.add; split <;> simp_all
  rw[<-hplain,hc i (by omega),List.getElem_take];simp[List.getD,List.getElem?_eq_getElem (show i < ss.length by omega)]}
def strs (l:List (List UInt8)):List ByteArray:=l.map fun p=>⟨p.toArray⟩
end
end Go.Proofs.YtchklpedlbkgaaaDoor
namespace Lex
end Lex
namespace Go.Proofs.YtchklpedlbkgaaaDoor
open Go.RowKit
theorem Z4I (s:ByteArray) (n:Nat) (h:n < s.size) (W:World): (Instr.index 9 (.string s) (.int .i64 (n:Int))).run Tryd.prog W= .ok (.int .u8 (s[n]'h).toNat) W:=by
 rw[run_index_string (P:=Tryd.prog) _ _ _ _ _ Tryd.underlying9,dif_pos ⟨by omega,by omega⟩];simp
theorem Z7X (c:UInt8): ((c.toNat:Int)==95)=(c==95):=by
 rw[Bool.eq_iff_iff,beq_iff_eq,beq_iff_eq];constructor
 {intro h; apply UInt8.toNat_inj.1; show c.toNat=95; omega}
 {rintro rfl; rfl}
end Go.Proofs.YtchklpedlbkgaaaDoor
namespace Go.Proofs.YtchklpedlbkgaaaDoor
open Go.RowKit Shp
theorem Z19 {k:IntKind} {a b:Int} (h:a=b):Ending.returned (.int k a)= .returned (.int k b):=by rw[h]
theorem Z0o {a b:Bool} (h:a=b):Ending.returned (.bool a)= .returned (.bool b):=by rw[h]
structure Ptr where
 A:Option Addr
 c:Nat
 P:Option Addr
 d:Nat
abbrev Y8 (t:Shp.Sh) (q:Ptr):Array Value:=#[.int .i64 t.kind,.string ⟨t.of_.toArray⟩,.string ⟨t.name.toArray⟩,.slice q.A t.names.length q.c,.slice q.P t.parts.length q.d]
def Sh5 (w:World) (g o:Nat) (t:Sh) (q:Ptr):Prop:=
 w.cell? ⟨g,o,none⟩=some (.int .i64 t.kind)/\w.cell? ⟨g,o+1,none⟩=some (.string ⟨t.of_.toArray⟩)/\w.cell? ⟨g,o+2,none⟩=some (.string ⟨t.name.toArray⟩)/\
 w.cell? ⟨g,o+3,none⟩=some (.slice q.A t.names.length q.c)/\w.cell? ⟨g,o+4,none⟩=some (.slice q.P t.parts.length q.d)
theorem Sh5.of {w w':World} {g o:Nat} {t:Sh} {q:Ptr} (h:Sh5 w g o t q) (hc: ∀k,w'.cell? ⟨g,k,none⟩=w.cell? ⟨g,k,none⟩):Sh5 w' g o t q:=by
 obtain ⟨h0,h1,h2,h3,h4⟩:=h;exact ⟨(hc _).trans h0,(hc _).trans h1,(hc _).trans h2,(hc _).trans h3,(hc _).trans h4⟩
theorem Sh5.keep {w w':World} {g o B:Nat} {t:Sh} {q:Ptr} (h:Sh5 w g o t q) (hg:g < B) (hb:Below B w w'):Sh5 w' g o t q:=
 h.of (fun k=>hb.cell (p:=⟨g,k,none⟩) hg)
structure Small (t:Sh) (q:Ptr):Prop where
 o:t.of_.length<=9223372036854775807
 n:t.name.length<=9223372036854775807
 ns: ∀x∈t.names,x.length<=9223372036854775807
 l:t.names.length<=9223372036854775807
 m:t.parts.length<=9223372036854775807
 c:t.names.length<=q.c
 d:t.parts.length<=q.d
 A0:q.A=none->q.c=0
 P0:q.P=none->q.d=0
inductive ShAt (w:World) (B:Nat):Ptr->Sh->Prop
 | mk (q:Ptr) (t:Sh) (g off:Nat) (qs:Nat->Ptr) (hs:Small t q) (hn:Strs w B q.A (strs t.names)) (hp:t.parts.length=0\/q.P=some ⟨g,off,none⟩/\g < B)
  (hc: ∀i (h:i < t.parts.length),Sh5 w g (off+i * 5) (t.parts[i]'h) (qs i)) (hr: ∀i (h:i < t.parts.length),ShAt w B (qs i) (t.parts[i]'h)):ShAt w B q t
theorem ShAt.small {w:World} {B:Nat} {q:Ptr} {t:Sh} (h:ShAt w B q t):Small t q:=by cases h; assumption
theorem ShAt.strs {w:World} {B:Nat} {q:Ptr} {t:Sh} (h:ShAt w B q t):Strs w B q.A (strs t.names):=by cases h; assumption
theorem ShAt.part {w:World} {B:Nat} {q:Ptr} {t:Sh} (h:ShAt w B q t):t.parts.length=0\/ ∃(g off:Nat) (qs:Nat->Ptr),q.P=some ⟨g,off,none⟩/\g < B/\(∀i (h:i < t.parts.length),Sh5 w g (off+i * 5) (t.parts[i]'h) (qs i))/\ ∀i (h:i < t.parts.length),ShAt w B (qs i) (t.parts[i]'h):=by
 cases h with
 | mk _ _ g off qs hs hn hp hc hr=>
  rcases hp with hp | ⟨hp,hg⟩
  {exact Or.inl hp}
  {exact Or.inr ⟨g,off,qs,hp,hg,hc,hr⟩}
theorem ShAt.of {w w':World} {B B':Nat} {q:Ptr} {t:Sh} (h:ShAt w B q t) (hB:B<=B') (hc: ∀g k,g < B->w'.cell? ⟨g,k,none⟩=w.cell? ⟨g,k,none⟩):ShAt w' B' q t:=by
 induction h with
 | mk q t g off qs hs hn hp hc' hr ih=>
  refine .mk q t g off qs hs ?_ ?_ ?_ ih
  {rcases hn with h | ⟨b,o,hA,hlt,hcc⟩
   {exact Or.inl h}
   {exact Or.inr ⟨b,o,hA,Nat.lt_of_lt_of_le hlt hB,fun i hi=>(hc b _ hlt).trans (hcc i hi)⟩}}
  {rcases hp with h | ⟨h,hg⟩
   {exact Or.inl h}
   {exact Or.inr ⟨h,Nat.lt_of_lt_of_le hg hB⟩}}
  {intro i hi;rcases hp with h | ⟨h,hg⟩
   {omega}
   {exact (hc' i hi).of (fun k=>hc g k hg)}}
theorem ShAt.keep {w w':World} {B B':Nat} {q:Ptr} {t:Sh} (h:ShAt w B q t) (hb:Below B' w w') (hB:B<=B'):ShAt w' B q t:=
 h.of (Nat.le_refl _) (fun g k hg=>hb.cell (p:=⟨g,k,none⟩) (Nat.lt_of_lt_of_le hg hB))
theorem ShAt.more {w:World} {B B':Nat} {q:Ptr} {t:Sh} (h:ShAt w B q t) (hB:B<=B'):ShAt w B' q t:=h.of hB (fun _ _ _=>rfl)
theorem ShAt.next {w w':World} {q:Ptr} {t:Sh} (h:ShAt w w.heap.size q t) (hb:Below w.heap.size w w'):ShAt w' w'.heap.size q t:=(h.keep hb (Nat.le_refl _)).more hb.size
def Box5 (w:World) (g:Nat) (t:Sh) (q:Ptr):Prop:=
 g < w.heap.size/\Sh5 w g 0 t q/\w.frozen? ⟨g,0,none⟩=false/\w.frozen? ⟨g,1,none⟩=false/\w.frozen? ⟨g,2,none⟩=false/\w.frozen? ⟨g,3,none⟩=false/\w.frozen? ⟨g,4,none⟩=false
theorem Box5.keep {W W':World} {g B:Nat} {t:Sh} {q:Ptr} (h:Box5 W g t q) (hg:g < B) (hb:Below B W W'):Box5 W' g t q:=by
 obtain ⟨h0,h1,f0,f1,f2,f3,f4⟩:=h;exact ⟨Nat.lt_of_lt_of_le h0 hb.size,h1.keep hg hb,(hb.frozen (p:=⟨g,0,none⟩) hg).trans f0,(hb.frozen (p:=⟨g,1,none⟩) hg).trans f1,(hb.frozen (p:=⟨g,2,none⟩) hg).trans f2,(hb.frozen (p:=⟨g,3,none⟩) hg).trans f3,(hb.frozen (p:=⟨g,4,none⟩) hg).trans f4⟩
theorem Box5.next {W W':World} {g:Nat} {t:Sh} {q:Ptr} (h:Box5 W g t q) (hb:Below W.heap.size W W'):Box5 W' g t q:=h.keep h.1 hb
theorem Z07 (w:World) (t:Sh) (q:Ptr):Box5 (w.alloc (.cells (Y8 t q) 25)) w.heap.size t q:=
 ⟨by simp,⟨by simp[go_sem],by simp[go_sem],by simp[go_sem],by simp[go_sem],by simp[go_sem]⟩,by simp[go_sem],by simp[go_sem],by simp[go_sem],by simp[go_sem],by simp[go_sem]⟩
theorem Z0b (b off k:Nat): (⟨b,off,none⟩:Addr).add k=⟨b,off+k,none⟩:=by unfold Addr.add; split <;> simp_all
theorem Z9D (ss:List ByteArray):strs (ss.map fun s=>s.data.toList)=ss:=by
 unfold strs;rw[List.map_map]
 conv=>rhs; rw[<-List.map_id ss]
 rfl
section
variable {H : Type} {enc : TypeId × Value -> H} {W : World} {base : Nat} {held : Bool}
theorem Z8n {fuel:Nat} {cs:List Value} {x:DataW H×List MemPlace} (h:DataW.trod enc Tryd.prog W base (fun _=>true) held fuel 22 cs=some x):
 ∃(A:Option Addr) (l:List (List UInt8)) (c:Nat),cs= [.slice A l.length c]/\Strs W W.heap.size A (strs l)/\l.length<=9223372036854775807/\l.length<=c/\(A=none->c=0)/\ ∀y∈l,y.length<=9223372036854775807:=by
 rcases Go.ChangeShapes.open_strings Tryd.underlying22 Tryd.underlying9 (by kernel_rfl) h with ⟨hcs,_⟩ | ⟨a,len,cap,ss,hcs,_,hl,hm,hz,_,hcell,hws⟩
 {exact ⟨none,[],0,hcs,Or.inl rfl,by simp,by simp,fun _=>rfl,by simp⟩}
 {have hz':ss.length=cap:=by simpa using hz
  unfold maxLen at hm;refine ⟨some a,(ss.take len).map (fun s=>s.data.toList),cap, ?_, ?_, ?_, ?_,by simp, ?_⟩
  {rw[hcs,List.length_map,List.length_take,Nat.min_eq_left (by omega)]}
  {rw[Z9D]; exact Z3v hcell}
  {rw[List.length_map,List.length_take]; omega}
  {rw[List.length_map,List.length_take]; omega}
  {intro y hy;obtain ⟨s,hs,rfl⟩:=List.mem_map.1 hy;have:=hws s (List.mem_of_mem_take hs);unfold maxLen at this
   rwa [Lib.size_eq] at this}}
theorem Z3a: ∀(fuel:Nat) {cs:List Value} {x:DataW H×List MemPlace},DataW.trod enc Tryd.prog W base (fun _=>true) held fuel 25 cs=some x->
 ∃(t:Sh) (q:Ptr),cs= [.int .i64 t.kind,.string ⟨t.of_.toArray⟩,.string ⟨t.name.toArray⟩,.slice q.A t.names.length q.c,.slice q.P t.parts.length q.d]/\ShAt W W.heap.size q t:=by
 intro fuel;induction fuel using Nat.strongRecOn with
 | _ fuel IH=>
 intro cs x h;obtain ⟨xs,n,hn,_,hlen,hxl,hf⟩:=DataW.trod_struct Tryd.underlying25 h;have hC:Tryd.prog.cellsOf 25=5:=by kernel_rfl
 have c1:Tryd.prog.cellsOf 3=1:=by kernel_rfl
 have c9:Tryd.prog.cellsOf 9=1:=by kernel_rfl
 have c22:Tryd.prog.cellsOf 22=1:=by kernel_rfl
 have c23:Tryd.prog.cellsOf 23=1:=by kernel_rfl
 rw[hC] at hlen
 match cs,hlen with
 | [a0,a1,a2,a3,a4],_=>
  have f0:=hf 0 _ rfl;have f1:=hf 1 _ rfl;have f2:=hf 2 _ rfl;have f3:=hf 3 _ rfl;have f4:=hf 4 _ rfl;have hz:xs.length=5:=hxl;change DataW.trod enc _ W base _ held n 3 (([a0,a1,a2,a3,a4].drop 0).take (Tryd.prog.cellsOf 3))=_ at f0;change DataW.trod enc _ W base _ held n 9 (([a0,a1,a2,a3,a4].drop 1).take (Tryd.prog.cellsOf 9))=_ at f1;change DataW.trod enc _ W base _ held n 9 (([a0,a1,a2,a3,a4].drop 2).take (Tryd.prog.cellsOf 9))=_ at f2;change DataW.trod enc _ W base _ held n 22 (([a0,a1,a2,a3,a4].drop 3).take (Tryd.prog.cellsOf 22))=_ at f3;change DataW.trod enc _ W base _ held n 23 (([a0,a1,a2,a3,a4].drop 4).take (Tryd.prog.cellsOf 23))=_ at f4;rw[c1,List.getElem?_eq_getElem (by omega)] at f0;rw[c9,List.getElem?_eq_getElem (by omega)] at f1 f2;rw[c22,List.getElem?_eq_getElem (by omega)] at f3;rw[c23,List.getElem?_eq_getElem (by omega)] at f4;obtain ⟨b0,hb0,_,_⟩:=DataW.trod_int Tryd.underlying3 f0;obtain ⟨b1,hb1,_,hm1⟩:=DataW.trod_string Tryd.underlying9 f1;obtain ⟨b2,hb2,_,hm2⟩:=DataW.trod_string Tryd.underlying9 f2;obtain ⟨A,l,c,hb3,hS,hl,hlc,hA0,hly⟩:=Z8n f3;unfold maxLen at hm1 hm2;simp at hb0 hb1 hb2 hb3;subst hb0 hb1 hb2 hb3;rcases DataW.trod_slice Tryd.underlying23 f4 with ⟨hb4,_⟩ | ⟨a,len,cap,elems,rest,n2,hn2,hb4,_,hb,hle,hmm,hel,hx,_⟩
  {simp at hb4;subst hb4;exact ⟨⟨b0,b1.data.toList,b2.data.toList,l,[]⟩,⟨A,c,none,0⟩,rfl,
    .mk _ _ 0 0 (fun _=>⟨none,0,none,0⟩) ⟨by rw[<-Lib.size_eq]; exact hm1,by rw[<-Lib.size_eq]; exact hm2,hly,hl,by simp,hlc,by simp,hA0,fun _=>rfl⟩ hS (Or.inl rfl) (fun i h=>absurd h (by simp)) (fun i h=>absurd h (by simp))⟩}
  {simp at hb4;subst hb4;unfold maxLen at hmm;have hv: ∀i,∃u:Sh×Ptr,i < len->W.cell? (a.add (i * 5+0))=some (.int .i64 u.1.kind)/\W.cell? (a.add (i * 5+1))=some (.string ⟨u.1.of_.toArray⟩)/\W.cell? (a.add (i * 5+2))=some (.string ⟨u.1.name.toArray⟩)/\
    W.cell? (a.add (i * 5+3))=some (.slice u.2.A u.1.names.length u.2.c)/\W.cell? (a.add (i * 5+4))=some (.slice u.2.P u.1.parts.length u.2.d)/\ShAt W W.heap.size u.2 u.1:=by
    intro i;by_cases hi:i < len
    {have h1:=hx i hi;rw[hC,List.getElem?_eq_getElem (by omega)] at h1;cases hcs:W.cells? base (a.add (i * 5)) 5 with
     | none=>rw[hcs] at h1; cases h1
     | some cs'=>
      rw[hcs] at h1;obtain ⟨u,q,hu,hat⟩:=IH n2 (by omega) h1;subst hu;obtain ⟨_,hcl,hat'⟩:=World.cells?_some hcs;refine ⟨(u,q),fun _=>⟨?_, ?_, ?_, ?_, ?_,hat⟩⟩
      {rw[<-Go.Deep.add_add]; exact hat' 0 (by omega)}
      {rw[<-Go.Deep.add_add]; exact hat' 1 (by omega)}
      {rw[<-Go.Deep.add_add]; exact hat' 2 (by omega)}
      {rw[<-Go.Deep.add_add]; exact hat' 3 (by omega)}
      {rw[<-Go.Deep.add_add]; exact hat' 4 (by omega)}}
    {exact ⟨(⟨0,[],[],[],[]⟩,⟨none,0,none,0⟩),fun h=>absurd h hi⟩}
   let f:=fun i=>(hv i).choose
   have hf2: ∀i,i < len->W.cell? (a.add (i * 5+0))=some (.int .i64 (f i).1.kind)/\W.cell? (a.add (i * 5+1))=some (.string ⟨(f i).1.of_.toArray⟩)/\W.cell? (a.add (i * 5+2))=some (.string ⟨(f i).1.name.toArray⟩)/\
    W.cell? (a.add (i * 5+3))=some (.slice (f i).2.A (f i).1.names.length (f i).2.c)/\W.cell? (a.add (i * 5+4))=some (.slice (f i).2.P (f i).1.parts.length (f i).2.d)/\ShAt W W.heap.size (f i).2 (f i).1:=fun i=>(hv i).choose_spec
   have hln: ((List.range len).map fun i=>(f i).1).length=len:=by simp
   refine ⟨⟨b0,b1.data.toList,b2.data.toList,l,(List.range len).map fun i=>(f i).1⟩,⟨A,c,some a,cap⟩,by simp, ?_⟩;obtain ⟨b,off,spot⟩:=a;have hsm:Small ⟨b0,b1.data.toList,b2.data.toList,l,(List.range len).map fun i=>(f i).1⟩ ⟨A,c,some ⟨b,off,spot⟩,cap⟩:=
    ⟨by rw[<-Lib.size_eq]; exact hm1,by rw[<-Lib.size_eq]; exact hm2,hly,hl,by simp; omega,hlc,by simp; omega,hA0,fun h=>by cases h⟩
   by_cases h0:len=0
   {exact .mk _ _ 0 0 (fun _=>⟨none,0,none,0⟩) hsm hS (Or.inl (by simp[h0])) (fun i h=>absurd h (by simp[h0])) (fun i h=>absurd h (by simp[h0]))}
   {have h1:=(hf2 0 (by omega)).1;have hspot:spot=none:=by simpa[Addr.add] using World.cell?_spot h1
    subst hspot;have hplain: ∀k,(⟨b,off,none⟩:Addr).add k=⟨b,off+k,none⟩:=fun k=>Z0b b off k;refine .mk _ _ b off (fun i=>(f i).2) hsm hS (Or.inr ⟨rfl, ?_⟩) ?_ ?_
    {rw[hplain] at h1;exact Z1N h1}
    {intro i hi;have hin:i < len:=by simpa using hi
     obtain ⟨g0,g1,g2,g3,g4,_⟩:=hf2 i hin;simp only[hplain] at g0 g1 g2 g3 g4;simp only[List.getElem_map,List.getElem_range];exact ⟨g0,g1,g2,g3,g4⟩}
    {intro i hi;have hin:i < len:=by simpa using hi
     simp only[List.getElem_map,List.getElem_range];exact (hf2 i hin).2.2.2.2.2}}}
end
end Go.Proofs.YtchklpedlbkgaaaDoor
namespace Go.Proofs.YtchklpedlbkgaaaDoor
section
open Go.RowKit Shp
theorem Z1A (l:List (List UInt8)): (strs l).length=l.length:=by simp[strs]
structure TxR (W:World) (g:Nat) (ts:List (List UInt8)):Prop where
 lt:g < W.heap.size
 at_: ∀j (h:j < ts.length),W.cell? ⟨g,j,none⟩=some (.string ⟨(ts[j]'h).toArray⟩)
 fz: ∀o,W.frozen? ⟨g,o,none⟩=false
theorem TxR.keep {W W':World} {g B:Nat} {ts:List (List UInt8)} (h:TxR W g ts) (hg:g < B) (hb:Below B W W'):TxR W' g ts:=
 ⟨Nat.lt_of_lt_of_le h.lt hb.size,fun j hj=>(hb.cell (p:=⟨g,j,none⟩) hg).trans (h.at_ j hj),fun o=>(hb.frozen (p:=⟨g,o,none⟩) hg).trans (h.fz o)⟩
theorem TxR.next {W W':World} {g:Nat} {ts:List (List UInt8)} (h:TxR W g ts) (hb:Below W.heap.size W W'):TxR W' g ts:=h.keep h.lt hb
theorem Strs.cell7 {w:World} {B:Nat} {A:Option Addr} {l:List (List UInt8)} (h:Strs w B A (strs l)):l.length=0\/ ∃g off,A=some ⟨g,off,none⟩/\g < B/\ ∀i (hi:i < l.length),w.cell? ⟨g,off+i,none⟩=some (.string ⟨(l[i]'hi).toArray⟩):=by
 rcases h with h | ⟨g,off,hA,hg,hc⟩
 {exact Or.inl (by rwa [Z1A] at h)}
 {refine Or.inr ⟨g,off,hA,hg,fun i hi=> ?_⟩;rw[hc i (by rwa [Z1A])];simp[strs]}
end
end Go.Proofs.YtchklpedlbkgaaaDoor
namespace Shp
section
theorem Z73 (l:List Sh):deeps l<=sizes l:=by
 induction l with
 | nil=>simp[deeps]
 | cons a l ih=>have:=Z1G a; simp[deeps,sizes]; omega
theorem Z5o (l:List (List UInt8)):noDup l=true ↔ l.Nodup:=by
 induction l with
 | nil=>simp[noDup]
 | cons a l ih=>simp[noDup,ih]
theorem Z0D (l:List (List UInt8)):areNames l=true ↔ (∀x∈l,Lex.isName x=true)/\l.Nodup:=by
 simp[areNames,Z5o]
section
variable {l : List (List UInt8)}
include l
theorem Z3J {i:Nat} (hi:i < l.length) (h:Lex.isName (l[i]'hi)=false):areNames l=false:=by
 cases e:areNames l with
 | false=>rfl
 | true=>rw[((Z0D l).1 e).1 _ (List.getElem_mem hi)] at h; cases h
theorem Z2W {i k:Nat} (hi:i < l.length) (hk:k < i) (h:l[k]'(by omega)=l[i]'hi):areNames l=false:=by
 cases e:areNames l with
 | false=>rfl
 | true=>
  have:=((Z0D l).1 e).2;have:=(List.pairwise_iff_getElem.1 this) k i (by omega) hi hk;exact absurd h this
theorem Z4c (h1: ∀i (hi:i < l.length),Lex.isName (l[i]'hi)=true) (h2: ∀i (hi:i < l.length),∀k (hk:k < i),l[k]'(by omega)≠l[i]'hi):areNames l=true:=by
 refine (Z0D l).2 ⟨fun x hx=> ?_, ?_⟩
 {obtain ⟨i,hi,rfl⟩:=List.getElem_of_mem hx; exact h1 i hi}
 {exact List.pairwise_iff_getElem.2 (fun k i hk hi hki=>h2 i hi k hki)}
end
def ofOk (t:Sh):Bool:=Lex.isName t.of_||(t.of_== []&&decide (t.kind=9)&& !plain t.name)
section
variable {t : Sh}
include t
theorem Z26 (h:t.kind=9\/t.kind=10):fits t=(Lex.isUpper t.name&&ofOk t&&decide (t.names.length=0)&&decide (t.parts.length=0)):=by unfold fits ofOk; rw[if_pos h]
theorem Z0X (h: ¬(t.kind=9\/t.kind=10)) (hb:bare t=false):fits t=false:=by unfold fits; rw[if_neg h,if_pos hb]
theorem Z2k (hb:bare t=true) (h:t.kind=6\/t.kind=7):fits t=(areNames t.names&&decide (t.names.length=t.parts.length)):=by
 unfold fits; rw[if_neg (by omega),if_neg (by rw[hb]; decide),if_pos h]
theorem Z1H (h: ¬(t.kind=9\/t.kind=10)) (hb:bare t=true) (h2: ¬(t.kind=6\/t.kind=7)) (h3:0 < t.names.length):fits t=false:=by
 unfold fits; rw[if_neg h,if_neg (by rw[hb]; decide),if_neg h2,if_pos h3]
theorem Z4u (hb:bare t=true) (h:t.kind=8) (h3: ¬0 < t.names.length):fits t=decide (1<=t.parts.length):=by
 unfold fits; rw[if_neg (by omega),if_neg (by rw[hb]; decide),if_neg (by omega),if_neg h3,if_pos h]
theorem Z3K (hb:bare t=true) (h:t.kind=5) (h3: ¬0 < t.names.length):fits t=decide (t.parts.length=1):=by
 unfold fits; rw[if_neg (by omega),if_neg (by rw[hb]; decide),if_neg (by omega),if_neg h3,if_neg (by omega),if_pos h]
theorem Z2u (hb:bare t=true) (h: ¬(t.kind=9\/t.kind=10)) (h2: ¬(t.kind=6\/t.kind=7)) (h3: ¬0 < t.names.length) (h4:t.kind≠8) (h5:t.kind≠5):
 fits t=(decide (1<=t.kind)&&decide (t.kind<=4)&&decide (t.parts.length=0)):=by
 unfold fits; rw[if_neg h,if_neg (by rw[hb]; decide),if_neg h2,if_neg h3,if_neg h4,if_neg h5]
theorem Z0c (h:right t=true):fits t=true:=by rw[Z1z,Bool.and_eq_true] at h; exact h.1
end
theorem Z05 {t p:Sh} (h:right t=true) (hp:p∈t.parts):right p=true:=by
 rw[Z1z,Z1M,Bool.and_eq_true,List.all_eq_true] at h; exact h.2 p hp
end
end Shp
namespace Lex
section
def join:List (List UInt8)->List UInt8
 | []=> []
 | [p]=>p
 | p::q::ps=>p++32::join (q::ps)
def Placed (s:List UInt8):Nat->List (Tok×Nat)->Prop
 | a,[]=>a<=s.length
 | a,(t,p)::r=>a<=p/\p<=s.length/\1<=t.kind/\t.kind<=7/\(t.kind=4->Placed s (p+2) r)/\(t.kind≠4->p+t.text.length<=s.length/\(s.drop p).take t.text.length=t.text/\Placed s (p+t.text.length) r)
theorem Placed.less {s:List UInt8} {a b:Nat} (hab:b<=a): ∀ {l:List (Tok×Nat)},Placed s a l->Placed s b l
 | [],h=>Nat.le_trans hab h
 | (t,p)::r,h=>by
  obtain ⟨h1,h2⟩:=h;exact ⟨Nat.le_trans hab h1,h2⟩
def up (k:Nat):Except Nat Nat->Except Nat Nat
 | .ok n=> .ok (k+n)
 | .error n=> .error (k+n)
end
end Lex
namespace Lex
def letter (c:UInt8):Bool:=small c||great c
theorem Z6A (c:UInt8):nameB c=(letter c||digit c||c==95):=rfl
end Lex
namespace Go.Proofs.YtchklpedlbkgaaaDoor
open Go.RowKit
section
variable (c : UInt8) (w : World)
include c w
theorem Z1w:
 Calls Tryd.prog 69 #[.int .u8 (c.toNat:Int)] w fun e w'=>e= .returned (.bool (Lex.small c))/\w=w':=by
 have hlt:=c.toNat_lt;have H:c.toNat<=96\/(97<=c.toNat/\c.toNat<=122)\/123<=c.toNat:=by omega
 have HB:Hid (Lex.small c=(decide (97<=c.toNat)&&decide (c.toNat<=122))):=Y1 rfl;obtain ⟨n,hn⟩: ∃n,n=c.toNat:=⟨_,rfl⟩;rw[<-hn] at H HB hlt ⊢;clear hn;rcases H with h1 | ⟨h1,h2⟩ | h1
 {have h3:decide ((97:Int)<=(n:Int))=false:=decide_eq_false (by omega);go_enter Tryd.func69,Tryd.ntmps69;go_wp2;go_ret;exact ⟨by rw[HB.out,decide_eq_false (by omega)]; rfl,rfl⟩}
 {have h3:decide ((n:Int)<=122)=true:=decide_eq_true (by omega);have h4:decide ((97:Int)<=(n:Int))=true:=decide_eq_true (by omega);go_enter Tryd.func69,Tryd.ntmps69;go_wp2;go_ret;exact ⟨by rw[HB.out,decide_eq_true h1,decide_eq_true h2]; rfl,rfl⟩}
 {have h3:decide ((n:Int)<=122)=false:=decide_eq_false (by omega);have h4:decide ((97:Int)<=(n:Int))=true:=decide_eq_true (by omega);go_enter Tryd.func69,Tryd.ntmps69;go_wp2;go_ret;exact ⟨by rw[HB.out,decide_eq_false (p:=n<=122) (by omega),Bool.and_false]; rfl,rfl⟩}
theorem Z2L:
 Calls Tryd.prog 72 #[.int .u8 (c.toNat:Int)] w fun e w'=>e= .returned (.bool (Lex.great c))/\w=w':=by
 have hlt:=c.toNat_lt;have H:c.toNat<=64\/(65<=c.toNat/\c.toNat<=90)\/91<=c.toNat:=by omega
 have HB:Hid (Lex.great c=(decide (65<=c.toNat)&&decide (c.toNat<=90))):=Y1 rfl;obtain ⟨n,hn⟩: ∃n,n=c.toNat:=⟨_,rfl⟩;rw[<-hn] at H HB hlt ⊢;clear hn;rcases H with h1 | ⟨h1,h2⟩ | h1
 {have h3:decide ((65:Int)<=(n:Int))=false:=decide_eq_false (by omega);go_enter Tryd.func72,Tryd.ntmps72;go_wp2;go_ret;exact ⟨by rw[HB.out,decide_eq_false (by omega)]; rfl,rfl⟩}
 {have h3:decide ((n:Int)<=90)=true:=decide_eq_true (by omega);have h4:decide ((65:Int)<=(n:Int))=true:=decide_eq_true (by omega);go_enter Tryd.func72,Tryd.ntmps72;go_wp2;go_ret;exact ⟨by rw[HB.out,decide_eq_true h1,decide_eq_true h2]; rfl,rfl⟩}
 {have h3:decide ((n:Int)<=90)=false:=decide_eq_false (by omega);have h4:decide ((65:Int)<=(n:Int))=true:=decide_eq_true (by omega);go_enter Tryd.func72,Tryd.ntmps72;go_wp2;go_ret;exact ⟨by rw[HB.out,decide_eq_false (p:=n<=90) (by omega),Bool.and_false]; rfl,rfl⟩}
theorem Z2M:
 Calls Tryd.prog 96 #[.int .u8 (c.toNat:Int)] w fun e w'=>e= .returned (.bool (Lex.digit c))/\w=w':=by
 have hlt:=c.toNat_lt;have H:c.toNat<=47\/(48<=c.toNat/\c.toNat<=57)\/58<=c.toNat:=by omega
 have HB:Hid (Lex.digit c=(decide (48<=c.toNat)&&decide (c.toNat<=57))):=Y1 rfl;obtain ⟨n,hn⟩: ∃n,n=c.toNat:=⟨_,rfl⟩;rw[<-hn] at H HB hlt ⊢;clear hn;rcases H with h1 | ⟨h1,h2⟩ | h1
 {have h3:decide ((48:Int)<=(n:Int))=false:=decide_eq_false (by omega);go_enter Tryd.func96,Tryd.ntmps96;go_wp2;go_ret;exact ⟨by rw[HB.out,decide_eq_false (by omega)]; rfl,rfl⟩}
 {have h3:decide ((n:Int)<=57)=true:=decide_eq_true (by omega);have h4:decide ((48:Int)<=(n:Int))=true:=decide_eq_true (by omega);go_enter Tryd.func96,Tryd.ntmps96;go_wp2;go_ret;exact ⟨by rw[HB.out,decide_eq_true h1,decide_eq_true h2]; rfl,rfl⟩}
 {have h3:decide ((n:Int)<=57)=false:=decide_eq_false (by omega);have h4:decide ((48:Int)<=(n:Int))=true:=decide_eq_true (by omega);go_enter Tryd.func96,Tryd.ntmps96;go_wp2;go_ret;exact ⟨by rw[HB.out,decide_eq_false (p:=n<=57) (by omega),Bool.and_false]; rfl,rfl⟩}
theorem Z1R:
 Calls Tryd.prog 95 #[.int .u8 (c.toNat:Int)] w fun e w'=>e= .returned (.bool (Lex.letter c))/\w=w':=by
 have HM:Hid (Lex.letter c=(Lex.small c||Lex.great c)):=Y1 rfl;cases h1:Lex.small c
 {have HF:Hid (Lex.letter c=Lex.great c):=Y1 (by rw[HM.out,h1]; rfl);go_enter Tryd.func95,Tryd.ntmps95
  go_wp2_with fail
  refine (Z1w c _).mono ?_;rintro e w2 ⟨rfl,rfl⟩;rw[h1]
  go_wp2_with fail
  refine (Z2L c _).mono ?_;rintro e w2 ⟨rfl,rfl⟩;go_wp2;go_ret;exact ⟨by rw[HF.out]; rfl,rfl⟩}
 {have HF:Hid (Lex.letter c=true):=Y1 (by rw[HM.out,h1]; rfl);go_enter Tryd.func95,Tryd.ntmps95
  go_wp2_with fail
  refine (Z1w c _).mono ?_;rintro e w2 ⟨rfl,rfl⟩;rw[h1];go_wp2;go_ret;exact ⟨by rw[HF.out]; rfl,rfl⟩}
theorem Z4n:
 Calls Tryd.prog 87 #[.int .u8 (c.toNat:Int)] w fun e w'=>e= .returned (.bool (Lex.nameB c))/\w=w':=by
 have HM:=Y1 (Lex.Z6A c);have b95:=Z7X c;cases h1:Lex.letter c
 {cases h2:Lex.digit c
  {cases g95: (c==95)
   {rw[g95] at b95;have HF:Hid (Lex.nameB c=false):=Y1 (by rw[HM.out,h1,h2,g95]; rfl);clear HM;go_enter Tryd.func87,Tryd.ntmps87
    go_wp2_with fail
    refine (Z1R c _).mono ?_;rintro e w2 ⟨rfl,rfl⟩;rw[h1]
    go_wp2_with fail
    refine (Z2M c _).mono ?_;rintro e w2 ⟨rfl,rfl⟩;rw[h2];go_wp2;go_ret;exact ⟨by rw[HF.out]; rfl,rfl⟩}
   {rw[g95] at b95;have HF:Hid (Lex.nameB c=true):=Y1 (by rw[HM.out,h1,h2,g95]; rfl);clear HM;go_enter Tryd.func87,Tryd.ntmps87
    go_wp2_with fail
    refine (Z1R c _).mono ?_;rintro e w2 ⟨rfl,rfl⟩;rw[h1]
    go_wp2_with fail
    refine (Z2M c _).mono ?_;rintro e w2 ⟨rfl,rfl⟩;rw[h2];go_wp2;go_ret;exact ⟨by rw[HF.out]; rfl,rfl⟩}}
  {have HF:Hid (Lex.nameB c=true):=Y1 (by rw[HM.out,h1,h2]; rfl);clear HM;go_enter Tryd.func87,Tryd.ntmps87
   go_wp2_with fail
   refine (Z1R c _).mono ?_;rintro e w2 ⟨rfl,rfl⟩;rw[h1]
   go_wp2_with fail
   refine (Z2M c _).mono ?_;rintro e w2 ⟨rfl,rfl⟩;rw[h2];go_wp2;go_ret;exact ⟨by rw[HF.out]; rfl,rfl⟩}}
 {have HF:Hid (Lex.nameB c=true):=Y1 (by rw[HM.out,h1]; rfl);clear HM;go_enter Tryd.func87,Tryd.ntmps87
  go_wp2_with fail
  refine (Z1R c _).mono ?_;rintro e w2 ⟨rfl,rfl⟩;rw[h1];go_wp2;go_ret;exact ⟨by rw[HF.out]; rfl,rfl⟩}
end
theorem Z8T (s:List UInt8) (w:World):
 Calls Tryd.prog 71 #[.string ⟨s.toArray⟩] w fun e w'=>e= .returned (.bool (Lex.isWord s))/\w=w':=by
 cases hq:Lex.isWord s
 {have HN: ∀t∈Lex.words,(s==t)=false:=fun t ht=>by
   cases h: (s==t) with
   | false=>rfl
   | true=>
    obtain rfl:=beq_iff_eq.1 h;unfold Lex.isWord at hq;rw[List.contains_iff_mem.2 ht] at hq; cases hq
  have n0: (s== [109,111,100,117,108,101])=false:=HN _ (by decide);have n1: (s== [105,109,112,111,114,116])=false:=HN _ (by decide);have n2: (s== [112,105,110])=false:=HN _ (by decide);have n3: (s== [114,97,110,103,101])=false:=HN _ (by decide);have n4: (s== [116,121,112,101])=false:=HN _ (by decide);have n5: (s== [111,112,97,113,117,101])=false:=HN _ (by decide);have n6: (s== [108,101,116])=false:=HN _ (by decide);have n7: (s== [105,110])=false:=HN _ (by decide);have n8: (s== [101,120,112,111,114,116])=false:=HN _ (by decide);have n9: (s== [102,117,110])=false:=HN _ (by decide);have n10: (s== [105,102])=false:=HN _ (by decide);have n11: (s== [116,104,101,110])=false:=HN _ (by decide);have n12: (s== [101,108,115,101])=false:=HN _ (by decide);have n13: (s== [99,97,115,101])=false:=HN _ (by decide);have n14: (s== [111,102])=false:=HN _ (by decide);have n15: (s== [97,115])=false:=HN _ (by decide);have n16: (s== [110,101,119])=false:=HN _ (by decide);have n17: (s== [114,97,119])=false:=HN _ (by decide);have n18: (s== [116,114,117,101])=false:=HN _ (by decide);have n19: (s== [102,97,108,115,101])=false:=HN _ (by decide);clear HN hq;go_enter Tryd.func71,Tryd.ntmps71;go_wp2;go_ret;exact ⟨rfl,rfl⟩}
 {have hm:s∈Lex.words:=List.contains_iff_mem.1 hq;clear hq;unfold Lex.words at hm;simp only[List.mem_cons,List.not_mem_nil,or_false] at hm;rcases hm with rfl | rfl | rfl | rfl | rfl | rfl | rfl | rfl | rfl | rfl | rfl | rfl | rfl | rfl | rfl | rfl | rfl | rfl | rfl | rfl
  all_goals
   go_enter Tryd.func71,Tryd.ntmps71;go_wp2;go_ret;exact ⟨rfl,rfl⟩}
end Go.Proofs.YtchklpedlbkgaaaDoor
namespace Lex
def named (l:List UInt8):Bool:=decide (l.length<=24)&&l.tail.all nameB
section
variable {p : UInt8 -> Bool} {l : List UInt8}
include p l
theorem Zbc (h: ∀j (hj:j < l.length),1<=j->p (l[j]'hj)=true):l.tail.all p=true:=by
 cases l with
 | nil=>rfl
 | cons c r=>
  refine List.all_eq_true.2 (fun x hx=> ?_);obtain ⟨j,hj,rfl⟩:=List.mem_iff_getElem.1 hx;exact h (j+1) (by simpa using hj) (by omega)
theorem Zbx {j:Nat} (hj:j < l.length) (h1:1<=j) (h:p (l[j]'hj)=false):l.tail.all p=false:=by
 cases l with
 | nil=>simp at hj
 | cons c r=>
  obtain ⟨k,rfl⟩: ∃k,j=k+1:=⟨j - 1,by omega⟩;have hm: (r[k]'(by simpa using hj))∈r:=List.getElem_mem _;cases hq: (c::r).tail.all p with
  | false=>rfl
  | true=>
   have:=List.all_eq_true.1 hq _ hm;have h':p (r[k]'(by simpa using hj))=false:=h;rw[h'] at this; cases this
end
theorem Z8U (c:UInt8) (r:List UInt8):isName (c::r)=(small c&&named (c::r)&& !isWord (c::r)):=by
 show (decide ((c::r).length<=24)&&small c&&(c::r).all nameB&& !isWord (c::r))=_;cases h:small c with
 | false=>simp
 | true=>
  have:nameB c=true:=by unfold nameB; rw[h]; rfl
  unfold named;simp[this]
theorem Z7C (c:UInt8) (r:List UInt8):isUpper (c::r)=(great c&&named (c::r)):=by
 show (decide ((c::r).length<=24)&&great c&&(c::r).all nameB)=_;cases h:great c with
 | false=>simp
 | true=>
  have:nameB c=true:=by unfold nameB; rw[h]; simp
  unfold named;simp[this]
end Lex
namespace Go.Proofs.YtchklpedlbkgaaaDoor
open Go.RowKit
section
variable (l : List UInt8) (hl : l.length <= 9223372036854775807) (w : World)
include l hl w
theorem Z2N:
 Calls Tryd.prog 70 #[.string ⟨l.toArray⟩] w fun e w'=>e= .returned (.bool (Lex.named l))/\w=w':=by
 have hz: (⟨l.toArray⟩:ByteArray).size=l.length:=Z0G _;have HM:Hid (Lex.named l=(decide (l.length<=24)&&l.tail.all Lex.nameB)):=Y1 rfl;by_cases h24:l.length<=24
 {have h24d: ¬((24:Int) < (l.length:Int)):=by omega
  go_enter Tryd.func70,Tryd.ntmps70
  go_wp2_with fail
  go_loopw [3] (fun ii wr=> ∃n:Nat,ii= .int .i64 n/\1<=n/\(n<=l.length\/n=1)/\Hid (∀j (hj:j < l.length),1<=j->j < n->Lex.nameB (l[j]'hj)=true)/\w=wr)
   (fun i _=>l.length - (intOf i).toNat)
  case atStart=>exact ⟨1,rfl,Nat.le_refl _,Or.inr rfl,Y1 (fun j _ h1 hj=>absurd hj (by omega)),rfl⟩
  case round=>
   obtain ⟨n,rfl,h1,hn,HN,rfl⟩:=hrel;by_cases hlt:n < l.length
   {have hi1: (n:Int) < (l.length:Int):=by omega
    obtain ⟨c,hc⟩: ∃c,c=l[n]'hlt:=⟨_,rfl⟩;have hidx: ∀W,(Instr.index 9 (.string ⟨l.toArray⟩) (.int .i64 (n:Int))).run Tryd.prog W= .ok (.int .u8 c.toNat) W:=fun W=>by
     rw[hc]; exact Z4I ⟨l.toArray⟩ n (by omega) W
    have HC:=Y1 hc;clear hc;cases hb:Lex.nameB c
    {have HF:Hid (Lex.named l=false):=Y1 (by rw[HM.out,Lex.Zbx hlt h1 (by rw[<-HC.out]; exact hb)]; simp)
     go_wp2_with fail
     refine (Z4n c _).mono ?_;rintro e w2 ⟨rfl,rfl⟩;rw[hb];go_wp2;go_ret;exact ⟨by rw[HF.out]; rfl,rfl⟩}
    {have HN2:Hid (∀j (hj:j < l.length),1<=j->j < n+1->Lex.nameB (l[j]'hj)=true):=Y1 (fun j hj h1 hji=>by
      rcases Nat.lt_succ_iff_lt_or_eq.1 hji with h' | rfl
      {exact HN.out j hj h1 h'}
      · rw[<-HC.out]; exact hb)
     go_wp2_with fail
     refine (Z4n c _).mono ?_;rintro e w2 ⟨rfl,rfl⟩;rw[hb];go_wp2
     go_roundw
     case rel=>exact ⟨n+1,by go_num,by omega,Or.inl (by omega),HN2,trivial⟩
     case measure=>simp[intOf]; omega}}
   {have hi1: ¬(n:Int) < (l.length:Int):=by omega
    have HF:Hid (Lex.named l=true):=Y1 (by rw[HM.out,decide_eq_true h24,Lex.Zbc (fun j hj h1=>HN.out j hj h1 (by omega))]; rfl);go_wp2;go_ret;exact ⟨by rw[HF.out]; rfl,rfl⟩}}
 {have h24d: (24:Int) < (l.length:Int):=by omega
  have HF:Hid (Lex.named l=false):=Y1 (by rw[HM.out,decide_eq_false h24]; rfl);go_enter Tryd.func70,Tryd.ntmps70;go_wp2;go_ret;exact ⟨by rw[HF.out]; rfl,rfl⟩}
theorem Z2g:
 Calls Tryd.prog 59 #[.string ⟨l.toArray⟩] w fun e w'=>e= .returned (.bool (Lex.isName l))/\w=w':=by
 cases l with
 | nil=>
  have HM:Hid (Lex.isName []=false):=Y1 rfl;go_enter Tryd.func59,Tryd.ntmps59;go_wp2;go_ret;exact ⟨by rw[HM.out]; rfl,rfl⟩
 | cons c r=>
  have HM:=Y1 (Lex.Z8U c r);obtain ⟨l,hll⟩: ∃l:List UInt8,l=c::r:=⟨_,rfl⟩;rw[<-hll] at hl HM ⊢;have hz: (⟨l.toArray⟩:ByteArray).size=l.length:=Z0G _;have he:l.isEmpty=false:=by rw[hll]; rfl
  have he2: (l== [])=false:=by rw[hll]; rfl
  have he3: (l != [])=true:=by rw[hll]; rfl
  have hidx: ∀W,(Instr.index 9 (.string ⟨l.toArray⟩) (.int .i64 0)).run Tryd.prog W= .ok (.int .u8 c.toNat) W:=fun W=>by rw[hll]; rfl
  clear hll;cases h1:Lex.small c
  {have HF:Hid (Lex.isName l=false):=Y1 (by rw[HM.out,h1]; rfl);go_enter Tryd.func59,Tryd.ntmps59
   go_wp2_with fail
   refine (Z1w c _).mono ?_;rintro e w2 ⟨rfl,rfl⟩;rw[h1];go_wp2;go_ret;exact ⟨by rw[HF.out]; rfl,rfl⟩}
  {cases h2:Lex.named l
   {have HF:Hid (Lex.isName l=false):=Y1 (by rw[HM.out,h1,h2]; rfl);go_enter Tryd.func59,Tryd.ntmps59
    go_wp2_with fail
    refine (Z1w c _).mono ?_;rintro e w2 ⟨rfl,rfl⟩;rw[h1]
    go_wp2_with fail
    refine (Z2N l hl _).mono ?_;rintro e w2 ⟨rfl,rfl⟩;rw[h2];go_wp2;go_ret;exact ⟨by rw[HF.out]; rfl,rfl⟩}
   {have HF:Hid (Lex.isName l= !Lex.isWord l):=Y1 (by rw[HM.out,h1,h2]; rfl);go_enter Tryd.func59,Tryd.ntmps59
    go_wp2_with fail
    refine (Z1w c _).mono ?_;rintro e w2 ⟨rfl,rfl⟩;rw[h1]
    go_wp2_with fail
    refine (Z2N l hl _).mono ?_;rintro e w2 ⟨rfl,rfl⟩;rw[h2]
    go_wp2_with fail
    refine (Z8T l _).mono ?_;rintro e w2 ⟨rfl,rfl⟩;go_wp2;go_ret;exact ⟨by rw[HF.out]; rfl,rfl⟩}}
theorem Z4o:
 Calls Tryd.prog 60 #[.string ⟨l.toArray⟩] w fun e w'=>e= .returned (.bool (Lex.isUpper l))/\w=w':=by
 cases l with
 | nil=>
  have HM:Hid (Lex.isUpper []=false):=Y1 rfl;go_enter Tryd.func60,Tryd.ntmps60;go_wp2;go_ret;exact ⟨by rw[HM.out]; rfl,rfl⟩
 | cons c r=>
  have HM:=Y1 (Lex.Z7C c r);obtain ⟨l,hll⟩: ∃l:List UInt8,l=c::r:=⟨_,rfl⟩;rw[<-hll] at hl HM ⊢;have hz: (⟨l.toArray⟩:ByteArray).size=l.length:=Z0G _;have he:l.isEmpty=false:=by rw[hll]; rfl
  have he2: (l== [])=false:=by rw[hll]; rfl
  have he3: (l != [])=true:=by rw[hll]; rfl
  have hidx: ∀W,(Instr.index 9 (.string ⟨l.toArray⟩) (.int .i64 0)).run Tryd.prog W= .ok (.int .u8 c.toNat) W:=fun W=>by rw[hll]; rfl
  clear hll;cases h1:Lex.great c
  {have HF:Hid (Lex.isUpper l=false):=Y1 (by rw[HM.out,h1]; rfl);go_enter Tryd.func60,Tryd.ntmps60
   go_wp2_with fail
   refine (Z2L c _).mono ?_;rintro e w2 ⟨rfl,rfl⟩;rw[h1];go_wp2;go_ret;exact ⟨by rw[HF.out]; rfl,rfl⟩}
  {have HF:Hid (Lex.isUpper l=Lex.named l):=Y1 (by rw[HM.out,h1]; rfl);go_enter Tryd.func60,Tryd.ntmps60
   go_wp2_with fail
   refine (Z2L c _).mono ?_;rintro e w2 ⟨rfl,rfl⟩;rw[h1]
   go_wp2_with fail
   refine (Z2N l hl _).mono ?_;rintro e w2 ⟨rfl,rfl⟩;go_wp2;go_ret;exact ⟨by rw[HF.out]; rfl,rfl⟩}
end
end Go.Proofs.YtchklpedlbkgaaaDoor
namespace Go.Proofs.YtchklpedlbkgaaaDoor
section
open Go.RowKit Go.Maps Go.WideMaps Shp
theorem Z45:Keyed Tryd.prog 9:=string_keyed Tryd.underlying9
theorem Z3Q (w:World): (zeroValue 115).run Tryd.prog w= .ok (.agg #[]) w:=by kernel_rfl
def seenOf (l:List (List UInt8)) (k:Nat):DataW Unit:=setOf (.agg []) ((l.take k).map Lit.string)
theorem Zaj (l:List (List UInt8)):seenOf l 0= .map []:=by simp[seenOf,setOf]
theorem Zak (l:List (List UInt8)) (k:Nat) (hk:k < l.length):seenOf l (k+1)=(seenOf l k).put (.string (l[k]'hk)) (.agg []):=by
 unfold seenOf;rw[List.take_succ_eq_append_getElem hk,List.map_append,List.map_cons,List.map_nil,setOf_snoc]
theorem Z6B (x:List UInt8): ∀l:List (List UInt8),l.any ((fun y:Lit=>y.sameKey (.string x)) ∘ Lit.string)=l.contains x
 | []=>rfl
 | a::r=>by
  rw[List.any_cons,List.contains_cons,Z6B x r];congr 1;by_cases e:a=x
  {subst e; simp[Lit.sameKey]}
  {have e': ¬x=a:=fun h=>e h.symm;simp[Lit.sameKey];rw[show (a==x)=false from by simpa using e,show (x==a)=false from by simpa using e']}
theorem Zbd (l:List (List UInt8)) (k:Nat) (x:List UInt8):Maps.has (seenOf l k) (.string x)=(l.take k).contains x:=by
 unfold seenOf;rw[has_setOf _ _ _ (fun y hy=>by obtain ⟨_,_,rfl⟩:=List.mem_map.1 hy; trivial),List.any_map];exact Z6B x _
theorem Z7D (A:Option Addr) (c:Nat) (l:List (List UInt8)) (w:World) (hA:Strs w w.heap.size A (strs l)) (hl:l.length<=1000000) (hx: ∀x∈l,x.length<=9223372036854775807):
 Y9 57 #[.slice A l.length c] w (.bool (areNames l)):=by
 have hmm:= @run_makeMap Tryd.prog;have HA:=Y1 hA;have HX:=Y1 hx;clear hA hx;go_enter Tryd.func57,Tryd.ntmps57
 go_wp2_with fail
 go_loopw [11] (fun ii wr=> ∃k:Nat,k<=l.length/\ii= .int .i64 k/\wr.ownsMap Tryd.prog 9 unitElem w.heap.size k (seenOf l k)/\Below w.heap.size w wr/\Hid (∀j (hj:j < l.length),j < k->Lex.isName (l[j]'hj)=true/\ ∀m (hm:m < j),l[m]'(by omega)≠l[j]'hj))
  (fun i _=>l.length - (intOf i).toNat)
 case atStart=>exact ⟨0,Nat.zero_le _,rfl,by rw[Zaj]; exact World.ownsMap_made _ _ _ _,Y2.alloc (Nat.le_refl _) _,Y1 (fun j _ hj=>absurd hj (by omega))⟩
 case round=>
  obtain ⟨k,hk,rfl,hown,hb,HN⟩:=hrel;by_cases hlt:k < l.length
  {have hi1: (k:Int) < (l.length:Int):=by omega
   rcases (HA.out.next hb).cell7 with h0 | ⟨g,off,rfl,hg,hc⟩
   {omega}
   {have hcell:=hc k hlt;obtain ⟨x,hx⟩: ∃x,x=l[k]'hlt:=⟨_,rfl⟩;rw[<-hx] at hcell;have hxl:x.length<=9223372036854775807:=by rw[hx]; exact HX.out _ (List.getElem_mem _)
    have HE:=Y1 hx;have hkey:keyOf Tryd.prog 9 (.string ⟨x.toArray⟩)=some (.string x):=keyOf_string_mk Tryd.underlying9 (by rw[Z0G]; unfold maxLen; exact hxl);clear hx hc;have HHAS:=Y1 (Zbd l k x);have HOWN:=Y1 hown;have HBB:=Y1 hb;clear hb;cases hin: (l.take k).contains x with
    | true=>
     have HF:Hid (areNames l=false):=Y1 (by
      have hm:=List.contains_iff_mem.1 hin;obtain ⟨m,hm,he⟩:=List.getElem_of_mem hm;rw[List.length_take] at hm;rw[List.getElem_take] at he;exact Z2W (k:=m) hlt (by omega) (by rw[he,HE.out]))
     have hhas:=HHAS.out;rw[hin] at hhas;clear hin
     go_wp2_with (first
      | (at_lookup; refine wpList_lookup_own_unit _ rfl _ _ 114 rfl 9 115 Z45 Tryd.underlying114 (Z3Q _) w.heap.size k _ rfl hown _ _ rfl hkey ?_)
      | fail)
     go_ret;exact ⟨by rw[HF.out]; rfl,HBB.out.alloc HBB.out.size _⟩
    | false=>
     have HNU:Hid (∀m (hm:m < k),l[m]'(by omega)≠l[k]'hlt):=Y1 (fun m hm he=>by
      rw[<-HE.out] at he;have:x∈l.take k:=by
       rw[<-he];have:=List.getElem_mem (l:=l.take k) (n:=m) (by rw[List.length_take]; omega)
       rwa [List.getElem_take] at this
      rw[List.contains_iff_mem.2 this] at hin;cases hin)
     have hhas:=HHAS.out;rw[hin] at hhas;clear hin;cases hn:Lex.isName x with
     | false=>
      have HF:Hid (areNames l=false):=Y1 (Z3J hlt (by rw[<-HE.out]; exact hn));have hw:=fun W=>Z2g x hxl W;simp only[hn] at hw;clear hn
      go_wp2_with (first
       | (at_lookup; refine wpList_lookup_own_unit _ rfl _ _ 114 rfl 9 115 Z45 Tryd.underlying114 (Z3Q _) w.heap.size k _ rfl hown _ _ rfl hkey ?_)
       | (go_at_call 59; refine (hw _).mono ?_; rintro e w' ⟨rfl,rfl⟩))
      go_ret;exact ⟨by rw[HF.out]; rfl,HBB.out.alloc HBB.out.size _⟩
     | true=>
      have HNA:Hid (Lex.isName (l[k]'hlt)=true):=Y1 (by rw[<-HE.out]; exact hn);have hw:=fun W=>Z2g x hxl W;simp only[hn] at hw;clear hn
      go_wp2_with (first
       | (at_lookup; refine wpList_lookup_own_unit _ rfl _ _ 114 rfl 9 115 Z45 Tryd.underlying114 (Z3Q _) w.heap.size k _ rfl hown _ _ rfl hkey ?_)
       | (go_at_call 59; refine (hw _).mono ?_; rintro e w' ⟨rfl,rfl⟩)
       | (at_mapUpdate; refine wpList_mapUpdate_own _ rfl _ _ _ 114 rfl 9 115 Z45 Tryd.underlying114 (unitElem (H:=Unit)) w.heap.size k _ rfl (hown.alloc _) (by unfold maxLen; omega) _ _ _ rfl rfl hkey _ [] unitElem_mk ?_; intro w1 hown1 hgrow1))
      go_roundw
      case rel=>
       refine ⟨k+1,by omega,by go_num, ?_, ?_,Y1 (fun j hj hji=>by
        rcases Nat.lt_succ_iff_lt_or_eq.1 hji with h | rfl
        {exact HN.out j hj h}
        · exact ⟨HNA.out,HNU.out⟩)⟩
       {rw[Zak l k hlt, <-HE.out]; exact hown1}
       {exact (HBB.out.alloc HBB.out.size _).grown hgrow1 (by have:=HBB.out.size; simp; omega) (fun j hj=>by cases hj; exact Nat.le_refl _)}
      case measure=>simp[intOf]; omega}}
  {have hi1: ¬(k:Int) < (l.length:Int):=by omega
   have HM:Hid (areNames l=true):=Y1 (Z4c (fun j hj=>(HN.out j hj (by omega)).1) (fun j hj=>(HN.out j hj (by omega)).2));go_wp2;go_ret;exact ⟨by rw[HM.out]; rfl,hb⟩}
end
end Go.Proofs.YtchklpedlbkgaaaDoor
namespace Go.Proofs.YtchklpedlbkgaaaDoor
open Go.RowKit Go.Maps Go.WideMaps Shp
namespace SubM
abbrev Ky:=List UInt8
def Fine (k:Ky):Prop:=k.length<=9223372036854775807
def KL (k:Ky):Lit:= .string k
theorem keyOf_keyV {k:Ky} (h:Fine k):keyOf Tryd.prog 9 (.string ⟨k.toArray⟩)=some (KL k):=keyOf_string_mk Tryd.underlying9 (by rw[Z0G]; unfold maxLen; exact h)
theorem KL_inj {k k':Ky} (h:Fine k) (h':Fine k') (e:KL k=KL k'):k=k':=by cases e; rfl
theorem KL_key (k:Ky):WideAt.IsKeyLit (KL k):=trivial
def slEl:Value->Option (DataW Unit×List MemPlace)
 | .pointer none=>some (.agg [],[])
 | .pointer (some ⟨g,o,none⟩)=>some (.agg [.lit (.int .i64 (g:Int)),.lit (.int .i64 (o:Int))],[])
 | _=>none
theorem slEl_inj {v v':Value} {d:DataW Unit} {p p':List MemPlace} (h:slEl v=some (d,p)) (h':slEl v'=some (d,p')):v=v':=by
 unfold slEl at h h';split at h <;> split at h' <;> simp only[Option.some.injEq,Prod.mk.injEq,reduceCtorEq] at h h'
 {rfl}
 {obtain ⟨rfl,_⟩:=h;simp at h'}
 {obtain ⟨rfl,_⟩:=h;simp at h'}
 {obtain ⟨rfl,_⟩:=h;simp at h';obtain ⟨⟨h1,h2⟩,_⟩:=h';have e1:_=_:=Int.ofNat_inj.1 h1;have e2:_=_:=Int.ofNat_inj.1 h2;rw[e1,e2]}
theorem zero_sl (w:World): (zeroValue 71).run Tryd.prog w= .ok (.pointer none) w:=by kernel_rfl
def Mp (W:World) (b N:Nat) (S:List Ky) (m:Ky->Value):Prop:=
 ∃D:DataW Unit,W.ownsMap Tryd.prog 9 slEl b N D/\Maps.size D=S.length/\S.Nodup/\(∀k∈S,Fine k)/\(∀k,Fine k->(Maps.has D (KL k)=true ↔ k∈S))/\
  ∀k,Fine k-> ∃p,slEl (if k∈S then m k else .pointer none)=some (D.atKey (KL k) (.agg []),p)
theorem Mp.made (W:World) (m:Ky->Value):Mp (W.alloc (.map #[] 0)) W.heap.size 0 [] m:=by
 refine ⟨.map [],World.ownsMap_made _ _ _ _,rfl,List.nodup_nil,nofun,fun k _=>⟨fun h=>by simp[Maps.has] at h,nofun⟩,fun k _=>⟨[], ?_⟩⟩;rw[if_neg (by simp)];rfl
theorem Mp.lt {W:World} {b N:Nat} {S:List Ky} {m:Ky->Value} (h:Mp W b N S m):b < W.heap.size:=by obtain ⟨_,h,_⟩:=h; exact h.lt
theorem Mp.kept {W W':World} {b N:Nat} {S:List Ky} {m:Ky->Value} (h:Mp W b N S m) {row:Option Nat} (hg:W.grownBy W' row) (hne:some b≠row):Mp W' b N S m:=by
 obtain ⟨D,h1,h2⟩:=h; exact ⟨D,h1.kept hg hne,h2⟩
theorem Mp.same {W W':World} {b N:Nat} {S:List Ky} {m:Ky->Value} (h:Mp W b N S m) (hb:W'.heap[b]? =W.heap[b]?):Mp W' b N S m:=by
 obtain ⟨D,⟨es,clock,h0,h1⟩,h2⟩:=h; exact ⟨D,⟨es,clock,hb.trans h0,h1⟩,h2⟩
end SubM
end Go.Proofs.YtchklpedlbkgaaaDoor
namespace Shp
section
theorem Z3c {s:List UInt8} (h:Lex.isName s=true):s.length<=24:=by
 cases s with
 | nil=>simp
 | cons c r=>
  have:Lex.isName (c::r)=(decide ((c::r).length<=24)&&Lex.small c&&(c::r).all Lex.nameB&& !Lex.isWord (c::r)):=rfl;rw[this] at h;simp only[Bool.and_eq_true,decide_eq_true_eq] at h;exact h.1.1.1
theorem Z74 {s:List UInt8} (h:Lex.isUpper s=true):s.length<=24:=by
 cases s with
 | nil=>simp
 | cons c r=>
  have:Lex.isUpper (c::r)=(decide ((c::r).length<=24)&&Lex.great c&&(c::r).all Lex.nameB):=rfl;rw[this] at h;simp only[Bool.and_eq_true,decide_eq_true_eq] at h;exact h.1.1
theorem Z3d {t:Sh} (h:fits t=true):
 (1<=t.kind/\t.kind<=4/\t.names= []/\t.parts= [])\/(t.kind=5/\t.names= []/\t.parts.length=1)\/((t.kind=6\/t.kind=7)/\t.names.length=t.parts.length/\areNames t.names=true)\/
 (t.kind=8/\t.names= []/\1<=t.parts.length)\/((t.kind=9\/t.kind=10)/\t.names= []/\t.parts= []/\t.name.length<=24/\t.of_.length<=24):=by
 by_cases h9:t.kind=9\/t.kind=10
 {rw[Z26 h9] at h;simp only[Bool.and_eq_true,decide_eq_true_eq] at h;obtain ⟨⟨⟨h1,h2⟩,h3⟩,h4⟩:=h;refine Or.inr (Or.inr (Or.inr (Or.inr ⟨h9,List.eq_nil_of_length_eq_zero h3,List.eq_nil_of_length_eq_zero h4,Z74 h1, ?_⟩)));unfold ofOk at h2;cases hn:Lex.isName t.of_ with
  | true=>exact Z3c hn
  | false=>
   rw[hn] at h2;simp at h2;rw[h2.1.1]; simp}
 {cases hb:bare t with
  | false=>rw[Z0X h9 hb] at h; cases h
  | true=>
   by_cases h6:t.kind=6\/t.kind=7
   {rw[Z2k hb h6,Bool.and_eq_true,decide_eq_true_eq] at h;exact Or.inr (Or.inr (Or.inl ⟨h6,h.2,h.1⟩))}
   {by_cases hz:0 < t.names.length
    {rw[Z1H h9 hb h6 hz] at h; cases h}
    {have hn:t.names= []:=List.eq_nil_of_length_eq_zero (by omega);by_cases h8:t.kind=8
     {rw[Z4u hb h8 hz,decide_eq_true_eq] at h;exact Or.inr (Or.inr (Or.inr (Or.inl ⟨h8,hn,h⟩)))}
     {by_cases h5:t.kind=5
      {rw[Z3K hb h5 hz,decide_eq_true_eq] at h;exact Or.inr (Or.inl ⟨h5,hn,h⟩)}
      {rw[Z2u hb h9 h6 hz h8 h5] at h;simp only[Bool.and_eq_true,decide_eq_true_eq] at h;exact Or.inl ⟨h.1.1,h.1.2,hn,List.eq_nil_of_length_eq_zero h.2⟩}}}}}
end
end Shp
namespace Go.Proofs.YtchklpedlbkgaaaDoor
section
open Shp
theorem Z4v (x:Fld): ∀l:List Fld,(ins x l).Perm (x::l)
 | []=>List.Perm.refl _
 | y::l=>by
  unfold ins;split
  {exact ((Z4v x l).cons y).trans (List.Perm.swap x y l)}
  {exact List.Perm.refl _}
theorem Z3L: ∀(l a:List Fld),(l.foldl (fun a x=>ins x a) a).Perm (l++a)
 | [],a=>List.Perm.refl _
 | x::l,a=>by
  rw[List.foldl_cons];refine (Z3L l _).trans ?_;refine (List.Perm.append_left l (Z4v x a)).trans ?_;exact List.perm_middle
theorem Z0w (l:List Fld): (sortF l).Perm l:=by
 have:=Z3L l []
 rwa [List.append_nil] at this
theorem Z4O (x:Fld): ∀l:List Fld,l.Pairwise (fun a b=>a.1<=b.1)->(ins x l).Pairwise (fun a b=>a.1<=b.1)
 | [],_=>by simp[ins]
 | y::l,h=>by
  rw[List.pairwise_cons] at h;unfold ins;split
  {rename_i hlt
   rw[List.pairwise_cons];refine ⟨fun b hb=> ?_,Z4O x l h.2⟩;rcases List.mem_cons.1 ((Z4v x l).mem_iff.1 hb) with rfl | hb
   {exact List.le_of_lt hlt}
   {exact h.1 b hb}}
  {rename_i hlt
   have hxy:x.1<=y.1:=List.not_lt.1 hlt;rw[List.pairwise_cons,List.pairwise_cons];refine ⟨fun b hb=> ?_,h⟩;rcases List.mem_cons.1 hb with rfl | hb
   {exact hxy}
   {exact List.le_trans hxy (h.1 b hb)}}
theorem Z2X: ∀(l a:List Fld),a.Pairwise (fun a b=>a.1<=b.1)->(l.foldl (fun a x=>ins x a) a).Pairwise (fun a b=>a.1<=b.1)
 | [],a,h=>h
 | x::l,a,h=>Z2X l _ (Z4O x a h)
theorem Z1o (l:List Fld): (sortF l).Pairwise (fun a b=>a.1<=b.1):=Z2X l [] List.Pairwise.nil
theorem Z9V {l:List Fld} (h: (l.map Prod.fst).Nodup) {a b:Fld} (ha:a∈l) (hb:b∈l) (he:a.1=b.1):a=b:=by
 induction l with
 | nil=>cases ha
 | cons x l ih=>
  rw[List.map_cons,List.nodup_cons] at h;rcases List.mem_cons.1 ha with e1 | h1
  {rcases List.mem_cons.1 hb with e2 | h2
   {rw[e1,e2]}
   {exact absurd (by rw[<-e1,he]; exact List.mem_map_of_mem h2) h.1}}
  {rcases List.mem_cons.1 hb with e2 | h2
   {exact absurd (by rw[<-e2, <-he]; exact List.mem_map_of_mem h1) h.1}
   {exact ih h.2 h1 h2}}
theorem Z1p {l m:List Fld} (hp:m.Perm l) (hs:m.Pairwise (fun a b=>a.1<=b.1)) (hn: (l.map Prod.fst).Nodup):m=sortF l:=by
 refine List.Perm.eq_of_pairwise (le:=fun a b:Fld=>a.1<=b.1) (fun a b ha hb h1 h2=> ?_) hs (Z1o l) (hp.trans (Z0w l).symm);exact Z9V hn (hp.mem_iff.1 ha) ((Z0w l).mem_iff.1 hb) (List.le_antisymm h1 h2)
end
end Go.Proofs.YtchklpedlbkgaaaDoor
namespace Sub
section
open Shp
def look:List (List UInt8)->List Sh->List UInt8->Option Sh
 | x::ns,p::ps,n=>if x=n then some p else look ns ps n
 | [],_,_=>none
 | _::_,[],_=>none
def get (t:Sh) (n:List UInt8):Option Sh:=look t.names t.parts n
theorem Z6M {ns:List (List UInt8)} {ps:List Sh} {n:List UInt8} {p:Sh} (h:look ns ps n=some p):n∈ns/\p∈ps:=by
 induction ns generalizing ps with
 | nil=>cases ps <;> simp[look] at h
 | cons x ns ih=>
  cases ps with
  | nil=>simp[look] at h
  | cons q ps=>
   unfold look at h;split at h
   {rename_i e
    cases h;exact ⟨by simp[e],by simp⟩}
   {have:=ih h;exact ⟨by simp[this.1],by simp[this.2]⟩}
structure Rec (t:Sh):Prop where
 k:t.kind=6\/t.kind=7
 b:bare t=true
 l:t.names.length=t.parts.length
 a:areNames t.names=true
theorem Z09 {t p:Sh} {n:List UInt8} (h:get t n=some p):p∈t.parts:=(Z6M h).2
def Narrow (up:Bool) (k:Int):Prop:=(up=true/\k=6)\/(up=false/\k=7)
def Wide (up:Bool) (k:Int):Prop:=(up=true/\k=7)\/(up=false/\k=6)
instance (up:Bool) (k:Int):Decidable (Narrow up k):=by unfold Narrow; infer_instance
instance (up:Bool) (k:Int):Decidable (Wide up k):=by unfold Wide; infer_instance
def V:Nat->Bool->Sh->Sh->Prop
 | 0,_,_,_=>False
 | f+1,up,a,b=>a.kind=b.kind/\
  (Narrow up a.kind-> ∀n q,get b n=some q-> ∃p,get a n=some p/\V f up p q)/\
  (Wide up a.kind-> ∀n p,get a n=some p-> ∃q,get b n=some q/\V f up p q)/\
  (¬(a.kind=6\/a.kind=7)->a.of_=b.of_/\a.name=b.name/\a.parts.length=b.parts.length/\
   ∀i p q,a.parts[i]? =some p->b.parts[i]? =some q->V f (if i+1=a.parts.length then up else !up) p q)
theorem V.refl {f:Nat}: ∀ {up:Bool} {a:Sh},deep a<=f->V f up a a:=by
 induction f with
 | zero=>intro up a h; rw[Z0l] at h; omega
 | succ f ih=>
  intro up a h;have hp: ∀p∈a.parts,deep p<=f:=fun p hp=>by have:=Z0F hp; rw[Z0l] at h; omega
  refine ⟨rfl,fun _ n q hq=>⟨q,hq,ih (hp q (Z09 hq))⟩,fun _ n q hq=>⟨q,hq,ih (hp q (Z09 hq))⟩,fun _=>⟨rfl,rfl,rfl,fun i p q h1 h2=> ?_⟩⟩;rw[h1] at h2;cases h2;exact ih (hp p (List.mem_of_getElem? h1))
theorem V.trans {f:Nat}: ∀ {up:Bool} {a b c:Sh},V f up a b->V f up b c->V f up a c:=by
 induction f with
 | zero=>intro up a b c h; exact h.elim
 | succ f ih=>
  intro up a b c h k;obtain ⟨hk,h1,h2,h3⟩:=h;obtain ⟨kk,k1,k2,k3⟩:=k;rw[<-hk] at k1 k2 k3;refine ⟨hk.trans kk,fun h n r hr=> ?_,fun h n p hp=> ?_,fun h=> ?_⟩
  {obtain ⟨q,hq,hv⟩:=k1 h n r hr;obtain ⟨p,hp,hu⟩:=h1 h n q hq;exact ⟨p,hp,ih hu hv⟩}
  {obtain ⟨q,hq,hv⟩:=h2 h n p hp;obtain ⟨r,hr,hu⟩:=k2 h n q hq;exact ⟨r,hr,ih hv hu⟩}
  {obtain ⟨e1,e2,e3,e4⟩:=h3 h;obtain ⟨g1,g2,g3,g4⟩:=k3 h;refine ⟨e1.trans g1,e2.trans g2,e3.trans g3,fun i p r hp hr=> ?_⟩;have hi:i < a.parts.length:=(List.getElem?_eq_some_iff.1 hp).1;have hib:i < b.parts.length:=by omega
   obtain ⟨q,hq⟩: ∃q,b.parts[i]? =some q:=⟨_,List.getElem?_eq_getElem hib⟩;have:=g4 i q r hq hr;rw[<-e3] at this;exact ih (e4 i p q hp hq) this}
abbrev Cl:=List UInt8×Option Sh×Option Sh
def callsA (a b:Sh):List Cl:=(a.names.zip a.parts).map (fun x=>(x.1,some x.2,get b x.1))
def callsB (a b:Sh):List Cl:=((b.names.zip b.parts).filter (fun x=>(get a x.1).isNone)).map (fun x=>(x.1,none,some x.2))
def calls (a b:Sh):List Cl:=callsA a b++callsB a b
def narrowStep (g:Sh->Sh->Option Sh) (c:Cl):Option Fld:=
 match c with
 | (n,some p,some q)=>(g p q).map (fun x=>(n,x))
 | (_,some _,none)=>none
 | (_,none,_)=>none
def wideStep (g:Sh->Sh->Option Sh) (c:Cl):Option Fld:=
 match c with
 | (n,some p,some q)=>(g p q).map (fun x=>(n,x))
 | (n,some p,none)=>some (n,p)
 | (n,none,some q)=>some (n,q)
 | (_,none,none)=>none
def allOf (s:Cl->Option Fld):List Cl->Option (List Fld)
 | []=>some []
 | c::l=>(s c).bind (fun x=>(allOf s l).map (fun xs=>x::xs))
def placesOf (ga gr:Sh->Sh->Option Sh):List Sh->List Sh->Option (List Sh)
 | [],[]=>some []
 | a::us,b::bs=>(if us.isEmpty then gr a b else ga a b).bind (fun x=>(placesOf ga gr us bs).map (fun xs=>x::xs))
 | [],_::_=>none
 | _::_,[]=>none
def made (k:Int) (l:List Fld):Sh:=⟨k,[],[],l.map Prod.fst,l.map Prod.snd⟩
def bound:Nat->Bool->Sh->Sh->Option Sh
 | 0,_,_,_=>none
 | f+1,up,a,b=>
  if a.kind≠b.kind then none
  else if Narrow up a.kind then some (made a.kind ((calls a b).filterMap (narrowStep (bound f up))))
  else if Wide up a.kind then (allOf (wideStep (bound f up)) (calls a b)).map (made a.kind)
  else if a.of_=b.of_/\a.name=b.name then (placesOf (bound f (!up)) (bound f up) a.parts b.parts).map (fun ps=>⟨a.kind,a.of_,a.name,[],ps⟩)
  else none
def sz:Option Sh->Nat
 | some p=>size p
 | none=>0
end
end Sub
namespace Go.Proofs.YtchklpedlbkgaaaDoor
open Go.RowKit Shp
namespace SubM
abbrev sv (s:Sh) (q:Ptr):Value:= .agg (Y8 s q)
structure Upd (S:Nat->Prop) (a b:World):Prop where
 os:b.os=a.os
 tape:b.tape=a.tape
 output:b.output=a.output
 size:a.heap.size<=b.heap.size
 block: ∀x,x < a.heap.size-> ¬S x->b.heap[x]? =a.heap[x]?
section
variable {S T : Nat -> Prop} {a b c : World} {B n0 : Nat}
theorem Upd.refl (S:Nat->Prop) (a:World):Upd S a a:=⟨rfl,rfl,rfl,Nat.le_refl _,fun _ _ _=>rfl⟩
theorem Upd.trans (h:Upd S a b) (k:Upd S b c):Upd S a c:=
 ⟨k.os.trans h.os,k.tape.trans h.tape,k.output.trans h.output,Nat.le_trans h.size k.size,fun x h1 h2=>(k.block x (Nat.lt_of_lt_of_le h1 h.size) h2).trans (h.block x h1 h2)⟩
theorem Upd.mono (h:Upd S a b) (hs: ∀x,x < a.heap.size->S x->T x):Upd T a b:=⟨h.os,h.tape,h.output,h.size,fun x h1 h2=>h.block x h1 (fun hx=>h2 (hs x h1 hx))⟩
theorem Upd.of_below (h:Below B a b) (hB: ∀x,x < a.heap.size->B<=x->S x):Upd S a b:=
 ⟨h.os,h.tape,h.output,h.size,fun x h1 h2=>h.block x (Nat.lt_of_not_le (fun hx=>h2 (hB x h1 hx)))⟩
theorem Upd.new (h:Below a.heap.size a b):Upd S a b:=Upd.of_below h (fun x h1 h2=>absurd h1 (by omega))
theorem Upd.below (h:Upd S a b) (hB:B<=a.heap.size) (hS: ∀x,S x->B<=x):Below B a b:=⟨h.os,h.tape,h.output,h.size,fun x h1=>h.block x (by omega) (fun hx=>by have:=hS x hx; omega)⟩
theorem Upd.drew (h:Upd S a b):Upd S a b.drew:=⟨h.os,h.tape,h.output,h.size,h.block⟩
theorem Upd.grown (h:Upd S a b) {row:Option Nat} (hg:b.grownBy c row) (hr: ∀k,row=some k->k < a.heap.size->S k):Upd S a c:=
 ⟨hg.os.trans h.os,hg.tape.trans h.tape,hg.output.trans h.output,Nat.le_trans h.size hg.size,fun x h1 h2=>(hg.block x (Nat.lt_of_lt_of_le h1 h.size) (fun e=>h2 (hr x e.symm h1))).trans (h.block x h1 h2)⟩
theorem Upd.set (h:Upd S a b) (p:Addr) (hp:p.block < a.heap.size->S p.block) (v:Value):Upd S a (b.setCell p v):=
 ⟨h.os,h.tape,h.output,by simpa[World.setCell] using h.size,fun x h1 h2=>(Below.heap_setCell _ _ _ _ (fun e=>h2 (by
  have e':x=p.block:=by first | exact e | exact e.symm
  rw[e']; exact hp (e'▸h1)))).trans (h.block x h1 h2)⟩
theorem Upd.cell (h:Upd S a b) {g k:Nat} (hg:g < a.heap.size) (hS: ¬S g):b.cell? ⟨g,k,none⟩=a.cell? ⟨g,k,none⟩:=World.cell?_of_block (w:=a) (h.block g hg hS)
theorem Upd.frozen (h:Upd S a b) {g k:Nat} (hg:g < a.heap.size) (hS: ¬S g):b.frozen? ⟨g,k,none⟩=a.frozen? ⟨g,k,none⟩:=World.frozen?_of_block (w:=a) (h.block g hg hS)
theorem Z3q {g:Nat} {t:Sh} {q:Ptr} (h:Box5 a g t q) (hu:Upd S a b) (hS: ¬S g):Box5 b g t q:=by
 obtain ⟨h0,h1,f0,f1,f2,f3,f4⟩:=h;exact ⟨Nat.lt_of_lt_of_le h0 hu.size,h1.of (fun k=>hu.cell h0 hS),(hu.frozen h0 hS).trans f0,(hu.frozen h0 hS).trans f1,(hu.frozen h0 hS).trans f2,(hu.frozen h0 hS).trans f3,(hu.frozen h0 hS).trans f4⟩
theorem ZaE {t:Sh} {q:Ptr} (h:ShAt a n0 q t) (hn:n0<=a.heap.size) (hu:Upd S a b) (hS: ∀x,x < n0-> ¬S x):ShAt b n0 q t:=
 h.of (Nat.le_refl _) (fun g k hg=>hu.cell (by omega) (hS g hg))
theorem ZbX {g N:Nat} {K:List Ky} {m:Ky->Value} (h:Mp a g N K m) (hu:Upd S a b) (hS: ¬S g):Mp b g N K m:=h.same (hu.block g h.lt hS)
end
def At (W:World) (n0:Nat) (o:Option Sh) (v:Value):Prop:=
 match o with
 | none=>v= .pointer none
 | some p=> ∃g off q,v= .pointer (some ⟨g,off,none⟩)/\g < n0/\Sh5 W g off p q/\ShAt W n0 q p
theorem At.upd {a b:World} {S:Nat->Prop} {n0:Nat} {o:Option Sh} {v:Value} (h:At a n0 o v) (hn:n0<=a.heap.size) (hu:Upd S a b) (hS: ∀x,x < n0-> ¬S x):At b n0 o v:=by
 cases o with
 | none=>exact h
 | some p=>
  obtain ⟨g,off,q,h1,h2,h3,h4⟩:=h;exact ⟨g,off,q,h1,h2,h3.of (fun k=>hu.cell (by omega) (hS g h2)),ZaE h4 hn hu hS⟩
end SubM
end Go.Proofs.YtchklpedlbkgaaaDoor
namespace Go.Proofs.YtchklpedlbkgaaaDoor
open Go.RowKit Shp Sub
namespace SubM
structure Takes (n0 N:Nat) (a b:Sh) (fn:Nat) (cs:List Value) (step:Cl->Bool) (K:Bool->List Cl->World->Prop):Prop where
 keep: ∀ok done W W',K ok done W->Upd (fun x=>N<=x/\x < N+3) W W'->K ok done W'
 call: ∀done c rest W (x y:Value),calls a b=done++c::rest->N+3<=W.heap.size->K true done W->At W n0 c.2.1 x->At W n0 c.2.2 y->
  Calls Tryd.prog fn (.string ⟨c.1.toArray⟩::x::y::cs).toArray W fun e W'=>e= .returned (.bool (step c))/\K (step c) (done++ [c]) W'/\Upd (fun x=>n0<=x/\ ¬(N<=x/\x < N+3)) W W'
def numOf:List (List UInt8)->List UInt8->Nat
 | [],_=>0
 | x::l,n=>if x=n then 0 else numOf l n+1
def place (g off:Nat) (ns:List (List UInt8)) (n:List UInt8):Value:= .pointer (some ⟨g,off+numOf ns n * 5,none⟩)
def Parts (W:World) (n0:Nat) (t:Sh) (q:Ptr) (g off:Nat) (qs:Nat->Ptr):Prop:=
 t.parts.length=0\/(q.P=some ⟨g,off,none⟩/\g < n0/\ ∀i (h:i < t.parts.length),Sh5 W g (off+i * 5) (t.parts[i]'h) (qs i)/\ShAt W n0 (qs i) (t.parts[i]'h))
theorem Parts.upd {a b:World} {S:Nat->Prop} {n0:Nat} {t:Sh} {q:Ptr} {g off:Nat} {qs:Nat->Ptr} (h:Parts a n0 t q g off qs) (hn:n0<=a.heap.size) (hu:Upd S a b) (hS: ∀x,x < n0-> ¬S x):Parts b n0 t q g off qs:=by
 rcases h with h | ⟨hP,hg,hc⟩
 {exact Or.inl h}
 {exact Or.inr ⟨hP,hg,fun i hi=>⟨(hc i hi).1.of (fun k=>hu.cell (by omega) (hS g hg)),ZaE (hc i hi).2 hn hu hS⟩⟩}
structure L1 (N:Nat) (a b:Sh) (pa pb:Ptr) (g off:Nat) (w:World) (k:Nat) (W:World):Prop where
 ba:Box5 W N a pa
 bb:Box5 W (N+1) b pb
 mp: ∃S,Mp W (N+2) k S (place g off b.names)/\ ∀n,n∈S ↔ n∈b.names.take k
 up:Upd (fun x=>N<=x/\x < N+3) w W
structure L2 (n0 N:Nat) (a b:Sh) (pa pb:Ptr) (g off:Nat) (w:World) (K:Bool->List Cl->World->Prop) (gone:List (List UInt8)) (done:List Cl) (W:World):Prop where
 ba:Box5 W N a pa
 bb:Box5 W (N+1) b pb
 mp: ∃S,Mp W (N+2) b.names.length S (place g off b.names)/\ ∀n,n∈S ↔ n∈b.names/\n∉gone
 up:Upd (fun x=>n0<=x) w W
 sz:N+3<=W.heap.size
 k:K true done W
section
variable {n0 : Nat} {a b : Sh} {pa pb : Ptr} {g off : Nat} {w : World} {K : Bool -> List Cl -> World -> Prop} {gone : List (List UInt8)} {done : List Cl} {W W' : World} {fn : Nat} {cs : List Value} {step : Cl -> Bool}
theorem L2.upd (h:L2 n0 w.heap.size a b pa pb g off w K gone done W) (hn:n0<=w.heap.size) (hu:Upd (fun x=>n0<=x/\ ¬(w.heap.size<=x/\x < w.heap.size+3)) W W') {done':List Cl} (hk:K true done' W'):L2 n0 w.heap.size a b pa pb g off w K gone done' W':=by
 obtain ⟨S,hM,hS⟩:=h.mp;exact ⟨Z3q h.ba hu (by omega),Z3q h.bb hu (by omega),⟨S,ZbX hM hu (by omega),hS⟩,h.up.trans (hu.mono (fun x _ hx=>hx.1)),Nat.le_trans h.sz hu.size,hk⟩
theorem L2.drew (h:L2 n0 w.heap.size a b pa pb g off w K gone done W) (hT:Takes n0 w.heap.size a b fn cs step K) (hn:n0<=w.heap.size):L2 n0 w.heap.size a b pa pb g off w K gone done W.drew:=
 h.upd hn (Upd.refl _ W).drew (hT.keep _ _ _ _ h.k (Upd.refl _ W).drew)
end
end SubM
end Go.Proofs.YtchklpedlbkgaaaDoor
namespace Go.Proofs.YtchklpedlbkgaaaDoor
open Go.RowKit Shp Sub
namespace SubM
def rowB (A:Option Addr):Option Nat:=A.map (·.block)
theorem Zc6 (A:Option Addr) (n c:Nat):Value.ownBlock (.slice A n c)=rowB A:=by cases A <;> rfl
section
variable {W : World} {A : Option Addr} {m c B e s : Nat} {xs : List Value} (h : W.ownsRow B e s (.slice A m c) m xs)
include W A m c B e s xs h
theorem Z0u: ∀b,rowB A=some b->B<=b/\b < W.heap.size:=fun b hb=>h.lt b (by rw[Zc6]; exact hb)
theorem Zc9: (A=none/\m=0/\c=0)\/ ∃g,A=some ⟨g,0,none⟩/\m<=c:=by
 rcases h.2 with ⟨h1,h2⟩ | ⟨g,cap,cur,h1,_,_,h2,_⟩
 {simp only[Value.slice.injEq] at h1; exact Or.inl ⟨h1.1,h2,h1.2.2⟩}
 {simp only[Value.slice.injEq] at h1;obtain ⟨h3,_,rfl⟩:=h1;exact Or.inr ⟨g,h3,h2⟩}
end
theorem Z1j {S:Nat->Prop} {W W':World} {A:Option Addr} {m c B e s n:Nat} {xs:List Value} (h:W.ownsRow B e s (.slice A m c) n xs) (hu:Upd S W W') (hS: ∀b,rowB A=some b-> ¬S b):W'.ownsRow B e s (.slice A m c) n xs:=by
 obtain ⟨h1,h2⟩:=h;refine ⟨h1, ?_⟩;rcases h2 with h2 | ⟨g,cap,cur,hv,hb,hg,hc⟩
 {exact Or.inl h2}
 {refine Or.inr ⟨g,cap,cur,hv,hb, ?_,hc⟩;have hgl:g < W.heap.size:=(Array.getElem?_eq_some_iff.1 hg).1;rw[hu.block g hgl (hS g (by simp only[Value.slice.injEq] at hv; rw[hv.1]; rfl))];exact hg}
theorem Z4C {W:World} {g m c B e s n:Nat} {xs:List Value} (h:W.ownsRow B e s (.slice (some ⟨g,0,none⟩) m c) n xs) {j:Nat} {u:Value} (hu:xs[j]? =some u):W.cell? ⟨g,j,none⟩=some u:=by
 have:=h.cells (g:=g) rfl j u hu
 rwa [Z0b,Nat.zero_add] at this
abbrev El:=Sh×Ptr
def Zc5 (x:El):List Value:= [.int .i64 x.1.kind,.string ⟨x.1.of_.toArray⟩,.string ⟨x.1.name.toArray⟩,.slice x.2.A x.1.names.length x.2.c,.slice x.2.P x.1.parts.length x.2.d]
def cellsE (l:List El):List Value:=l.flatMap Zc5
def namesE (l:List (List UInt8)):List Value:=l.map fun n=> .string ⟨n.toArray⟩
theorem Zc8 (l m:List El):cellsE (l++m)=cellsE l++cellsE m:=by simp[cellsE]
theorem Zcc (x:El):cellsE [x]=Zc5 x:=by simp[cellsE]
theorem Zcl (l:List El): (cellsE l).length=l.length * 5:=by
 induction l with
 | nil=>rfl
 | cons a l ih=>rw[show a::l= [a]++l from rfl,Zc8,List.length_append,ih,Zcc]; simp[Zc5]; omega
theorem Zcs {l:List El} {i c:Nat} (hi:i < l.length) (hc:c < 5): (cellsE l)[i * 5+c]? =(Zc5 (l[i]'hi))[c]? :=by
 have h1:l=l.take i++([l[i]'hi]++l.drop (i+1)):=by rw[List.singleton_append,List.getElem_cons_drop,List.take_append_drop]
 have h2: (cellsE (l.take i)).length=i * 5:=by rw[Zcl,List.length_take]; omega
 have h3: (Zc5 (l[i]'hi)).length=5:=rfl
 conv=>lhs; rw[h1]
 rw[Zc8,Zc8,Zcc,List.getElem?_append_right (by omega),h2,Nat.add_sub_cancel_left,List.getElem?_append_left (by omega)]
def Kept (S:Nat->Prop) (W:World) (x:El):Prop:= ∀W',W.heap.size<=W'.heap.size->(∀b,b < W.heap.size->S b->W'.heap[b]? =W.heap[b]?)->ShAt W' W'.heap.size x.2 x.1
section
variable {S T : Nat -> Prop} {W W' : World} {x : El}
section
variable (h : Kept S W x)
include h
theorem Kept.here:ShAt W W.heap.size x.2 x.1:=h W (Nat.le_refl _) (fun _ _ _=>rfl)
theorem Kept.upd (hu:Upd T W W') (hd: ∀b,b < W.heap.size->S b-> ¬T b):Kept S W' x:=fun W2 h1 h2=>
 h W2 (Nat.le_trans hu.size h1) (fun b hb hs=>(h2 b (Nat.lt_of_lt_of_le hb hu.size) hs).trans (hu.block b hb (hd b hb hs)))
theorem Kept.more (hs: ∀b,b < W.heap.size->S b->T b):Kept T W x:=fun W2 h1 h2=>h W2 h1 (fun b hb hS=>h2 b hb (hs b hb hS))
end
theorem Kept.old {n0:Nat} (h:ShAt W n0 x.2 x.1) (hn:n0<=W.heap.size) (hS: ∀b,b < n0->S b):Kept S W x:=fun W2 h1 h2=>
 h.of (Nat.le_trans hn h1) (fun g k hg=>World.cell?_of_block (w:=W) (h2 g (by omega) (hS g hg)))
end
structure Mk (w0:World) (gm hi:Nat) (k:Int) (o nm:List UInt8) (nl:List (List UInt8)) (l:List El) (AN:Option Addr) (cN:Nat) (AP:Option Addr) (cP:Nat) (W:World):Prop where
 up:Below w0.heap.size w0 W
 lo:w0.heap.size<=gm
 gh:gm < hi
 hw:hi<=W.heap.size
 c0:W.cell? ⟨gm,0,none⟩=some (.int .i64 k)
 c1:W.cell? ⟨gm,1,none⟩=some (.string ⟨o.toArray⟩)
 c2:W.cell? ⟨gm,2,none⟩=some (.string ⟨nm.toArray⟩)
 c3:W.cell? ⟨gm,3,none⟩=some (.slice AN nl.length cN)
 c4:W.cell? ⟨gm,4,none⟩=some (.slice AP l.length cP)
 fz: ∀j,W.frozen? ⟨gm,j,none⟩=false
 rN:W.ownsRow hi 9 1 (.slice AN nl.length cN) nl.length (namesE nl)
 rP:W.ownsRow hi 25 5 (.slice AP l.length cP) l.length (cellsE l)
 ne:rowB AN=none\/rowB AN≠rowB AP
def Free (n0 hi:Nat) (AN AP:Option Addr) (b:Nat):Prop:=b < n0\/(hi<=b/\rowB AN≠some b/\rowB AP≠some b)
section
variable {w0 W W' : World} {gm hi : Nat} {k : Int} {o nm : List UInt8} {nl : List (List UInt8)} {l : List El} {AN AP : Option Addr} {cN cP : Nat}
theorem Mk.upd {S:Nat->Prop} (h:Mk w0 gm hi k o nm nl l AN cN AP cP W) (hu:Upd S W W') (h0: ∀b,b < w0.heap.size-> ¬S b) (h1: ¬S gm) (h2: ∀b,rowB AN=some b-> ¬S b) (h3: ∀b,rowB AP=some b-> ¬S b):
 Mk w0 gm hi k o nm nl l AN cN AP cP W':=by
 have hg:gm < W.heap.size:=Nat.lt_of_lt_of_le h.gh h.hw;refine ⟨h.up.trans (hu.below h.up.size (fun b hb=> ?_)),h.lo,h.gh,Nat.le_trans h.hw hu.size,(hu.cell hg h1).trans h.c0,(hu.cell hg h1).trans h.c1,(hu.cell hg h1).trans h.c2,(hu.cell hg h1).trans h.c3,(hu.cell hg h1).trans h.c4,
  fun j=>(hu.frozen hg h1).trans (h.fz j),Z1j h.rN hu h2,Z1j h.rP hu h3,h.ne⟩
 exact Nat.le_of_not_lt (fun hlt=>h0 b hlt hb)
theorem Mk.new (h:Mk w0 gm hi k o nm nl l AN cN AP cP W) (hb:Below W.heap.size W W'):Mk w0 gm hi k o nm nl l AN cN AP cP W':=
 h.upd (S:=fun _=>False) (Upd.new hb) (fun _ _ h=>h) (fun h=>h) (fun _ _ h=>h) (fun _ _ h=>h)
end
theorem Mk.at_ {w0 W:World} {gm hi n0:Nat} {k:Int} {o nm:List UInt8} {nl:List (List UInt8)} {l:List El} {AN AP:Option Addr} {cN cP:Nat} (h:Mk w0 gm hi k o nm nl l AN cN AP cP W)
 (hk: ∀x∈l,Kept (Free n0 hi AN AP) W x) (ho:o.length<=9223372036854775807) (hnm:nm.length<=9223372036854775807) (hnl: ∀x∈nl,x.length<=9223372036854775807) (hl:nl.length<=1000000) (hm:l.length<=1000000):
 Kept (fun b=>b < n0\/hi<=b) W (⟨k,o,nm,nl,l.map Prod.fst⟩,⟨AN,cN,AP,cP⟩):=by
 intro W' hz hs;have hN:=Zc9 h.rN;have hP:=Zc9 h.rP;have kept: ∀x∈l,ShAt W' W'.heap.size x.2 x.1:=fun x hx=>hk x hx W' hz (fun b hb hf=>hs b hb (by
  rcases hf with h | h
  {exact Or.inl h}
  · exact Or.inr h.1))
 refine .mk _ _ ((rowB AP).getD 0) 0 (fun i=>(l[i]?.map Prod.snd).getD ⟨none,0,none,0⟩) ⟨ho,hnm,hnl,by show nl.length<=_; omega,by show (l.map Prod.fst).length<=_; rw[List.length_map]; omega, ?_, ?_, ?_, ?_⟩ ?_ ?_ ?_ ?_
 {show nl.length<=cN;rcases hN with ⟨_,h1,h2⟩ | ⟨_,_,h1⟩ <;> omega}
 {show (l.map Prod.fst).length<=cP;rw[List.length_map];rcases hP with ⟨_,h1,h2⟩ | ⟨_,_,h1⟩ <;> omega}
 {intro (e:AN=none);show cN=0;rcases hN with ⟨_,h1,h2⟩ | ⟨g,h1,_⟩
  {exact h2}
  {rw[e] at h1; cases h1}}
 {intro (e:AP=none);show cP=0;rcases hP with ⟨_,h1,h2⟩ | ⟨g,h1,_⟩
  {exact h2}
  {rw[e] at h1; cases h1}}
 {show Strs W' W'.heap.size AN (strs nl);rcases hN with ⟨_,h1,_⟩ | ⟨g,rfl,_⟩
  {exact Or.inl (by unfold strs; simp[h1])}
  {have hg:=Z0u h.rN g rfl;refine Or.inr ⟨g,0,rfl,Nat.lt_of_lt_of_le hg.2 hz,fun i hi=> ?_⟩;have hi':i < nl.length:=by simpa[strs] using hi
   have e1:W'.cell? ⟨g,i,none⟩=W.cell? ⟨g,i,none⟩:=World.cell?_of_block (w:=W) (hs g hg.2 (Or.inr hg.1));rw[Nat.zero_add,e1,Z4C h.rN (u:= .string ⟨(nl[i]'hi').toArray⟩) (by unfold namesE; rw[List.getElem?_map,List.getElem?_eq_getElem hi']; rfl)];simp[strs]}}
 {show (l.map Prod.fst).length=0\/_;rcases hP with ⟨_,h1,_⟩ | ⟨g,rfl,_⟩
  {exact Or.inl (by rw[List.length_map]; exact h1)}
  {exact Or.inr ⟨rfl,Nat.lt_of_lt_of_le (Z0u h.rP g rfl).2 hz⟩}}
 {intro i hi;have hi':i < l.length:=by simpa using hi
  rcases hP with ⟨_,h1,_⟩ | ⟨g,rfl,_⟩
  {omega}
  {have hg:=Z0u h.rP g rfl;have e1: ∀j,W'.cell? ⟨g,j,none⟩=W.cell? ⟨g,j,none⟩:=fun j=>World.cell?_of_block (w:=W) (hs g hg.2 (Or.inr hg.1));have e2: ∀c v,c < 5->(Zc5 (l[i]'hi'))[c]? =some v->W'.cell? ⟨g,0+i * 5+c,none⟩=some v:=fun c v hc hv=>by
    rw[Nat.zero_add,e1];exact Z4C h.rP (by rw[Zcs hi' hc]; exact hv)
   simp only[List.getElem_map];rw[List.getElem?_eq_getElem hi'];exact ⟨e2 0 _ (by omega) rfl,e2 1 _ (by omega) rfl,e2 2 _ (by omega) rfl,e2 3 _ (by omega) rfl,e2 4 _ (by omega) rfl⟩}}
 {intro i hi;have hi':i < l.length:=by simpa using hi
  simp only[List.getElem_map];rw[List.getElem?_eq_getElem hi'];exact kept _ (List.getElem_mem _)}
end SubM
end Go.Proofs.YtchklpedlbkgaaaDoor
namespace Go.Proofs.YtchklpedlbkgaaaDoor
open Go.RowKit
def upd (u:Nat->Value) (i:Nat) (v:Value):Nat->Value:=fun j=>cond (Nat.beq j i) v (u j)
theorem Z06 (u:Nat->Value) (i:Nat) (v:Value):upd u i v i=v:=by simp[upd]
theorem Z01 (u:Nat->Value) {i j:Nat} (v:Value) (h:j≠i):upd u i v j=u j:=by
 have:Nat.beq j i=false:=by cases hb:Nat.beq j i <;> first | rfl | exact absurd (Nat.eq_of_beq_eq_true hb) h
 simp[upd,this]
structure Want where
 ok:Value->World->Prop
 keep: ∀(v:Value) (w w':World),Below w.heap.size w w'->ok v w->ok v w'
theorem Want.mono {T:Want} {v:Value} {w w':World} (hb:Below w.heap.size w w') (h:T.ok v w):T.ok v w':=T.keep v w w' hb h
def Want.val (c:Value):Want:=⟨fun v _=>v=c,fun _ _ _ _ h=>h⟩
def Want.any:Want:=⟨fun _ _=>True,fun _ _ _ _ h=>h⟩
section
variable {P : Program} {ops : Array Oper} {Q : Exit -> Act -> World -> Prop}
def waits (o:Oper) (j:Nat):Bool:=o.after.any fun e=>Region.binds .any e&&e.on==j
def StepAt (P:Program) (ops:Array Oper) (Q:Exit->Act->World->Prop) (A: (Nat->Value)->Act) (T:Nat->Want) (J:World->Prop) (i:Nat):Prop:=
 ∀o,ops[i]? =some o-> ∀(u:Nat->Value) (W:World),J W->(∀j,waits o j=true->(T j).ok (u j) W)->
  wpOp P ops Q i (fun a' w'=> ∃v,a'=A (upd u i v)/\(T i).ok v w'/\J w'/\Below W.heap.size W w') (A u) W
def StepsAt (P:Program) (ops:Array Oper) (Q:Exit->Act->World->Prop) (A: (Nat->Value)->Act) (T:Nat->Want) (J:World->Prop) (rs:List Nat):Prop:=
 ∀i∈rs,StepAt P ops Q A T J i
section
variable {A : (Nat -> Value) -> Act} {T : Nat -> Want} {J : World -> Prop}
include A T J
theorem StepsAt.nil:StepsAt P ops Q A T J []:=fun _ h=>by cases h
theorem StepsAt.cons {i:Nat} {rs:List Nat} (o:Oper) (ho:ops[i]? =some o)
 (h: ∀(u:Nat->Value) (W:World) (K':Act->World->Prop),J W->(∀j,waits o j=true->(T j).ok (u j) W)->
  Shut (∀v w',(T i).ok v w'->J w'->Below W.heap.size W w'->K' (A (upd u i v)) w')->
  if Region.wanted o (yielded ops (A u).tmps)=true then Oper.wp P o (A u) W K' Q else K' ((A u).put o.dst undef) W)
 (hs:StepsAt P ops Q A T J rs):StepsAt P ops Q A T J (i::rs):=fun j hj=>by
 rcases List.mem_cons.1 hj with rfl | hj
 {intro o' ho' u W hJ hd;rw[ho] at ho';obtain rfl:o=o':=Option.some.inj ho';exact wpOp_step ho (fun K' hK=>h u W K' hJ hd (fun v w' h1 h2 h3=>hK _ _ ⟨v,rfl,h1,h2,h3⟩))}
 {exact hs j hj}
end
def lowAfter (ops:Array Oper):Bool:=(List.range ops.size).all fun i=>((ops[i]?).map fun o=>o.after.all fun e=> !Region.binds .any e||decide (e.on < i)).getD true
theorem Z5H (h:lowAfter ops=true) {i:Nat} {o:Oper} (ho:ops[i]? =some o): ∀e∈o.after,Region.binds .any e=true->e.on < i:=by
 intro e he hb;have hi:i < ops.size:=by
  rcases Nat.lt_or_ge i ops.size with h | h
  {exact h}
  {rw[Array.getElem?_eq_none h] at ho; cases ho}
 have h1:=List.all_eq_true.1 h i (List.mem_range.2 hi);rw[ho] at h1;simp only[Option.map_some,Option.getD_some] at h1;have:=Array.all_eq_true_iff_forall_mem.1 h1 e he;rw[hb] at this;simpa using this
theorem Z2b (hl:lowAfter ops=true) (listed:Array Bool) (hr:Region.ready .any ops listed= []) (hsz:listed.size=ops.size):
 ∀n j,j < n->j < ops.size->listed.getD j false=true:=by
 intro n;induction n with
 | zero=>intro j hj; omega
 | succ n ih=>
  intro j hj hjs;by_cases hjn:j < n
  {exact ih j hjn hjs}
  {cases hlj:listed.getD j false with
   | true=>rfl
   | false=>
    have hmem:j∈Region.ready .any ops listed:=by
     refine mem_ready.2 ⟨?_,ops[j]'hjs,by simp[hjs],fun e he hb=> ?_⟩
     {have:j < listed.size:=by omega
      simp[this] at hlj ⊢;exact hlj}
     {have hlt:=Z5H hl (show ops[j]? =some (ops[j]'hjs) by simp[hjs]) e he hb;exact ih e.on (by omega) (by omega)}
    rw[hr] at hmem;cases hmem}
theorem Z5m (l:List Bool): ∀(i:Nat),l[i]? =some false->(l.set i true).count false+1=l.count false:=by
 induction l with
 | nil=>intro i h; simp at h
 | cons b l ih=>
  intro i h;cases i with
  | zero=>
   simp at h;subst h;simp
  | succ i=>
   simp at h;have:=ih i h;cases b <;> simp at this ⊢ <;> omega
theorem Z4J (l:List Bool) (h:l.count false=0) (j:Nat):l[j]? ≠some false:=by
 intro hj;have:=List.count_pos_iff.2 (List.mem_of_getElem? hj);omega
section
variable {o : Oper} {a : Act}
include o a
theorem Z03 {W W':World} {K':Act->World->Prop} {v:Value} {E:Prop} (hw:Region.wanted o (yielded ops a.tmps)=true)
 (hrun: (execOp a.eval o).run P W= .ok (.value v) W') (hK:K' (a.put o.dst v) W'):
 if Region.wanted o (yielded ops a.tmps)=true then Oper.wp P o a W K' Q else E:=by
 rw[if_pos hw,Oper.wp,hrun,Oper.upon_value];exact hK
theorem Y0 {W:World} {K':Act->World->Prop} {F:Value->Act} {T:Nat->Want} {J:World->Prop} {i:Nat} {E:Prop} {c:Value}
 (hK:Shut (∀v w',(T i).ok v w'->J w'->Below W.heap.size W w'->K' (F v) w')) (hJ:J W) (hT:T i=Want.val c) (hA:a.put o.dst c=F c)
 (hw:Region.wanted o (yielded ops a.tmps)=true) (hr: (execOp a.eval o).run P W= .ok (.value c) W):
 if Region.wanted o (yielded ops a.tmps)=true then Oper.wp P o a W K' Q else E:=
 Z03 (v:=c) (W':=W) hw hr (by rw[hA]; exact hK.out c W (by rw[hT]; rfl) hJ (Below.refl _ _))
theorem Z3b {W W':World} {K':Act->World->Prop} {f:FuncId} {args:Array Value} {E:Prop} (hw:Region.wanted o (yielded ops a.tmps)=true)
 (hrun: (execOp a.eval o).run P W= .ok (.enter f args) W') (hc:Calls P f args W' fun e w'=> ∃v,e= .returned v/\K' (a.put o.dst v) w'):
 if Region.wanted o (yielded ops a.tmps)=true then Oper.wp P o a W K' Q else E:=by
 rw[if_pos hw,Oper.wp,hrun,Oper.upon_enter];refine hc.mono fun e w' h=> ?_;obtain ⟨v,rfl,h⟩:=h;exact h
end
end
end Go.Proofs.YtchklpedlbkgaaaDoor
namespace Go.Proofs.YtchklpedlbkgaaaDoor
open Go.RowKit
def also (d:Nat->Bool) (i:Nat):Nat->Bool:=fun j=>cond (Nat.beq j i) true (d j)
section
variable {P : Program} {ops : Array Oper} {Q : Exit -> Act -> World -> Prop}
def StepInv (P:Program) (ops:Array Oper) (Q:Exit->Act->World->Prop) (A: (Nat->Value)->Act) (I: (Nat->Bool)->(Nat->Value)->World->Prop) (i:Nat):Prop:=
 ∀o,ops[i]? =some o-> ∀(d:Nat->Bool) (u:Nat->Value) (W:World),I d u W->d i=false->(∀j,waits o j=true->d j=true)->
  wpOp P ops Q i (fun a' w'=> ∃v,a'=A (upd u i v)/\I (also d i) (upd u i v) w') (A u) W
def StepsInv (P:Program) (ops:Array Oper) (Q:Exit->Act->World->Prop) (A: (Nat->Value)->Act) (I: (Nat->Bool)->(Nat->Value)->World->Prop) (rs:List Nat):Prop:=
 ∀i∈rs,StepInv P ops Q A I i
section
variable {A : (Nat -> Value) -> Act} {I : (Nat -> Bool) -> (Nat -> Value) -> World -> Prop}
include A I
theorem StepsInv.nil:StepsInv P ops Q A I []:=fun _ h=>by cases h
theorem StepsInv.cons {i:Nat} {rs:List Nat} (o:Oper) (ho:ops[i]? =some o)
 (h: ∀(d:Nat->Bool) (u:Nat->Value) (W:World) (K':Act->World->Prop),I d u W->d i=false->(∀j,waits o j=true->d j=true)->
  Shut (∀v w',I (also d i) (upd u i v) w'->K' (A (upd u i v)) w')->
  if Region.wanted o (yielded ops (A u).tmps)=true then Oper.wp P o (A u) W K' Q else K' ((A u).put o.dst undef) W)
 (hs:StepsInv P ops Q A I rs):StepsInv P ops Q A I (i::rs):=fun j hj=>by
 rcases List.mem_cons.1 hj with rfl | hj
 {intro o' ho' d u W hI hd hw;rw[ho] at ho';obtain rfl:o=o':=Option.some.inj ho';exact wpOp_step ho (fun K' hK=>h d u W K' hI hd hw (fun v w' h1=>hK _ _ ⟨v,rfl,h1⟩))}
 {exact hs j hj}
end
theorem Z7s (listed:Array Bool) {i:Nat} (hi:i < listed.size): (fun j=>(listed.setIfInBounds i true).getD j false)=also (fun j=>listed.getD j false) i:=by
 funext j;unfold also;by_cases h:j=i
 {subst h;have:Nat.beq j j=true:=Nat.beq_refl j;rw[this];simp[hi]}
 {have hb:Nat.beq j i=false:=by cases hb:Nat.beq j i <;> first | rfl | exact absurd (Nat.eq_of_beq_eq_true hb) h
  rw[hb];exact getD_set_ne false (Ne.symm h)}
theorem ZbQ (A: (Nat->Value)->Act) (I: (Nat->Bool)->(Nat->Value)->World->Prop) (hl:lowAfter ops=true)
 (hstep:StepsInv P ops Q A I (List.range ops.size))
 (hdone: ∀d u W,I d u W->(∀j,j < ops.size->d j=true)->Q .normal (A u) W):
 ∀(fuel:Nat) (listed:Array Bool) (u:Nat->Value) (W:World),listed.size=ops.size->listed.toList.count false<=fuel->I (fun j=>listed.getD j false) u W->
  wpAny P .any ops Q fuel listed (A u) W:=by
 intro fuel;induction fuel with
 | zero=>
  intro listed u W hsz hc hI;have hr:Region.ready .any ops listed= []:=by
   refine List.eq_nil_iff_forall_not_mem.2 fun j hj=> ?_;obtain ⟨h1,o,ho,_⟩:=mem_ready.1 hj;have hjs:j < listed.size:=by
    rw[hsz];rcases Nat.lt_or_ge j ops.size with h | h
    {exact h}
    {rw[Array.getElem?_eq_none h] at ho; cases ho}
   refine Z4J listed.toList (by omega) j ?_;simp[hjs] at h1 ⊢;exact h1
  exact ⟨hr,hdone _ u W hI fun j hj=>Z2b hl listed hr hsz (j+1) j (by omega) hj⟩
 | succ fuel ih=>
  intro listed u W hsz hc hI;refine ⟨fun hr=>hdone _ u W hI fun j hj=>Z2b hl listed hr hsz (j+1) j (by omega) hj,fun i hi=> ?_⟩;obtain ⟨h1,o,ho,hall⟩:=mem_ready.1 hi;have his:i < ops.size:=by
   rcases Nat.lt_or_ge i ops.size with h | h
   {exact h}
   {rw[Array.getElem?_eq_none h] at ho; cases ho}
  have hil:i < listed.size:=by omega
  have hdi:listed.getD i false=false:=by simp[hil] at h1 ⊢; exact h1
  have hdep: ∀j,waits o j=true->listed.getD j false=true:=fun j hj=>by
   obtain ⟨e,he,hb⟩:=Array.any_eq_true'.1 hj;simp only[Bool.and_eq_true,beq_iff_eq] at hb;obtain ⟨hb,rfl⟩:=hb;exact hall e he hb
  refine wpOp_mono (fun a' w' h=> ?_) (hstep i (List.mem_range.2 his) o ho (fun j=>listed.getD j false) u W hI hdi hdep);obtain ⟨v,rfl,hI'⟩:=h;rw[<-Z7s listed hil] at hI';refine ih _ _ _ (by simpa using hsz) ?_ hI';have h2:listed.toList[i]? =some false:=by simp[hil] at h1 ⊢; exact h1
  have:=Z5m listed.toList i h2;rw[Array.toList_setIfInBounds];omega
theorem Z30 {id:Nat} {w:World} {rs:List Nat} (A: (Nat->Value)->Act) (u0:Nat->Value) (I: (Nat->Bool)->(Nat->Value)->World->Prop) (hm:P.follows .mixedOrders=true) (hl:lowAfter ops=true)
 (hrs:List.range ops.size=rs) (hI:I (fun _=>false) u0 w.drew) (hstep:StepsInv P ops Q A I rs)
 (hdone: ∀d u W,I d u W->(∀j,j < ops.size->d j=true)->Q .normal (A u) W):
 (Code.region id ops true).wp P Q (A u0) w:=by
 subst hrs;refine wp_region_any hm (ZbQ A I hl hstep hdone _ _ _ _ (by simp) ?_ ?_)
 {exact Nat.le_trans List.count_le_length (by simp)}
 {have e: (fun j=>(Array.replicate ops.size false).getD j false)=fun _=>false:=by
   funext j;rcases Nat.lt_or_ge j ops.size with h | h
   {simp[h]}
   {simp[h]}
  rw[e];exact hI}
theorem Z1I {o:Oper} {a:Act} {W W':World} {K':Act->World->Prop} {E:Prop} (hw:Region.wanted o (yielded ops a.tmps)=true)
 (hrun: (execOp a.eval o).run P W= .ok .skip W') (hK:K' (a.put o.dst undef) W'):
 if Region.wanted o (yielded ops a.tmps)=true then Oper.wp P o a W K' Q else E:=by
 rw[if_pos hw,Oper.wp,hrun,Oper.upon_skip];exact hK
end
end Go.Proofs.YtchklpedlbkgaaaDoor
namespace Go.Proofs.YtchklpedlbkgaaaDoor
open Go.RowKit
def Shutd (ops:Array Oper) (d:Nat->Bool):Prop:= ∀k o,ops[k]? =some o->d k=true-> ∀m,waits o m=true->d m=true
section
variable {P : Program} {ops : Array Oper} {Q : Exit -> Act -> World -> Prop} {d : Nat -> Bool}
theorem Z5F (i:Nat) {k:Nat} (h:d k=true):also d i k=true:=by
 unfold also;cases Nat.beq k i
 {exact h}
 {rfl}
theorem Shutd.also (h:Shutd ops d) {i:Nat} {o:Oper} (ho:ops[i]? =some o) (hw: ∀j,waits o j=true->d j=true):Shutd ops (also d i):=by
 intro k o2 hk hd m hm;by_cases e:k=i
 {subst e;rw[ho] at hk;obtain rfl:=Option.some.inj hk;exact Z5F _ (hw m hm)}
 {have:Go.Proofs.YtchklpedlbkgaaaDoor.also d i k=d k:=by
   unfold Go.Proofs.YtchklpedlbkgaaaDoor.also;have:Nat.beq k i=false:=by cases hb:Nat.beq k i <;> first | rfl | exact absurd (Nat.eq_of_beq_eq_true hb) e
   rw[this]; rfl
  rw[this] at hd;exact Z5F _ (h k o2 hk hd m hm)}
theorem StepsInv.cons2 {A: (Nat->Value)->Act} {I: (Nat->Bool)->(Nat->Value)->World->Prop} {i:Nat} {rs:List Nat} (o:Oper) (ho:ops[i]? =some o)
 (h: ∀(d:Nat->Bool) (u:Nat->Value) (W:World) (K':Act->World->Prop),Shutd ops d->I d u W->d i=false->(∀j,waits o j=true->d j=true)->
  Shut (∀v w',I (also d i) (upd u i v) w'->K' (A (upd u i v)) w')->
  if Region.wanted o (yielded ops (A u).tmps)=true then Oper.wp P o (A u) W K' Q else K' ((A u).put o.dst undef) W)
 (hs:StepsInv P ops Q A (fun d u W=>Shutd ops d/\I d u W) rs):StepsInv P ops Q A (fun d u W=>Shutd ops d/\I d u W) (i::rs):=
 StepsInv.cons o ho (fun d u W K' hI hd hw hK=>h d u W K' hI.1 hI.2 hd hw (fun v w' hv=>hK _ _ ⟨hI.1.also ho hw,hv⟩)) hs
theorem Z49 {id:Nat} {w:World} {rs:List Nat} (A: (Nat->Value)->Act) (u0:Nat->Value) (I: (Nat->Bool)->(Nat->Value)->World->Prop) (hm:P.follows .mixedOrders=true) (hl:lowAfter ops=true)
 (hrs:List.range ops.size=rs) (hI:I (fun _=>false) u0 w.drew) (hstep:StepsInv P ops Q A (fun d u W=>Shutd ops d/\I d u W) rs)
 (hdone: ∀d u W,I d u W->(∀j,j < ops.size->d j=true)->Q .normal (A u) W):
 (Code.region id ops true).wp P Q (A u0) w:=
 Z30 A u0 (fun d u W=>Shutd ops d/\I d u W) hm hl hrs ⟨fun _ _ _ h=>(by cases h),hI⟩ hstep (fun d u W h=>hdone d u W h.2)
end
end Go.Proofs.YtchklpedlbkgaaaDoor
namespace Go.Proofs.YtchklpedlbkgaaaDoor
open Go.RowKit Shp Sub
namespace SubM
theorem Z8a {P:Program} {e:TypeId} {z:Value} {size bytes:Nat} (h: (P.info? e).map (fun i=>(i.zero,i.size,i.bytes))=some (some z,size,bytes)): ∃i,P.info? e=some i/\i.zero=some z/\i.size=size/\i.bytes=bytes:=by
 cases hi:P.info? e with
 | none=>rw[hi] at h; cases h
 | some i=>
  rw[hi] at h;simp only[Option.map_some,Option.some.injEq,Prod.mk.injEq] at h;exact ⟨i,rfl,h.1,h.2.1,h.2.2⟩
theorem Z08 (d:Nat->Bool) {i j:Nat} (h:j≠i):also d i j=d j:=by
 unfold also;have:Nat.beq j i=false:=by cases hb:Nat.beq j i <;> first | rfl | exact absurd (Nat.eq_of_beq_eq_true hb) h
 rw[this]; rfl
theorem Z0t (d:Nat->Bool) (i:Nat):also d i i=true:=by unfold also; rw[Nat.beq_refl]; rfl
structure PX where
 W0:World
 gm:Nat
 hi:Nat
 pb:Nat
 AN:Option Addr
 cN:Nat
 AP:Option Addr
 cP:Nat
 nl:List (List UInt8)
 l:List El
 nm:List UInt8
 x:El
namespace PX
variable (X : PX)
def val (j:Nat):Option Value:=match j with
 | 0 | 1 | 2 | 3 | 9 | 10 | 16 | 19=>some (.pointer (some ⟨X.gm,0,none⟩))
 | 4 | 17=>some (.pointer (some ⟨X.gm,3,none⟩))
 | 11 | 20=>some (.pointer (some ⟨X.gm,4,none⟩))
 | 5=>some (.slice X.AN X.nl.length X.cN)
 | 6=>some (.string ⟨X.nm.toArray⟩)
 | 12=>some (.slice X.AP X.l.length X.cP)
 | 13=>some (sv X.x.1 X.x.2)
 | _=>none
def set (b:Nat):Prop:=b=X.gm\/rowB X.AN=some b\/rowB X.AP=some b
structure Good:Prop where
 gh:X.gm < X.hi
 hw:X.hi<=X.pb
 pw:X.pb < X.W0.heap.size
 c3:X.W0.cell? ⟨X.gm,3,none⟩=some (.slice X.AN X.nl.length X.cN)
 c4:X.W0.cell? ⟨X.gm,4,none⟩=some (.slice X.AP X.l.length X.cP)
 fz: ∀j,X.W0.frozen? ⟨X.gm,j,none⟩=false
 rN:X.W0.ownsRow X.hi 9 1 (.slice X.AN X.nl.length X.cN) X.nl.length (namesE X.nl)
 rP:X.W0.ownsRow X.hi 25 5 (.slice X.AP X.l.length X.cP) X.l.length (cellsE X.l)
 ne:rowB X.AN=none\/rowB X.AN≠rowB X.AP
 bn:rowB X.AN≠some X.pb
 bp:rowB X.AP≠some X.pb
 box:Sh5 X.W0 X.pb 0 X.x.1 X.x.2
 ln:X.nl.length<=1000
 ll:X.l.length<=1000
structure PI (d:Nat->Bool) (u:Nat->Value) (W:World):Prop where
 vals: ∀j,d j=true-> ∀v,X.val j=some v->u j=v
 up:Upd X.set X.W0 W
 f7:d 7=true-> ∃z,u 7= .slice (some ⟨z,0,none⟩) 1 1/\X.W0.heap.size<=z/\z < W.heap.size/\W.cell? ⟨z,0,none⟩=some (.string ⟨X.nm.toArray⟩)
 f14:d 14=true-> ∃z,u 14= .slice (some ⟨z,0,none⟩) 1 1/\X.W0.heap.size<=z/\z < W.heap.size/\ ∀(j:Nat) v,(Zc5 X.x)[j]? =some v->W.cell? ⟨z,j,none⟩=some v
 n0:d 8=false->W.ownsRow X.hi 9 1 (.slice X.AN X.nl.length X.cN) X.nl.length (namesE X.nl)
 n1:d 8=true-> ∃g c,u 8= .slice (some ⟨g,0,none⟩) (X.nl.length+1) c/\W.ownsRow X.hi 9 1 (.slice (some ⟨g,0,none⟩) (X.nl.length+1) c) (X.nl.length+1) (namesE X.nl++ [.string ⟨X.nm.toArray⟩])/\(rowB X.AN=some g\/X.W0.heap.size<=g)
 p0:d 15=false->W.ownsRow X.hi 25 5 (.slice X.AP X.l.length X.cP) X.l.length (cellsE X.l)
 p1:d 15=true-> ∃g c,u 15= .slice (some ⟨g,0,none⟩) (X.l.length+1) c/\W.ownsRow X.hi 25 5 (.slice (some ⟨g,0,none⟩) (X.l.length+1) c) (X.l.length+1) (cellsE X.l++Zc5 X.x)/\(rowB X.AP=some g\/X.W0.heap.size<=g)/\
  ∀g8 n c8,u 8= .slice (some ⟨g8,0,none⟩) n c8->g8≠g
 c3:W.cell? ⟨X.gm,3,none⟩=some (if d 18=true then u 8 else .slice X.AN X.nl.length X.cN)
 c4:W.cell? ⟨X.gm,4,none⟩=some (if d 21=true then u 15 else .slice X.AP X.l.length X.cP)
 cr: ∀j,j < 3->W.cell? ⟨X.gm,j,none⟩=X.W0.cell? ⟨X.gm,j,none⟩
 fz: ∀j,W.frozen? ⟨X.gm,j,none⟩=false
variable {X : PX} {d : Nat -> Bool} {u : Nat -> Value} {W W' : World}
theorem PI.vals' (h:X.PI d u W) {i:Nat} {v:Value} (hv: ∀v',X.val i=some v'->v=v'): ∀j,also d i j=true-> ∀v',X.val j=some v'->upd u i v j=v':=fun j hj v' hv'=>by
 by_cases hij:j=i
 {subst hij; rw[Z06]; exact hv v' hv'}
 {rw[Z08 d hij] at hj; rw[Z01 u v hij]; exact h.vals j hj v' hv'}
theorem Good.start (h:X.Good):X.PI (fun _=>false) u X.W0.drew:=
 ⟨nofun,(Upd.refl _ _).drew,nofun,nofun,fun _=>h.rN,nofun,fun _=>h.rP,nofun,h.c3,h.c4,fun _ _=>rfl,h.fz⟩
theorem PI.pure (h:X.PI d u W) {i:Nat} (hi:i≠7/\i≠8/\i≠14/\i≠15/\i≠18/\i≠21) {v:Value} (hv: ∀v',X.val i=some v'->v=v'):X.PI (also d i) (upd u i v) W:=by
 have k: ∀j,j=7\/j=8\/j=14\/j=15\/j=18\/j=21->also d i j=d j/\upd u i v j=u j:=fun j hj=>⟨Z08 d (by omega),Z01 u v (by omega)⟩;refine ⟨h.vals' hv,h.up, ?_, ?_, ?_, ?_, ?_, ?_, ?_, ?_,h.cr,h.fz⟩
 {rw[(k 7 (by omega)).1,(k 7 (by omega)).2]; exact h.f7}
 {rw[(k 14 (by omega)).1,(k 14 (by omega)).2]; exact h.f14}
 {rw[(k 8 (by omega)).1]; exact h.n0}
 {rw[(k 8 (by omega)).1,(k 8 (by omega)).2]; exact h.n1}
 {rw[(k 15 (by omega)).1]; exact h.p0}
 {rw[(k 15 (by omega)).1,(k 15 (by omega)).2,(k 8 (by omega)).2]; exact h.p1}
 {rw[(k 18 (by omega)).1,(k 8 (by omega)).2]; exact h.c3}
 {rw[(k 21 (by omega)).1,(k 15 (by omega)).2]; exact h.c4}
theorem PI.box (h:X.PI d u W) (hX:X.Good):Sh5 W X.pb 0 X.x.1 X.x.2:=
 hX.box.of (fun k=>h.up.cell hX.pw (fun hs=>by
  rcases hs with hs | hs | hs
  {have:=hX.gh; have:=hX.hw; omega}
  {exact hX.bn hs}
  · exact hX.bp hs))
theorem PI.new (h:X.PI d u W) (hX:X.Good) (hb:Below W.heap.size W W'):X.PI d u W':=by
 have hgm:X.gm < W.heap.size:=by have:=hX.gh; have:=hX.hw; have:=hX.pw; have:=h.up.size; omega
 have hu:Upd (fun _=>False) W W':=Upd.new hb;refine ⟨h.vals,h.up.trans (hu.mono (fun _ _ h=>h.elim)),fun h7=> ?_,fun h14=> ?_,fun h8=>Z1j (h.n0 h8) hu (fun _ _ h=>h),fun h8=> ?_,fun h15=>Z1j (h.p0 h15) hu (fun _ _ h=>h),fun h15=> ?_,
  (hu.cell hgm (fun h=>h)).trans h.c3,(hu.cell hgm (fun h=>h)).trans h.c4,fun j hj=>(hu.cell hgm (fun h=>h)).trans (h.cr j hj),fun j=>(hu.frozen hgm (fun h=>h)).trans (h.fz j)⟩
 {obtain ⟨z,e,z1,z2,z3⟩:=h.f7 h7;exact ⟨z,e,z1,Nat.lt_of_lt_of_le z2 hu.size,(hu.cell z2 (fun h=>h)).trans z3⟩}
 {obtain ⟨z,e,z1,z2,z3⟩:=h.f14 h14;exact ⟨z,e,z1,Nat.lt_of_lt_of_le z2 hu.size,fun j v hv=>(hu.cell z2 (fun h=>h)).trans (z3 j v hv)⟩}
 {obtain ⟨g,c,e,r,n⟩:=h.n1 h8;exact ⟨g,c,e,Z1j r hu (fun _ _ h=>h),n⟩}
 {obtain ⟨g,c,e,r,n⟩:=h.p1 h15;exact ⟨g,c,e,Z1j r hu (fun _ _ h=>h),n⟩}
end PX
end SubM
end Go.Proofs.YtchklpedlbkgaaaDoor
namespace Go.Proofs.YtchklpedlbkgaaaDoor
open Go.RowKit Shp Sub
namespace SubM
theorem Z0a {ops:Array Oper} {d:Nat->Bool} (hs:Shutd ops d) {k m:Nat} {o:Oper} (ho:ops[k]? =some o) (hw:waits o m=true) (hm:d m=false):d k=false:=by
 cases h:d k with
 | false=>rfl
 | true=>rw[hs k o ho h m hw] at hm; cases hm
def PutOk (W:World) (gm:Nat) (AN AP:Option Addr) (AN' AP':Option Addr) (W':World):Prop:=
 Upd (fun b=>b=gm\/rowB AN=some b\/rowB AP=some b) W W'/\(∀b,rowB AN'=some b->rowB AN=some b\/W.heap.size<=b)/\(∀b,rowB AP'=some b->rowB AP=some b\/W.heap.size<=b)
end SubM
end Go.Proofs.YtchklpedlbkgaaaDoor
namespace Go.Proofs.YtchklpedlbkgaaaDoor
open Go.RowKit Shp Sub
namespace SubM
structure TakesP (n0 N:Nat) (a b:Sh) (fn:Nat) (cs:List Value) (step:Nat->Bool) (K:Bool->Nat->World->Prop):Prop where
 keep: ∀ok k W W',K ok k W->Upd (fun x=>N<=x/\x < N+2) W W'->K ok k W'
 call: ∀k (hk:k < a.parts.length) (hk2:k < b.parts.length) W (x y:Ptr),N+2<=W.heap.size->K true k W->ShAt W n0 x (a.parts[k]'hk)->ShAt W n0 y (b.parts[k]'hk2)->
  Calls Tryd.prog fn (sv (a.parts[k]'hk) x::sv (b.parts[k]'hk2) y:: .bool (decide (k+1=a.parts.length))::cs).toArray W fun e W'=>e= .returned (.bool (step k))/\K (step k) (k+1) W'/\Upd (fun x=>n0<=x/\ ¬(N<=x/\x < N+2)) W W'
structure P2 (n0 N:Nat) (a b:Sh) (pa pb:Ptr) (w:World) (K:Bool->Nat->World->Prop) (k:Nat) (W:World):Prop where
 ba:Box5 W N a pa
 bb:Box5 W (N+1) b pb
 up:Upd (fun x=>n0<=x) w W
 sz:N+2<=W.heap.size
 k:K true k W
section
variable {n0 : Nat} {a b : Sh} {pa pb : Ptr} {w : World} {K : Bool -> Nat -> World -> Prop} {k : Nat} {W W' : World} {fn : Nat} {cs : List Value} {step : Nat -> Bool}
theorem P2.upd (h:P2 n0 w.heap.size a b pa pb w K k W) (hn:n0<=w.heap.size) (hu:Upd (fun x=>n0<=x/\ ¬(w.heap.size<=x/\x < w.heap.size+2)) W W') {k':Nat} (hk:K true k' W'):P2 n0 w.heap.size a b pa pb w K k' W':=
 ⟨Z3q h.ba hu (by omega),Z3q h.bb hu (by omega),h.up.trans (hu.mono (fun x _ hx=>hx.1)),Nat.le_trans h.sz hu.size,hk⟩
theorem P2.new (h:P2 n0 w.heap.size a b pa pb w K k W) (hT:TakesP n0 w.heap.size a b fn cs step K) (hn:n0<=w.heap.size) (hb:Below W.heap.size W W'):P2 n0 w.heap.size a b pa pb w K k W':=
 h.upd hn (Upd.new hb) (hT.keep _ _ _ _ h.k (Upd.new hb))
end
end SubM
end Go.Proofs.YtchklpedlbkgaaaDoor
namespace Go.Proofs.YtchklpedlbkgaaaDoor
section
open Go.RowKit
theorem Z12 {P:Program} (w:World) {ops:Array Oper} {rest:List Oper} {o:Oper} {a:Act} {Q:Exit->Act->World->Prop} (hgd:Region.wanted o (yielded ops a.tmps)=true) (s x:Operand) (t:TypeId)
 (ho:o.op= .call { callee:= .builtin .append,args:=#[s,x],argTypes:=#[t,t] })
 (base:Nat) (e:TypeId) (i:TypeInfo) (z:Value) (size bytes:Nat) (ht:P.underlying t=some (.slice e)) (hi:P.info? e=some i) (hz:i.zero=some z)
 (hsize:i.size=size) (hby:i.bytes=bytes) (hzs:z.cells.size=size) (hsz:0 < size)
 (v:Value) (n:Nat) (xs:List Value) (hs:a.eval s=v) (hown:w.ownsRow base e size v n xs)
 (A:Option Addr) (m c:Nat) (news:List Value) (hx:a.eval x= .slice A m c) (hA:A=none->m=0/\c=0) (hl:news.length=m * size)
 (hnews: ∀ad,A=some ad-> ∀j u,news[j]? =some u->w.cell? (ad.add j)=some u) (h1: ∀u∈news,u.oneCell'=true)
 (h63:n+m<=maxLen) (hbytes: (n+m) * bytes<=140737488355328) (hbase:base<=w.heap.size)
 (h: ∀v' w',w'.ownsRow base e size v' (n+m) (xs++news)->Below base w w'->wpList P ops Q rest (a.put o.dst v') w'):wpList P ops Q (o::rest) a w:=by
 refine wpList_step fun K hK=> ?_;rw[if_pos hgd]
 match A,hA,hnews,hx with
 | some ad,_,hnews,hx=>
  exact wp_append_own w s x t ho base e i z size bytes ht hi hz hsize hby hzs hsz v n xs hs hown ad m c news hx hl (hnews ad rfl) h1 h63 hbytes hbase
   fun v' w' h2 h3 _=>hK _ _ (h v' w' h2 (Y2.grown h3 hbase (fun k hk=>(hown.lt k hk).1)))
 | none,hA,_,hx=>
  obtain ⟨rfl,rfl⟩:=hA rfl;obtain rfl:news= []:=List.eq_nil_of_length_eq_zero (by rw[hl,Nat.zero_mul]);have hr:=run_append_owned_none (P:=P) (w:=w) base t o.type e i size ht hi v n xs hown;unfold Oper.wp execOp;simp only[ho,resolve,invoke,builtin,Sem.run_bind,Sem.run_pure,Result.andThen_ok,List.map_toArray,List.map_cons,List.map_nil,hs,hx,hr];exact hK _ _ (h v w (by rw[List.append_nil]; exact hown) Y2)
end
section
open Go.RowKit Shp
structure PaR (W:World) (b:Nat) (ps:List Sh) (qs:Nat->Ptr):Prop where
 lt:b < W.heap.size
 at_: ∀i (h:i < ps.length),Sh5 W b (i * 5) (ps[i]'h) (qs i)
 fz: ∀k,W.frozen? ⟨b,k,none⟩=false
def Z0v (W W':World) (b:Nat):Prop:=(∀k,W'.cell? ⟨b,k,none⟩=W.cell? ⟨b,k,none⟩)/\ ∀k,W'.frozen? ⟨b,k,none⟩=W.frozen? ⟨b,k,none⟩
theorem PaR.of {W W':World} {b:Nat} {ps:List Sh} {qs:Nat->Ptr} (h:PaR W b ps qs) (hs:Z0v W W' b) (hz:W.heap.size<=W'.heap.size):PaR W' b ps qs:=
 ⟨Nat.lt_of_lt_of_le h.lt hz,fun i hi=>(h.at_ i hi).of hs.1,fun k=>(hs.2 k).trans (h.fz k)⟩
theorem TxR.of {W W':World} {b:Nat} {ts:List (List UInt8)} (h:TxR W b ts) (hs:Z0v W W' b) (hz:W.heap.size<=W'.heap.size):TxR W' b ts:=
 ⟨Nat.lt_of_lt_of_le h.lt hz,fun i hi=>(hs.1 i).trans (h.at_ i hi),fun k=>(hs.2 k).trans (h.fz k)⟩
inductive Own (W:World):Ptr->Sh->List Nat->Prop
 | mk (q:Ptr) (t:Sh) (F FN FP:List Nat) (qs:Nat->Ptr) (Fs:Nat->List Nat) (hs:Small t q)
  (hn:t.names.length=0/\FN= []\/ ∃b,q.A=some ⟨b,0,none⟩/\FN= [b]/\TxR W b t.names)
  (hp:t.parts.length=0/\FP= []\/ ∃b,q.P=some ⟨b,0,none⟩/\FP= [b]/\PaR W b t.parts qs)
  (hr: ∀i (h:i < t.parts.length),Own W (qs i) (t.parts[i]'h) (Fs i)) (hF:F=FN++FP++(List.range t.parts.length).flatMap Fs):Own W q t F
section
variable {W : World} {q : Ptr} {t : Sh} {F : List Nat} (h : Own W q t F)
include W q t F h
theorem Own.small:Small t q:=by cases h; assumption
theorem Own.inv: ∃(FN FP:List Nat) (qs:Nat->Ptr) (Fs:Nat->List Nat),
 (t.names.length=0/\FN= []\/ ∃b,q.A=some ⟨b,0,none⟩/\FN= [b]/\TxR W b t.names)/\
 (t.parts.length=0/\FP= []\/ ∃b,q.P=some ⟨b,0,none⟩/\FP= [b]/\PaR W b t.parts qs)/\
 (∀i (h:i < t.parts.length),Own W (qs i) (t.parts[i]'h) (Fs i))/\F=FN++FP++(List.range t.parts.length).flatMap Fs:=by
 cases h with
 | mk _ _ _ FN FP qs Fs hs hn hp hr hF=>exact ⟨FN,FP,qs,Fs,hn,hp,hr,hF⟩
end
theorem Own.of {W W':World} {q:Ptr} {t:Sh} {F:List Nat} (h:Own W q t F) (hc: ∀b∈F,Z0v W W' b) (hz:W.heap.size<=W'.heap.size):Own W' q t F:=by
 induction h with
 | mk q t F FN FP qs Fs hs hn hp hr hF ih=>
  subst hF;refine .mk q t _ FN FP qs Fs hs ?_ ?_ ?_ rfl
  {rcases hn with h | ⟨b,h1,rfl,h3⟩
   {exact Or.inl h}
   {exact Or.inr ⟨b,h1,rfl,h3.of (hc b (by simp)) hz⟩}}
  {rcases hp with h | ⟨b,h1,rfl,h3⟩
   {exact Or.inl h}
   {exact Or.inr ⟨b,h1,rfl,h3.of (hc b (by simp)) hz⟩}}
  {intro i hi;refine ih i hi (fun b hb=>hc b ?_);refine List.mem_append_right _ (List.mem_flatMap.2 ⟨i,List.mem_range.2 hi,hb⟩)}
theorem Own.at_ {W:World} {q:Ptr} {t:Sh} {F:List Nat} {B:Nat} (h:Own W q t F) (hB: ∀b∈F,b < B):ShAt W B q t:=by
 induction h with
 | mk q t F FN FP qs Fs hs hn hp hr hF ih=>
  subst hF;have hS:Strs W B q.A (strs t.names):=by
   rcases hn with ⟨h,_⟩ | ⟨b,h1,rfl,h3⟩
   {exact Or.inl (by rw[Z1A]; exact h)}
   {refine Or.inr ⟨b,0,h1,hB b (by simp),fun i hi=> ?_⟩;rw[Z1A] at hi;rw[Nat.zero_add,h3.at_ i hi];simp[strs]}
  have hrr: ∀i (h:i < t.parts.length),ShAt W B (qs i) (t.parts[i]'h):=fun i hi=>ih i hi (fun b hb=>hB b (List.mem_append_right _ (List.mem_flatMap.2 ⟨i,List.mem_range.2 hi,hb⟩)));rcases hp with ⟨h,_⟩ | ⟨b,h1,rfl,h3⟩
  {exact .mk q t 0 0 qs hs hS (Or.inl h) (fun i hi=>absurd hi (by omega)) hrr}
  {exact .mk q t b 0 qs hs hS (Or.inr ⟨h1,hB b (by simp)⟩) (fun i hi=>by rw[Nat.zero_add]; exact h3.at_ i hi) hrr}
theorem Own.lt {W:World} {q:Ptr} {t:Sh} {F:List Nat} (h:Own W q t F): ∀b∈F,b < W.heap.size:=by
 induction h with
 | mk q t F FN FP qs Fs hs hn hp hr hF ih=>
  subst hF;intro b hb;rcases List.mem_append.1 hb with hb | hb
  {rcases List.mem_append.1 hb with hb | hb
   {rcases hn with ⟨_,rfl⟩ | ⟨c,_,rfl,h3⟩
    {cases hb}
    {rw[List.mem_singleton] at hb; subst hb; exact h3.lt}}
   {rcases hp with ⟨_,rfl⟩ | ⟨c,_,rfl,h3⟩
    {cases hb}
    {rw[List.mem_singleton] at hb; subst hb; exact h3.lt}}}
  {obtain ⟨i,hi,hb⟩:=List.mem_flatMap.1 hb;exact ih i (List.mem_range.1 hi) b hb}
def Node (W:World) (g i:Nat) (t:Sh) (F:List Nat):Prop:= ∃q,Sh5 W g (i * 5) t q/\Own W q t F
structure Nd where
 g:Nat
 i:Nat
 t:Sh
 q:Ptr
def Ready (r:Nat) (T:Sh) (L:List Nd) (D:List Nat) (W:World):Prop:=
 ∀(W':World) (Fs:Nat->List Nat),W.heap.size<=W'.heap.size->
  (∀b∈D,∀k,(∀n∈L,¬(n.g=b/\(k=n.i * 5+3\/k=n.i * 5+4)))->W'.cell? ⟨b,k,none⟩=W.cell? ⟨b,k,none⟩)->
  (∀b∈D,∀k,W'.frozen? ⟨b,k,none⟩=W.frozen? ⟨b,k,none⟩)->
  (∀j (h:j < L.length),Node W' (L[j]'h).g (L[j]'h).i (L[j]'h).t (Fs j))->
  (∀j,j < L.length-> ∀b∈Fs j,b∉D)->((List.range L.length).flatMap Fs).Nodup->
  ∃F,Node W' r 0 T F/\F.Nodup/\ ∀b∈F,b∈D\/ ∃j,j < L.length/\b∈Fs j
theorem Z70 (r:Nat) (T:Sh) (q:Ptr) (D:List Nat) (W:World):Ready r T [⟨r,0,T,q⟩] D W:=by
 intro W' Fs _ _ _ hN _ hnd;refine ⟨Fs 0,hN 0 (by simp),by simpa using hnd,fun b hb=>Or.inr ⟨0,by simp,hb⟩⟩
theorem Z8o {r:Nat} {T:Sh} {D:List Nat} {W:World} (h:Ready r T [] D W): ∃F,Node W r 0 T F/\F.Nodup/\ ∀b∈F,b∈D:=by
 obtain ⟨F,h1,h2,h3⟩:=h W (fun _=> []) (Nat.le_refl _) (fun _ _ _ _=>rfl) (fun _ _ _=>rfl) (fun j hj=>absurd hj (by simp)) (fun j hj=>absurd hj (by simp)) (by simp);refine ⟨F,h1,h2,fun b hb=> ?_⟩;rcases h3 b hb with h | ⟨j,hj,_⟩
 {exact h}
 {exact absurd hj (by simp)}
theorem Ready.of {r:Nat} {T:Sh} {L:List Nd} {D:List Nat} {W W1:World} (h:Ready r T L D W) (hs: ∀b∈D,Z0v W W1 b) (hz:W.heap.size<=W1.heap.size):Ready r T L D W1:=
 fun W' Fs hz' hc hf hN hd hn=>h W' Fs (Nat.le_trans hz hz') (fun b hb k hx=>(hc b hb k hx).trans ((hs b hb).1 k)) (fun b hb k=>(hf b hb k).trans ((hs b hb).2 k)) hN hd hn
def kids (pb:Nat) (ps:List Sh) (qs:Nat->Ptr):List Nd:=ps.mapIdx fun i p=>⟨pb,i,p,qs i⟩
section
variable (pb : Nat) (ps : List Sh) (qs : Nat -> Ptr)
include pb ps qs
theorem Z0U: (kids pb ps qs).length=ps.length:=by simp[kids]
theorem Z1U (i:Nat) (h:i < (kids pb ps qs).length): (kids pb ps qs)[i]'h=⟨pb,i,ps[i]'(by rwa [Z0U] at h),qs i⟩:=by simp[kids]
end
theorem Z63 {pb:Nat} {ps:List Sh} {qs:Nat->Ptr} {n:Nd} (h:n∈kids pb ps qs):n.g=pb:=by
 obtain ⟨i,hi,rfl⟩:=List.getElem_of_mem h;rw[Z1U]
theorem Z5I {n m:Nat} (Fs:Nat->List Nat): (List.range (n+m)).flatMap Fs=(List.range n).flatMap Fs++(List.range m).flatMap (fun i=>Fs (n+i)):=by
 rw[List.range_add,List.flatMap_append,List.flatMap_map]
theorem Ready.step {r:Nat} {T:Sh} {L:List Nd} {a:Nd} {D DN DP:List Nat} {W W1:World} {q1:Ptr} {pb:Nat} {qs:Nat->Ptr} (hR:Ready r T (L++ [a]) D W) (hD: ∀b∈D,b < W.heap.size)
 (hag:a.g∈D) (hLg: ∀n∈L,n.g∈D) (hne: ∀n∈L,n.g=a.g->n.i≠a.i) (hsz:W.heap.size<=W1.heap.size) (ha:Sh5 W1 a.g (a.i * 5) a.t q1) (hs:Small a.t q1)
 (hk: ∀b∈D,∀k,¬(a.g=b/\(k=a.i * 5+3\/k=a.i * 5+4))->W1.cell? ⟨b,k,none⟩=W.cell? ⟨b,k,none⟩) (hf: ∀b∈D,∀k,W1.frozen? ⟨b,k,none⟩=W.frozen? ⟨b,k,none⟩)
 (hn:a.t.names.length=0/\DN= []\/ ∃b,q1.A=some ⟨b,0,none⟩/\DN= [b]/\W.heap.size<=b/\TxR W1 b a.t.names)
 (hp:a.t.parts.length=0/\DP= []\/q1.P=some ⟨pb,0,none⟩/\DP= [pb]/\W.heap.size<=pb/\pb∉DN/\PaR W1 pb a.t.parts qs):
 Ready r T (L++kids pb a.t.parts qs) (D++DN++DP) W1:=by
 intro W' Fs hsz' hcell hfr hN hdis hnd;have hlen: (L++kids pb a.t.parts qs).length=L.length+a.t.parts.length:=by rw[List.length_append,Z0U]
 have hpg: ∀n∈kids pb a.t.parts qs,a.t.parts.length≠0:=fun n hn h0=>by
  have:kids pb a.t.parts qs= []:=List.eq_nil_of_length_eq_zero (by rw[Z0U]; exact h0);rw[this] at hn; cases hn
 have hkid: ∀n∈kids pb a.t.parts qs,n.g=pb/\W.heap.size<=pb/\pb∉DN:=fun n hnm=>by
  rcases hp with ⟨h0,_⟩ | ⟨_,_,h3,h4,_⟩
  {exact absurd h0 (hpg n hnm)}
  {exact ⟨Z63 hnm,h3,h4⟩}
 have hDNb: ∀b∈DN,W.heap.size<=b:=fun b hb=>by
  rcases hn with ⟨_,rfl⟩ | ⟨c,_,rfl,h3,_⟩
  {cases hb}
  {rw[List.mem_singleton] at hb; subst hb; exact h3}
 have hDPb: ∀b∈DP,W.heap.size<=b/\b∉DN:=fun b hb=>by
  rcases hp with ⟨_,rfl⟩ | ⟨_,rfl,h3,h4,_⟩
  {cases hb}
  {rw[List.mem_singleton] at hb; subst hb; exact ⟨h3,h4⟩}
 have hDNn:DN.Nodup:=by
  rcases hn with ⟨_,rfl⟩ | ⟨c,_,rfl,_⟩ <;> simp
 have hDPn:DP.Nodup:=by
  rcases hp with ⟨_,rfl⟩ | ⟨_,rfl,_⟩ <;> simp
 let Fk:Nat->List Nat:=fun i=>Fs (L.length+i)
 let Fa:List Nat:=DN++DP++(List.range a.t.parts.length).flatMap Fk
 let Fs':Nat->List Nat:=fun j=>if j < L.length then Fs j else Fa
 rw[hlen] at hdis hnd;rw[Z5I] at hnd;have hnd':=List.nodup_append.1 hnd;have hdisD: ∀j,j < L.length+a.t.parts.length-> ∀b∈Fs j,b∉D/\b∉DN/\b∉DP:=fun j hj b hb=>by
  have:=hdis j hj b hb;simp only[List.mem_append,not_or] at this;exact ⟨this.1.1,this.1.2,this.2⟩
 -- the place that was copied
 have hkn: ∀i (h:i < a.t.parts.length),Node W' pb i (a.t.parts[i]'h) (Fk i):=fun i hi=>by
  have h1:=hN (L.length+i) (by rw[hlen]; omega);have e: (L++kids pb a.t.parts qs)[L.length+i]'(by rw[hlen]; omega)=⟨pb,i,a.t.parts[i]'hi,qs i⟩:=by
   rw[List.getElem_append_right (by omega)];simp only[Nat.add_sub_cancel_left];exact Z1U _ _ _ _ _
  rw[e] at h1;exact h1
 have hqk: ∃qk:Nat->Ptr,∀i (h:i < a.t.parts.length),Sh5 W' pb (i * 5) (a.t.parts[i]'h) (qk i)/\Own W' (qk i) (a.t.parts[i]'h) (Fk i):=by
  refine ⟨fun i=>if h:i < a.t.parts.length then (hkn i h).choose else ⟨none,0,none,0⟩,fun i h=> ?_⟩;simp only[dif_pos h];exact (hkn i h).choose_spec
 obtain ⟨qk,hqk⟩:=hqk;have hexc: ∀b∈D,∀k,(∀n∈L,¬(n.g=b/\(k=n.i * 5+3\/k=n.i * 5+4)))->W'.cell? ⟨b,k,none⟩=W1.cell? ⟨b,k,none⟩:=fun b hb k hx=>by
  refine hcell b (by simp[hb]) k (fun n hnm=> ?_);rcases List.mem_append.1 hnm with h | h
  {exact hx n h}
  {intro ⟨h1,_⟩;have h2:=hkid n h;have:=hD b hb;omega}
 have hNa:Node W' a.g a.i a.t Fa:=by
  refine ⟨q1, ?_,.mk q1 a.t Fa DN DP qk Fk hs ?_ ?_ (fun i hi=>(hqk i hi).2) rfl⟩
  {have e: ∀c,c < 5->W'.cell? ⟨a.g,a.i * 5+c,none⟩=W1.cell? ⟨a.g,a.i * 5+c,none⟩:=fun c hc=>hexc a.g hag _ (fun n hnm ⟨h1,h2⟩=>by
    have:=hne n hnm h1;omega)
   obtain ⟨h0,h1,h2,h3,h4⟩:=ha;exact ⟨(e 0 (by omega)).trans h0,(e 1 (by omega)).trans h1,(e 2 (by omega)).trans h2,(e 3 (by omega)).trans h3,(e 4 (by omega)).trans h4⟩}
  {rcases hn with h | ⟨b,h1,rfl,h3,h4⟩
   {exact Or.inl h}
   {refine Or.inr ⟨b,h1,rfl,h4.of ⟨fun k=>hcell b (by simp) k (fun n hnm=> ?_),fun k=>hfr b (by simp) k⟩ hsz'⟩;rcases List.mem_append.1 hnm with h | h
    {intro ⟨h5,_⟩;have:=hD _ (hLg n h);omega}
    {intro ⟨h5,_⟩;have h6:=hkid n h;rw[List.mem_singleton] at h6;omega}}}
  {rcases hp with h | ⟨h1,rfl,h3,h4,h5⟩
   {exact Or.inl h}
   {exact Or.inr ⟨pb,h1,rfl,Nat.lt_of_lt_of_le h5.lt hsz',fun i hi=>(hqk i hi).1,fun k=>(hfr pb (by simp) k).trans (h5.fz k)⟩}}
 have hFaD: ∀b∈Fa,b∉D:=fun b hb hbD=>by
  have hlt:=hD b hbD;rcases List.mem_append.1 hb with hb | hb
  {rcases List.mem_append.1 hb with hb | hb
   {have:=hDNb b hb; omega}
   {have:=(hDPb b hb).1; omega}}
  {obtain ⟨i,hi,hb⟩:=List.mem_flatMap.1 hb;exact (hdisD (L.length+i) (by have:=List.mem_range.1 hi; omega) b hb).1 hbD}
 have hFan:Fa.Nodup:=by
  refine List.nodup_append.2 ⟨List.nodup_append.2 ⟨hDNn,hDPn,fun x hx y hy e=>(hDPb y hy).2 (e▸hx)⟩,hnd'.2.1,fun x hx y hy e=> ?_⟩;subst e;obtain ⟨i,hi,hb⟩:=List.mem_flatMap.1 hy;have h1:=hdisD (L.length+i) (by have:=List.mem_range.1 hi; omega) x hb;rcases List.mem_append.1 hx with h | h
  {exact h1.2.1 h}
  {exact h1.2.2 h}
 have hll: (L++ [a]).length=L.length+1:=by simp
 have hFs': (List.range L.length).flatMap Fs'=(List.range L.length).flatMap Fs:=by
  have: ∀(l:List Nat),(∀j∈l,j < L.length)->l.flatMap Fs'=l.flatMap Fs:=by
   intro l;induction l with
   | nil=>intro _; rfl
   | cons j l ih=>
    intro h;rw[List.flatMap_cons,List.flatMap_cons,ih (fun j hj=>h j (by simp[hj]))];simp only[Fs',if_pos (h j (by simp))]
  exact this _ (fun j hj=>List.mem_range.1 hj)
 obtain ⟨F,h1,h2,h3⟩:=hR W' Fs' (Nat.le_trans hsz hsz') (fun b hb k hx=>by
  rw[hexc b hb k (fun n hnm=>hx n (by simp[hnm]))];exact hk b hb k (hx a (by simp)))
  (fun b hb k=>(hfr b (by simp[hb]) k).trans (hf b hb k))
  (fun j hj=>by
   rw[hll] at hj;by_cases hjl:j < L.length
   {have e: (L++ [a])[j]'(by rw[hll]; omega)=L[j]'hjl:=List.getElem_append_left hjl;have h1:=hN j (by rw[hlen]; omega);have e2: (L++kids pb a.t.parts qs)[j]'(by rw[hlen]; omega)=L[j]'hjl:=List.getElem_append_left hjl;rw[e2] at h1;rw[e];simp only[Fs',if_pos hjl];exact h1}
   · have hje:j=L.length:=by omega
     subst hje;have e: (L++ [a])[L.length]'(by rw[hll]; omega)=a:=by simp
     rw[e];simp only[Fs',if_neg hjl];exact hNa)
  (fun j hj b hb=>by
   rw[hll] at hj;by_cases hjl:j < L.length
   {simp only[Fs',if_pos hjl] at hb;exact (hdisD j (by omega) b hb).1}
   · simp only[Fs',if_neg hjl] at hb
     exact hFaD b hb)
  (by
   rw[hll,List.range_succ,List.flatMap_append,hFs'];have e: [L.length].flatMap Fs'=Fa:=by simp[Fs']
   rw[e];refine List.nodup_append.2 ⟨hnd'.1,hFan,fun x hx y hy e=> ?_⟩;subst e;obtain ⟨j,hj,hxj⟩:=List.mem_flatMap.1 hx;have hd:=hdisD j (by have:=List.mem_range.1 hj; omega) x hxj;rcases List.mem_append.1 hy with hy | hy
   {rcases List.mem_append.1 hy with hy | hy
    {exact hd.2.1 hy}
    {exact hd.2.2 hy}}
   · exact hnd'.2.2 x hx x hy rfl)
 refine ⟨F,h1,h2,fun b hb=> ?_⟩;rcases h3 b hb with h | ⟨j,hj,h⟩
 {exact Or.inl (by simp[h])}
 {rw[hll] at hj;by_cases hjl:j < L.length
  {simp only[Fs',if_pos hjl] at h;exact Or.inr ⟨j,by rw[hlen]; omega,h⟩}
  {simp only[Fs',if_neg hjl] at h;rcases List.mem_append.1 h with h | h
   {rcases List.mem_append.1 h with h | h
    {exact Or.inl (by simp[h])}
    {exact Or.inl (by simp[h])}}
   {obtain ⟨i,hi,h⟩:=List.mem_flatMap.1 h;exact Or.inr ⟨L.length+i,by rw[hlen]; have:=List.mem_range.1 hi; omega,h⟩}}}
theorem Z3I: (Tryd.prog.info? 9).map (fun i=>(i.zero,i.size,i.bytes))=some (some (.string ByteArray.empty),1,16):=by kernel_rfl
theorem Z1e: (Tryd.prog.info? 25).map (fun i=>(i.zero,i.size,i.bytes))=some (some (.agg #[.int .i64 0,.string ByteArray.empty,.string ByteArray.empty,.slice none 0 0,.slice none 0 0]),5,88):=by kernel_rfl
def Z43 (t:Sh) (q:Ptr):Nat->Value
 | 0=> .int .i64 t.kind
 | 1=> .string ⟨t.of_.toArray⟩
 | 2=> .string ⟨t.name.toArray⟩
 | 3=> .slice q.A t.names.length q.c
 | _=> .slice q.P t.parts.length q.d
def Z5W:Sh:=⟨0,[],[],[],[]⟩
def cells7 (ps:List Sh) (qs:Nat->Ptr):List Value:=(List.range (ps.length * 5)).map fun j=>Z43 (ps.getD (j / 5) Z5W) (qs (j / 5)) (j % 5)
section
variable (ps : List Sh) (qs : Nat -> Ptr)
include ps qs
theorem Z4K: (cells7 ps qs).length=ps.length * 5:=by simp[cells7]
theorem Z5n {i c:Nat} (hi:i < ps.length) (hc:c < 5): (cells7 ps qs)[i * 5+c]? =some (Z43 (ps[i]'hi) (qs i) c):=by
 have h1:i * 5+c < ps.length * 5:=by omega
 have h2: (i * 5+c) / 5=i:=by omega
 have h3: (i * 5+c) % 5=c:=by omega
 simp[cells7,h1,h2,h3,List.getD,List.getElem?_eq_getElem hi]
theorem Z8p: ∀u∈cells7 ps qs,u.oneCell'=true:=by
 intro u hu;obtain ⟨j,_,rfl⟩:=List.mem_map.1 hu;generalize j % 5=c
 match c with
 | 0=>rfl
 | 1=>rfl
 | 2=>rfl
 | 3=>rfl
 | _+4=>rfl
end
section
variable {W : World}
include W
theorem Z9F {g o:Nat} {t:Sh} {q:Ptr} (h:Sh5 W g o t q) {c:Nat} (hc:c < 5):W.cell? ⟨g,o+c,none⟩=some (Z43 t q c):=by
 obtain ⟨h0,h1,h2,h3,h4⟩:=h
 match c,hc with
 | 0,_=>exact h0
 | 1,_=>exact h1
 | 2,_=>exact h2
 | 3,_=>exact h3
 | 4,_=>exact h4
theorem Z9G {g o:Nat} {t:Sh} {q:Ptr} (h: ∀c,c < 5->W.cell? ⟨g,o+c,none⟩=some (Z43 t q c)):Sh5 W g o t q:=
 ⟨h 0 (by omega),h 1 (by omega),h 2 (by omega),h 3 (by omega),h 4 (by omega)⟩
theorem Zbn {B b n cap:Nat} {ps:List Sh} {qs:Nat->Ptr} (h:W.ownsRow B 25 5 (.slice (some ⟨b,0,none⟩) n cap) n (cells7 ps qs)) (hn:n=ps.length):PaR W b ps qs:=by
 subst hn;refine ⟨(h.lt b rfl).2,fun i hi=>Z9G (fun c hc=> ?_),fun k=>h.frozenAt k⟩;rw[h.cellAt _ (by omega),Z5n ps qs hi hc]
theorem Zbo {B b n cap:Nat} {l:List (List UInt8)} (h:W.ownsRow B 9 1 (.slice (some ⟨b,0,none⟩) n cap) n ((strs l).map Value.string)) (hn:n=l.length):TxR W b l:=by
 subst hn;refine ⟨(h.lt b rfl).2,fun i hi=> ?_,fun k=>h.frozenAt k⟩;rw[h.cellAt _ (by omega)];simp[strs,hi]
end
theorem Z64 (b o k:Nat): (⟨b,o,none⟩:Addr).add k=⟨b,o+k,none⟩:=Z0b b o k
theorem Z71 (A:Option Addr) (c:Nat) (l:List (List UInt8)) (w:World) (hA:Strs w w.heap.size A (strs l)) (hl:l.length<=1000000000) (hlc:l.length<=c) (hA0:A=none->c=0):
 Calls Tryd.prog 44 #[.slice A l.length c] w fun e w'=>(∃A' c',e= .returned (.slice A' l.length c')/\l.length<=c'/\(A'=none->c'=0)/\(l.length=0\/ ∃b,A'=some ⟨b,0,none⟩/\w.heap.size<=b/\TxR w' b l))/\Below w.heap.size w w':=by
 obtain ⟨i0,hi,hz0,hz1,hz2⟩:=info_parts (P:=Tryd.prog) (e:=9) (z:= .string ByteArray.empty) (size:=1) (bytes:=16) Z3I;have q22: ∀(w:World) (a:Option Addr) (n c n' c':Nat),(binOp .eql 22 (.slice a n c) (.slice none n' c')).run Tryd.prog w= .ok (.bool a.isNone) w:=fun w a n c n' c'=>Lib.run_eql_slice_nil w _ _ a n c n' c' Tryd.underlying22;cases A with
 | none=>
  obtain rfl:=hA0 rfl;have hl0:l= []:=List.eq_nil_of_length_eq_zero (by omega);subst hl0;go_enter Tryd.func44,Tryd.ntmps44;go_wp2;go_ret;exact ⟨⟨none,0,by simp⟩,Below.refl _ _⟩
 | some ad=>
  have HA:=Y1 hA.cell7;clear hA hA0;go_enter Tryd.func44,Tryd.ntmps44
  go_wp2_with (at_builtin; refine Z12 _ rfl _ _ 22 rfl w.heap.size 9 i0 (.string ByteArray.empty) 1 16 Tryd.underlying22 hi hz0 hz1 hz2 rfl (by decide) _ 0 [] rfl (World.ownsRow_made w #[] 0 (Nat.le_refl _) (Nat.zero_le _) rfl) (some ad) l.length c ((strs l).map Value.string) rfl nofun ?qc1 ?qc2 ?qc3 ?qc4 ?qc5 ?qc6 ?_)
  case qc1=>simp[strs]
  case qc2=>
   intro ad' had j u hj;cases had;have hjl:j < l.length:=by
    have:=(List.getElem?_eq_some_iff.1 hj).1;simpa[strs] using this
   rcases HA.out with h0 | ⟨g,off,hgo,hg,hc⟩
   {omega}
   {cases hgo;rw[Z64];refine ((Z00 w _).cell (p:=⟨g,off+j,none⟩) hg).trans ((hc j hjl).trans ?_);simp[strs,hjl] at hj;rw[<-hj]}
  case qc3=>intro u hu; obtain ⟨x,_,rfl⟩:=List.mem_map.1 hu; rfl
  case qc4=>unfold maxLen; omega
  case qc5=>omega
  case qc6=>simp
  intro v' w' hown hb;have hown2:w'.ownsRow w.heap.size 9 1 v' l.length ((strs l).map Value.string):=by simpa using hown
  have HO:=Y1 hown2;have HB:Hid (Below w.heap.size w w'):=Y1 ((Z00 w (.cells #[] 9)).trans hb);clear hown hown2 hb;go_wp2;go_ret;refine ⟨?_,HB.out⟩;have h:=HO.out;rcases h.2 with ⟨hv,h0⟩ | ⟨g,cap,cur,hv,hBg,hh,hnc,_⟩
  {exact ⟨none,0,by rw[hv,h0]; rfl,by omega,fun _=>rfl,Or.inl h0⟩}
  {rw[hv] at h;exact ⟨some ⟨g,0,none⟩,cap,by rw[hv]; rfl,hnc,nofun,Or.inr ⟨g,rfl,hBg,Zbo h rfl⟩⟩}
theorem Z72 (g off d:Nat) (ps:List Sh) (qs:Nat->Ptr) (w:World) (hg:g < w.heap.size) (hc: ∀i (h:i < ps.length),Sh5 w g (off+i * 5) (ps[i]'h) (qs i)) (hl:ps.length<=1000000000) (hpos:0 < ps.length):
 Calls Tryd.prog 67 #[.slice (some ⟨g,off,none⟩) ps.length d] w fun e w'=>(∃b c',e= .returned (.slice (some ⟨b,0,none⟩) ps.length c')/\ps.length<=c'/\w.heap.size<=b/\PaR w' b ps qs)/\Below w.heap.size w w':=by
 obtain ⟨i0,hi,hz0,hz1,hz2⟩:=info_parts (P:=Tryd.prog) (e:=25) (z:= .agg #[.int .i64 0,.string ByteArray.empty,.string ByteArray.empty,.slice none 0 0,.slice none 0 0]) (size:=5) (bytes:=88) Z1e;have q23: ∀(w:World) (a:Option Addr) (n c n' c':Nat),(binOp .eql 23 (.slice a n c) (.slice none n' c')).run Tryd.prog w= .ok (.bool a.isNone) w:=fun w a n c n' c'=>Lib.run_eql_slice_nil w _ _ a n c n' c' Tryd.underlying23;have HC:=Y1 hc;clear hc;go_enter Tryd.func67,Tryd.ntmps67
 go_wp2_with (at_builtin; refine Z12 _ rfl _ _ 23 rfl w.heap.size 25 i0 (.agg #[.int .i64 0,.string ByteArray.empty,.string ByteArray.empty,.slice none 0 0,.slice none 0 0]) 5 88 Tryd.underlying23 hi hz0 hz1 hz2 rfl (by decide) _ 0 [] rfl (World.ownsRow_made w #[] 0 (Nat.le_refl _) (Nat.zero_le _) rfl) (some ⟨g,off,none⟩) ps.length d (cells7 ps qs) rfl nofun ?qc1 ?qc2 ?qc3 ?qc4 ?qc5 ?qc6 ?_)
 case qc1=>rw[Z4K]
 case qc2=>
  intro ad' had j u hj;cases had;have hjl:j < ps.length * 5:=by
   have:=(List.getElem?_eq_some_iff.1 hj).1
   rwa [Z4K] at this
  obtain ⟨i,c,rfl,hci⟩: ∃i c,j=i * 5+c/\c < 5:=⟨j / 5,j % 5,by omega,by omega⟩;have hil:i < ps.length:=by omega
  rw[Z5n ps qs hil hci] at hj;rw[Z64, <-Nat.add_assoc];refine ((Z00 w _).cell (p:=⟨g,off+i * 5+c,none⟩) hg).trans ((Z9F (HC.out i hil) hci).trans hj)
 case qc3=>exact Z8p ps qs
 case qc4=>unfold maxLen; omega
 case qc5=>omega
 case qc6=>simp
 intro v' w' hown hb;have hown2:w'.ownsRow w.heap.size 25 5 v' ps.length (cells7 ps qs):=by simpa using hown
 have HO:=Y1 hown2;have HB:Hid (Below w.heap.size w w'):=Y1 ((Z00 w (.cells #[] 25)).trans hb);clear hown hown2 hb;go_wp2;go_ret;refine ⟨?_,HB.out⟩;have h:=HO.out;rcases h.2 with ⟨hv,h0⟩ | ⟨b,cap,cur,hv,hBg,hh,hnc,_⟩
 {omega}
 {rw[hv] at h;exact ⟨b,cap,by rw[hv]; rfl,hnc,hBg,Zbn h rfl⟩}
theorem Z8q (A:Option Addr) (d:Nat) (w:World) (hA0:A=none->d=0):
 Calls Tryd.prog 67 #[.slice A 0 d] w fun e w'=>(∃A' d',e= .returned (.slice A' 0 d')/\(A'=none->d'=0))/\Below w.heap.size w w':=by
 obtain ⟨i0,hi,hz0,hz1,hz2⟩:=info_parts (P:=Tryd.prog) (e:=25) (z:= .agg #[.int .i64 0,.string ByteArray.empty,.string ByteArray.empty,.slice none 0 0,.slice none 0 0]) (size:=5) (bytes:=88) Z1e;have q23: ∀(w:World) (a:Option Addr) (n c n' c':Nat),(binOp .eql 23 (.slice a n c) (.slice none n' c')).run Tryd.prog w= .ok (.bool a.isNone) w:=fun w a n c n' c'=>Lib.run_eql_slice_nil w _ _ a n c n' c' Tryd.underlying23;cases A with
 | none=>
  obtain rfl:=hA0 rfl;go_enter Tryd.func67,Tryd.ntmps67;go_wp2;go_ret;exact ⟨⟨none,0,by simp⟩,Below.refl _ _⟩
 | some ad=>
  clear hA0;go_enter Tryd.func67,Tryd.ntmps67
  go_wp2_with (at_builtin; refine Z12 _ rfl _ _ 23 rfl w.heap.size 25 i0 (.agg #[.int .i64 0,.string ByteArray.empty,.string ByteArray.empty,.slice none 0 0,.slice none 0 0]) 5 88 Tryd.underlying23 hi hz0 hz1 hz2 rfl (by decide) _ 0 [] rfl (World.ownsRow_made w #[] 0 (Nat.le_refl _) (Nat.zero_le _) rfl) (some ad) 0 d [] rfl nofun ?qc1 ?qc2 ?qc3 ?qc4 ?qc5 ?qc6 ?_)
  case qc1=>rfl
  case qc2=>
   intro ad' had j u hj;simp at hj
  case qc3=>intro u hu; cases hu
  case qc4=>unfold maxLen; omega
  case qc5=>omega
  case qc6=>simp
  intro v' w' hown hb;have hown2:w'.ownsRow w.heap.size 25 5 v' 0 []:=by simpa using hown
  have HO:=Y1 hown2;have HB:Hid (Below w.heap.size w w'):=Y1 ((Z00 w (.cells #[] 25)).trans hb);clear hown hown2 hb;go_wp2;go_ret;refine ⟨?_,HB.out⟩;rcases HO.out.2 with ⟨hv,h0⟩ | ⟨g,cap,cur,hv,hBg,hh,hnc,_⟩
  {exact ⟨none,0,by rw[hv]; rfl,fun _=>rfl⟩}
  {exact ⟨some ⟨g,0,none⟩,cap,by rw[hv]; rfl,nofun⟩}
structure UpH (cb:Nat) (w w':World):Prop where
 os:w'.os=w.os
 tape:w'.tape=w.tape
 output:w'.output=w.output
 size:w'.heap.size=w.heap.size
 block: ∀k,k≠cb->w'.heap[k]? =w.heap[k]?
theorem UpH.refl (cb:Nat) (w:World):UpH cb w w:=⟨rfl,rfl,rfl,rfl,fun _ _=>rfl⟩
theorem UpH.trans {cb:Nat} {a b c:World} (h:UpH cb a b) (k:UpH cb b c):UpH cb a c:=
 ⟨k.os.trans h.os,k.tape.trans h.tape,k.output.trans h.output,k.size.trans h.size,fun i hn=>(k.block i hn).trans (h.block i hn)⟩
theorem UpH.set {cb:Nat} {a w:World} (h:UpH cb a w) (v:Value):UpH cb a (w.setCell ⟨cb,1,none⟩ v):=
 h.trans ⟨rfl,rfl,rfl,by simp[World.setCell],fun k hn=>Below.heap_setCell _ _ _ _ hn⟩
theorem UpH.cell {cb:Nat} {w w':World} (h:UpH cb w w') {g k:Nat} (hn:g≠cb):w'.cell? ⟨g,k,none⟩=w.cell? ⟨g,k,none⟩:=World.cell?_of_block (w:=w) (h.block g hn)
theorem UpH.frozen {cb:Nat} {w w':World} (h:UpH cb w w') {g k:Nat} (hn:g≠cb):w'.frozen? ⟨g,k,none⟩=w.frozen? ⟨g,k,none⟩:=World.frozen?_of_block (w:=w) (h.block g hn)
theorem UpH.toBelow {cb B:Nat} {w w':World} (h:UpH cb w w') (hB:B<=cb):Below B w w':=⟨h.os,h.tape,h.output,Nat.le_of_eq h.size.symm,fun k hk=>h.block k (by omega)⟩
structure CntH (w:World) (cb p:Nat) (f:Value):Prop where
 lt:cb < w.heap.size
 c0:w.cell? ⟨cb,0,none⟩=some f
 c1:w.cell? ⟨cb,1,none⟩=some (.int .i64 (p:Int))
 f1:w.frozen? ⟨cb,1,none⟩=false
theorem CntH.set {w:World} {cb p:Nat} {f:Value} (h:CntH w cb p f) (n:Nat):CntH (w.setCell ⟨cb,1,none⟩ (.int .i64 (n:Int))) cb n f:=
 ⟨by simpa[World.setCell] using h.lt,by simp[go_sem,h.c0],by simp[go_sem,h.c1],by simp[go_sem,h.f1]⟩
theorem ShAt.uph {w w':World} {B cb:Nat} {q:Ptr} {t:Sh} (h:ShAt w B q t) (hu:UpH cb w w') (h1:B<=cb):ShAt w' B q t:=
 h.of (Nat.le_refl _) (fun g k hg=>hu.cell (by omega))
theorem Z4L (g o:Nat) (w:World):Calls Tryd.prog 41 #[.pointer (some ⟨g,o,none⟩)] w fun e w'=>e= .returned (.pointer (some ⟨g,o+4,none⟩))/\w=w':=by
 go_enter Tryd.func41,Tryd.ntmps41;go_wp2;go_ret;exact ⟨rfl,rfl⟩
theorem Z8r (t:Sh): ∀(q:Ptr) (g o B cb p lv:Nat) (w:World),Sh5 w g o t q->g≠cb->ShAt w B q t->B<=cb->CntH w cb p (.func (.func 41) #[] #[])->p+size t<=1000000->lv+deep t<=60000->
 Calls Tryd.prog 54 #[.pointer (some ⟨cb,0,none⟩),.pointer (some ⟨g,o,none⟩),.int .i64 (lv:Int)] w
  fun e w'=>e= .returned (.bool true)/\UpH cb w w'/\CntH w' cb (p+size t) (.func (.func 41) #[] #[]):=by
 induction t using Sh.ind with
 | h t ih=>
 intro q g o B cb p lv w hs hgc hq hBc hc hpm hlv;have HP:=Y1 hq.part;have HM:=Y1 hq.small.m;have HD:Hid (deep t=deeps t.parts+1):=Y1 (Z0l t);have HZ:Hid (size t=1+sizes t.parts):=Y1 (size_eq t);have HPM:Hid (p+size t<=1000000):=Y1 hpm;have HLV:Hid (lv+deep t<=60000):=Y1 hlv;have hp1: (p:Int)<=1000000:=by omega
 have hg1: ¬(16777216:Int) < (p:Int)+1:=by omega
 have hg2: ¬(65536:Int) < (lv:Int):=by omega
 have hlvi: (lv:Int)<=60000:=by omega
 have e1:decide ((16777216:Int) < (p:Int)+1)=false:=decide_eq_false hg1;have e2:decide ((65536:Int) < (lv:Int))=false:=decide_eq_false hg2;have HS:=Y1 hs;have HC:=Y1 hc;obtain ⟨_,_,_,_,k4⟩:=hs;obtain ⟨_,c0,c1,f1⟩:=hc;have hne2:cb≠g:=Ne.symm hgc;have L1:=fun (W:World)=>Z4L g o W;clear hpm hlv hq;go_enter Tryd.func54,Tryd.ntmps54
 go_wp2_with fail
 obtain ⟨W0,hW0⟩: ∃W0,W0=w.setCell ⟨cb,1,none⟩ (.int .i64 ((p:Int)+1)):=⟨_,rfl⟩;have HU0:Hid (UpH cb w W0):=Y1 (by rw[hW0]; exact (UpH.refl cb w).set _);have HC0:Hid (CntH W0 cb (p+1) (.func (.func 41) #[] #[])):=Y1 (by rw[hW0]; exact HC.out.set (p+1));have k4':W0.cell? ⟨g,o+4,none⟩=some (.slice q.P t.parts.length q.d):=(HU0.out.cell hgc).trans k4;rw[<-hW0];clear hW0 k4 c0 c1 f1 hp1 hg1 hg2 e1 e2;refine (L1 W0).mono ?_;rintro e w1 ⟨rfl,rfl⟩
 go_wp2_with fail
 clear k4'
 go_loopw [35] (fun ii wr=> ∃i:Nat,ii= .int .i64 i/\i<=t.parts.length/\Hid (UpH cb w wr)/\Hid (CntH wr cb (p+1+sizes (t.parts.take i)) (.func (.func 41) #[] #[]))) (fun i _=>t.parts.length - (intOf i).toNat)
 case atStart=>exact ⟨0,rfl,Nat.zero_le _,HU0,by rw[List.take_zero]; exact HC0⟩
 case round=>
  obtain ⟨i,rfl,hi,HUR,HCR⟩:=hrel;have hmm:=HM.out;by_cases hlt:i < t.parts.length
  {rcases HP.out with h0 | ⟨g',off,qs,hqP,hg',hc,hr⟩
   {omega}
   {obtain ⟨x,hx⟩: ∃x,x=t.parts[i]:=⟨_,rfl⟩;have hxs:=hc i hlt;have hxa:=hr i hlt;have ihx:=ih t.parts[i] (List.getElem_mem _) (qs i) g' (off+i * 5) B cb (p+1+sizes (t.parts.take i)) (lv+1) wr;rw[<-hx] at ihx hxs hxa;have HN:Hid (sizes (t.parts.take (i+1))=sizes (t.parts.take i)+size x):=Y1 (by rw[hx]; exact Z1L hlt);have hdx:deep x<=deeps t.parts:=by rw[hx]; exact Z0F (List.getElem_mem _)
    have IH:=ihx (hxs.of (fun k=>HUR.out.cell (by omega))) (by omega) (hxa.uph HUR.out hBc) hBc HCR.out (by
     have:=Z38 t.parts (i+1);have:=HN.out;have:=HPM.out;have:=HZ.out;omega) (by have:=HD.out; have:=HLV.out; omega)
    have hi1: (i:Int) < (t.parts.length:Int):=by omega
    rw[show (((lv+1:Nat)):Int)=(lv:Int)+1 from by omega] at IH;clear hxs hxa ihx hc hr hx hdx ih;rw[hqP];clear hqP
    go_wp2_with fail
    refine IH.mono ?_;rintro e w2 ⟨rfl,hu2,hc2⟩;have HU2:Hid (UpH cb w w2):=Y1 (HUR.out.trans hu2);have HC2:Hid (CntH w2 cb (p+1+sizes (t.parts.take (i+1))) (.func (.func 41) #[] #[])):=Y1 (by rw[HN.out, <-Nat.add_assoc]; exact hc2);clear hu2 hc2 IH;go_wp2
    go_roundw
    case rel=>exact ⟨i+1,by go_num,by omega,HU2,HC2⟩
    case measure=>simp[intOf]; omega}}
  {have HG:Hid (p+size t=p+1+sizes (t.parts.take i)):=Y1 (by rw[HZ.out,show i=t.parts.length from by omega,List.take_length]; omega);have hi1: ¬(i:Int) < (t.parts.length:Int):=by omega
   go_wp2;go_ret;exact ⟨rfl,HUR.out,by rw[HG.out]; exact HCR.out⟩}
theorem Z2v (W:World) (a:Addr) (u:Value): (W.setCell a u).heap.size=W.heap.size:=by simp[World.setCell]
theorem Z9J: (Tryd.prog.info? 71).map (fun i=>(i.zero,i.size,i.bytes))=some (some (.pointer none),1,8):=by kernel_rfl
theorem Zc1 (a:Option Addr) (n:Int) (W:World): (Instr.lookup 93 (.map none) (.agg #[.pointer a,.int .i64 n]) true).run Tryd.prog W= .ok (.tuple #[.slice none 0 0,.bool false]) W:=by kernel_rfl
def TxC (w W:World) (l:List (List UInt8)) (A':Option Addr) (c':Nat):Prop:=l.length<=c'/\(A'=none->c'=0)/\(l.length=0\/ ∃b,A'=some ⟨b,0,none⟩/\w.heap.size<=b/\TxR W b l)
theorem Z9K (g o:Nat) (A:Option Addr) (c:Nat) (l:List (List UInt8)) (w:World) (hg:g < w.heap.size) (k3:w.cell? ⟨g,o+3,none⟩=some (.slice A l.length c)) (f3:w.frozen? ⟨g,o+3,none⟩=false) (hA:Strs w w.heap.size A (strs l)) (hl:l.length<=1000000000) (hlc:l.length<=c) (hA0:A=none->c=0):
 Calls Tryd.prog 43 #[.pointer (some ⟨g,o,none⟩)] w fun e w'=>e= .returned (.tuple #[])/\ ∃A' c' W2,Below w.heap.size w W2/\TxC w W2 l A' c'/\w'=W2.setCell ⟨g,o+3,none⟩ (.slice A' l.length c'):=by
 have HC:=Y1 (Z71 A c l w hA hl hlc hA0);clear hA hl hlc hA0;go_enter Tryd.func43,Tryd.ntmps43
 go_wp2_with fail
 refine HC.out.mono ?_;rintro e W2 ⟨⟨A',c',rfl,h1,h2,h3⟩,hb⟩;have x3:=(hb.cell (p:=⟨g,o+3,none⟩) hg).trans k3;have y3:=(hb.frozen (p:=⟨g,o+3,none⟩) hg).trans f3;have HB:=Y1 hb;have HT:Hid (TxC w W2 l A' c'):=Y1 ⟨h1,h2,h3⟩;clear hb h1 h2 h3 k3 f3 HC;go_wp2;refine bodyPost_end (v:= .tuple #[]) (by simp[results,Tryd.results43,go_sem]) rfl ?_;exact ⟨rfl,A',c',W2,HB.out,HT.out,rfl⟩
theorem Z8s (g o:Nat) (P:Option Addr) (d:Nat) (w:World) (hg:g < w.heap.size) (k4:w.cell? ⟨g,o,none⟩=some (.slice P 0 d)) (f4:w.frozen? ⟨g,o,none⟩=false) (hP0:P=none->d=0):
 Calls Tryd.prog 55 #[.pointer (some ⟨g,o,none⟩),.map none] w fun e w'=>e= .returned (.bool false)/\ ∃P' d' W2,Below w.heap.size w W2/\(P'=none->d'=0)/\w'=W2.setCell ⟨g,o,none⟩ (.slice P' 0 d'):=by
 have HC:=Y1 (Z8q P d w hP0);clear hP0;go_enter Tryd.func55,Tryd.ntmps55
 go_wp2_with fail
 refine HC.out.mono ?_;rintro e W2 ⟨⟨P',d',rfl,h2⟩,hb⟩;have x4:=(hb.cell (p:=⟨g,o,none⟩) hg).trans k4;have y4:=(hb.frozen (p:=⟨g,o,none⟩) hg).trans f4;have HB:=Y1 hb;have HT:=Y1 h2;clear hb h2 k4 f4 HC;go_wp2;go_ret;exact ⟨rfl,P',d',W2,HB.out,HT.out,rfl⟩
theorem Z8t (g o g' off d:Nat) (ps:List Sh) (qs:Nat->Ptr) (w:World) (hg:g < w.heap.size) (k4:w.cell? ⟨g,o,none⟩=some (.slice (some ⟨g',off,none⟩) ps.length d)) (f4:w.frozen? ⟨g,o,none⟩=false)
 (hg':g' < w.heap.size) (hc: ∀i (h:i < ps.length),Sh5 w g' (off+i * 5) (ps[i]'h) (qs i)) (hl:ps.length<=1000000000) (hpos:0 < ps.length):
 Calls Tryd.prog 55 #[.pointer (some ⟨g,o,none⟩),.map none] w fun e w'=>e= .returned (.bool true)/\ ∃b d' W2,Below w.heap.size w W2/\ps.length<=d'/\w.heap.size<=b/\PaR W2 b ps qs/\w'=W2.setCell ⟨g,o,none⟩ (.slice (some ⟨b,0,none⟩) ps.length d'):=by
 have HC:=Y1 (fun (W:World) (hb:Below w.heap.size w W)=>Z72 g' off d ps qs W (Nat.lt_of_lt_of_le hg' hb.size) (fun i hi=>(hc i hi).keep hg' hb) hl hpos);have hl0: ((ps.length:Int)==0)=false:=by rw[beq_eq_false_iff_ne]; omega
 have hi0: (0:Int) < (ps.length:Int):=by omega
 have q48: ∀(w:World) (r:Option Nat),(binOp .neq 93 (.map r) (.map none)).run Tryd.prog w= .ok (.bool (!r.isNone)) w:=fun w r=>run_neq_map_nil w _ _ _ r Tryd.underlying93;have hlk:=Zc1 (some ⟨g',off,none⟩) (ps.length:Int);clear hc;go_enter Tryd.func55,Tryd.ntmps55
 go_wp2_with fail
 go_region
 obtain ⟨W1,hW1⟩: ∃W1,W1=(w.alloc (.cells #[.pointer (some ⟨g',off,none⟩),.int .i64 (ps.length:Int)] 112)).drew:=⟨_,rfl⟩;have hb1:Below w.heap.size w W1:=by rw[hW1]; exact (Z00 _ _).drew
 have p0:W1.cell? ⟨w.heap.size,0,none⟩=some (.pointer (some ⟨g',off,none⟩)):=by rw[hW1]; simp[go_sem]
 have p1:W1.cell? ⟨w.heap.size,1,none⟩=some (.int .i64 (ps.length:Int)):=by rw[hW1]; simp[go_sem]
 have x4:=(hb1.cell (p:=⟨g,o,none⟩) hg).trans k4;have y4:=(hb1.frozen (p:=⟨g,o,none⟩) hg).trans f4;have hz1:w.heap.size < W1.heap.size:=by rw[hW1]; simp
 have hgz:g < W1.heap.size:=Nat.lt_trans hg hz1;have hcl:=HC.out W1 hb1;rw[<-hW1];have HB1:=Y1 hb1;have HCL:=Y1 hcl;have HHL:=Y1 hl;clear hW1 hb1 hcl k4 f4 HC hl
 go_wp2_with fail
 refine HCL.out.mono ?_;rintro e W2 ⟨⟨b,d',rfl,h1,h2,h3⟩,hb2⟩;have x5:=(hb2.cell (p:=⟨g,o,none⟩) hgz).trans x4;have y5:=(hb2.frozen (p:=⟨g,o,none⟩) hgz).trans y4;have HB2:=Y1 (Z02 HB1.out hb2);have HT:=Y1 h3;have HL:=Y1 h1;have HBB:=Y1 (show w.heap.size<=b from by omega);clear hb2 h1 h2 h3 x4 y4 p0 p1 HCL hgz hz1;go_wp2;go_ret;exact ⟨rfl,b,d',W2,HB2.out,HL.out,HBB.out,HT.out,rfl⟩
def sumL (L:List Nd):Nat:=(L.map fun n=>size n.t).sum
theorem Z0R (L M:List Nd):sumL (L++M)=sumL L+sumL M:=by simp[sumL]
theorem Z5p (pb:Nat) (ps:List Sh) (qs:Nat->Ptr):sumL (kids pb ps qs)=sizes ps:=by
 unfold sumL kids;have: ∀(l:List Sh) (f:Nat->Sh->Nd),(∀i p,(f i p).t=p)->((l.mapIdx f).map fun n=>size n.t).sum=sizes l:=by
  intro l;induction l with
  | nil=>intro f _; rfl
  | cons p l ih=>
   intro f hf;rw[List.mapIdx_cons];simp only[List.map_cons,List.sum_cons,hf];rw[ih (fun i=>f (i+1)) (fun i p=>hf (i+1) p)]; rfl
 exact this ps _ (fun _ _=>rfl)
theorem ZaX (L:List Nd):L.length<=sumL L:=by
 induction L with
 | nil=>simp
 | cons n L ih=>have:=Z2i n.t; simp[sumL] at ih ⊢; omega
def ndP (n:Nd):Value:= .pointer (some ⟨n.g,n.i * 5,none⟩)
theorem Z1V {W:World} {B:Nat} {e:TypeId} {size:Nat} {v:Value} {n:Nat} {xs:List Value} (h:W.ownsRow B e size v n xs) {a:Addr} (hne:v.ownBlock≠some a.block) (u:Value): (W.setCell a u).ownsRow B e size v n xs:=
 h.kept (row:=some a.block) ⟨rfl,rfl,rfl,by simp[World.setCell],fun k hk hn=>Below.heap_setCell _ _ _ _ (fun e=>hn (by rw[e]))⟩ (Or.inr hne)
theorem Z0m (W:World) (a:Addr) (u:Value) {b:Nat} (h:a.block≠b):Z0v W (W.setCell a u) b:=
 ⟨fun k=>World.cell?_setCell_other _ _ _ _ (fun e=>h (congrArg Addr.block e)),fun k=>World.frozen?_setCell ..⟩
theorem Z0v.trans {a b c:World} {x:Nat} (h:Z0v a b x) (k:Z0v b c x):Z0v a c x:=⟨fun j=>(k.1 j).trans (h.1 j),fun j=>(k.2 j).trans (h.2 j)⟩
theorem Z0v.below {a b:World} {x:Nat} (h:Below a.heap.size a b) (hx:x < a.heap.size):Z0v a b x:=⟨fun k=>h.cell (p:=⟨x,k,none⟩) hx,fun k=>h.frozen (p:=⟨x,k,none⟩) hx⟩
structure UpL (v:Value) (w w':World):Prop where
 os:w'.os=w.os
 tape:w'.tape=w.tape
 output:w'.output=w.output
 size:w.heap.size<=w'.heap.size
 block: ∀k,k < w.heap.size->v.ownBlock≠some k->w'.heap[k]? =w.heap[k]?
theorem UpL.refl (v:Value) (w:World):UpL v w w:=⟨rfl,rfl,rfl,Nat.le_refl _,fun _ _ _=>rfl⟩
theorem UpL.same {v:Value} {w w':World} (h:UpL v w w') {b:Nat} (h1:b < w.heap.size) (h3:v.ownBlock≠some b):Z0v w w' b:=
 ⟨fun k=>World.cell?_of_block (w:=w) (h.block b h1 h3),fun k=>World.frozen?_of_block (w:=w) (h.block b h1 h3)⟩
def Opn (W:World) (v:Value) (L:List Nd):Prop:=W.ownsRow 0 71 1 v L.length (L.map ndP)
theorem Opn.below {W W':World} {v:Value} {L:List Nd} (h:Opn W v L) (hb:Below W.heap.size W W'):Opn W' v L:=
 World.ownsRow.kept h (Z2V hb (Nat.le_refl _) none) (by
  rcases e:v.ownBlock with _ | x
  {exact Or.inl rfl}
  · exact Or.inr (by simp))
section
variable {W : World}
include W
theorem Opn.set {v:Value} {L:List Nd} (h:Opn W v L) {a:Addr} (h2:v.ownBlock≠some a.block) (u:Value):Opn (W.setCell a u) v L:=Z1V h h2 u
theorem Opn.pop {cap g:Nat} {L:List Nd} {a:Nd} (h:Opn W (.slice (some ⟨g,0,none⟩) (L.length+1) cap) (L++ [a])):Opn W (.slice (some ⟨g,0,none⟩) L.length cap) L:=by
 obtain ⟨h1,h2⟩:=h;refine ⟨by simp, ?_⟩;rcases h2 with ⟨h2,_⟩ | ⟨g',cap',cur,hv,hB,hh,hn,hc,hcs,htk⟩
 {cases h2}
 {right;obtain ⟨rfl,rfl⟩:g=g'/\cap=cap':=by
   injection hv with h3 h4 h5;injection h3 with h3;injection h3 with h3;exact ⟨h3,h5⟩
  rw[List.length_append,List.length_singleton] at hn htk;refine ⟨g,cap,cur,rfl,hB,hh,by omega,hc,hcs, ?_⟩;have:=congrArg (List.take (L.length * 1)) htk;rw[List.take_take,Nat.min_eq_left (by omega)] at this;rw[this,List.map_append,List.take_left' (by simp)]}
theorem Opn.last {v:Value} {L:List Nd} {a:Nd} (h:Opn W v (L++ [a])): ∃g cap,v= .slice (some ⟨g,0,none⟩) (L.length+1) cap/\L.length+1<=cap/\W.cell? ⟨g,L.length,none⟩=some (ndP a)/\g < W.heap.size:=by
 have ho:W.ownsRow 0 71 1 v (L++ [a]).length ((L++ [a]).map ndP):=h;obtain ⟨h1,h2⟩:=h;rcases h2 with ⟨h2,h3⟩ | ⟨g,cap,cur,hv,hB,hh,hn,hc,hcs,htk⟩
 {rw[List.length_append,List.length_singleton] at h3; omega}
 {rw[List.length_append,List.length_singleton] at hv hn;rw[hv,List.length_append,List.length_singleton] at ho;refine ⟨g,cap,hv,hn, ?_,(ho.lt g rfl).2⟩;rw[ho.cellAt L.length (by omega)];simp}
theorem Opn.empty {v:Value} (h:Opn W v []): ∃A cp,v= .slice A 0 cp:=by
 rcases h.2 with ⟨rfl,_⟩ | ⟨g,cap,cur,rfl,_⟩
 {exact ⟨none,0,rfl⟩}
 {exact ⟨some ⟨g,0,none⟩,cap,rfl⟩}
end
structure Rnd7 (w wr:World) (v vr:Value) (pb:Nat) (ps:List Sh) (qs:Nat->Ptr) (L:List Nd) (i:Nat):Prop where
 opn:Opn wr vr (L++(kids pb ps qs).take i)
 row: ∀x,vr.ownBlock=some x->v.ownBlock=some x\/w.heap.size<=x
 ne:vr.ownBlock≠some pb
 up:UpL v w wr
 par:PaR wr pb ps qs
theorem Rnd7.start {w:World} {v:Value} {pb:Nat} {ps:List Sh} {qs:Nat->Ptr} {L:List Nd} (ho:Opn w v L) (hne:v.ownBlock≠some pb) (hp:PaR w pb ps qs):Rnd7 w w v v pb ps qs L 0:=
 ⟨by rw[List.take_zero,List.append_nil]; exact ho,fun _ h=>Or.inl h,hne,UpL.refl _ _,hp⟩
theorem Rnd7.step {w wr w2:World} {v vr:Value} {pb:Nat} {ps:List Sh} {qs:Nat->Ptr} {L:List Nd} {i g1 cap:Nat} {o:Obj} (h:Rnd7 w wr v vr pb ps qs L i) (hi:i < ps.length) (hpw:pb < w.heap.size)
 (hG: (wr.alloc o).grownBy w2 vr.ownBlock)
 (hW:w2.ownsRow 0 71 1 (.slice (some ⟨g1,0,none⟩) (L.length+i+1) cap) (L.length+i+1) ((L++(kids pb ps qs).take i).map ndP++ [.pointer (some ⟨pb,i * 5,none⟩)]))
 (hat:vr.ownBlock=some g1\/g1=(wr.alloc o).heap.size):Rnd7 w w2 v (.slice (some ⟨g1,0,none⟩) (L.length+i+1) cap) pb ps qs L (i+1):=by
 have hsz: (wr.alloc o).heap.size=wr.heap.size+1:=by simp
 have hws:=h.up.size;have hg1:g1≠pb/\(v.ownBlock=some g1\/w.heap.size<=g1):=by
  rcases hat with h1 | h1
  {exact ⟨fun e=>h.ne (e▸h1),h.row g1 h1⟩}
  {have:=h.par.lt;rw[hsz] at h1;exact ⟨by omega,Or.inr (by omega)⟩}
 have hblk: ∀k,k < wr.heap.size->vr.ownBlock≠some k->w2.heap[k]? =wr.heap[k]? :=fun k hk hn=>(hG.block k (by rw[hsz]; omega) (fun e=>hn e.symm)).trans (Below.heap_alloc _ _ _ hk);have h2s:=hG.size;rw[hsz] at h2s;have hk1: ((kids pb ps qs).take (i+1))=(kids pb ps qs).take i++ [⟨pb,i,ps[i]'hi,qs i⟩]:=by
  rw[Z1m (by rw[Z0U]; exact hi),Z1U]
 have hlen: (L++(kids pb ps qs).take (i+1)).length=L.length+i+1:=by rw[List.length_append,List.length_take,Z0U]; omega
 refine ⟨?_, ?_,fun e=>hg1.1 (Option.some.inj e),⟨hG.os.trans h.up.os,hG.tape.trans h.up.tape,hG.output.trans h.up.output,by omega, ?_⟩, ?_⟩
 {unfold Opn;rw[hlen,hk1, <-List.append_assoc,List.map_append];exact hW}
 {intro x hx;obtain rfl:g1=x:=Option.some.inj hx;exact hg1.2}
 {intro k hk h2;rw[hblk k (by omega) (fun e=>by
   rcases h.row k e with h3 | h3
   {exact h2 h3}
   · omega)]
  exact h.up.block k hk h2}
 {exact h.par.of ⟨fun k=>World.cell?_of_block (w:=wr) (hblk pb h.par.lt h.ne),fun k=>World.frozen?_of_block (w:=wr) (hblk pb h.par.lt h.ne)⟩ (by omega)}
structure Cst (w W:World) (r r1:Nat) (T:Sh) (v:Value) (L:List Nd) (D:List Nat):Prop where
 opn:Opn W v L
 rdy:Ready r T L D W
 lo: ∀b∈D,w.heap.size<=b/\b < W.heap.size/\v.ownBlock≠some b
 nd: ∀n∈L,n.g∈D/\n.g≠r1/\Sh5 W n.g (n.i * 5) n.t n.q/\ShAt W w.heap.size n.q n.t/\ ∀k,W.frozen? ⟨n.g,k,none⟩=false
 ap:L.Pairwise fun n m=>n.g=m.g->n.i≠m.i
 bel:Below w.heap.size w W
 res:r1∉D/\(w.heap.size<=r1/\r1 < W.heap.size/\v.ownBlock≠some r1)/\(∀c,c < 5-> ∃u,W.cell? ⟨r1,c,none⟩=some u)/\ ∀k,W.frozen? ⟨r1,k,none⟩=false
 row: ∀g,v.ownBlock=some g->w.heap.size<=g
 rin:r∈D/\r≠r1
theorem Z9L (pb:Nat) (ps:List Sh) (qs:Nat->Ptr): (kids pb ps qs).Pairwise fun n m=>n.g=m.g->n.i≠m.i:=by
 refine List.pairwise_iff_getElem.2 (fun i j hi hj hij=> ?_);rw[Z1U,Z1U];intro _;show i≠j;omega
theorem Cst.step {w W W2 W3' W5:World} {r r1 g cap:Nat} {T:Sh} {L:List Nd} {a:Nd} {D:List Nat} {A' P':Option Addr} {c' d' pb:Nat} {qs:Nat->Ptr} {v5:Value}
 (h:Cst w W r r1 T (.slice (some ⟨g,0,none⟩) (L.length+1) cap) (L++ [a]) D)
 (hb2:Below W.heap.size W W2) (hn:TxC W W2 a.t.names A' c')
 (hb3:Below (W2.setCell ⟨a.g,a.i * 5+3,none⟩ (.slice A' a.t.names.length c')).heap.size (W2.setCell ⟨a.g,a.i * 5+3,none⟩ (.slice A' a.t.names.length c')) W3') (hd1:a.t.parts.length<=d') (hP0:P'=none->d'=0)
 (hp:a.t.parts.length=0/\W5=W3'.setCell ⟨a.g,a.i * 5+4,none⟩ (.slice P' a.t.parts.length d')/\v5= .slice (some ⟨g,0,none⟩) L.length cap\/
  P'=some ⟨pb,0,none⟩/\W2.heap.size<=pb/\(∀i (hi:i < a.t.parts.length),ShAt W w.heap.size (qs i) (a.t.parts[i]'hi))/\Rnd7 (W3'.setCell ⟨a.g,a.i * 5+4,none⟩ (.slice P' a.t.parts.length d')) W5 (.slice (some ⟨g,0,none⟩) L.length cap) v5 pb a.t.parts qs L a.t.parts.length):
 ∃D5,Cst w W5 r r1 T v5 (L++kids pb a.t.parts qs) D5:=by
 obtain ⟨hc1,hA0,hn⟩:=hn;obtain ⟨hagD,har1,haS,haA,haF⟩:=h.nd a (by simp);obtain ⟨hlo1,hlo2,hlo4⟩:=h.lo a.g hagD;have hgW:g < W.heap.size:=(World.ownsRow.lt h.opn g rfl).2;have hgw:w.heap.size<=g:=h.row g rfl;have hag:a.g≠g:=fun e=>hlo4 (by rw[e]; rfl);obtain ⟨W3,hW3⟩: ∃W3,W3=W2.setCell ⟨a.g,a.i * 5+3,none⟩ (.slice A' a.t.names.length c'):=⟨_,rfl⟩;obtain ⟨W4,hW4⟩: ∃W4,W4=W3'.setCell ⟨a.g,a.i * 5+4,none⟩ (.slice P' a.t.parts.length d'):=⟨_,rfl⟩;have hO1:Opn W (.slice (some ⟨g,0,none⟩) L.length cap) L:=h.opn.pop;rw[<-hW3] at hb3;rw[<-hW4] at hp;have z2:W.heap.size<=W2.heap.size:=hb2.size;have z3:W3.heap.size=W2.heap.size:=by rw[hW3,Z2v]
 have z3':W3.heap.size<=W3'.heap.size:=hb3.size;have z4:W4.heap.size=W3'.heap.size:=by rw[hW4,Z2v]
 have z5:W4.heap.size<=W5.heap.size:=by
  rcases hp with ⟨_,rfl,_⟩ | ⟨_,_,_,hr⟩
  {exact Nat.le_refl _}
  {exact hr.up.size}
 have hO4:Opn W4 (.slice (some ⟨g,0,none⟩) L.length cap) L:=by
  have e3:Opn W3 (.slice (some ⟨g,0,none⟩) L.length cap) L:=by
   rw[hW3]; exact (hO1.below hb2).set (fun e=>hag (Option.some.inj e).symm) _
  rw[hW4]; exact (e3.below hb3).set (fun e=>hag (Option.some.inj e).symm) _
 -- blocks that nothing turns
 have s45: ∀b,b < W4.heap.size->b≠g->Z0v W4 W5 b:=fun b h1 h3=>by
  rcases hp with ⟨_,rfl,_⟩ | ⟨_,_,_,hr⟩
  {exact ⟨fun _=>rfl,fun _=>rfl⟩}
  {exact hr.up.same h1 (fun e=>h3 (Option.some.inj e).symm)}
 have s12: ∀b,b < W.heap.size->Z0v W W2 b:=fun b h1=>Z0v.below hb2 h1;have s33: ∀b,b < W3.heap.size->Z0v W3 W3' b:=fun b h1=>Z0v.below hb3 h1;have s25: ∀b,b < W2.heap.size->b≠g->b≠a.g->Z0v W2 W5 b:=fun b h1 h3 h4=>by
  have e1:Z0v W2 W3 b:=by rw[hW3]; exact Z0m W2 _ _ (Ne.symm h4)
  have e2:=s33 b (by omega);have e3:Z0v W3' W4 b:=by rw[hW4]; exact Z0m W3' _ _ (Ne.symm h4)
  exact ((e1.trans e2).trans e3).trans (s45 b (by omega) h3)
 have hcl: ∀b,b < W.heap.size->b≠g-> ∀k,¬(a.g=b/\(k=a.i * 5+3\/k=a.i * 5+4))->W5.cell? ⟨b,k,none⟩=W.cell? ⟨b,k,none⟩:=fun b h1 h3 k hk=>by
  have e1:=(s12 b h1).1 k;have e2:W3.cell? ⟨b,k,none⟩=W2.cell? ⟨b,k,none⟩:=by
   rw[hW3];exact World.cell?_setCell_other _ _ _ _ (fun e=>hk ⟨congrArg Addr.block e,Or.inl (congrArg Addr.off e).symm⟩)
  have e3:=(s33 b (by omega)).1 k;have e4:W4.cell? ⟨b,k,none⟩=W3'.cell? ⟨b,k,none⟩:=by
   rw[hW4];exact World.cell?_setCell_other _ _ _ _ (fun e=>hk ⟨congrArg Addr.block e,Or.inr (congrArg Addr.off e).symm⟩)
  rw[(s45 b (by omega) h3).1 k,e4,e3,e2,e1]
 have hfz: ∀b,b < W.heap.size->b≠g-> ∀k,W5.frozen? ⟨b,k,none⟩=W.frozen? ⟨b,k,none⟩:=fun b h1 h3 k=>by
  rw[(s45 b (by omega) h3).2 k,hW4,World.frozen?_setCell,(s33 b (by omega)).2 k,hW3,World.frozen?_setCell,(s12 b h1).2 k]
 have hDlo: ∀b∈D,b < W.heap.size/\b≠g:=fun b hb=>by
  obtain ⟨_,h2,h4⟩:=h.lo b hb;exact ⟨h2,fun e=>h4 (by rw[e]; rfl)⟩
 have hbel:Below w.heap.size w W5:=by
  have b2:Below w.heap.size w W2:=h.bel.trans (hb2.mono h.bel.size);have b3:Below w.heap.size w W3:=by rw[hW3]; exact b2.setCell hlo1 _
  have b3':Below w.heap.size w W3':=b3.trans (hb3.mono b3.size);have b4:Below w.heap.size w W4:=by rw[hW4]; exact b3'.setCell hlo1 _
  rcases hp with ⟨_,rfl,_⟩ | ⟨_,_,_,hr⟩
  {exact b4}
  {exact b4.trans ⟨hr.up.os,hr.up.tape,hr.up.output,hr.up.size,fun k hk=>hr.up.block k (by have:=b4.size; omega) (fun e=>by have:g=k:=Option.some.inj e; omega)⟩}
 have hqs:ShAt W w.heap.size a.q a.t:=haA;obtain ⟨q0,q1',q2,q3,q4⟩:=haS
 -- the place's own cells
 have hSa:Sh5 W5 a.g (a.i * 5) a.t ⟨A',c',P',d'⟩:=by
  have hx: ∀c,c < 3->W5.cell? ⟨a.g,a.i * 5+c,none⟩=W.cell? ⟨a.g,a.i * 5+c,none⟩:=fun c hc=>hcl a.g hlo2 hag _ (fun ⟨_,e⟩=>by omega);have e3:W3.cell? ⟨a.g,a.i * 5+3,none⟩=some (.slice A' a.t.names.length c'):=by
   rw[hW3];exact World.cell?_setCell_same _ _ _ (((s12 a.g hlo2).1 _).trans q3)
  have e33:=s33 a.g (by omega);have e45:=s45 a.g (by omega) hag;have e5:W4.cell? ⟨a.g,a.i * 5+3,none⟩=W3'.cell? ⟨a.g,a.i * 5+3,none⟩:=by
   rw[hW4]; exact World.cell?_setCell_other _ _ _ _ (fun e=>by have:=congrArg Addr.off e; simp at this)
  have e4:W3'.cell? ⟨a.g,a.i * 5+4,none⟩=some (.slice a.q.P a.t.parts.length a.q.d):=by
   refine (e33.1 _).trans ?_;rw[hW3];exact (World.cell?_setCell_other _ _ _ _ (fun e=>by have:=congrArg Addr.off e; simp at this)).trans (((s12 a.g hlo2).1 _).trans q4)
  refine ⟨(hx 0 (by omega)).trans q0,(hx 1 (by omega)).trans q1',(hx 2 (by omega)).trans q2,(e45.1 _).trans (e5.trans ((e33.1 _).trans e3)),(e45.1 _).trans ?_⟩;rw[hW4];exact World.cell?_setCell_same _ _ _ e4
 have hsm:Small a.t ⟨A',c',P',d'⟩:=by
  obtain ⟨i1,i2,i3,i4,i5,_,_,_,_⟩:=hqs.small;exact ⟨i1,i2,i3,i4,i5,hc1,hd1,hA0,hP0⟩
 obtain ⟨DN,hDN⟩: ∃DN:List Nat,a.t.names.length=0/\DN= []\/ ∃b,A'=some ⟨b,0,none⟩/\DN= [b]/\W.heap.size<=b/\b < W2.heap.size/\TxR W5 b a.t.names:=by
  rcases hn with h0 | ⟨b,h1,h2,h3⟩
  {exact ⟨[],Or.inl ⟨h0,rfl⟩⟩}
  {exact ⟨[b],Or.inr ⟨b,h1,rfl,h2,h3.lt,h3.of (s25 b h3.lt (by omega) (by omega)) (by omega)⟩⟩}
 have hDNb: ∀b∈DN,W.heap.size<=b/\b < W2.heap.size:=fun b hb=>by
  rcases hDN with ⟨_,rfl⟩ | ⟨c,_,rfl,h3,h4,_⟩
  {cases hb}
  {rw[List.mem_singleton] at hb; subst hb; exact ⟨h3,h4⟩}
 obtain ⟨DP,hDP⟩: ∃DP:List Nat,a.t.parts.length=0/\DP= []\/P'=some ⟨pb,0,none⟩/\DP= [pb]/\W2.heap.size<=pb/\(∀i (hi:i < a.t.parts.length),ShAt W w.heap.size (qs i) (a.t.parts[i]'hi))/\PaR W5 pb a.t.parts qs:=by
  rcases hp with ⟨h0,_⟩ | ⟨h1,h2,h3,h4⟩
  {exact ⟨[],Or.inl ⟨h0,rfl⟩⟩}
  {exact ⟨[pb],Or.inr ⟨h1,rfl,h2,h3,h4.par⟩⟩}
 have hDPb: ∀b∈DP,b=pb/\W2.heap.size<=pb/\pb < W5.heap.size:=fun b hb=>by
  rcases hDP with ⟨_,rfl⟩ | ⟨_,rfl,h3,_,h5⟩
  {cases hb}
  {rw[List.mem_singleton] at hb; exact ⟨hb,h3,h5.lt⟩}
 have hap:=List.pairwise_append.1 h.ap;have hR:=h.rdy.step (W1:=W5) (DN:=DN) (DP:=DP) (q1:=⟨A',c',P',d'⟩) (pb:=pb) (qs:=qs) (fun b hb=>(hDlo b hb).1) hagD (fun n hn=>(h.nd n (by simp[hn])).1) (fun n hn=>hap.2.2 n hn a (by simp)) (by omega) hSa hsm
  (fun b hb k hk=>hcl b (hDlo b hb).1 (hDlo b hb).2 k hk) (fun b hb k=>hfz b (hDlo b hb).1 (hDlo b hb).2 k)
  (by
   rcases hDN with h1 | ⟨b,h1,h2,h3,_,h5⟩
   {exact Or.inl h1}
   · exact Or.inr ⟨b,h1,h2,h3,h5⟩)
  (by
   rcases hDP with h1 | ⟨h1,h2,h3,_,h5⟩
   {exact Or.inl h1}
   · exact Or.inr ⟨h1,h2,by omega,fun hm=>by have:=(hDNb pb hm).2; omega,h5⟩)
 -- the row of what is open
 obtain ⟨hO5,hv5⟩:Opn W5 v5 (L++kids pb a.t.parts qs)/\ ∀x,v5.ownBlock=some x->x=g\/W4.heap.size<=x/\x∉DP:=by
  rcases hp with ⟨h0,rfl,rfl⟩ | ⟨_,h2,_,hr⟩
  {have hk:kids pb a.t.parts qs= []:=List.eq_nil_of_length_eq_zero (by rw[Z0U]; exact h0);refine ⟨?_,fun x hx=>Or.inl (Option.some.inj (show some g=some x from hx)).symm⟩;rw[hk,List.append_nil];exact hO4}
  {have ho:=hr.opn;rw[List.take_of_length_le (by rw[Z0U]; exact Nat.le_refl _)] at ho;refine ⟨ho,fun x hx=> ?_⟩;rcases hr.row x hx with h3 | h3
   {exact Or.inl (Option.some.inj h3).symm}
   {refine Or.inr ⟨h3,fun hm=>hr.ne ?_⟩;rw[hx,(hDPb x hm).1]}}
 have hown5: ∀b,b≠g->b < W3.heap.size\/b∈DP->v5.ownBlock≠some b:=fun b h1 h2 e=>by
  rcases hv5 b e with h3 | ⟨h3,h4⟩
  {exact h1 h3}
  {rcases h2 with h2 | h2
   {omega}
   {exact h4 h2}}
 refine ⟨D++DN++DP,hO5,hR, ?_, ?_, ?_,hbel, ?_, ?_, ?_⟩
 {intro b hb;have hwW:=h.bel.size;rcases List.mem_append.1 hb with hb | hb
  {rcases List.mem_append.1 hb with hb | hb
   {obtain ⟨h1,h3⟩:=hDlo b hb;exact ⟨(h.lo b hb).1,by omega,hown5 b h3 (Or.inl (by omega))⟩}
   {have h1:=hDNb b hb;exact ⟨by omega,by omega,hown5 b (by omega) (Or.inl (by omega))⟩}}
  {obtain ⟨rfl,h2,h3⟩:=hDPb b hb;exact ⟨by omega,h3,hown5 b (by omega) (Or.inr hb)⟩}}
 {intro n hn;have hat: ∀ {q:Ptr} {t:Sh},ShAt W w.heap.size q t->ShAt W5 w.heap.size q t:=fun hx=>hx.of (Nat.le_refl _) (fun x k hx=>(hbel.cell (p:=⟨x,k,none⟩) hx).trans (h.bel.cell (p:=⟨x,k,none⟩) hx).symm);rcases List.mem_append.1 hn with hn | hn
  {obtain ⟨i1,i2,i3,i4,i5⟩:=h.nd n (by simp[hn]);obtain ⟨j1,j3⟩:=hDlo n.g i1;have hne:=hap.2.2 n hn a (by simp);have e: ∀c,c < 5->W5.cell? ⟨n.g,n.i * 5+c,none⟩=W.cell? ⟨n.g,n.i * 5+c,none⟩:=fun c hc=>hcl n.g j1 j3 _ (fun ⟨e1,e2⟩=>by
    have:=hne e1.symm;omega)
   obtain ⟨t0,t1,t2,t3,t4⟩:=i3;exact ⟨by simp[i1],i2,⟨(e 0 (by omega)).trans t0,(e 1 (by omega)).trans t1,(e 2 (by omega)).trans t2,(e 3 (by omega)).trans t3,(e 4 (by omega)).trans t4⟩,hat i4,fun k=>(hfz n.g j1 j3 k).trans (i5 k)⟩}
  {obtain ⟨i,hi,rfl⟩:=List.getElem_of_mem hn;have hil:i < a.t.parts.length:=by rwa [Z0U] at hi
   rw[Z1U];rcases hDP with ⟨h0,_⟩ | ⟨_,hd,h3,h4,h5⟩
   {omega}
   {refine ⟨by simp[hd], ?_,h5.at_ i hil,hat (h4 i hil),h5.fz⟩;have:=h.res.2.1.2.1;show pb≠r1;omega}}}
 {refine List.pairwise_append.2 ⟨hap.1,Z9L _ _ _,fun n hn m hm e=> ?_⟩;have h1:=(hDlo n.g (h.nd n (by simp[hn])).1).1;have h2:=Z63 hm;rcases hDP with ⟨h0,_⟩ | ⟨_,_,h3,_⟩
  {have:kids pb a.t.parts qs= []:=List.eq_nil_of_length_eq_zero (by rw[Z0U]; exact h0);rw[this] at hm; cases hm}
  {omega}}
 {obtain ⟨h1,⟨j0,j1,j4⟩,h2,h3⟩:=h.res;have j3:r1≠g:=fun e=>j4 (by rw[e]; rfl);refine ⟨fun hm=> ?_,⟨j0,by omega,hown5 r1 j3 (Or.inl (by omega))⟩,fun c hc=> ?_,fun k=>(hfz r1 j1 j3 k).trans (h3 k)⟩
  {rcases List.mem_append.1 hm with hm | hm
   {rcases List.mem_append.1 hm with hm | hm
    {exact h1 hm}
    {have:=hDNb r1 hm; omega}}
   {have:=(hDPb r1 hm); omega}}
  obtain ⟨u,hu⟩:=h2 c hc;exact ⟨u,(hcl r1 j1 j3 c (fun ⟨e,_⟩=>har1 e)).trans hu⟩}
 {intro x hx;have hwW:=h.bel.size;rcases hv5 x hx with h3 | ⟨h3,_⟩
  {omega}
  {omega}}
 {exact ⟨by simp[h.rin.1],h.rin.2⟩}
theorem Z7f {t:Sh} (h:right t=true) (hz:size t<=400):t.names.length<=400:=by
 have hp:=Z0L t.parts;rw[size_eq] at hz;rcases Z3d (Z0c h) with ⟨_,_,h,_⟩ | ⟨_,h,_⟩ | ⟨_,h,_⟩ | ⟨_,h,_⟩ | ⟨_,h,_⟩
 {rw[h]; simp}
 {rw[h]; simp}
 {omega}
 {rw[h]; simp}
 {rw[h]; simp}
def cW (w:World) (t:Sh) (q:Ptr):World:=
 ((w.alloc (.cells (Y8 t q) 25)).alloc (.cells Yb 25)).alloc (.cells #[.func (.func 41) #[] #[],.int .i64 0] 95)
section
variable (w : World) (t : Sh) (q : Ptr)
include w t q
theorem Z69:Below w.heap.size w (cW w t q):=Z0i (Z0i (Z00 _ _) _) _
theorem ZbL:CntH (cW w t q) (w.heap.size+1+1) 0 (.func (.func 41) #[] #[]):=by
 unfold cW;exact ⟨by simp,by simp[go_sem],by simp[go_sem],by simp[go_sem]⟩
theorem Z6a:Sh5 (cW w t q) w.heap.size 0 t q/\ ∀k,(cW w t q).frozen? ⟨w.heap.size,k,none⟩=false:=by
 unfold cW;refine ⟨⟨?_, ?_, ?_, ?_, ?_⟩,fun k=> ?_⟩ <;> simp[go_sem]
theorem Z9N: (∀c,c < 5-> ∃u,(cW w t q).cell? ⟨w.heap.size+1,c,none⟩=some u)/\ ∀k,(cW w t q).frozen? ⟨w.heap.size+1,k,none⟩=false:=by
 unfold cW;refine ⟨fun c hc=> ?_,fun k=>by simp[go_sem]⟩
 match c,hc with
 | 0,_=>exact ⟨_,by simp[go_sem]; rfl⟩
 | 1,_=>exact ⟨_,by simp[go_sem]; rfl⟩
 | 2,_=>exact ⟨_,by simp[go_sem]; rfl⟩
 | 3,_=>exact ⟨_,by simp[go_sem]; rfl⟩
 | 4,_=>exact ⟨_,by simp[go_sem]; rfl⟩
end
theorem Zc2 (w W1:World) (t:Sh) (q:Ptr) (hq:ShAt w w.heap.size q t) (hu:UpH (w.heap.size+1+1) (cW w t q) W1):
 Cst w (W1.alloc (.cells #[.pointer (some ⟨w.heap.size,0,none⟩)] 71)) w.heap.size (w.heap.size+1) t (.slice (some ⟨W1.heap.size,0,none⟩) 1 1) [⟨w.heap.size,0,t,q⟩] [w.heap.size]:=by
 have hsz: (cW w t q).heap.size=w.heap.size+3:=by simp[cW]
 have hs1:W1.heap.size=w.heap.size+3:=hu.size.trans hsz;have hb0:=Z00 W1 (.cells #[.pointer (some ⟨w.heap.size,0,none⟩)] 71);have hb:Below w.heap.size w W1:=(Z69 w t q).trans (hu.toBelow (by omega));have hb2:Below w.heap.size w (W1.alloc (.cells #[.pointer (some ⟨w.heap.size,0,none⟩)] 71)):=Z02 hb hb0;have hz2: (W1.alloc (.cells #[.pointer (some ⟨w.heap.size,0,none⟩)] 71)).heap.size=w.heap.size+4:=by simp; omega
 have hcell: ∀g k,g < w.heap.size+2->(W1.alloc (.cells #[.pointer (some ⟨w.heap.size,0,none⟩)] 71)).cell? ⟨g,k,none⟩=(cW w t q).cell? ⟨g,k,none⟩:=fun g k hg=>(hb0.cell (p:=⟨g,k,none⟩) (by show g < W1.heap.size; omega)).trans (hu.cell (by omega));have hfz: ∀g k,g < w.heap.size+2->(W1.alloc (.cells #[.pointer (some ⟨w.heap.size,0,none⟩)] 71)).frozen? ⟨g,k,none⟩=(cW w t q).frozen? ⟨g,k,none⟩:=fun g k hg=>(hb0.frozen (p:=⟨g,k,none⟩) (by show g < W1.heap.size; omega)).trans (hu.frozen (by omega));refine ⟨?_,Z70 _ _ _ _ _, ?_, ?_,by simp,hb2,⟨by simp,⟨by omega,by omega,fun e=> ?_⟩, ?_, ?_⟩, ?_,⟨by simp,by omega⟩⟩
 {refine ⟨by simp,Or.inr ⟨W1.heap.size,1, #[.pointer (some ⟨w.heap.size,0,none⟩)],rfl,Nat.zero_le _,heap_alloc_new _ _,Nat.le_refl _,by decide,rfl,rfl⟩⟩}
 {intro b hb';simp only[List.mem_cons,List.not_mem_nil,or_false] at hb';subst hb';exact ⟨by omega,by omega,fun e=>by have:W1.heap.size=w.heap.size:=Option.some.inj e; omega⟩}
 {intro n hn;simp only[List.mem_cons,List.not_mem_nil,or_false] at hn;subst hn;refine ⟨by simp,by show w.heap.size≠w.heap.size+1; omega, ?_,hq.keep hb2 (Nat.le_refl _),fun k=>(hfz _ k (by simp)).trans ((Z6a w t q).2 k)⟩;have h5:=(Z6a w t q).1;simp only[Nat.zero_mul];exact h5.of (fun k=>hcell _ k (by omega))}
 {have:W1.heap.size=w.heap.size+1:=Option.some.inj e;omega}
 {intro c hc;obtain ⟨u,hu'⟩:=(Z9N w t q).1 c hc;exact ⟨u,(hcell _ c (by omega)).trans hu'⟩}
 {exact fun k=>(hfz _ k (by omega)).trans ((Z9N w t q).2 k)}
 {intro g e;have:W1.heap.size=g:=Option.some.inj e;omega}
theorem Z7g (t:Sh) (q:Ptr) (w:World) (hq:ShAt w w.heap.size q t) (hz:size t<=400) (hr:right t=true):
 Calls Tryd.prog 42 #[.agg (Y8 t q),.func (.func 41) #[] #[],.func (.func 43) #[] #[]] w fun e w'=> ∃q' F,e= .returned (.agg (Y8 t q'))/\Own w' q' t F/\F.Nodup/\(∀b∈F,w.heap.size<=b)/\Below w.heap.size w w':=by
 have hde:=Z1G t;have hcb:=Z6a w t q;have hm:=Z8r t q w.heap.size 0 w.heap.size (w.heap.size+1+1) 0 1 (cW w t q) hcb.1 (by omega) (hq.keep (Z69 w t q) (Nat.le_refl _)) (by omega) (ZbL w t q) (by omega) (by omega);rw[show (((1:Nat)):Int)=(1:Int) from rfl] at hm;have HM:=Y1 hm;have HST:=Y1 (fun W1 (hu:UpH (w.heap.size+1+1) (cW w t q) W1)=>Zc2 w W1 t q hq hu);have L1:=fun (g o:Nat) (W:World)=>Z4L g o W;clear hq hm hcb hde;go_enter Tryd.func42,Tryd.ntmps42
 go_wp2_with fail
 change Calls _ _ _ (cW w t q) _;refine HM.out.mono ?_;rintro e W1 ⟨rfl,hu1,_⟩;have HS1:=Y1 (HST.out W1 hu1);clear HM HST hu1
 go_wp2_with fail
 go_loopg [9] (size t) (fun k s9 wr=> ∃L D,sumL L<=k/\sumL L<=400/\(∀n∈L,right n.t=true)/\Hid (Cst w wr w.heap.size (w.heap.size+1) t s9 L D))
 case atStart=>exact ⟨_,_,by simp[sumL],by simp[sumL]; omega,fun n hn=>by simp only[List.mem_cons,List.not_mem_nil,or_false] at hn; subst hn; exact hr,HS1⟩
 case round=>
  obtain ⟨L,D,hk,h400,hri,HC⟩:=hrel;clear HS1;rcases List.eq_nil_or_concat L with rfl | ⟨L',a,rfl⟩
  {obtain ⟨F,⟨q',hS,hO⟩,hnd,hFD⟩:=Z8o HC.out.rdy;obtain ⟨A,cp,rfl⟩:=HC.out.opn.empty;obtain ⟨p0,p1,p2,p3,p4⟩:=hS;simp only[Nat.zero_mul,Nat.zero_add] at p0 p1 p2 p3 p4;obtain ⟨r1D,⟨_,_,_⟩,rcs,rfz⟩:=HC.out.res;obtain ⟨e0,r0⟩:=rcs 0 (by omega);obtain ⟨e1,r1⟩:=rcs 1 (by omega);obtain ⟨e2,r2⟩:=rcs 2 (by omega);obtain ⟨e3,r3⟩:=rcs 3 (by omega);obtain ⟨e4,r4⟩:=rcs 4 (by omega);have z0:=rfz 0;have z1:=rfz 1;have z2:=rfz 2;have z3:=rfz 3;have z4:=rfz 4;have HO:=Y1 hO;have HND:=Y1 hnd;have HFD:=Y1 (fun b hb=>(HC.out.lo b (hFD b hb)).1);have HNE:=Y1 (fun b hb (e:w.heap.size+1=b)=>r1D (by rw[e]; exact hFD b hb));have HBL:=Y1 HC.out.bel;clear hO hnd hFD rcs rfz r1D hri;go_wp2;refine bodyPost_ret (v:= .agg (Y8 t q')) (by simp[results,Tryd.results42,go_sem,r0,r1,r2,r3,r4]) rfl ?_;refine ⟨q',F,rfl,HO.out.of (fun b hb=> ?_) (by simp[World.setCell]),HND.out,HFD.out, ?_⟩
   {have hne:=HNE.out b hb;exact ((((Z0m _ ⟨w.heap.size+1,0,none⟩ _ hne).trans (Z0m _ ⟨w.heap.size+1,1,none⟩ _ hne)).trans (Z0m _ ⟨w.heap.size+1,2,none⟩ _ hne)).trans (Z0m _ ⟨w.heap.size+1,3,none⟩ _ hne)).trans (Z0m _ ⟨w.heap.size+1,4,none⟩ _ hne)}
   {exact ((((HBL.out.setCell (p:=⟨w.heap.size+1,0,none⟩) (Nat.le_succ _) _).setCell (p:=⟨w.heap.size+1,1,none⟩) (Nat.le_succ _) _).setCell (p:=⟨w.heap.size+1,2,none⟩) (Nat.le_succ _) _).setCell (p:=⟨w.heap.size+1,3,none⟩) (Nat.le_succ _) _).setCell (p:=⟨w.heap.size+1,4,none⟩) (Nat.le_succ _) _}}
  {rw[List.concat_eq_append] at hk h400 HC hri;obtain ⟨g,cap,rfl,hcap,hcl,hgW⟩:=HC.out.opn.last;obtain ⟨hagD,har1,hS5,hat,hfr⟩:=HC.out.nd a (by simp);obtain ⟨hlo1,hlo2,hlo4⟩:=HC.out.lo a.g hagD;obtain ⟨W,hW⟩: ∃W,W=wr:=⟨wr,rfl⟩;subst hW;have hi1: (0:Int) < ((L'.length+1:Nat):Int):=by omega
   have hL4:L'.length<=400:=by
    have:=ZaX L';rw[Z0R] at h400;omega
   have hag:a.g≠g:=fun e=>hlo4 (by rw[e]; rfl);unfold ndP at hcl;obtain ⟨p0,p1,p2,p3,p4⟩:=hS5;have hsm:=hat.small;have ha4:size a.t<=400:=by rw[Z0R] at h400; simp[sumL] at h400; omega
   have har:=hri a (by simp);have hnm:a.t.names.length<=1000000000:=by have:=Z7f har ha4; omega
   have hsz:=HC.out.bel.size;have HOWN:=Y1 (Z9K a.g (a.i * 5) a.q.A a.q.c a.t.names W hlo2 p3 (hfr _) (hat.strs.more hsz) hnm hsm.c hsm.A0);have HRI:=Y1 hri;have HAT:=Y1 hat;have HSM:=Y1 hsm;have LA:=fun (W:World)=>L1 a.g (a.i * 5) W;clear hri hat hsm p0 p1 p2 p3
   go_wp2_with fail
   refine HOWN.out.mono ?_;rintro e w3 ⟨rfl,A',c',W2,hb2,htx,rfl⟩;have x4: (W2.setCell ⟨a.g,a.i * 5+3,none⟩ (.slice A' a.t.names.length c')).cell? ⟨a.g,a.i * 5+4,none⟩=some (.slice a.q.P a.t.parts.length a.q.d):=
    (World.cell?_setCell_other _ _ _ _ (fun e=>by have:=congrArg Addr.off e; simp at this)).trans ((hb2.cell (p:=⟨a.g,a.i * 5+4,none⟩) hlo2).trans p4)
   have f4: (W2.setCell ⟨a.g,a.i * 5+3,none⟩ (.slice A' a.t.names.length c')).frozen? ⟨a.g,a.i * 5+4,none⟩=false:=by
    rw[World.frozen?_setCell]; exact (hb2.frozen (p:=⟨a.g,a.i * 5+4,none⟩) hlo2).trans (hfr _)
   have hz2:W.heap.size<=W2.heap.size:=hb2.size;have hz3: (W2.setCell ⟨a.g,a.i * 5+3,none⟩ (.slice A' a.t.names.length c')).heap.size=W2.heap.size:=Z2v _ _ _;have hag3:a.g < (W2.setCell ⟨a.g,a.i * 5+3,none⟩ (.slice A' a.t.names.length c')).heap.size:=by omega
   have hbw3:Below w.heap.size w (W2.setCell ⟨a.g,a.i * 5+3,none⟩ (.slice A' a.t.names.length c')):=(HC.out.bel.trans (hb2.mono hsz)).setCell hlo1 _;have HB2:=Y1 hb2;have HTX:=Y1 htx;clear hb2 htx p4 HOWN hcl;by_cases hpz:a.t.parts.length=0
   {have hrn:=Z8s a.g (a.i * 5+4) a.q.P a.q.d (W2.setCell ⟨a.g,a.i * 5+3,none⟩ (.slice A' a.t.names.length c')) hag3 (by rw[x4,hpz]) f4 HSM.out.P0;have HRN:=Y1 hrn;clear hrn x4 f4 hbw3 hag3 hz3
    go_wp2_with fail
    refine (LA _).mono ?_;rintro e w4 ⟨rfl,rfl⟩
    go_wp2_with fail
    refine HRN.out.mono ?_;rintro e w5 ⟨rfl,P',d',W3',hb3,hP0,rfl⟩;have HST:=Y1 (HC.out.step (P':=P') (d':=d') (pb:=0) (qs:=fun _=>a.q) HB2.out HTX.out hb3 (by omega) hP0 (Or.inl ⟨hpz,by rw[hpz],rfl⟩));have hk0:kids 0 a.t.parts (fun _=>a.q)= []:=List.eq_nil_of_length_eq_zero (by rw[Z0U]; exact hpz);rw[hk0,List.append_nil] at HST;clear hk0 hb3 hP0 HRN;go_wp2
    go_roundg (sumL L')
    case measure=>rw[Z0R] at hk; have:=Z2i a.t; simp[sumL] at hk ⊢; omega
    case rel=>
     obtain ⟨D5,h5⟩:=HST.out;exact ⟨L',D5,Nat.le_refl _,by rw[Z0R] at h400; omega,fun n hn=>HRI.out n (by simp[hn]),Y1 h5⟩}
   {have hpos:0 < a.t.parts.length:=by omega
    rcases HAT.out.part with h0 | ⟨g',off,qs,hqP,hg',hcc,hrr⟩
    {omega}
    {have hpl:a.t.parts.length<=1000000000:=by have:=Z0L a.t.parts; rw[size_eq] at ha4; omega
     have hrn:=Z8t a.g (a.i * 5+4) g' off a.q.d a.t.parts qs (W2.setCell ⟨a.g,a.i * 5+3,none⟩ (.slice A' a.t.names.length c')) hag3 (by rw[x4,hqP]) f4 (by omega) (fun i hi=>(hcc i hi).of (fun k=>(hbw3.cell (p:=⟨g',k,none⟩) hg').trans (HC.out.bel.cell (p:=⟨g',k,none⟩) hg').symm)) hpl hpos;have HRN:=Y1 hrn;have HRR:=Y1 hrr;clear hrn hcc hrr hqP x4 f4 hbw3
     go_wp2_with fail
     refine (LA _).mono ?_;rintro e w4 ⟨rfl,rfl⟩
     go_wp2_with fail
     refine HRN.out.mono ?_;rintro e w5 ⟨rfl,pb,d',W3',hb3,hd1,hpb,hpar,rfl⟩;have hz4:=hb3.size;have hagz:a.g < W3'.heap.size:=by omega
     have hoc: ∃u,W3'.cell? ⟨a.g,a.i * 5+4,none⟩=some u:=⟨_,(hb3.cell (p:=⟨a.g,a.i * 5+4,none⟩) hag3).trans ((World.cell?_setCell_other _ _ _ _ (fun e=>by have:=congrArg Addr.off e; simp at this)).trans ((HB2.out.cell (p:=⟨a.g,a.i * 5+4,none⟩) hlo2).trans (HC.out.nd a (by simp)).2.2.1.2.2.2.2))⟩;obtain ⟨u0,hu0⟩:=hoc;have c4: (W3'.setCell ⟨a.g,a.i * 5+4,none⟩ (.slice (some ⟨pb,0,none⟩) a.t.parts.length d')).cell? ⟨a.g,a.i * 5+4,none⟩=some (.slice (some ⟨pb,0,none⟩) a.t.parts.length d'):=World.cell?_setCell_same _ _ _ hu0;have hz5: (W3'.setCell ⟨a.g,a.i * 5+4,none⟩ (.slice (some ⟨pb,0,none⟩) a.t.parts.length d')).heap.size=W3'.heap.size:=Z2v _ _ _;have hO4:Opn (W3'.setCell ⟨a.g,a.i * 5+4,none⟩ (.slice (some ⟨pb,0,none⟩) a.t.parts.length d')) (.slice (some ⟨g,0,none⟩) L'.length cap) L':=
      (((HC.out.opn.pop.below HB2.out).set (fun e=>hag (Option.some.inj e).symm) _).below hb3).set (fun e=>hag (Option.some.inj e).symm) _
     have hpbl:=hpar.lt;have hpag:pb≠a.g:=by omega
     have hR0:=Rnd7.start hO4 (fun e=>by have:g=pb:=Option.some.inj e; omega) (hpar.of (Z0m W3' ⟨a.g,a.i * 5+4,none⟩ (.slice (some ⟨pb,0,none⟩) a.t.parts.length d') (Ne.symm hpag)) (by omega));have HR0:=Y1 hR0;have HSTEP:=Y1 (fun (W5:World) (v5:Value) (hr:Rnd7 (W3'.setCell ⟨a.g,a.i * 5+4,none⟩ (.slice (some ⟨pb,0,none⟩) a.t.parts.length d')) W5 (.slice (some ⟨g,0,none⟩) L'.length cap) v5 pb a.t.parts qs L' a.t.parts.length)=>HC.out.step (P':=some ⟨pb,0,none⟩) (d':=d') (pb:=pb) (qs:=qs) HB2.out HTX.out hb3 hd1 nofun (Or.inr ⟨rfl,by omega,HRR.out,hr⟩));obtain ⟨W4,hW4⟩: ∃W4,W4=W3'.setCell ⟨a.g,a.i * 5+4,none⟩ (.slice (some ⟨pb,0,none⟩) a.t.parts.length d'):=⟨_,rfl⟩;rw[<-hW4] at c4 hz5 HR0 HSTEP ⊢;have hpw:pb < W4.heap.size:=by omega
     have hag4:a.g < W4.heap.size:=by omega
     clear hW4 hb3 hpb hpar hR0 hO4 hu0 hpbl HRN hz3 hag3 hz4 hagz
     go_wp2_with fail
     go_loopw [9,47] (fun s9 ii wr=> ∃i:Nat,ii= .int .i64 i/\i<=a.t.parts.length/\Hid (Rnd7 W4 wr (.slice (some ⟨g,0,none⟩) L'.length cap) s9 pb a.t.parts qs L' i)) (fun _ i _=>a.t.parts.length - (intOf i).toNat)
     case atStart=>exact ⟨0,rfl,Nat.zero_le _,HR0⟩
     case round=>
      obtain ⟨i,rfl,hi,HR⟩:=hrel;by_cases hlt:i < a.t.parts.length
      {have hi1: (i:Int) < (a.t.parts.length:Int):=by omega
       have k4:=(HR.out.up.same hag4 (fun e=>hag (Option.some.inj e).symm)).1 (a.i * 5+4);rw[c4] at k4;obtain ⟨i0,hi2,hz0,hz1,hz2⟩:=info_parts (P:=Tryd.prog) (e:=71) (z:= .pointer none) (size:=1) (bytes:=8) Z9J;have hlen: (L'++(kids pb a.t.parts qs).take i).length=L'.length+i:=by rw[List.length_append,List.length_take,Z0U]; omega
       have hown:=HR.out.opn;unfold Opn at hown;rw[hlen] at hown;have HOW:=Y1 hown;clear hown hlen
       go_wp2_with (at_builtin; refine wpList_append_lies _ rfl _ _ 90 rfl 0 71 i0 (.pointer none) 1 8 Tryd.underlying90 hi2 hz0 hz1 hz2 rfl (by decide) _ _ _ rfl (HOW.out.alloc _) ⟨wr.heap.size,0,none⟩ 1 1 [.pointer (some ⟨pb,i * 5,none⟩)] rfl rfl (World.news_of_block (cs:=#[.pointer (some ⟨pb,i * 5,none⟩)]) (t:=71) (fr:=(0,0)) (heap_alloc_new _ _)) (by simp[Value.oneCell']) (by decide) (by unfold maxLen; omega) (by omega) (by simp) _ rfl ?_)
       intro g1 cap1 w5 hown1 hgrow hat1 hlt1;have HN:=Y1 (HR.out.step hlt hpw hgrow (by simpa[List.map_append,List.append_assoc,List.map_take] using hown1) (by simpa using hat1));clear hown1 hgrow hat1 k4
       go_wp2_with fail
       exact ⟨⟨i+1,by go_num,by omega,HN⟩,by simp[intOf]; omega⟩}
      {have hie:i=a.t.parts.length:=by omega
       have HN:=Y1 (HSTEP.out wr _ (by have:=HR.out; rwa [hie] at this));have hi1: ¬(i:Int) < (a.t.parts.length:Int):=by omega
       clear hie HR HSTEP HR0;go_wp2
       go_roundg (sumL (L'++kids pb a.t.parts qs))
       case measure=>
        rw[Z0R,Z5p];rw[Z0R] at hk;have:=size_eq a.t;simp[sumL] at hk ⊢;omega
       case rel=>
        obtain ⟨D5,h5⟩:=HN.out;refine ⟨L'++kids pb a.t.parts qs,D5,Nat.le_refl _, ?_,fun n hn=> ?_,Y1 h5⟩
        {rw[Z0R,Z5p];rw[Z0R] at h400;have:=size_eq a.t;simp[sumL] at h400 ⊢;omega}
        {rcases List.mem_append.1 hn with hn | hn
         {exact HRI.out n (by simp[hn])}
         {obtain ⟨i,hi,rfl⟩:=List.getElem_of_mem hn;rw[Z1U];exact Z05 har (List.getElem_mem _)}}}}}}
def noneQ:Ptr:=⟨none,0,none,0⟩
def sW (w:World) (t:Sh) (q:Ptr):World:=(w.alloc (.cells (Y8 t q) 25)).alloc (.cells Yb 25)
section
variable (w : World) (t : Sh) (q : Ptr)
include w t q
theorem Z2n:Below w.heap.size w (sW w t q):=Z0i (Z00 _ _) _
theorem Z9O:Box5 (sW w t q) w.heap.size t q:=(Z07 w t q).next (Z00 _ _)
theorem Z6b:Box5 (sW w t q) (w.heap.size+1) Z5W noneQ:=by
 have h:=Z07 (w.alloc (.cells (Y8 t q) 25)) Z5W noneQ;have e: (w.alloc (.cells (Y8 t q) 25)).heap.size=w.heap.size+1:=by simp
 rw[e] at h;exact h
end
def put5 (W:World) (b:Nat) (a0 a1 a2 a3 a4:Value):World:=((((W.setCell ⟨b,0,none⟩ a0).setCell ⟨b,1,none⟩ a1).setCell ⟨b,2,none⟩ a2).setCell ⟨b,3,none⟩ a3).setCell ⟨b,4,none⟩ a4
theorem Z1a {W:World} {q:Ptr} {t:Sh} {F:List Nat} (h:Own W q t F) {b:Nat} (hb: ∀x∈F,b≠x) (a0 a1 a2 a3 a4:Value):Own (put5 W b a0 a1 a2 a3 a4) q t F:=
 h.of (fun x hx=>((((Z0m _ ⟨b,0,none⟩ a0 (hb x hx)).trans (Z0m _ ⟨b,1,none⟩ a1 (hb x hx))).trans (Z0m _ ⟨b,2,none⟩ a2 (hb x hx))).trans (Z0m _ ⟨b,3,none⟩ a3 (hb x hx))).trans (Z0m _ ⟨b,4,none⟩ a4 (hb x hx))) (by simp[put5,World.setCell])
theorem Z0n {B:Nat} {a W:World} (h:Below B a W) {b:Nat} (hb:B<=b) (a0 a1 a2 a3 a4:Value):Below B a (put5 W b a0 a1 a2 a3 a4):=
 ((((h.setCell (p:=⟨b,0,none⟩) hb _).setCell (p:=⟨b,1,none⟩) hb _).setCell (p:=⟨b,2,none⟩) hb _).setCell (p:=⟨b,3,none⟩) hb _).setCell (p:=⟨b,4,none⟩) hb _
theorem Z4d (t:Sh) (q:Ptr) (w:World) (hq:ShAt w w.heap.size q t) (hz:size t<=400) (hr:right t=true):
 Calls Tryd.prog 26 #[.agg (Y8 t q)] w fun e w'=> ∃q' F,e= .returned (.agg (Y8 t q'))/\Own w' q' t F/\F.Nodup/\(∀b∈F,w.heap.size<=b)/\Below w.heap.size w w':=by
 have HS:=Y1 (Z2n w t q);have HE:=Y1 (Z6b w t q);have HZ:=Y1 (show (sW w t q).heap.size=w.heap.size+2 from by simp[sW]);have HCP:=Y1 (Z7g t q (sW w t q) (hq.next (Z2n w t q)) hz hr);obtain ⟨_,⟨c0,c1,c2,c3,c4⟩,_⟩:=Z07 w t q;clear hq hr;go_enter Tryd.func26,Tryd.ntmps26
 go_wp2_with fail
 clear c0 c1 c2 c3 c4;change Calls _ _ _ (sW w t q) _;generalize sW w t q=W at HS HE HCP HZ ⊢;refine HCP.out.mono ?_;rintro e w1 ⟨q',F,rfl,ho,hnd,hF,hb1⟩;have HO:=Y1 ho;have HND:=Y1 hnd;have HF:=Y1 (fun b hb=>show w.heap.size+2<=b from by have:=hF b hb; have:=HZ.out; omega);have HS1:=Y1 (Z02 HS.out hb1);have HE1:=Y1 (HE.out.next hb1);clear ho hnd hF hb1 HCP;obtain ⟨_,⟨r0,r1,r2,r3,r4⟩,f0,f1,f2,f3,f4⟩:=HE1.out;simp only[Nat.zero_add] at r0 r1 r2 r3 r4;go_wp2;refine bodyPost_ret (v:= .agg (Y8 t q')) (by simp[results,Tryd.results26,go_sem,r0,r1,r2,r3,r4]) rfl ?_;exact ⟨q',F,rfl,Z1a HO.out (fun x hx e=>by have:=HF.out x hx; omega) _ _ _ _ _,HND.out,fun b hb=>by have:=HF.out b hb; omega,Z0n HS1.out (by omega) _ _ _ _ _⟩
end
section
open Go.RowKit Go.Sort
def Kpt (B:Nat) (w w':World):Prop:=w.heap.size<=w'.heap.size/\ ∀b,B<=b->b < w.heap.size->w'.heap[b]? =w.heap[b]?
theorem Kpt.next {B:Nat} {a b c:World} (h:Kpt B a b) (k:Kpt B b c):Kpt B a c:=⟨Nat.le_trans h.1 k.1,fun x h1 h2=>(k.2 x h1 (Nat.lt_of_lt_of_le h2 h.1)).trans (h.2 x h1 h2)⟩
structure Srt {α:Type} [Inhabited α] (N B:Nat) (rv:Value) (lt:α->α->Bool) (St:Array α->World->Prop):Prop where
 less: ∀d w (i j:Int),St d w->0<=i->i < N->0<=j->j < N->Calls Tryd.prog 116 #[rv,.int .i64 i,.int .i64 j] w fun e w'=>e= .returned (.bool (lt d[i.toNat]! d[j.toNat]!))/\St d w'/\Kpt B w w'
 swap: ∀d w (i j:Int),St d w->0<=i->i < N->0<=j->j < N->Calls Tryd.prog 117 #[rv,.int .i64 i,.int .i64 j] w fun e w'=>e= .returned (.tuple #[])/\St (swp d i.toNat j.toNat) w'/\Kpt B w w'
 size: ∀d w,St d w->d.size=N
 big:N < 1000000
 base: ∀d w,St d w->B<=w.heap.size
 keep: ∀d w w',St d w->Below B w w'->St d w'
 mL: ∀w,Sem.run Tryd.prog (method (Tryd.prog.types.size+100) 92 rv "Less") w= .ok (116,rv) w
 mS: ∀w,Sem.run Tryd.prog (method (Tryd.prog.types.size+100) 92 rv "Swap") w= .ok (117,rv) w
variable {α : Type} [Inhabited α] {N B : Nat} {rv : Value} {lt : α -> α -> Bool} {St : Array α -> World -> Prop}
section
variable (H : Srt N B rv lt St) {d : Array α} {w : World} (h : St d w) (i j : Nat) {x y : Int}
include H d w h i j x y
theorem Srt.lessAt {v:Bool} (hv:lt d[i]! d[j]! =v) (hi:i < N) (hj:j < N) (hx:x=i) (hy:y=j):
 Calls Tryd.prog 116 #[rv,.int .i64 x,.int .i64 y] w fun e w'=>e= .returned (.bool v)/\St d w'/\Kpt B w w':=by
 subst hx; subst hy; subst hv;exact H.less d w i j h (by omega) (by omega) (by omega) (by omega)
theorem Srt.swapAt (hi:i < N) (hj:j < N) (hx:x=i) (hy:y=j):
 Calls Tryd.prog 117 #[rv,.int .i64 x,.int .i64 y] w fun e w'=>e= .returned (.tuple #[])/\St (swp d i j) w'/\Kpt B w w':=by
 subst hx; subst hy;exact H.swap d w i j h (by omega) (by omega) (by omega) (by omega)
end
theorem Z9P (H:Srt N B rv lt St) (a b:Nat) (d:Array α) (w:World) (hH:St d w) (hab:a<=b) (hb:b<=N):
 Calls Tryd.prog 75 #[.iface 92 rv,.int .i64 a,.int .i64 b] w fun e w'=>e= .returned (.tuple #[])/\St (Sort.insertionSort lt d a b) w':=by
 have mL:=H.mL;have mS:=H.mS;have hbig:=H.big;have hsz:=H.size d w hH;go_enter Tryd.func75,Tryd.ntmps75;go_wp2
 go_loopw [6] (fun vi wr=> ∃(i:Nat) (dk:Array α),vi= .int .i64 i/\a < i/\i<=b+1/\St dk wr/\insOuter lt a b i dk=insOuter lt a b (a+1) d) (fun vi _=>b+1 - (intOf vi).toNat)
 case atStart=>exact ⟨a+1,d,by go_num,by omega,by omega,hH,rfl⟩
 case round=>
  obtain ⟨i,dk,rfl,hai,hib,hwr,hO⟩:=hrel;have HO:Hid (insOuter lt a b i dk=insOuter lt a b (a+1) d):=hO;clear hO;go_wp2
  {go_loopw [7] (fun vj wr2=> ∃(j:Nat) (dj:Array α),vj= .int .i64 j/\a<=j/\j<=i/\St dj wr2/\insInner lt a j dj=insInner lt a i dk) (fun vj _=>(intOf vj).toNat)
   case atStart=>exact ⟨i,dk,rfl,by omega,Nat.le_refl _,hwr,rfl⟩
   case round=>
    obtain ⟨j,dj,rfl,haj,hji,hw2,hI⟩:=hrel;have hlt:i < b:=by assumption
    have HI:Hid (insInner lt a j dj=insInner lt a i dk):=hI;clear hI hwr;have out: (j<=a\/lt dj[j]! dj[j - 1]! =false)-> ∀w2,St dj w2-> ∃i' dk',Value.int .i64 ((i:Int)+1)= .int .i64 (i':Nat)/\a < i'/\i'<=b+1/\St dk' w2/\insOuter lt a b i' dk'=insOuter lt a b (a+1) d:=fun hs w2 h2=>
     ⟨i+1,dj,by go_num,by omega,by omega,h2,by rw[<-HO.out,insOuter_go _ _ _ _ _ hlt, <-HI.out,insInner_stop _ _ _ _ hs]⟩
    have OUT:Hid _:=out;clear out;by_cases hja:a < j
    {cases hlv:lt dj[j]! dj[j - 1]! with
     | true=>
      go_wp2_with fail
      refine (H.less dj _ _ _ hw2 (by omega) (by omega) (by omega) (by omega)).mono ?_;rintro e w' ⟨rfl,hS, -⟩;rw[show ((j:Int)).toNat=j by omega,show ((j:Int) - 1).toNat=j - 1 by omega,hlv]
      go_wp2_with fail
      refine (H.swap dj _ _ _ hS (by omega) (by omega) (by omega) (by omega)).mono ?_;rintro e w2 ⟨rfl,hS2, -⟩;rw[show ((j:Int)).toNat=j by omega,show ((j:Int) - 1).toNat=j - 1 by omega] at hS2
      go_wp2_with fail
      go_roundw
      case rel=>
       (repeat apply Exists.intro)
       exact ⟨⟨j - 1,swp dj j (j - 1),by congr 1 <;> omega,by omega,by omega,hS2,by rw[<-HI.out,insInner_go lt a j dj hja hlv]⟩,by rw[decide_eq_true hlt,show ((j - 1:Nat):Int)=(j:Int) - 1 by omega]⟩
      case measure=>simp[intOf]; omega
     | false=>
      go_wp2_with fail
      refine (H.less dj _ _ _ hw2 (by omega) (by omega) (by omega) (by omega)).mono ?_;rintro e w' ⟨rfl,hS, -⟩;rw[show ((j:Int)).toNat=j by omega,show ((j:Int) - 1).toNat=j - 1 by omega,hlv]
      go_wp2_with fail
      go_roundw
      case rel=>exact OUT.out (Or.inr hlv) _ hS
      case measure=>simp[intOf]; omega}
    {go_wp2
     go_roundw
     case rel=>exact OUT.out (Or.inl (by omega)) _ hw2
     case measure=>simp[intOf]; omega}}
  {have hge: ¬i < b:=by assumption
   go_end0
   exact ⟨rfl,by unfold Sort.insertionSort; rw[<-HO.out,insOuter_stop _ _ _ _ _ hge]; exact hwr⟩}
end
section
open Go.RowKit Go.Sort
variable {α : Type} [Inhabited α] {N B : Nat} {rv : Value} {lt : α -> α -> Bool} {St : Array α -> World -> Prop}
section
variable (H : Srt N B rv lt St)
include H
theorem Z4M (lo hi first:Nat) (d:Array α) (w:World) (hH:St d w) (hlo:lo<=hi) (hb:first+hi<=N):
 Calls Tryd.prog 88 #[.iface 92 rv,.int .i64 lo,.int .i64 hi,.int .i64 first] w fun e w'=>e= .returned (.tuple #[])/\St (siftDown lt hi first lo d) w':=by
 have mL:=H.mL;have mS:=H.mS;have hbig:=H.big;go_enter Tryd.func88,Tryd.ntmps88;go_wp2
 go_loopg [8] (hi - lo) (fun kx s8 wr=> ∃(root:Nat) (dk:Array α),s8= .int .i64 root/\root<=hi/\hi - root<=kx/\St dk wr/\Hid (siftDown lt hi first root dk=siftDown lt hi first lo d))
 case atStart=>exact ⟨lo,d,rfl,hlo,Nat.le_refl _,hH,rfl⟩
 case round=>
  obtain ⟨root,dk,rfl,hr,hkx,hS,HE⟩:=hrel;clear hH;by_cases h0:hi<=2 * root+1
  {have h0z: (hi:Int)<=2 * (root:Int)+1:=by omega
   go_wp2
   go_end0
   exact ⟨rfl,by rw[<-HE.out,sd_end lt dk h0]; exact hS⟩}
  {have h0z: ¬((hi:Int)<=2 * (root:Int)+1):=by omega
   go_upto_region 3 with fail
   go_cut [31] (fun p wx=> ∃v:Bool,p= .bool v/\St dk wx/\Hid (v=true->2 * root+2 < hi/\lt dk[first+(2 * root+1)]! dk[first+(2 * root+2)]! =true)/\Hid (v=false->2 * root+2 < hi->lt dk[first+(2 * root+1)]! dk[first+(2 * root+2)]! =false))
   case first=>
    clear HE;by_cases h1:2 * root+2 < hi
    {have h1z:2 * (root:Int)+1+1 < (hi:Int):=by omega
     cases hL:lt dk[first+(2 * root+1)]! dk[first+(2 * root+2)]! <;>
     {go_wp2_with fail
      refine (H.lessAt hS (first+(2 * root+1)) (first+(2 * root+2)) hL (by omega) (by omega) (by omega) (by omega)).mono ?_;rintro e w1 ⟨rfl,hS1, -⟩
      go_wp2_with fail
      go_meet
      exact ⟨_,rfl,hS1,(show Hid _ from fun h=>by first | exact ⟨h1,hL⟩ | cases h),(show Hid _ from fun h _=>by first | exact hL | cases h)⟩}}
    {have h1z: ¬(2 * (root:Int)+1+1 < (hi:Int)):=by omega
     go_wp2_with fail
     go_meet
     exact ⟨_,rfl,hS,(show Hid _ from fun h=>by cases h),(show Hid _ from fun h h2=>absurd h2 h1)⟩}
   case rest=>
    clear hS;obtain ⟨v,rfl,hS,V1,V2⟩:=hcut
    go_upto_if 31 with fail
    go_cut [9] (fun p wx=> ∃c:Nat,p= .int .i64 c/\root < c/\c < hi/\St dk wx/\Hid ((lt dk[first+root]! dk[first+c]! =false->siftDown lt hi first root dk=dk)/\
     (lt dk[first+root]! dk[first+c]! =true->siftDown lt hi first root dk=siftDown lt hi first c (swp dk (first+root) (first+c)))))
    case first=>
     clear HE;cases v with
     | true=>
      have h1:=V1.out rfl;have h1z:2 * (root:Int)+1+1 < (hi:Int):=by omega
      go_wp2_with fail
      go_meet
      exact ⟨2 * root+2,by go_num,by omega,by omega,hS,fun hG=>sd_right_stop lt dk h1.1 h1.2 hG,fun hG=>sd_right_go lt dk h1.1 h1.2 hG⟩
     | false=>
      go_wp2_with fail
      go_meet
      exact ⟨2 * root+1,by go_num,by omega,by omega,hS,fun hG=>sd_left_stop lt dk (by omega) (fun h=>V2.out (by first | trivial | rfl) h) hG,fun hG=>sd_left_go lt dk (by omega) (fun h=>V2.out (by first | trivial | rfl) h) hG⟩
    case rest=>
     clear hS;obtain ⟨c,rfl,hc1,hc2,hS,hC⟩:=hcut;cases hG:lt dk[first+root]! dk[first+c]! with
     | true=>
      go_wp2_with fail
      refine (H.lessAt hS (first+root) (first+c) hG (by omega) (by omega) (by omega) (by omega)).mono ?_;rintro e w2 ⟨rfl,hS2, -⟩
      go_wp2_with fail
      refine (H.swapAt hS2 (first+root) (first+c) (by omega) (by omega) (by omega) (by omega)).mono ?_;rintro e w3 ⟨rfl,hS3, -⟩
      go_wp2_with fail
      go_roundg (hi - c)
      case measure=>omega
      case rel=>exact ⟨c,swp dk (first+root) (first+c),rfl,by omega,Nat.le_refl _,hS3,(show Hid _ from by rw[<-HE.out,hC.out.2 hG]; exact rfl)⟩
     | false=>
      go_wp2_with fail
      refine (H.lessAt hS (first+root) (first+c) hG (by omega) (by omega) (by omega) (by omega)).mono ?_;rintro e w2 ⟨rfl,hS2, -⟩
      go_wp2_with fail
      (try simp only[Exit.inBlock,Exit.then]); refine bodyPost_ret (results_none rfl _ _ _) rfl ?_
      exact ⟨rfl,by rw[<-HE.out,hC.out.1 hG]; exact hS2⟩}
theorem Z8u (a b:Nat) (d:Array α) (w:World) (hH:St d w) (hab:a < b) (hb:b<=N):
 Calls Tryd.prog 76 #[.iface 92 rv,.int .i64 a,.int .i64 b] w fun e w'=>e= .returned (.tuple #[])/\St (heapSort lt d a b) w':=by
 have mL:=H.mL;have mS:=H.mS;have hbig:=H.big;go_enter Tryd.func76,Tryd.ntmps76;go_wp2
 go_loopg [9] ((b - a - 1) / 2+1) (fun kx s9 wr=> ∃(k:Nat) (dk:Array α),s9= .int .i64 ((k:Int) - 1)/\k<=(b - a - 1) / 2+1/\k<=kx/\St dk wr/\Hid (heapBuild lt (b - a) a k dk=heapBuild lt (b - a) a ((b - a - 1) / 2+1) d))
 case atStart=>exact ⟨(b - a - 1) / 2+1,d,by congr 1; omega,Nat.le_refl _,Nat.le_refl _,hH,rfl⟩
 case round=>
  obtain ⟨k,dk,rfl,hk,hkx,hS,HE⟩:=hrel;clear hH;cases k with
  | succ k=>
   have hz: (0:Int)<=((k+1:Nat):Int) - 1:=by omega
   go_wp2_with fail
   have hc:=Z4M H k (b - a) a dk _ hS (by omega) (by omega);rw[show (((b - a:Nat)):Int)=(b:Int) - (a:Int) by omega] at hc;refine hc.mono ?_;rintro e w1 ⟨rfl,hS1⟩;clear hc
   go_wp2_with fail
   go_roundg k
   case measure=>omega
   case rel=>exact ⟨k,_,rfl,by omega,Nat.le_refl _,hS1,(show Hid _ from by rw[<-HE.out]; exact rfl)⟩
  | zero=>
   have hD:heapBuild lt (b - a) a ((b - a - 1) / 2+1) d=dk:=HE.out.symm;have HD:Hid _:=hD;clear hD HE;go_wp2
   go_loopg [10] (b - a) (fun kx s10 wr=> ∃(k:Nat) (dj:Array α),s10= .int .i64 ((k:Int) - 1)/\k<=b - a/\k<=kx/\St dj wr/\Hid (heapPop lt a k dj=heapPop lt a (b - a) dk))
   case atStart=>exact ⟨b - a,dk,by congr 1; omega,Nat.le_refl _,Nat.le_refl _,hS,rfl⟩
   case round=>
    clear hS;obtain ⟨k,dj,rfl,hk2,hkx2,hS,HE⟩:=hrel;cases k with
    | succ k=>
     have hz: (0:Int)<=((k+1:Nat):Int) - 1:=by omega
     go_wp2_with fail
     refine (H.swapAt hS a (a+k) (by omega) (by omega) (by omega) (by omega)).mono ?_;rintro e w1 ⟨rfl,hS1, -⟩
     go_wp2_with fail
     have hc:=Z4M H 0 k a _ _ hS1 (by omega) (by omega);refine hc.mono ?_;rintro e w2 ⟨rfl,hS2⟩;clear hc
     go_wp2_with fail
     go_roundg k
     case measure=>omega
     case rel=>exact ⟨k,_,rfl,by omega,Nat.le_refl _,hS2,(show Hid _ from by rw[<-HE.out]; exact rfl)⟩
    | zero=>
     go_wp2
     go_end0
     exact ⟨rfl,by unfold heapSort; rw[HD.out, <-HE.out]; exact hS⟩
theorem Z9Q (a b:Nat) (d:Array α) (w:World) (hH:St d w) (hab:a < b) (hb:b<=N):
 Calls Tryd.prog 79 #[.iface 92 rv,.int .i64 a,.int .i64 b] w fun e w'=>e= .returned (.tuple #[])/\ ∃d',PermIn a b d d'/\St d' w':=by
 have mL:=H.mL;have mS:=H.mS;have hbig:=H.big;have hsz:=H.size d w hH;go_enter Tryd.func79,Tryd.ntmps79;go_wp2
 go_loopg [6,7] (b - a) (fun k s6 s7 wr=> ∃(i j:Int) (dk:Array α),s6= .int .i64 i/\s7= .int .i64 j/\(a:Int)<=i/\i<=b/\(a:Int) - 1<=j/\j < b/\(j - i).toNat<=k/\St dk wr/\Hid (PermIn a b d dk))
 case atStart=>exact ⟨a,(b:Int) - 1,d,rfl,rfl,by omega,by omega,by omega,by omega,by omega,hH,permIn_refl _ _ _⟩
 case round=>
  obtain ⟨i,j,dk,rfl,rfl,h1,h2,h3,h4,hk,hS,HP⟩:=hrel;clear hH;by_cases hlt:i < j
  {have hsk:=H.size _ _ hS
   go_wp2_with fail
   refine (H.swapAt hS i.toNat j.toNat (by omega) (by omega) (by omega) (by omega)).mono ?_;rintro e w1 ⟨rfl,hS1, -⟩
   go_wp2_with fail
   go_roundg ((j - 1) - (i+1)).toNat
   case measure=>omega
   case rel=>exact ⟨i+1,j - 1,_,rfl,rfl,by omega,by omega,by omega,by omega,Nat.le_refl _,hS1,(show Hid _ from permIn_trans _ _ _ a b HP.out (swp_permIn _ _ _ _ _ (by omega) (by omega) (by omega) (by omega) (by omega)))⟩}
  {go_wp2
   go_end0
   exact ⟨rfl,dk,HP.out,hS⟩}
end
end
end Go.Proofs.YtchklpedlbkgaaaDoor
namespace Go.Proofs
open Go.Shelf
def Tryd.lays129_ren:Go.Shelf.Ren:=⟨fun | 129=>74 | n=>n,fun | 3=>3 | 4=>4 | 5=>5 | 9=>9 | 46=>106 | 53=>121 | n=>n,fun | n=>n⟩
theorem Tryd.lays129:Go.Proofs.Lays.n129 Tryd.prog Tryd.lays129_ren:= {
 mixed:=by kernel_rfl
 f129:=Tryd.func74.trans (congrArg some (by kernel_rfl))
 t3:=Tryd.underlying3
 a3:=Tryd.isAgg3
 z3:=Tryd.sizeOf3
 v3:=Tryd.zeroValue3
 t4:=Tryd.underlying4
 a4:=Tryd.isAgg4
 z4:=Tryd.sizeOf4
 v4:=Tryd.zeroValue4
 t5:=Tryd.underlying5
 a5:=Tryd.isAgg5
 z5:=Tryd.sizeOf5
 v5:=Tryd.zeroValue5
 t9:=Tryd.underlying9
 a9:=Tryd.isAgg9
 z9:=Tryd.sizeOf9
 v9:=Tryd.zeroValue9
 t46:=Tryd.underlying106
 a46:=Tryd.isAgg106
 z46:=Tryd.sizeOf106
 v46:=Tryd.zeroValue106
 t53:=Tryd.underlying121
 a53:=Tryd.isAgg121
 z53:=Tryd.sizeOf121
 v53:=Tryd.zeroValue121 }
section
open Go.RowKit
theorem Tryd.len64 (x:Int) (w:World) (h0:0<=x) (h1:x<=18446744073709551615):
 Calls Tryd.prog 74 #[.int .u64 x] w fun e w'=>e= .returned (.int .i64 (Lib.bitLen x.toNat))/\w'=w:=
 Any.bits_Len64 Tryd.lays129 x w h0 h1
end
end Go.Proofs
namespace Go.Proofs.YtchklpedlbkgaaaDoor
section
open Go.RowKit Go.Sort
variable {α : Type} [Inhabited α] {N B : Nat} {rv : Value} {lt : α -> α -> Bool} {St : Array α -> World -> Prop}
theorem Z8v (b0 X:Nat) (hX:X < 18446744073709551616) (w:World) (hc:w.cell? ⟨b0,0,none⟩=some (.int .u64 X)) (hf:w.frozen? ⟨b0,0,none⟩=false):
 Calls Tryd.prog 90 #[.pointer (some ⟨b0,0,none⟩)] w fun e w'=>e= .returned (.int .u64 (xorNextN X:Nat))/\w'=(w.setCell ⟨b0,0,none⟩ (.int .u64 (xorNextN X:Nat))).drewN 3:=by
 obtain ⟨x1,h1⟩: ∃x1:Nat,x1=X ^^^ (X * 8192 % 18446744073709551616):=⟨_,rfl⟩;obtain ⟨x2,h2⟩: ∃x2:Nat,x2=x1 ^^^ (x1 / 128):=⟨_,rfl⟩;obtain ⟨x3,h3⟩: ∃x3:Nat,x3=x2 ^^^ (x2 * 131072 % 18446744073709551616):=⟨_,rfl⟩;have l1:x1 < 18446744073709551616:=by rw[h1]; exact Nat.xor_lt_two_pow (n:=64) (by omega) (by omega)
 have l2:x2 < 18446744073709551616:=by rw[h2]; exact Nat.xor_lt_two_pow (n:=64) (by omega) (by omega)
 have e1:bits .xor .u64 (X:Int) (IntKind.u64.wrap ((X:Int) * 8192))=(x1:Int):=by
  rw[IntKind.wrap_u64,show ((X:Int) * 8192 % 18446744073709551616)=((X * 8192 % 18446744073709551616:Nat):Int) by omega,bits_xor_u64_nat _ _ hX (by omega),h1]
 have e2:bits .xor .u64 (x1:Int) ((x1:Int) / 128)=(x2:Int):=by
  rw[show ((x1:Int) / 128)=((x1 / 128:Nat):Int) by omega,bits_xor_u64_nat _ _ l1 (by omega),h2]
 have e3:bits .xor .u64 (x2:Int) (IntKind.u64.wrap ((x2:Int) * 131072))=(x3:Int):=by
  rw[IntKind.wrap_u64,show ((x2:Int) * 131072 % 18446744073709551616)=((x2 * 131072 % 18446744073709551616:Nat):Int) by omega,bits_xor_u64_nat _ _ l2 (by omega),h3]
 have hv:xorNextN X=x3:=by unfold xorNextN; simp only[]; rw[<-h1, <-h2, <-h3]
 rw[hv];clear h1 h2 h3 hv;have hss: ∀v v',(w.setCell ⟨b0,0,none⟩ v).setCell ⟨b0,0,none⟩ v'=w.setCell ⟨b0,0,none⟩ v':=setCell_setCell w b0 0;go_enter Tryd.func90,Tryd.ntmps90;go_wp2
 go_region
 all_goals go_wp2
 all_goals go_region
 all_goals go_wp2
 all_goals go_region
 all_goals go_wp2
 go_ret;exact ⟨rfl,rfl⟩
section
variable (n : Nat) (hn : n < 4611686018427387904) (w : World)
include n hn w
theorem Z5q:Calls Tryd.prog 62 #[.int .u64 (n:Int)] w fun e w'=>e= .returned (.int .i64 (bitsLen n:Nat))/\w'=w:=by
 have h:=fun w=>Tryd.len64 (n:Int) w (by omega) (by omega);rw[Int.toNat_natCast,bitLen_eq _ (by omega)] at h;go_enter Tryd.func62,Tryd.ntmps62
 go_wp2_with fail
 refine (h _).mono ?_;rintro e w' ⟨rfl,rfl⟩;clear h
 go_wp2_with fail
 go_ret;exact ⟨rfl,rfl⟩
theorem Z7h:Calls Tryd.prog 89 #[.int .i64 n] w fun e w'=>e= .returned (.int .u64 ((1 <<< bitsLen n:Nat):Int))/\w'=w:=by
 have hk:bitsLen n<=62:=(bitsLen_le_iff n 62).2 (by omega);have hp:=wrap_two_pow (bitsLen n) hk;go_enter Tryd.func89,Tryd.ntmps89
 go_wp2_with fail
 refine (Z5q n hn _).mono ?_;rintro e w' ⟨rfl,rfl⟩
 go_wp2_with fail
 go_ret;exact ⟨rfl,rfl⟩
end
theorem Z7i (H:Srt N B rv lt St) (a b:Nat) (d:Array α) (w:World) (hH:St d w) (hab:a+8<=b) (hb:b<=N):
 Calls Tryd.prog 77 #[.iface 92 rv,.int .i64 a,.int .i64 b] w fun e w'=>e= .returned (.tuple #[])/\ ∃d',PermIn a b d d'/\St d' w':=by
 have mS:=H.mS;have hbig:=H.big;have hB:=H.base _ _ hH;obtain ⟨L,hL⟩: ∃L:Nat,L=b - a:=⟨_,rfl⟩;obtain ⟨M,hM⟩: ∃M:Nat,M=1 <<< bitsLen L:=⟨_,rfl⟩;have hM1:1<=M:=by rw[hM,Nat.one_shiftLeft]; exact Nat.two_pow_pos _
 have hM2:M<=2 * L:=by rw[hM,Nat.one_shiftLeft]; exact two_pow_bitsLen_le (by omega)
 have hLz: ((b:Int) - (a:Int))=(L:Int):=by omega
 have h8z: (8:Int)<=(L:Int):=by omega
 have hNP: ∀w,Calls Tryd.prog 89 #[.int .i64 (L:Int)] w fun e w'=>e= .returned (.int .u64 (M:Int))/\w'=w:=by rw[hM]; exact fun w=>Z7h L (by omega) w
 have HL:Hid (L=b - a):=hL;clear hM hL;have hC0: ∃R:Nat,R < 18446744073709551616/\(w.alloc (.cells #[.int .u64 (L:Int)] 134)).cell? ⟨w.heap.size,0,none⟩=some (.int .u64 (R:Int)):=⟨L,by omega,by rw[World.cell?_alloc_at _ _ _ _ rfl]; rfl⟩;have hF0: (w.alloc (.cells #[.int .u64 (L:Int)] 134)).frozen? ⟨w.heap.size,0,none⟩=false:=World.frozen?_alloc_at _ _ _ _ rfl;have hS0:St d (w.alloc (.cells #[.int .u64 (L:Int)] 134)):=H.keep _ _ _ hH (Y2.alloc hB _);have hZ0:w.heap.size < (w.alloc (.cells #[.int .u64 (L:Int)] 134)).heap.size:=by simp
 clear hH;go_enter Tryd.func77,Tryd.ntmps77
 go_wp2_with fail
 refine (hNP _).mono ?_;rintro e w' ⟨rfl,rfl⟩;clear hNP
 go_wp2_with fail
 generalize hW0:w.alloc (.cells #[.int .u64 (L:Int)] 134)=W0 at hC0 hF0 hS0 hZ0 ⊢;generalize w.heap.size=b0 at hC0 hF0 hZ0 hB ⊢;clear hW0
 go_loopg [9] 3 (fun g1 vi wr=> ∃(t R:Nat) (dk:Array α),vi= .int .i64 ((a:Int)+(L:Int) / 4 * 2 - 1+(t:Int))/\t<=3/\3 - t<=g1/\St dk wr/\Hid (PermIn a b d dk)/\R < 18446744073709551616/\
  b0 < wr.heap.size/\wr.cell? ⟨b0,0,none⟩=some (.int .u64 (R:Int))/\wr.frozen? ⟨b0,0,none⟩=false)
 case atStart=>
  obtain ⟨R,h1,h2⟩:=hC0;exact ⟨0,R,d,by simp,by omega,by omega,hS0,permIn_refl _ _ _,h1,hZ0,h2,hF0⟩
 case round=>
  clear hC0 hF0 hS0 hZ0;obtain ⟨t,R,dk,rfl,ht,hg1,hS,HP,lR,hz,cR,fR⟩:=hrel;have hsk:=H.size _ _ hS;have hLg:8<=L:=by have:=HL.out; omega
  by_cases ht3:t < 3
  {have hle: (a:Int)+(L:Int) / 4 * 2 - 1+(t:Int)<=(a:Int)+(L:Int) / 4 * 2+1:=by omega
   obtain ⟨R',hR'⟩: ∃R':Nat,R'=xorNextN R:=⟨_,rfl⟩;have lR':R' < 18446744073709551616:=by rw[hR']; exact xorNextN_lt R lR
   obtain ⟨O,hO⟩: ∃O:Nat,O=R' &&& (M - 1):=⟨_,rfl⟩;have lO:O<=M - 1:=by rw[hO]; exact Nat.and_le_right
   have eAnd:bits .and .u64 (R':Int) ((M:Int) - 1)=(O:Int):=by
    rw[show ((M:Int) - 1)=((M - 1:Nat):Int) by omega,bits_and_u64_nat _ _ lR' (by omega),hO]
   have hN:=Z8v b0 R lR wr cR fR;rw[<-hR'] at hN;have hS2:St dk ((wr.setCell ⟨b0,0,none⟩ (.int .u64 (R':Int))).drewN 3):=H.keep _ _ _ hS (Z0K (Y2.setCell hB _) 3);have c2: ((wr.setCell ⟨b0,0,none⟩ (.int .u64 (R':Int))).drewN 3).cell? ⟨b0,0,none⟩=some (.int .u64 (R':Int)):=by rw[World.cell?_drewN]; exact World.cell?_setCell_same _ _ _ cR
   have f2: ((wr.setCell ⟨b0,0,none⟩ (.int .u64 (R':Int))).drewN 3).frozen? ⟨b0,0,none⟩=false:=by rw[World.frozen?_drewN]; simpa using fR
   have z2:b0 < ((wr.setCell ⟨b0,0,none⟩ (.int .u64 (R':Int))).drewN 3).heap.size:=by simpa[World.setCell] using hz
   generalize (wr.setCell ⟨b0,0,none⟩ (.int .u64 (R':Int))).drewN 3=w2 at hN hS2 c2 f2 z2;clear hR' hO cR fR hz hS;have hLn:a+L<=b:=by have:=HL.out; omega
   have hLn':b<=a+L:=by have:=HL.out; omega
   by_cases hLO:L<=O
   {have hLOz: (L:Int)<=(O:Int):=by omega
    go_wp2_with fail
    refine hN.mono ?_;rintro e w1 ⟨rfl,h1⟩;have hS1:St dk w1:=by rw[h1]; exact hS2
    have c1:w1.cell? ⟨b0,0,none⟩=some (.int .u64 (R':Int)):=by rw[h1]; exact c2
    have f1:w1.frozen? ⟨b0,0,none⟩=false:=by rw[h1]; exact f2
    have z1:b0 < w1.heap.size:=by rw[h1]; exact z2
    clear h1 hN c2 f2 z2 hS2
    go_wp2_with fail
    refine (H.swapAt hS1 (a+L / 4 * 2 - 1+t) (a+(O - L)) (by omega) (by omega) (by omega) (by omega)).mono ?_;rintro e w3 ⟨rfl,hS3,hk⟩
    go_wp2_with fail
    go_roundg (3 - (t+1))
    case measure=>omega
    case rel=>exact ⟨t+1,R',_,by congr 1; push_cast; omega,by omega,Nat.le_refl _,hS3,(show Hid _ from permIn_trans _ _ _ a b HP.out (swp_permIn _ _ _ _ _ (by omega) (by omega) (by omega) (by omega) (by omega))),lR',Nat.lt_of_lt_of_le z1 hk.1,(World.cell?_of_block (w:=w1) (hk.2 _ hB z1)).trans c1,(World.frozen?_of_block (w:=w1) (hk.2 _ hB z1)).trans f1⟩}
   {have hLOz: ¬(L:Int)<=(O:Int):=by omega
    go_wp2_with fail
    refine hN.mono ?_;rintro e w1 ⟨rfl,h1⟩;have hS1:St dk w1:=by rw[h1]; exact hS2
    have c1:w1.cell? ⟨b0,0,none⟩=some (.int .u64 (R':Int)):=by rw[h1]; exact c2
    have f1:w1.frozen? ⟨b0,0,none⟩=false:=by rw[h1]; exact f2
    have z1:b0 < w1.heap.size:=by rw[h1]; exact z2
    clear h1 hN c2 f2 z2 hS2
    go_wp2_with fail
    refine (H.swapAt hS1 (a+L / 4 * 2 - 1+t) (a+O) (by omega) (by omega) (by omega) (by omega)).mono ?_;rintro e w3 ⟨rfl,hS3,hk⟩
    go_wp2_with fail
    go_roundg (3 - (t+1))
    case measure=>omega
    case rel=>exact ⟨t+1,R',_,by congr 1; push_cast; omega,by omega,Nat.le_refl _,hS3,(show Hid _ from permIn_trans _ _ _ a b HP.out (swp_permIn _ _ _ _ _ (by omega) (by omega) (by omega) (by omega) (by omega))),lR',Nat.lt_of_lt_of_le z1 hk.1,(World.cell?_of_block (w:=w1) (hk.2 _ hB z1)).trans c1,(World.frozen?_of_block (w:=w1) (hk.2 _ hB z1)).trans f1⟩}}
  {obtain rfl:t=3:=by omega
   have hle: ¬((a:Int)+(L:Int) / 4 * 2 - 1+((3:Nat):Int)<=(a:Int)+(L:Int) / 4 * 2+1):=by omega
   go_wp2
   go_end0
   exact ⟨rfl,dk,HP.out,hS⟩}
structure Cntr (B:Nat) (w:World) (p:Addr) (s:Int):Prop where
 lo:B<=p.block
 lt:p.block < w.heap.size
 at_:w.cell? p=some (.int .i64 s)
 fz:w.frozen? p=false
theorem Cntr.kpt {w w':World} {p:Addr} {s:Int} (h:Cntr B w p s) (hk:Kpt B w w'):Cntr B w' p s:=
 ⟨h.lo,Nat.lt_of_lt_of_le h.lt hk.1,(World.cell?_of_block (w:=w) (hk.2 _ h.lo h.lt)).trans h.at_,(World.frozen?_of_block (w:=w) (hk.2 _ h.lo h.lt)).trans h.fz⟩
section
variable (H : Srt N B rv lt St)
include H
theorem Z2C (a b:Nat) (b0:Nat) (s:Int) (d:Array α) (w:World) (hH:St d w) (ha:a < N) (hb:b < N) (hC:Cntr B w ⟨b0,0,none⟩ s) (hs0:0<=s) (hs:s < 1000):
 Calls Tryd.prog 97 #[.iface 92 rv,.int .i64 a,.int .i64 b,.pointer (some ⟨b0,0,none⟩)] w fun e w'=> ∃(x y:Nat) (s':Int),e= .returned (.tuple #[.int .i64 x,.int .i64 y])/\(x=a/\y=b\/x=b/\y=a)/\St d w'/\Cntr B w' ⟨b0,0,none⟩ s'/\0<=s'/\s'<=s+1:=by
 have mL:=H.mL;have mS:=H.mS;have hbig:=H.big;go_enter Tryd.func97,Tryd.ntmps97;cases hlv:lt d[b]! d[a]! with
 | true=>
  go_wp2_with fail
  refine (H.lessAt hH b a hlv hb ha rfl rfl).mono ?_;rintro e w1 ⟨rfl,hS1,hk⟩;have hC1:=hC.kpt hk;have c0:=hC1.at_;have f0:=hC1.fz;have HC:Hid (Cntr B w1 ⟨b0,0,none⟩ s):=hC1;clear hC hC1 hk
  go_wp2_with fail
  go_ret2
  have hC1:=HC.out;refine ⟨b,a,s+1,rfl,Or.inr ⟨rfl,rfl⟩,H.keep _ _ _ hS1 (Y2.setCell hC1.lo _),⟨hC1.lo,by simpa[World.setCell] using hC1.lt,World.cell?_setCell_same _ _ _ c0,by simpa[World.frozen?_setCell] using f0⟩,by omega,by omega⟩
 | false=>
  go_wp2_with fail
  refine (H.lessAt hH b a hlv hb ha rfl rfl).mono ?_;rintro e w1 ⟨rfl,hS1,hk⟩;have hC1:=hC.kpt hk
  go_wp2_with fail
  go_ret2
  exact ⟨a,b,s,rfl,Or.inl ⟨rfl,rfl⟩,hS1,hC1,hs0,by omega⟩
theorem Z2o (a b c:Nat) (b0:Nat) (s:Int) (d:Array α) (w:World) (hH:St d w) (ha:a < N) (hb:b < N) (hc:c < N) (hC:Cntr B w ⟨b0,0,none⟩ s) (hs0:0<=s) (hs:s < 900):
 Calls Tryd.prog 92 #[.iface 92 rv,.int .i64 a,.int .i64 b,.int .i64 c,.pointer (some ⟨b0,0,none⟩)] w fun e w'=> ∃(x:Nat) (s':Int),e= .returned (.int .i64 x)/\(x=a\/x=b\/x=c)/\St d w'/\Cntr B w' ⟨b0,0,none⟩ s'/\0<=s'/\s'<=s+3:=by
 go_enter Tryd.func92,Tryd.ntmps92
 go_wp2_with fail
 refine (Z2C H a b b0 s d w hH ha hb hC hs0 (by omega)).mono ?_;rintro e w1 ⟨x1,y1,s1,rfl,h1,hS1,hC1,p1,q1⟩
 go_wp2_with fail
 refine (Z2C H y1 c b0 s1 d w1 hS1 (by omega) hc hC1 p1 (by omega)).mono ?_;rintro e w2 ⟨x2,y2,s2,rfl,h2,hS2,hC2,p2,q2⟩
 go_wp2_with fail
 refine (Z2C H x1 x2 b0 s2 d w2 hS2 (by omega) (by omega) hC2 p2 (by omega)).mono ?_;rintro e w3 ⟨x3,y3,s3,rfl,h3,hS3,hC3,p3,q3⟩
 go_wp2_with fail
 go_ret;exact ⟨y3,s3,rfl,by omega,hS3,hC3,p3,by omega⟩
theorem Z2p (a:Nat) (b0:Nat) (s:Int) (d:Array α) (w:World) (hH:St d w) (ha:1<=a) (hb:a+1 < N) (hC:Cntr B w ⟨b0,0,none⟩ s) (hs0:0<=s) (hs:s < 900):
 Calls Tryd.prog 91 #[.iface 92 rv,.int .i64 a,.pointer (some ⟨b0,0,none⟩)] w fun e w'=> ∃(x:Nat) (s':Int),e= .returned (.int .i64 x)/\(a - 1<=x/\x<=a+1)/\St d w'/\Cntr B w' ⟨b0,0,none⟩ s'/\0<=s'/\s'<=s+3:=by
 have hbig:=H.big;have hm:=Z2o H (a - 1) a (a+1) b0 s d w hH (by omega) (by omega) (by omega) hC hs0 hs;rw[show ((a - 1:Nat):Int)=(a:Int) - 1 by omega,show ((a+1:Nat):Int)=(a:Int)+1 by omega] at hm;go_enter Tryd.func91,Tryd.ntmps91
 go_wp2_with fail
 refine hm.mono ?_;rintro e w3 ⟨x3,s3,rfl,h3,hS3,hC3,p3,q3⟩;clear hm
 go_wp2_with fail
 go_ret;exact ⟨x3,s3,rfl,by omega,hS3,hC3,p3,by omega⟩
theorem Z7j (a b:Nat) (d:Array α) (w:World) (hH:St d w) (hab:a+8<=b) (hb:b<=N):
 Calls Tryd.prog 78 #[.iface 92 rv,.int .i64 a,.int .i64 b] w fun e w'=> ∃(p:Nat) (h:Int),e= .returned (.tuple #[.int .i64 p,.int .i64 h])/\a<=p/\p < b/\0<=h/\h<=2/\St d w':=by
 have hbig:=H.big;have hB:=H.base _ _ hH;have hC0:Cntr B (w.alloc (.cells #[.int .i64 0] 3)) ⟨w.heap.size,0,none⟩ 0:=⟨hB,by simp,by rw[World.cell?_alloc_at _ _ _ _ rfl]; rfl,World.frozen?_alloc_at _ _ _ _ rfl⟩;have hS0:St d (w.alloc (.cells #[.int .i64 0] 3)):=H.keep _ _ _ hH (Y2.alloc hB _);obtain ⟨I,hI⟩: ∃I:Nat,I=a+(b - a) / 4 * 1:=⟨_,rfl⟩;obtain ⟨J,hJ⟩: ∃J:Nat,J=a+(b - a) / 4 * 2:=⟨_,rfl⟩;obtain ⟨K,hK⟩: ∃K:Nat,K=a+(b - a) / 4 * 3:=⟨_,rfl⟩;have eI: ((a:Int)+((b:Int) - (a:Int)) / 4)=(I:Int):=by omega
 have eJ: ((a:Int)+((b:Int) - (a:Int)) / 4 * 2)=(J:Int):=by omega
 have eK: ((a:Int)+((b:Int) - (a:Int)) / 4 * 3)=(K:Int):=by omega
 have h8z: (8:Int)<=(b:Int) - (a:Int):=by omega
 have HI:Hid (I=a+(b - a) / 4 * 1):=hI;have HJ:Hid (J=a+(b - a) / 4 * 2):=hJ;have HK:Hid (K=a+(b - a) / 4 * 3):=hK;clear hI hJ hK hH;have cS:=hC0.at_;go_enter Tryd.func78,Tryd.ntmps78
 go_upto_region 3 with fail
 generalize hW0:w.alloc (.cells #[.int .i64 0] 3)=W0 at hC0 hS0 cS ⊢;generalize w.heap.size=b0 at hC0 cS ⊢;clear hW0 hB w cS;by_cases h50:b - a>=50
 {have h50z: (50:Int)<=(b:Int) - (a:Int):=by omega
  have g:1<=I/\K+2<=b/\I+2<=J/\J+2<=K/\a+1<=I:=by have:=HI.out; have:=HJ.out; have:=HK.out; omega
  go_upto_region 8 with fail
  (try rw[eI]); (try rw[eJ]); (try rw[eK])
  clear eI eJ eK
  go_wp2_with fail
  refine (Z2p H I b0 0 d W0 hS0 (by omega) (by omega) hC0 (by omega) (by omega)).mono ?_;rintro e w1 ⟨x1,s1,rfl,h1,hS1,hC1,p1,q1⟩
  go_wp2_with fail
  refine (Z2p H J b0 s1 d w1 hS1 (by omega) (by omega) hC1 (by omega) (by omega)).mono ?_;rintro e w2 ⟨x2,s2,rfl,h2,hS2,hC2,p2,q2⟩
  go_wp2_with fail
  refine (Z2p H K b0 s2 d w2 hS2 (by omega) (by omega) hC2 (by omega) (by omega)).mono ?_;rintro e w3 ⟨x3,s3,rfl,h3,hS3,hC3,p3,q3⟩
  go_wp2_with fail
  refine (Z2o H x1 x2 x3 b0 s3 d w3 hS3 (by omega) (by omega) (by omega) hC3 (by omega) (by omega)).mono ?_;rintro e w4 ⟨x4,s4,rfl,h4,hS4,hC4,p4,q4⟩;have c4:=hC4.at_;have hx:a<=x4/\x4 < b:=by omega
  clear hC4 hC3 hC2 hC1 hC0;by_cases z0:s4=0
  {subst z0
   go_wp2_with fail
   go_ret2
   exact ⟨x4,1,rfl,hx.1,hx.2,by omega,by omega,hS4⟩}
  {by_cases z1:s4=12
   {subst z1
    go_wp2_with fail
    go_ret2
    exact ⟨x4,2,rfl,hx.1,hx.2,by omega,by omega,hS4⟩}
   {go_wp2_with fail
    go_ret2
    exact ⟨x4,0,rfl,hx.1,hx.2,by omega,by omega,hS4⟩}}}
 {have h50z: ¬(50:Int)<=(b:Int) - (a:Int):=by omega
  have g:a<=I/\K < b/\I<=J/\J<=K:=by have:=HI.out; have:=HJ.out; have:=HK.out; omega
  go_upto_region 11 with fail
  (try rw[eI]); (try rw[eJ]); (try rw[eK])
  clear eI eJ eK
  go_wp2_with fail
  refine (Z2o H I J K b0 0 d W0 hS0 (by omega) (by omega) (by omega) hC0 (by omega) (by omega)).mono ?_;rintro e w4 ⟨x4,s4,rfl,h4,hS4,hC4,p4,q4⟩;have c4:=hC4.at_;have hx:a<=x4/\x4 < b:=by omega
  clear hC4 hC0;by_cases z0:s4=0
  {subst z0
   go_wp2_with fail
   go_ret2
   exact ⟨x4,1,rfl,hx.1,hx.2,by omega,by omega,hS4⟩}
  {have z1:s4≠12:=by omega
   go_wp2_with fail
   go_ret2
   exact ⟨x4,0,rfl,hx.1,hx.2,by omega,by omega,hS4⟩}}
theorem Z9R (a b pivot:Nat) (d:Array α) (w:World) (hH:St d w) (hap:a<=pivot) (hpb:pivot < b) (hb:b<=N):
 Calls Tryd.prog 81 #[.iface 92 rv,.int .i64 a,.int .i64 b,.int .i64 pivot] w fun e w'=>e= .returned (.int .i64 (Sort.partitionEqual lt d a b pivot).1)/\St (Sort.partitionEqual lt d a b pivot).2 w':=by
 have mL:=H.mL;have mS:=H.mS;have hbig:=H.big;go_enter Tryd.func81,Tryd.ntmps81
 go_wp2_with fail
 refine (H.swapAt hH a pivot (by omega) (by omega) rfl rfl).mono ?_;rintro e w1 ⟨rfl,hS0, -⟩;clear hH
 go_wp2_with fail
 go_loopw [9,10] (fun vi vj wr=> ∃(i j:Nat) (dk:Array α),vi= .int .i64 i/\vj= .int .i64 j/\a < i/\i<=j+1/\j < b/\St dk wr/\Hid (Sort.partEqLoop lt a i j dk=Sort.partEqLoop lt a (a+1) (b - 1) (Sort.swp d a pivot)))
  (fun vi vj _=>(intOf vj).toNat+1 - (intOf vi).toNat)
 case atStart=>exact ⟨a+1,b - 1,_,by go_num,by go_num,by omega,by omega,by omega,hS0,rfl⟩
 case round=>
  clear hS0;obtain ⟨i,j,dk,rfl,rfl,hai,hij,hjb,hS,HE⟩:=hrel
  go_upto_block 2 with fail
  go_cut [9] (fun p wx=> ∃i2:Nat,p= .int .i64 i2/\i<=i2/\i2<=j+1/\St dk wx/\Hid (i2=Sort.scanUp (fun x=> !lt dk[a]! x) dk j i))
  case first=>
   go_wp2_with fail
   go_loopw [9] (fun vi w1=> ∃i':Nat,vi= .int .i64 i'/\i<=i'/\i'<=j+1/\St dk w1/\Hid (Sort.scanUp (fun x=> !lt dk[a]! x) dk j i'=Sort.scanUp (fun x=> !lt dk[a]! x) dk j i)) (fun vi _=>j+1 - (intOf vi).toNat)
   case atStart=>exact ⟨i,rfl,Nat.le_refl _,by omega,hS,rfl⟩
   case round=>
    clear hS;obtain ⟨i',rfl,hii,hij',hS,hsc⟩:=hrel;by_cases hle:i'<=j
    {cases hlv:lt dk[a]! dk[i']! with
     | false=>
      go_wp2_with fail
      refine (H.lessAt hS a i' hlv (by omega) (by omega) rfl rfl).mono ?_;rintro e w' ⟨rfl,hS1, -⟩
      go_wp2_with fail
      go_roundw
      case rel=>exact ⟨i'+1,by go_num,by omega,by omega,hS1,(show Hid _ from (scanUp_go (fun x=> !lt dk[a]! x) dk j i' hle (by simp[hlv])).symm.trans hsc.out)⟩
      case measure=>simp[intOf]; omega
     | true=>
      go_wp2_with fail
      refine (H.lessAt hS a i' hlv (by omega) (by omega) rfl rfl).mono ?_;rintro e w' ⟨rfl,hS1, -⟩
      go_wp2_with fail
      go_meet
      exact ⟨i',rfl,hii,hij',hS1,(show Hid _ from (scanUp_end (fun x=> !lt dk[a]! x) dk j i' (Or.inr (by simp[hlv]))).symm.trans hsc.out)⟩}
    {go_wp2_with fail
     go_meet
     exact ⟨i',rfl,hii,hij',hS,(show Hid _ from (scanUp_end (fun x=> !lt dk[a]! x) dk j i' (Or.inl hle)).symm.trans hsc.out)⟩}
  case rest=>
   clear hS;obtain ⟨i2,rfl,hi2,hi2j,hS,HI⟩:=hcut
   go_upto_block 4 with fail
   go_cut [10] (fun p wx=> ∃j2:Nat,p= .int .i64 j2/\j2<=j/\i2<=j2+1/\St dk wx/\Hid (j2=Sort.scanDown (fun x=>lt dk[a]! x) dk i2 j))
   case first=>
    go_wp2_with fail
    go_loopw [10] (fun vj w1=> ∃j':Nat,vj= .int .i64 j'/\j'<=j/\i2<=j'+1/\St dk w1/\Hid (Sort.scanDown (fun x=>lt dk[a]! x) dk i2 j'=Sort.scanDown (fun x=>lt dk[a]! x) dk i2 j)) (fun vj _=>(intOf vj).toNat)
    case atStart=>exact ⟨j,rfl,Nat.le_refl _,by omega,hS,rfl⟩
    case round=>
     clear hS;obtain ⟨j',rfl,hjj,hij',hS,hsc⟩:=hrel;by_cases hle:i2<=j'
     {cases hlv:lt dk[a]! dk[j']! with
      | true=>
       go_wp2_with fail
       refine (H.lessAt hS a j' hlv (by omega) (by omega) rfl rfl).mono ?_;rintro e w' ⟨rfl,hS1, -⟩
       go_wp2_with fail
       go_roundw
       case rel=>exact ⟨j' - 1,by go_num,by omega,by omega,hS1,(show Hid _ from (scanDown_go (fun x=>lt dk[a]! x) dk i2 j' hle (by omega) (by simp[hlv])).symm.trans hsc.out)⟩
       case measure=>simp[intOf]; omega
      | false=>
       go_wp2_with fail
       refine (H.lessAt hS a j' hlv (by omega) (by omega) rfl rfl).mono ?_;rintro e w' ⟨rfl,hS1, -⟩
       go_wp2_with fail
       go_meet
       exact ⟨j',rfl,hjj,hij',hS1,(show Hid _ from (scanDown_end (fun x=>lt dk[a]! x) dk i2 j' (Or.inr (by simp[hlv]))).symm.trans hsc.out)⟩}
     {go_wp2_with fail
      go_meet
      exact ⟨j',rfl,hjj,hij',hS,(show Hid _ from (scanDown_end (fun x=>lt dk[a]! x) dk i2 j' (Or.inl hle)).symm.trans hsc.out)⟩}
   case rest=>
    clear hS;obtain ⟨j2,rfl,hj2,hj2i,hS,HJ⟩:=hcut;by_cases hgt:j2 < i2
    {go_wp2_with fail
     go_ret;have e:=partEq_break lt a i j dk HI.out HJ.out hgt;have e2:=HE.out.symm.trans e;unfold Sort.partitionEqual;rw[e2];exact ⟨rfl,hS⟩}
    {have hlt3:=scans_lt lt a i j dk (by omega) HI.out HJ.out (by omega)
     go_wp2_with fail
     refine (H.swapAt hS i2 j2 (by omega) (by omega) rfl rfl).mono ?_;rintro e w3 ⟨rfl,hS3, -⟩
     go_wp2_with fail
     go_roundw
     case rel=>exact ⟨i2+1,j2 - 1,_,by go_num,by go_num,by omega,by omega,by omega,hS3,(show Hid _ from by rw[<-HE.out]; exact (partEq_go lt a i j dk HI.out HJ.out (by omega)).symm)⟩
     case measure=>simp[intOf]; omega}
theorem Z8w (a b pivot:Nat) (d:Array α) (w:World) (hH:St d w) (hap:a<=pivot) (hpb:pivot < b) (hb:b<=N):
 Calls Tryd.prog 82 #[.iface 92 rv,.int .i64 a,.int .i64 b,.int .i64 pivot] w fun e w'=>
  e= .returned (.tuple #[.int .i64 (Sort.partition lt d a b pivot).1,.bool (Sort.partition lt d a b pivot).2.1])/\St (Sort.partition lt d a b pivot).2.2 w':=by
 have mL:=H.mL;have mS:=H.mS;have hbig:=H.big;obtain ⟨i,hi⟩: ∃i:Nat,i=a+1:=⟨_,rfl⟩;obtain ⟨j,hj⟩: ∃j:Nat,j=b - 1:=⟨_,rfl⟩;obtain ⟨dk,hdk⟩: ∃dk:Array α,dk=Sort.swp d a pivot:=⟨_,rfl⟩;have eI: (a:Int)+1=(i:Int):=by omega
 have eJ: (b:Int) - 1=(j:Int):=by omega
 have hai:a < i:=by omega
 have hij:i<=j+1:=by omega
 have hjb:j < b:=by omega
 have HI0:Hid (i=a+1):=hi;have HJ0:Hid (j=b - 1):=hj;have HD0:Hid (dk=Sort.swp d a pivot):=hdk;clear hi hj;go_enter Tryd.func82,Tryd.ntmps82
 go_wp2_with fail
 refine (H.swapAt hH a pivot (by omega) (by omega) rfl rfl).mono ?_;rintro e w1 ⟨rfl,hS, -⟩;rw[<-hdk] at hS;clear hH hdk
 go_upto_block 0 with fail
 go_cut [10] (fun p wx=> ∃i2:Nat,p= .int .i64 i2/\i<=i2/\i2<=j+1/\St dk wx/\Hid (i2=Sort.scanUp (fun x=>lt x dk[a]!) dk j i))
 case first=>
  go_wp2_with fail
  go_loopw [10] (fun vi w1=> ∃i':Nat,vi= .int .i64 i'/\i<=i'/\i'<=j+1/\St dk w1/\Hid (Sort.scanUp (fun x=>lt x dk[a]!) dk j i'=Sort.scanUp (fun x=>lt x dk[a]!) dk j i)) (fun vi _=>j+1 - (intOf vi).toNat)
  case atStart=>exact ⟨i,rfl,Nat.le_refl _,by omega,hS,rfl⟩
  case round=>
   clear hS;obtain ⟨i',rfl,hii,hij',hS,hsc⟩:=hrel;by_cases hle:i'<=j
   {cases hlv:lt dk[i']! dk[a]! with
    | true=>
     go_wp2_with fail
     refine (H.lessAt hS i' a hlv (by omega) (by omega) rfl rfl).mono ?_;rintro e w' ⟨rfl,hS1, -⟩
     go_wp2_with fail
     go_roundw
     case rel=>exact ⟨i'+1,by go_num,by omega,by omega,hS1,(show Hid _ from (scanUp_go (fun x=>lt x dk[a]!) dk j i' hle (by simp[hlv])).symm.trans hsc.out)⟩
     case measure=>simp[intOf]; omega
    | false=>
     go_wp2_with fail
     refine (H.lessAt hS i' a hlv (by omega) (by omega) rfl rfl).mono ?_;rintro e w' ⟨rfl,hS1, -⟩
     go_wp2_with fail
     go_meet
     exact ⟨i',rfl,hii,hij',hS1,(show Hid _ from (scanUp_end (fun x=>lt x dk[a]!) dk j i' (Or.inr (by simp[hlv]))).symm.trans hsc.out)⟩}
   {go_wp2_with fail
    go_meet
    exact ⟨i',rfl,hii,hij',hS,(show Hid _ from (scanUp_end (fun x=>lt x dk[a]!) dk j i' (Or.inl hle)).symm.trans hsc.out)⟩}
 case rest=>
  clear hS;obtain ⟨i2,rfl,hi2,hi2j,hS,HI⟩:=hcut
  go_upto_block 2 with fail
  go_cut [11] (fun p wx=> ∃j2:Nat,p= .int .i64 j2/\j2<=j/\i2<=j2+1/\St dk wx/\Hid (j2=Sort.scanDown (fun x=> !lt x dk[a]!) dk i2 j))
  case first=>
   go_wp2_with fail
   go_loopw [11] (fun vj w1=> ∃j':Nat,vj= .int .i64 j'/\j'<=j/\i2<=j'+1/\St dk w1/\Hid (Sort.scanDown (fun x=> !lt x dk[a]!) dk i2 j'=Sort.scanDown (fun x=> !lt x dk[a]!) dk i2 j)) (fun vj _=>(intOf vj).toNat)
   case atStart=>exact ⟨j,rfl,Nat.le_refl _,by omega,hS,rfl⟩
   case round=>
    clear hS;obtain ⟨j',rfl,hjj,hij',hS,hsc⟩:=hrel;by_cases hle:i2<=j'
    {cases hlv:lt dk[j']! dk[a]! with
     | false=>
      go_wp2_with fail
      refine (H.lessAt hS j' a hlv (by omega) (by omega) rfl rfl).mono ?_;rintro e w' ⟨rfl,hS1, -⟩
      go_wp2_with fail
      go_roundw
      case rel=>exact ⟨j' - 1,by go_num,by omega,by omega,hS1,(show Hid _ from (scanDown_go (fun x=> !lt x dk[a]!) dk i2 j' hle (by omega) (by simp[hlv])).symm.trans hsc.out)⟩
      case measure=>simp[intOf]; omega
     | true=>
      go_wp2_with fail
      refine (H.lessAt hS j' a hlv (by omega) (by omega) rfl rfl).mono ?_;rintro e w' ⟨rfl,hS1, -⟩
      go_wp2_with fail
      go_meet
      exact ⟨j',rfl,hjj,hij',hS1,(show Hid _ from (scanDown_end (fun x=> !lt x dk[a]!) dk i2 j' (Or.inr (by simp[hlv]))).symm.trans hsc.out)⟩}
    {go_wp2_with fail
     go_meet
     exact ⟨j',rfl,hjj,hij',hS,(show Hid _ from (scanDown_end (fun x=> !lt x dk[a]!) dk i2 j' (Or.inl hle)).symm.trans hsc.out)⟩}
  case rest=>
   clear hS;obtain ⟨j2,rfl,hj2,hj2i,hS,HJ⟩:=hcut;clear eI eJ;by_cases hgt:j2 < i2
   {go_wp2_with fail
    refine (H.swapAt hS j2 a (by omega) (by omega) rfl rfl).mono ?_;rintro e w3 ⟨rfl,hS3, -⟩
    go_wp2_with fail
    go_ret2
    have e:=part_first_break lt d a b pivot HI0.out HJ0.out HD0.out HI.out HJ.out hgt;rw[e];exact ⟨rfl,hS3⟩}
   {have hlt3:=part_scans_lt lt a i j dk (by omega) HI.out HJ.out (by omega)
    go_wp2_with fail
    refine (H.swapAt hS i2 j2 (by omega) (by omega) rfl rfl).mono ?_;rintro e w3 ⟨rfl,hS3, -⟩
    go_wp2_with fail
    (try rw[decide_eq_false (show ¬j2 < i2 by omega)])
    obtain ⟨I0,hI0⟩: ∃I0:Nat,I0=i2+1:=⟨_,rfl⟩;obtain ⟨J0,hJ0⟩: ∃J0:Nat,J0=j2 - 1:=⟨_,rfl⟩;obtain ⟨D0,hD0⟩: ∃D0:Array α,D0=Sort.swp dk i2 j2:=⟨_,rfl⟩;have PF:Hid (Sort.partition lt d a b pivot=((Sort.partLoop lt a I0 J0 D0).1,false,Sort.swp (Sort.partLoop lt a I0 J0 D0).2 (Sort.partLoop lt a I0 J0 D0).1 a)):=by
     rw[hI0,hJ0,hD0]; exact part_first_go lt d a b pivot HI0.out HJ0.out HD0.out HI.out HJ.out (by omega)
    rw[<-hD0] at hS3
    go_loopw [10,11] (fun vi vj wr=> ∃(i j:Nat) (dk:Array α),vi= .int .i64 i/\vj= .int .i64 j/\a < i/\i<=j+1/\j < b/\St dk wr/\Hid (Sort.partLoop lt a i j dk=Sort.partLoop lt a I0 J0 D0))
     (fun vi vj _=>(intOf vj).toNat+1 - (intOf vi).toNat)
    case atStart=>exact ⟨I0,J0,D0,by rw[hI0]; go_num,by rw[hJ0]; go_num,by omega,by omega,by omega,hS3,rfl⟩
    case round=>
     clear hI0 hJ0 hD0 HJ HI hS hS3 hlt3 hgt HI0 HJ0 HD0 hj2 hj2i hi2 hi2j hai hij hjb;obtain ⟨i,j,dk,rfl,rfl,hai,hij,hjb,hS,HE⟩:=hrel
     go_upto_block 6 with fail
     go_cut [10] (fun p wx=> ∃i2:Nat,p= .int .i64 i2/\i<=i2/\i2<=j+1/\St dk wx/\Hid (i2=Sort.scanUp (fun x=>lt x dk[a]!) dk j i))
     case first=>
      go_wp2_with fail
      go_loopw [10] (fun vi w1=> ∃i':Nat,vi= .int .i64 i'/\i<=i'/\i'<=j+1/\St dk w1/\Hid (Sort.scanUp (fun x=>lt x dk[a]!) dk j i'=Sort.scanUp (fun x=>lt x dk[a]!) dk j i)) (fun vi _=>j+1 - (intOf vi).toNat)
      case atStart=>exact ⟨i,rfl,Nat.le_refl _,by omega,hS,rfl⟩
      case round=>
       clear hS;obtain ⟨i',rfl,hii,hij',hS,hsc⟩:=hrel;by_cases hle:i'<=j
       {cases hlv:lt dk[i']! dk[a]! with
        | true=>
         go_wp2_with fail
         refine (H.lessAt hS i' a hlv (by omega) (by omega) rfl rfl).mono ?_;rintro e w' ⟨rfl,hS1, -⟩
         go_wp2_with fail
         go_roundw
         case rel=>exact ⟨i'+1,by go_num,by omega,by omega,hS1,(show Hid _ from (scanUp_go (fun x=>lt x dk[a]!) dk j i' hle (by simp[hlv])).symm.trans hsc.out)⟩
         case measure=>simp[intOf]; omega
        | false=>
         go_wp2_with fail
         refine (H.lessAt hS i' a hlv (by omega) (by omega) rfl rfl).mono ?_;rintro e w' ⟨rfl,hS1, -⟩
         go_wp2_with fail
         go_meet
         exact ⟨i',rfl,hii,hij',hS1,(show Hid _ from (scanUp_end (fun x=>lt x dk[a]!) dk j i' (Or.inr (by simp[hlv]))).symm.trans hsc.out)⟩}
       {go_wp2_with fail
        go_meet
        exact ⟨i',rfl,hii,hij',hS,(show Hid _ from (scanUp_end (fun x=>lt x dk[a]!) dk j i' (Or.inl hle)).symm.trans hsc.out)⟩}
     case rest=>
      clear hS;obtain ⟨i2,rfl,hi2,hi2j,hS,HI⟩:=hcut
      go_upto_block 8 with fail
      go_cut [11] (fun p wx=> ∃j2:Nat,p= .int .i64 j2/\j2<=j/\i2<=j2+1/\St dk wx/\Hid (j2=Sort.scanDown (fun x=> !lt x dk[a]!) dk i2 j))
      case first=>
       go_wp2_with fail
       go_loopw [11] (fun vj w1=> ∃j':Nat,vj= .int .i64 j'/\j'<=j/\i2<=j'+1/\St dk w1/\Hid (Sort.scanDown (fun x=> !lt x dk[a]!) dk i2 j'=Sort.scanDown (fun x=> !lt x dk[a]!) dk i2 j)) (fun vj _=>(intOf vj).toNat)
       case atStart=>exact ⟨j,rfl,Nat.le_refl _,by omega,hS,rfl⟩
       case round=>
        clear hS;obtain ⟨j',rfl,hjj,hij',hS,hsc⟩:=hrel;by_cases hle:i2<=j'
        {cases hlv:lt dk[j']! dk[a]! with
         | false=>
          go_wp2_with fail
          refine (H.lessAt hS j' a hlv (by omega) (by omega) rfl rfl).mono ?_;rintro e w' ⟨rfl,hS1, -⟩
          go_wp2_with fail
          go_roundw
          case rel=>exact ⟨j' - 1,by go_num,by omega,by omega,hS1,(show Hid _ from (scanDown_go (fun x=> !lt x dk[a]!) dk i2 j' hle (by omega) (by simp[hlv])).symm.trans hsc.out)⟩
          case measure=>simp[intOf]; omega
         | true=>
          go_wp2_with fail
          refine (H.lessAt hS j' a hlv (by omega) (by omega) rfl rfl).mono ?_;rintro e w' ⟨rfl,hS1, -⟩
          go_wp2_with fail
          go_meet
          exact ⟨j',rfl,hjj,hij',hS1,(show Hid _ from (scanDown_end (fun x=> !lt x dk[a]!) dk i2 j' (Or.inr (by simp[hlv]))).symm.trans hsc.out)⟩}
        {go_wp2_with fail
         go_meet
         exact ⟨j',rfl,hjj,hij',hS,(show Hid _ from (scanDown_end (fun x=> !lt x dk[a]!) dk i2 j' (Or.inl hle)).symm.trans hsc.out)⟩}
      case rest=>
       clear hS;obtain ⟨j2,rfl,hj2,hj2i,hS,HJ⟩:=hcut;by_cases hgt:j2 < i2
       {have HE2:Hid (Sort.partLoop lt a I0 J0 D0=(j2,dk)):=HE.out.symm.trans (part_break lt a i j dk HI.out HJ.out hgt)
        go_wp2_with fail
        refine (H.swapAt hS j2 a (by omega) (by omega) rfl rfl).mono ?_;rintro e w3 ⟨rfl,hS3, -⟩
        go_wp2_with fail
        go_ret2
        rw[PF.out,HE2.out];exact ⟨rfl,hS3⟩}
       {have hlt3:=part_scans_lt lt a i j dk (by omega) HI.out HJ.out (by omega)
        go_wp2_with fail
        refine (H.swapAt hS i2 j2 (by omega) (by omega) rfl rfl).mono ?_;rintro e w3 ⟨rfl,hS3, -⟩
        go_wp2_with fail
        go_roundw
        case rel=>exact ⟨i2+1,j2 - 1,_,by go_num,by go_num,by omega,by omega,by omega,hS3,(show Hid _ from by rw[<-HE.out]; exact (part_go lt a i j dk HI.out HJ.out (by omega)).symm)⟩
        case measure=>simp[intOf]; omega}}
end
end
end Go.Proofs.YtchklpedlbkgaaaDoor
